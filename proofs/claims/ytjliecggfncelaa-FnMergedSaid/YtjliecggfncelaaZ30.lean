/- The walk of FnMerged. -/
import Derived.Test.YtjliecggfncelaaZ29
import Derived.Test.YtjliecggfncelaaZ28
import Derived.Test.YtjliecggfncelaaZ26
import Derived.Test.YtjliecggfncelaaZ21
import Derived.Test.YtjliecggfncelaaZ23
import Derived.Test.YtjliecggfncelaaZ24
import Derived.Test.YtjliecggfncelaaZ16
import Derived.Deep.RegionHeldLaw
namespace Go.Proofs.Ytjliecggfncelaa
open Go.RowKit
set_option maxRecDepth 8000
set_option linter.unusedSimpArgs false
set_option linter.unusedVariables false

/-- A list of items of the call's own; the vectors are elder ones. -/
def IOwn (w0 w : World) (g cap m : Nat) (M : IL) : Prop := ∃ sv, w.ownsRow w0.heap.size 36 3 (.slice (some ⟨g, 0, none⟩) m cap) m (icl M sv m) ∧ ∀ i, i < m → ∃ a n c, sv i = .slice a n c ∧ Row w0 a n (M i).vec

theorem IOwn.new (w0 w : World) (hb : w0.heap.size ≤ w.heap.size) (M : IL) : IOwn w0 (w.alloc (.cells #[] 36)) w.heap.size 0 0 M :=
  ⟨fun _ => .slice none 0 0, ⟨rfl, .inr ⟨w.heap.size, 0, #[], rfl, hb, Go.Deep.blk_alloc_new _ _, Nat.le_refl _, Nat.zero_le _, rfl, rfl⟩⟩, fun i hi => absurd hi (by omega)⟩

theorem IOwn.alloc {w0 w : World} {g cap m : Nat} {M : IL} (h : IOwn w0 w g cap m M) (o : Obj) : IOwn w0 (w.alloc o) g cap m M := by
  obtain ⟨sv, h1, h2⟩ := h
  exact ⟨sv, h1.alloc o, h2⟩

theorem IOwn.irow {w0 w : World} {g cap m : Nat} {M : IL} (h : IOwn w0 w g cap m M) (hb : Below w0.heap.size w0 w) : IRow w (some ⟨g, 0, none⟩) m M := by
  obtain ⟨sv, h1, h2⟩ := h
  refine ⟨.inr ⟨g, 0, rfl, (h1.lt g rfl).2, fun i hi => ?_⟩⟩
  rw [Nat.zero_add]
  obtain ⟨a, n, c, e, hr⟩ := h2 i hi
  have at_ : ∀ j, j < m * 3 → w.cell? ⟨g, j, none⟩ = some (icell M sv j) := fun j hj => (h1.cellAt j hj).trans (icl_at M sv hj)
  refine ⟨?_, ?_, a, n, c, ?_, hr.below hb⟩
  · rw [at_ _ (by omega), icell_0]
  · rw [at_ _ (by omega), icell_1]
  · rw [at_ _ (by omega), icell_2, e]

theorem IOwn.step {w0 w5 : World} {g5 c5 m : Nat} {M : IL} {sv : Nat → Value} {x : It} {a : Option Addr} {n c : Nat} (hv : ∀ i, i < m → ∃ a n c, sv i = .slice a n c ∧ Row w0 a n (M i).vec) (hr : Row w0 a n x.vec)
    (hown : w5.ownsRow w0.heap.size 36 3 (.slice (some ⟨g5, 0, none⟩) (m + 1) c5) (m + 1) (icl M sv m ++ [.int .i64 x.id, .int .i64 x.tags, .slice a n c])) : IOwn w0 w5 g5 c5 (m + 1) (M.put m x) := by
  refine ⟨putF sv m (.slice a n c), by rw [icl_put]; exact hown, fun i hi => ?_⟩
  by_cases e : i = m
  · subst e
    exact ⟨a, n, c, putF_at _ _ _, by rw [IL.put_at]; exact hr⟩
  · obtain ⟨a', n', c', e', hr'⟩ := hv i (by omega)
    exact ⟨a', n', c', (putF_off sv _ e).trans e', by rw [IL.put_off _ _ e]; exact hr'⟩

theorem IOwn.kept {w0 w w5 : World} {g cap m : Nat} {M : IL} {g1 : Nat} (h : IOwn w0 w g cap m M) (hg : w.grownBy w5 (some g1)) (hne : g ≠ g1) : IOwn w0 w5 g cap m M := by
  obtain ⟨sv, h1, h2⟩ := h
  exact ⟨sv, h1.kept hg (.inr (by simpa [Value.ownBlock] using hne)), h2⟩

theorem mrgM_le (k : Int) (n1 n2 : Nat) (f1 g1 f2 g2 : Nat → Int) : mrgM k n1 n2 f1 g1 f2 g2 ≤ n1 + n2 := by
  unfold mrgM
  split <;> omega

theorem nearM_leM (dim : Int) (n : Nat) (L : IL) (qs : List Int) (k mask : Int) : nearM dim n L qs k mask ≤ n := by
  unfold nearM
  split
  · exact Nat.le_trans (Nat.min_le_right _ _) (cntP_le _ _ _)
  · omega

theorem prow_congrM {w : World} {a : Option Addr} {n : Nat} {f g f' g' : Nat → Int} (h : PRow w a n f g) (hf : ∀ i, i < n → f i = f' i) (hg : ∀ i, i < n → g i = g' i) : PRow w a n f' g' := by
  rcases h.lies with h0 | ⟨b, off, e, lt, hc⟩
  · exact ⟨.inl h0⟩
  · exact ⟨.inr ⟨b, off, e, lt, fun i hi => by rw [← hf i hi, ← hg i hi]; exact hc i hi⟩⟩
/-- What the loop keeps. -/
structure LoopM (w0 wr : World) (L : IL) (k gA cA na : Nat) (A : IL) (gB cB nb : Nat) (B : IL) : Prop where
  a : IOwn w0 wr gA cA na A
  b : IOwn w0 wr gB cB nb B
  ne : gA ≠ gB
  sa : Sub L k na A
  sb : Sub L k nb B
  all : Parts2 L k na A nb B
  bel : Below w0.heap.size w0 wr

set_option maxHeartbeats 8000000 in
set_option maxRecDepth 4000 in
theorem merged_walk (a : Option Addr) (n cap : Nat) (zs : List Int) (w : World) (h : IsRow .u8 w a n cap zs) :
    Calls Try.prog 3 #[.slice a n cap] w fun e w' => e = .returned (.bool true) ∧ Below w.heap.size w w' := by
  obtain ⟨i0, hi, hz0, hz1, hz2⟩ := itemInfo
  have HI := hide hi
  clear hi
  have BG := hide (big_any a n cap w)
  by_cases hn : n ≤ 1048576
  · rw [decide_eq_false (show ¬ 1048576 < n by omega)] at BG
    have HC := hide (h.code hn)
    have DR := hide (drawNearest_any a n cap w HC.out)
    have DM := hide (fun w1 (hb : Below w.heap.size w w1) => drawMerged_any a n cap w1 (HC.out.below hb))
    clear h
    go_enter Try.func3, Try.ntmps3
    go_wp2_with fail
    refine BG.out.mono ?_
    rintro e w' ⟨rfl, hw⟩
    obtain rfl := hw.symm
    clear BG hw
    go_wp2_with fail
    refine DR.out.mono ?_
    rintro e w1 ⟨dim, g, m, cp, L, qa, qc, qs, k, mask, rfl, hni, rq, hql⟩
    have hm := hni.few
    have hv : Hid (∀ i, i < m → (L i).vec.length ≤ 1048576) := hide fun i hi => Nat.le_trans (hni.len i hi) (by omega)
    have hql2 : qs.length ≤ 1048576 := by omega
    have B1 := hide hni.low
    have I1 := hide hni.hi.irow
    have R1 := hide rq
    clear DR hni rq
    go_wp2_with fail
    refine (DM.out _ B1.out).mono ?_
    rintro e w2 ⟨ax, nx, cx, fx, gx, ay, ny, cy, fy, gy, kk, rfl, hx, hy, px, py, b2⟩
    have X := hide px
    have Y := hide py
    have B2 := hide (bstep B1.out b2)
    have I2 := hide (I1.out.below b2)
    have R2 := hide (R1.out.below b2)
    clear DM px py b2 B1 I1 R1
    have MI := hide (fun w' (hb : Below w2.heap.size w2 w') => iMerged_any ax ay nx ny cx cy kk fx gx fy gy w' (X.out.below hb) (Y.out.below hb) (by omega) (by omega))
    have MM := hide (fun w' (hb : Below w2.heap.size w2 w') => sMerged_any ax ay nx ny cx cy kk fx gx fy gy w' (X.out.below hb) (Y.out.below hb) (by omega) (by omega))
    have SO := hide (fun w' (hb : Below w2.heap.size w2 w') => sItemsOk_any dim (some ⟨g, 0, none⟩) m cp L w' (I2.out.below hb) (by omega) hv.out)
    have hml := mrgM_le kk nx ny fx gx fy gy
    obtain ⟨mm, hmm⟩ : ∃ mm, mrgM kk nx ny fx gx fy gy = mm := ⟨_, rfl⟩
    obtain ⟨MA, hMA⟩ : ∃ MA, isortL (nx + ny) (mrgA nx fx gx fy gy) = MA := ⟨_, rfl⟩
    rw [hmm] at MI MM hml
    rw [hMA] at MI MM
    unfold OutM at MI MM
    have EQ := hide (fun a1 k1 a2 k2 w1 (h : PRow w1 a1 mm (fun i => (MA i).1) (fun i => (MA i).2)) (h' : PRow w1 a2 mm (fun i => (MA i).1) (fun i => (MA i).2)) => sameNears_self a1 a2 mm k1 k2 MA w1 h h' (by omega))
    clear hmm hMA X Y
    go_wp2_with fail
    refine (MI.out _ (by repeat' first | with_reducible exact Below.refl _ _ | with_reducible assumption | with_reducible refine below_drewN ?_ _ | with_reducible refine balloc ?_ _ | with_reducible refine Below.drew ?_ | with_reducible refine Below.setCell ?_ (by first | (simp; done) | (simp; omega) | omega) _ | with_reducible refine bstep ?_ (by assumption))).mono ?_
    rintro e w3 ⟨a3, c3, rfl, o3, b3⟩
    have O3 := hide o3.prow
    clear o3
    go_wp2_with fail
    refine (MM.out _ b3).mono ?_
    rintro e w4 ⟨a4, c4, rfl, o4, b4⟩
    have O4 := hide (O3.out.below b4)
    have P4 := hide o4.prow
    have k4 := bstep b3 b4
    clear o4 O3 b3 b4
    go_wp2_with fail
    refine (EQ.out _ _ _ _ _ O4.out P4.out).mono ?_
    rintro e w5 ⟨rfl, b5⟩
    have k5 := bstep k4 b5
    clear O4 P4 k4 b5
    go_wp2_with fail
    refine (SO.out _ k5).mono ?_
    rintro e w6 ⟨rfl, b6⟩
    have k6 := bstep k5 b6
    clear k5 b6 SO
    have hD : itemsB dim m L = false ∨ (itemsB dim m L = true ∧ k < 1) ∨ (itemsB dim m L = true ∧ ¬ k < 1 ∧ 20 < k) ∨ (itemsB dim m L = true ∧ ¬ k < 1 ∧ ¬ 20 < k) := by
      cases itemsB dim m L
      · exact .inl rfl
      · by_cases h1 : k < 1
        · exact .inr (.inl ⟨rfl, h1⟩)
        · by_cases h2 : 20 < k
          · exact .inr (.inr (.inl ⟨rfl, h1, h2⟩))
          · exact .inr (.inr (.inr ⟨rfl, h1, h2⟩))
    rcases hD with hI | ⟨hI, h1⟩ | ⟨hI, h1, h2⟩ | ⟨hI, h1, h2⟩
    · rw [hI]
      clear hI
      go_wp2_with fail
      refine (MI.out _ k6).mono ?_
      rintro e w7 ⟨a7, c7, rfl, o7, b7⟩
      have O7 := hide o7.prow
      have k7 := bstep k6 b7
      clear o7 k6 b7
      go_wp2_with fail
      refine (MM.out _ k7).mono ?_
      rintro e w8 ⟨a8, c8, rfl, o8, b8⟩
      have O8 := hide (O7.out.below b8)
      have P8 := hide o8.prow
      have k8 := bstep k7 b8
      clear o8 O7 k7 b8
      go_wp2_with fail
      refine (EQ.out _ _ _ _ _ O8.out P8.out).mono ?_
      rintro e w9 ⟨rfl, b9⟩
      have k9 := bstep B2.out (bstep k8 b9)
      go_wp2_with fail
      go_ret
      exact ⟨rfl, k9⟩
    · rw [hI]
      clear hI
      go_wp2_with fail
      refine (MI.out _ k6).mono ?_
      rintro e w7 ⟨a7, c7, rfl, o7, b7⟩
      have O7 := hide o7.prow
      have k7 := bstep k6 b7
      clear o7 k6 b7
      go_wp2_with fail
      refine (MM.out _ k7).mono ?_
      rintro e w8 ⟨a8, c8, rfl, o8, b8⟩
      have O8 := hide (O7.out.below b8)
      have P8 := hide o8.prow
      have k8 := bstep k7 b8
      clear o8 O7 k7 b8
      go_wp2_with fail
      refine (EQ.out _ _ _ _ _ O8.out P8.out).mono ?_
      rintro e w9 ⟨rfl, b9⟩
      have k9 := bstep B2.out (bstep k8 b9)
      go_wp2_with fail
      go_ret
      exact ⟨rfl, k9⟩
    · rw [hI]
      clear hI
      go_wp2_with fail
      refine (MI.out _ k6).mono ?_
      rintro e w7 ⟨a7, c7, rfl, o7, b7⟩
      have O7 := hide o7.prow
      have k7 := bstep k6 b7
      clear o7 k6 b7
      go_wp2_with fail
      refine (MM.out _ k7).mono ?_
      rintro e w8 ⟨a8, c8, rfl, o8, b8⟩
      have O8 := hide (O7.out.below b8)
      have P8 := hide o8.prow
      have k8 := bstep k7 b8
      clear o8 O7 k7 b8
      go_wp2_with fail
      refine (EQ.out _ _ _ _ _ O8.out P8.out).mono ?_
      rintro e w9 ⟨rfl, b9⟩
      have k9 := bstep B2.out (bstep k8 b9)
      go_wp2_with fail
      go_ret
      exact ⟨rfl, k9⟩
    · obtain ⟨K, rfl⟩ : ∃ K : Nat, k = (K : Int) := ⟨k.toNat, by omega⟩
      have HII := hide hI
      have HC6 := hide (HC.out.below (bstep B2.out k6))
      have I6 := hide (I2.out.below k6)
      have R6 := hide (R2.out.below k6)
      have B6 := hide (bstep B2.out k6)
      have BY := hide (fun w' (i : Nat) (h : Below w6.heap.size w6 w') (hi : i ≤ 1048576) => byteOf_any a n cap i w' (HC6.out.below h) hi)
      have AT : Hid (∀ i, i < m → g < w6.heap.size ∧ IAt w6 g (i * 3) (L i)) := hide fun i hi => by
        rcases I6.out.lies with h0 | ⟨b, off, e, lt, hc⟩
        · omega
        · cases e
          have := hc i hi
          rw [Nat.zero_add] at this
          exact ⟨lt, this⟩
      rw [hI]
      clear hI MI MM EQ HC I2 R2 B2 HC6 k6 hml
      go_wp2_with fail
      go_loopw [11, 12, 13] (fun sA sB i wr => ∃ (k gA cA na : Nat) (A : IL) (gB cB nb : Nat) (B : IL), k ≤ m ∧ i = .int .i64 k ∧ sA = .slice (some ⟨gA, 0, none⟩) na cA ∧ sB = .slice (some ⟨gB, 0, none⟩) nb cB ∧ LoopM w6 wr L k gA cA na A gB cB nb B) (fun _ _ i _ => m - (intOf i).toNat)
      case atStart =>
        refine ⟨0, w6.heap.size, 0, 0, L, w6.heap.size + 1, 0, 0, L, Nat.zero_le _, rfl, rfl, rfl, (IOwn.new w6 w6 (Nat.le_refl _) L).alloc _, ?_, by omega, Sub.zero _ _, Sub.zero _ _, Parts2.zero _ _ _, (by repeat' first | with_reducible exact Below.refl _ _ | with_reducible assumption | with_reducible refine below_drewN ?_ _ | with_reducible refine balloc ?_ _ | with_reducible refine Below.drew ?_ | with_reducible refine Below.setCell ?_ (by first | (simp; done) | (simp; omega) | omega) _ | with_reducible refine bstep ?_ (by assumption))⟩
        have := IOwn.new w6 (w6.alloc (.cells #[] 36)) (by simp) L
        simpa using this
      case round =>
        obtain ⟨k, gA, cA, na, A, gB, cB, nb, B, hk, rfl, rfl, rfl, hL⟩ := hrel
        have HL := hide hL
        clear hL
        have hsz := HL.out.bel.size
        by_cases hlt : k < m
        · have hlt' : (k : Int) < (m : Int) := by omega
          obtain ⟨lg, hat⟩ := AT.out k hlt
          obtain ⟨d0, d1, va, vn, vc, d2, vr⟩ := hat
          have c0 := (HL.out.bel.cell (p := ⟨g, k * 3, none⟩) lg).trans d0
          have c1 := (HL.out.bel.cell (p := ⟨g, k * 3 + 1, none⟩) lg).trans d1
          have c2 := (HL.out.bel.cell (p := ⟨g, k * 3 + 2, none⟩) lg).trans d2
          clear d0 d1 d2
          go_wp2_with fail
          refine (BY.out _ k HL.out.bel (by omega)).mono ?_
          rintro e w7 ⟨⟨z, ⟨z0, z1⟩, rfl⟩, rfl⟩
          cases hp : (z % 2 == 0)
          · have lM := HL.out.sb.le
            obtain ⟨sv, ho, hvs⟩ := HL.out.b
            have hlo : gA < w7.heap.size := by
              obtain ⟨sv', ho', _⟩ := HL.out.a
              exact (ho'.lt gA rfl).2
            have hown := hide (ho.alloc (.cells #[.int .i64 (L k).id, .int .i64 (L k).tags, .slice va vn vc] 36))
            clear ho
            go_wp2_with (at_builtin; refine wpList_append_lies _ rfl _ _ 24 rfl w6.heap.size 36 i0 _ 3 40 Try.underlying24 HI.out hz0 hz1 hz2 rfl (by decide) _ _ _ rfl hown.out ⟨_, 0, none⟩ 1 1 [.int .i64 (L k).id, .int .i64 (L k).tags, .slice va vn vc] rfl rfl (three_new _ _ _ _ _) (three_one _ _ _ _ _) (by omega) (by unfold maxLen; omega) (by omega) (by simp; omega) _ rfl ?_)
            intro g5 c5 w5 hown5 hgrow hat5 hglt
            have HB5 : Below w6.heap.size w6 w5 := (balloc HL.out.bel (.cells #[.int .i64 (L k).id, .int .i64 (L k).tags, .slice va vn vc] 36)).grown hgrow (by simp; omega) fun k' hk' => (hown.out.lt k' hk').1
            have HNE : gA ≠ g5 := by
              rcases hat5 with h | h
              · have : gB = g5 := by simpa [Value.ownBlock] using h
                have := HL.out.ne
                omega
              · first
                | omega
                | (simp at h; omega)
            have HN : Hid (LoopM w6 w5 L (k + 1) gA cA na A g5 c5 (nb + 1) (B.put nb (L k))) := hide ⟨(HL.out.a.alloc _).kept (g1 := gB) hgrow HL.out.ne, IOwn.step hvs vr hown5, HNE, HL.out.sa.no, HL.out.sb.yes HII.out hlt, HL.out.all.two, HB5⟩
            clear hown5 hgrow hat5 hown HB5 HNE HL hvs
            go_wp2_with fail
            go_roundw
            case rel => exact ⟨k + 1, gA, cA, na, A, g5, c5, nb + 1, B.put nb (L k), by omega, by go_num, rfl, rfl, HN.out⟩
            case measure => simp [intOf]; omega
          · have lM := HL.out.sa.le
            obtain ⟨sv, ho, hvs⟩ := HL.out.a
            have hlo : gB < w7.heap.size := by
              obtain ⟨sv', ho', _⟩ := HL.out.b
              exact (ho'.lt gB rfl).2
            have hown := hide (ho.alloc (.cells #[.int .i64 (L k).id, .int .i64 (L k).tags, .slice va vn vc] 36))
            clear ho
            go_wp2_with (at_builtin; refine wpList_append_lies _ rfl _ _ 24 rfl w6.heap.size 36 i0 _ 3 40 Try.underlying24 HI.out hz0 hz1 hz2 rfl (by decide) _ _ _ rfl hown.out ⟨_, 0, none⟩ 1 1 [.int .i64 (L k).id, .int .i64 (L k).tags, .slice va vn vc] rfl rfl (three_new _ _ _ _ _) (three_one _ _ _ _ _) (by omega) (by unfold maxLen; omega) (by omega) (by simp; omega) _ rfl ?_)
            intro g5 c5 w5 hown5 hgrow hat5 hglt
            have HB5 : Below w6.heap.size w6 w5 := (balloc HL.out.bel (.cells #[.int .i64 (L k).id, .int .i64 (L k).tags, .slice va vn vc] 36)).grown hgrow (by simp; omega) fun k' hk' => (hown.out.lt k' hk').1
            have HNE : g5 ≠ gB := by
              rcases hat5 with h | h
              · have : gA = g5 := by simpa [Value.ownBlock] using h
                have := HL.out.ne
                omega
              · first
                | omega
                | (simp at h; omega)
            have HN : Hid (LoopM w6 w5 L (k + 1) g5 c5 (na + 1) (A.put na (L k)) gB cB nb B) := hide ⟨IOwn.step hvs vr hown5, (HL.out.b.alloc _).kept (g1 := gA) hgrow (fun e => HL.out.ne e.symm), HNE, HL.out.sa.yes HII.out hlt, HL.out.sb.no, HL.out.all.one, HB5⟩
            clear hown5 hgrow hat5 hown HB5 HNE HL hvs
            go_wp2_with fail
            go_roundw
            case rel => exact ⟨k + 1, g5, c5, na + 1, A.put na (L k), gB, cB, nb, B, by omega, by go_num, rfl, rfl, HN.out⟩
            case measure => simp [intOf]; omega
        · obtain rfl : k = m := by omega
          have RA := hide (HL.out.a.irow HL.out.bel)
          have RB := hide (HL.out.b.irow HL.out.bel)
          have RL := hide (I6.out.below HL.out.bel)
          have RQ := hide (R6.out.below HL.out.bel)
          have BW := hide (bstep B6.out HL.out.bel)
          have lA := HL.out.sa.le
          have lB := HL.out.sb.le
          have vA : Hid (∀ i, i < na → (A i).vec.length ≤ 1048576) := hide fun i hi => by obtain ⟨j, hj, e⟩ := HL.out.sa.mem i hi; rw [e]; exact hv.out j hj
          have vB : Hid (∀ i, i < nb → (B i).vec.length ≤ 1048576) := hide fun i hi => by obtain ⟨j, hj, e⟩ := HL.out.sb.mem i hi; rw [e]; exact hv.out j hj
          have hkN : 1 ≤ K ∧ K ≤ 20 := by omega
          obtain ⟨P1, P2⟩ := merged_parts (qs := qs) (mask := mask) HII.out HL.out.sa HL.out.sb HL.out.all hkN.1 hkN.2 (f1 := fun i => (nearA na A qs mask i).1) (g1 := fun i => (nearA na A qs mask i).2) (f2 := fun i => (nearA nb B qs mask i).1) (g2 := fun i => (nearA nb B qs mask i).2) (fun i _ => rfl) (fun i _ => rfl)
          have N1 := hide (fun w' (hb : Below wr.heap.size wr w') => iNearest_any dim (some ⟨gA, 0, none⟩) na cA A qa qs.length qc qs K mask w' (RA.out.below hb) (by omega) vA.out (RQ.out.below hb) hql2)
          have N2 := hide (fun w' (hb : Below wr.heap.size wr w') => iNearest_any dim (some ⟨gB, 0, none⟩) nb cB B qa qs.length qc qs K mask w' (RB.out.below hb) (by omega) vB.out (RQ.out.below hb) hql2)
          have N3 := hide (fun w' (hb : Below wr.heap.size wr w') => iNearest_any dim (some ⟨g, 0, none⟩) k cp L qa qs.length qc qs K mask w' (RL.out.below hb) (by omega) hv.out (RQ.out.below hb) hql2)
          have l1 := nearM_leM dim na A qs K mask
          have l2 := nearM_leM dim nb B qs K mask
          have l3 := nearM_leM dim k L qs K mask
          obtain ⟨m1, e1⟩ : ∃ m1, nearM dim na A qs K mask = m1 := ⟨_, rfl⟩
          obtain ⟨m2, e2⟩ : ∃ m2, nearM dim nb B qs K mask = m2 := ⟨_, rfl⟩
          obtain ⟨m3, e3⟩ : ∃ m3, nearM dim k L qs K mask = m3 := ⟨_, rfl⟩
          obtain ⟨A1, f1⟩ : ∃ A1, nearA na A qs mask = A1 := ⟨_, rfl⟩
          obtain ⟨A2, f2⟩ : ∃ A2, nearA nb B qs mask = A2 := ⟨_, rfl⟩
          obtain ⟨A3, f3⟩ : ∃ A3, nearA k L qs mask = A3 := ⟨_, rfl⟩
          simp only [e1, e2, e3, f1, f2, f3] at N1 N2 N3 P1 P2 l1 l2 l3
          clear e1 e2 e3 f1 f2 f3
          have MG := hide (fun a1 c1 a2 c2 w' (h1 : PRow w' a1 m1 (fun i => (A1 i).1) (fun i => (A1 i).2)) (h2 : PRow w' a2 m2 (fun i => (A2 i).1) (fun i => (A2 i).2)) => iMerged_any a1 a2 m1 m2 c1 c2 (K : Int) _ _ _ _ w' h1 h2 (by omega) (by omega))
          obtain ⟨M4, e4⟩ : ∃ M4, isortL (m1 + m2) (mrgA m1 (fun i => (A1 i).1) (fun i => (A1 i).2) (fun i => (A2 i).1) (fun i => (A2 i).2)) = M4 := ⟨_, rfl⟩
          simp only [P1, e4] at MG P2
          have HP2 := hide P2
          have EQ := hide (fun a1 k1 a2 k2 w1 (h : PRow w1 a1 m3 (fun i => (M4 i).1) (fun i => (M4 i).2)) (h' : PRow w1 a2 m3 (fun i => (A3 i).1) (fun i => (A3 i).2)) => sameNears_self a1 a2 m3 k1 k2 A3 w1 (prow_congrM h (fun i hi => by rw [HP2.out i hi]) (fun i hi => by rw [HP2.out i hi])) h' (by omega))
          unfold OutN at N1 N2 N3
          unfold OutM at MG
          clear P1 P2 e4 HL RA RB RL RQ vA vB BY AT I6 R6 B6 HII
          go_wp2_with fail
          refine (N1.out _ (by repeat' first | with_reducible exact Below.refl _ _ | with_reducible assumption | with_reducible refine below_drewN ?_ _ | with_reducible refine balloc ?_ _ | with_reducible refine Below.drew ?_ | with_reducible refine Below.setCell ?_ (by first | (simp; done) | (simp; omega) | omega) _ | with_reducible refine bstep ?_ (by assumption))).mono ?_
          rintro e w8 ⟨a8, c8, rfl, o8, b8⟩
          have O8 := hide o8.prow
          clear o8
          go_wp2_with fail
          refine (N2.out _ b8).mono ?_
          rintro e w9 ⟨a9, c9, rfl, o9, b9⟩
          have O9 := hide (O8.out.below b9)
          have P9 := hide o9.prow
          have k9 := bstep b8 b9
          clear o9 O8 b8 b9
          go_wp2_with fail
          refine (MG.out _ _ _ _ _ O9.out P9.out).mono ?_
          rintro e w10 ⟨a10, c10, rfl, o10, b10⟩
          have O10 := hide o10.prow
          have k10 := bstep k9 b10
          clear o10 k9 b10 O9 P9
          go_wp2_with fail
          refine (N3.out _ k10).mono ?_
          rintro e w11 ⟨a11, c11, rfl, o11, b11⟩
          have O11 := hide (O10.out.below b11)
          have P11 := hide o11.prow
          have k11 := bstep k10 b11
          clear o11 k10 b11 O10
          go_wp2_with fail
          refine (EQ.out _ _ _ _ _ O11.out P11.out).mono ?_
          rintro e w12 ⟨rfl, b12⟩
          have k12 := bstep BW.out (bstep k11 b12)
          go_wp2_with fail
          go_ret
          exact ⟨rfl, k12⟩
  · rw [decide_eq_true (show 1048576 < n by omega)] at BG
    clear h
    go_enter Try.func3, Try.ntmps3
    go_wp2_with fail
    refine BG.out.mono ?_
    rintro e w' ⟨rfl, hw⟩
    obtain rfl := hw.symm
    go_wp2_with fail
    go_ret
    exact ⟨rfl, (by repeat' first | with_reducible exact Below.refl _ _ | with_reducible assumption | with_reducible refine below_drewN ?_ _ | with_reducible refine balloc ?_ _ | with_reducible refine Below.drew ?_ | with_reducible refine Below.setCell ?_ (by first | (simp; done) | (simp; omega) | omega) _ | with_reducible refine bstep ?_ (by assumption))⟩
end Go.Proofs.Ytjliecggfncelaa
