/- The reader of drawn bytes: hurtVec, and which blocks it turns; hurtItem. -/
import Derived.Test.YtcbmfannbaaokaaGA
namespace Go.Proofs.Ytcbmfannbaaokaa
open Go.RowKit
set_option linter.unusedSimpArgs false
set_option linter.unusedVariables false

/-- Of what was there nothing has turned but the blocks rb and g. -/
def KpG (rb g : Nat) (w w' : World) : Prop := w.heap.size ≤ w'.heap.size ∧ ∀ k, k < w.heap.size → k ≠ rb → k ≠ g → w'.heap[k]? = w.heap[k]?
theorem KpG.ofBut {rb : Nat} (g : Nat) {w w' : World} (h : But rb w w') : KpG rb g w w' := ⟨h.size, fun k hk h1 _ => h.block k hk h1⟩
theorem KpG.trans {rb g : Nat} {x y z : World} (h : KpG rb g x y) (k : KpG rb g y z) : KpG rb g x z :=
  ⟨Nat.le_trans h.1 k.1, fun j hj h1 h2 => (k.2 j (Nat.lt_of_lt_of_le hj h.1) h1 h2).trans (h.2 j hj h1 h2)⟩
theorem KpG.but {rb g : Nat} {x y z : World} (h : KpG rb g x y) (k : But rb y z) : KpG rb g x z := h.trans (KpG.ofBut g k)
theorem KpG.alloc {rb g : Nat} {x y : World} (h : KpG rb g x y) (o : Obj) : KpG rb g x (y.alloc o) := h.but ((But.refl rb y).alloc o)
theorem KpG.set {rb g : Nat} {x y : World} (h : KpG rb g x y) (o : Nat) (v : Value) : KpG rb g x (y.setCell ⟨g, o, none⟩ v) :=
  h.trans ⟨by simp [World.setCell], fun k _ _ hne => Below.heap_setCell y _ v k hne⟩
theorem KpG.far {rb g : Nat} {x y : World} (h : KpG rb g x y) (b o : Nat) (v : Value) (hb : x.heap.size ≤ b) : KpG rb g x (y.setCell ⟨b, o, none⟩ v) :=
  ⟨by simpa [World.setCell] using h.1, fun k hk h1 h2 => (Below.heap_setCell y ⟨b, o, none⟩ v k (by simp; omega)).trans (h.2 k hk h1 h2)⟩
theorem KpG.grown {rb g : Nat} {x y z : World} (h : KpG rb g x y) (k : y.grownBy z (some g)) : KpG rb g x z :=
  h.trans ⟨k.size, fun j hj _ hne => k.block j hj (by simpa using hne)⟩

def HurtPost2 (B : Nat) (w0 w : World) (rb g : Nat) (a : Option Addr) (n c : Nat) (e : Ending) (w' : World) : Prop :=
  ∃ (v : Value) (d : Nat) (f : Nat → Int), e = .returned v ∧ d ≤ 200 ∧ w'.ownsRow w0.heap.size 2 1 v d (vals f d) ∧ Rd B w' rb a n c ∧ But rb w0 w' ∧ KpG rb g w w'
set_option maxHeartbeats 2000000 in
theorem hurtVec2_any (B rb n c : Nat) (a : Option Addr) (d cap g : Nat) (f : Nat → Int) (w0 w : World) (h : Rd B w rb a n c) (hB : B ≤ w0.heap.size) (hrb : rb < w0.heap.size) (hb : But rb w0 w) (d1 : 1 ≤ d) (d2 : d ≤ 100) (ho : w.ownsRow w0.heap.size 2 1 (.slice (some ⟨g, 0, none⟩) d cap) d (vals f d)) :
    Calls Try.prog 35 #[.pointer (some ⟨rb, 0, none⟩), .slice (some ⟨g, 0, none⟩) d cap] w fun e w' => HurtPost2 B w0 w rb g a n c e w' := by
  obtain ⟨i0, hi, hz0, hz1, hz2⟩ := info_parts Try.infoI64
  have N := hide (below_any B rb n c a 24 w h (by omega) (by omega))
  have HO := hide ho
  have HB := hide hb
  have glt := ho.lt g rfl
  clear h ho hb
  go_enter Try.func35, Try.ntmps35
  go_wp2_with fail
  refine N.out.mono ?_
  rintro e w1 ⟨v, rfl, v0, v1, hr, hb1⟩
  have HR1 := hide hr
  have HO1 := hide (owns_but HO.out hb1 hrb)
  have HB1 := hide (HB.out.trans hb1)
  have HK1 := hide (KpG.ofBut g hb1)
  have s1 := HB1.out.size
  clear hr hb1 N HO HB
  by_cases e0 : v = 0
  · have b0 : (v == 0) = true := by simp [e0]
    go_wp2_with (at_builtin; refine wpList_append_own _ rfl _ _ 25 rfl w0.heap.size 2 i0 (.int .i64 0) 1 8 Try.underlying25 hi hz0 hz1 hz2 rfl (by decide) _ _ _ rfl (HO1.out.alloc _) ⟨_, 0, none⟩ 1 1 [.int .i64 0] rfl rfl ?c1 ?c2 ?c3 ?c4 ?c5 ?_)
    case c1 => exact one_new _ _ _
    case c2 => intro u hu; simp at hu; subst hu; rfl
    case c3 => unfold maxLen; omega
    case c4 => omega
    case c5 => simp; omega
    intro v' w2 hown2 hgrow _
    rw [vals_snoc] at hown2
    have hB2 := but_app HB1.out HO1.out hgrow
    have hR2 := HR1.out.app hrb hB HO1.out hgrow
    have HK2 := hide ((HK1.out.alloc _).grown hgrow)
    have HO2 := hide hown2
    have HB2 := hide hB2
    have HR2 := hide hR2
    clear hgrow hown2 hB2 hR2 HO1
    go_wp2_with fail
    go_ret
    exact ⟨_, d + 1, _, rfl, by omega, HO2.out, HR2.out, HB2.out, HK2.out⟩
  · have b0 : (v == 0) = false := by simp [e0]
    by_cases e1 : v = 1
    · have b1 : (v == 1) = true := by simp [e1]
      go_wp2_with fail
      go_ret
      exact ⟨_, 0, fun _ => 0, rfl, by omega, World.ownsRow_nil _ _ _ _, HR1.out, HB1.out, HK1.out⟩
    · have b1 : (v == 1) = false := by simp [e1]
      by_cases e2 : v = 2
      · have b2 : (v == 2) = true := by simp [e2]
        have hd0 : (0 : Int) < d := by omega
        have O := hide (off_any B rb n c a (-1048576) 1048576 w1 HR1.out (by omega) (by omega) (by omega) (by omega))
        go_wp2_with fail
        refine O.out.mono ?_
        rintro e w2 ⟨x, rfl, hr2, hb2⟩
        have own2 := owns_but HO1.out hb2 hrb
        have k0 : w2.cell? ⟨g, 0, none⟩ = some (.int .i64 (f 0)) := by
          rw [own2.cellAt 0 (by omega)]; simp [vals, show 0 < d by omega]
        have k1 := own2.frozenAt 0
        have ST := own2.stored 0 (.int .i64 x)
        rw [vals_set0 f d x d1] at ST
        have HO2 := hide ST.1
        have HR2 := hide (hr2.but ((But.refl g w2).setCell 0 (.int .i64 x)) (by omega) (by omega))
        have HB2 := hide (but_far (HB1.out.trans hb2) (g := g) (by omega) 0 (.int .i64 x))
        have HK2 := hide ((HK1.out.but hb2).set 0 (.int .i64 x))
        clear own2 ST hr2 hb2
        go_wp2_with fail
        go_ret
        exact ⟨_, d, _, rfl, by omega, HO2.out, HR2.out, HB2.out, HK2.out⟩
      · have b2 : (v == 2) = false := by simp [e2]
        by_cases e3 : v = 3
        · have b3 : (v == 3) = true := by simp [e3]
          have N2 := hide (below_any B rb n c a 2 w1 HR1.out (by omega) (by omega))
          go_wp2_with fail
          refine N2.out.mono ?_
          rintro e w2 ⟨x, rfl, x0, x1, hr2, hb2⟩
          obtain ⟨m, hm⟩ : ∃ m : Nat, 8 + x = (m : Int) := ⟨(8 + x).toNat, by omega⟩
          have hmk := run_make_row' (P := Try.prog) 25 2 (.int .i64 0) 8 Try.underlying25 Try.infoI64 rfl .i64 .i64 m (by omega) (by omega)
          have HB2 := hide (HB1.out.trans hb2)
          have HR2 := hide hr2
          have HK2 := hide (HK1.out.but hb2)
          have s2 := HB2.out.size
          clear hr2 hb2
          go_wp2_with fail
          go_ret
          exact ⟨_, m, fun _ => 0, rfl, by omega, made_owns w2 _ m s2 (by omega), HR2.out.alloc _, HB2.out.alloc _, HK2.out.alloc _⟩
        · have b3 : (v == 3) = false := by simp [e3]
          go_wp2_with fail
          go_ret
          exact ⟨_, d, f, rfl, by omega, HO1.out, HR1.out, HB1.out, HK1.out⟩


theorem Tri.kp {rb g : Nat} {w w' : World} {b : Nat} {x y z : Value} (h : Tri w b x y z) (hb : KpG rb g w w') (h1 : b ≠ rb) (h2 : b ≠ g) : Tri w' b x y z := by
  have e := hb.2 b h.lt h1 h2
  exact ⟨Nat.lt_of_lt_of_le h.lt hb.1, (World.cell?_of_block (a := ⟨b, 0, none⟩) e).trans h.c0, (World.cell?_of_block (a := ⟨b, 1, none⟩) e).trans h.c1, (World.cell?_of_block (a := ⟨b, 2, none⟩) e).trans h.c2,
    (World.frozen?_of_block (a := ⟨b, 0, none⟩) e).trans h.f0, (World.frozen?_of_block (a := ⟨b, 1, none⟩) e).trans h.f1, (World.frozen?_of_block (a := ⟨b, 2, none⟩) e).trans h.f2⟩
/-- A block of cells of items. -/
def IsBlk (w : World) (b : Nat) : Prop := ∃ c z, w.heap[b]? = some (.cells c 27 z)
theorem IsBlk.keep {w w' : World} {b : Nat} (h : IsBlk w b) (hk : w'.heap[b]? = w.heap[b]?) : IsBlk w' b := by
  obtain ⟨c, z, hc⟩ := h
  exact ⟨c, z, hk.trans hc⟩
theorem IsBlk.set {w : World} {b : Nat} (h : IsBlk w b) (p : Addr) (u : Value) (hp : p.spot = none := by rfl) : IsBlk (w.setCell p u) b := by
  obtain ⟨c, z, hc⟩ := h
  by_cases e : b = p.block
  · subst e
    have hlt := (Array.getElem?_eq_some_iff.1 hc).1
    refine ⟨c.setIfInBounds p.off u, z, ?_⟩
    simp [World.setCell, hc, hlt, hp, Array.getElem_modify, (Array.getElem?_eq_some_iff.1 hc).2]
  · exact ⟨c, z, (Below.heap_setCell w p u b e).trans hc⟩
theorem owns_item {w : World} {base : Nat} {v : Value} {n : Nat} {xs : List Value} {b : Nat} (h : w.ownsRow base 2 1 v n xs) (hb : IsBlk w b) (o : Nat) (u : Value) : (w.setCell ⟨b, o, none⟩ u).ownsRow base 2 1 v n xs := by
  refine ⟨h.1, ?_⟩
  rcases h.2 with h0 | ⟨g, cap, cur, hv, hg, hh, hr⟩
  · exact .inl h0
  · refine .inr ⟨g, cap, cur, hv, hg, ?_, hr⟩
    have hne : g ≠ b := by
      rintro rfl
      obtain ⟨c, z, hc⟩ := hb
      rw [hc] at hh
      simp at hh
    exact (Below.heap_setCell w ⟨b, o, none⟩ u g hne).trans hh
theorem IsBlk.but {rb : Nat} {w w' : World} {b : Nat} (h : IsBlk w b) (hb : But rb w w') (hne : b ≠ rb) : IsBlk w' b := by
  obtain ⟨c, z, hc⟩ := h
  exact ⟨c, z, (hb.block b (Array.getElem?_eq_some_iff.1 hc).1 hne).trans hc⟩

structure HIt (B : Nat) (w0 w : World) (rb g : Nat) (a : Option Addr) (n c : Nat) (v : Value) (d : Nat) (f : Nat → Int) (W : World) : Prop where
  own : W.ownsRow w0.heap.size 2 1 v d (vals f d)
  rd : Rd B W rb a n c
  but : But rb w0 W
  kp : KpG rb g w W
theorem HIt.set {B : Nat} {w0 w : World} {rb g : Nat} {a : Option Addr} {n c : Nat} {v : Value} {d : Nat} {f : Nat → Int} {W : World} (h : HIt B w0 w rb g a n c v d f W) (hB : B ≤ w0.heap.size) (hw : w0.heap.size ≤ w.heap.size) (hrb : rb < w0.heap.size) {b : Nat} (hb : w.heap.size ≤ b) (hib : IsBlk W b) (o : Nat) (u : Value) :
    HIt B w0 w rb g a n c v d f (W.setCell ⟨b, o, none⟩ u) :=
  ⟨owns_item h.own hib o u, h.rd.but ((But.refl b W).setCell o u) (by omega) (by omega), but_far h.but (by omega) o u, h.kp.far b o u hb⟩
def HurtItPost (B : Nat) (w0 w : World) (rb g : Nat) (a : Option Addr) (n c : Nat) (e : Ending) (w' : World) : Prop :=
  ∃ (i t : Int) (v : Value) (d : Nat) (f : Nat → Int), e = .returned (.agg #[.int .i64 i, .int .i64 t, v]) ∧ d ≤ 200 ∧ w'.ownsRow w0.heap.size 2 1 v d (vals f d) ∧ Rd B w' rb a n c ∧ But rb w0 w' ∧ KpG rb g w w'

set_option maxHeartbeats 2000000 in
theorem hurtItem_any (B rb n c : Nat) (a : Option Addr) (i t : Int) (d cap g : Nat) (f : Nat → Int) (w0 w : World) (h : Rd B w rb a n c) (hB : B ≤ w0.heap.size) (hrb : rb < w0.heap.size) (hb : But rb w0 w) (d1 : 1 ≤ d) (d2 : d ≤ 100) (ho : w.ownsRow w0.heap.size 2 1 (.slice (some ⟨g, 0, none⟩) d cap) d (vals f d)) :
    Calls Try.prog 19 #[.pointer (some ⟨rb, 0, none⟩), .agg #[.int .i64 i, .int .i64 t, .slice (some ⟨g, 0, none⟩) d cap]] w fun e w' => HurtItPost B w0 w rb g a n c e w' := by
  have N := hide (fun w (h : Rd B w rb a n c) => below_any B rb n c a 24 w h (by omega) (by omega))
  have O := hide (fun (lo hi : Int) w (h : Rd B w rb a n c) (h1 : -2251799813685248 ≤ lo) (h2 : lo ≤ 2251799813685248) (h3 : -2251799813685248 ≤ hi) (h4 : hi ≤ 2251799813685248) => off_any B rb n c a lo hi w h h1 h2 h3 h4)
  have V := hide (fun w (h : Rd B w rb a n c) (hb : But rb w0 w) (ho : w.ownsRow w0.heap.size 2 1 (.slice (some ⟨g, 0, none⟩) d cap) d (vals f d)) => hurtVec2_any B rb n c a d cap g f w0 w h hB hrb hb d1 d2 ho)
  have HO := hide ho
  have HB := hide hb
  have HR := hide h
  have glt := ho.lt g rfl
  have s0 := hb.size
  clear h ho hb
  have hbw : rb < w.heap.size := by omega
  go_enter Try.func19, Try.ntmps19
  go_wp2_with fail
  refine (N.out _ ((HR.out.alloc _).alloc _)).mono ?_
  rintro e w1 ⟨v, rfl, v0, v1, r1, b1⟩
  have T1 := hide (((Tri.new w (.int .i64 i) (.int .i64 t) (.slice (some ⟨g, 0, none⟩) d cap) 27).alloc (.cells #[.int .i64 0, .int .i64 0, .slice none 0 0] 27)).but b1 (by omega))
  have U1 := hide ((Tri.newAt (w.alloc (.cells #[.int .i64 i, .int .i64 t, .slice (some ⟨g, 0, none⟩) d cap] 27)) (.int .i64 0) (.int .i64 0) (.slice none 0 0) 27 (w.heap.size + 1) (by simp)).but b1 (by omega))
  have IA := hide ((show IsBlk ((w.alloc (.cells #[.int .i64 i, .int .i64 t, .slice (some ⟨g, 0, none⟩) d cap] 27)).alloc (.cells #[.int .i64 0, .int .i64 0, .slice none 0 0] 27)) w.heap.size from ⟨_, _, (Below.heap_alloc _ _ _ (by simp)).trans (heap_alloc_new w _)⟩).but b1 (by omega))
  have IB := hide ((show IsBlk ((w.alloc (.cells #[.int .i64 i, .int .i64 t, .slice (some ⟨g, 0, none⟩) d cap] 27)).alloc (.cells #[.int .i64 0, .int .i64 0, .slice none 0 0] 27)) (w.heap.size + 1) from ⟨_, _, by have := heap_alloc_new (w.alloc (.cells #[.int .i64 i, .int .i64 t, .slice (some ⟨g, 0, none⟩) d cap] 27)) (.cells #[.int .i64 0, .int .i64 0, .slice none 0 0] 27); simpa using this⟩).but b1 (by omega))
  have HB1 := hide (((HB.out.alloc (.cells #[.int .i64 i, .int .i64 t, .slice (some ⟨g, 0, none⟩) d cap] 27)).alloc (.cells #[.int .i64 0, .int .i64 0, .slice none 0 0] 27)).trans b1)
  have HK1 := hide (((((KpG.ofBut g (But.refl rb w)).alloc (.cells #[.int .i64 i, .int .i64 t, .slice (some ⟨g, 0, none⟩) d cap] 27)).alloc (.cells #[.int .i64 0, .int .i64 0, .slice none 0 0] 27))).but b1)
  have HO1 := hide (owns_but ((HO.out.alloc (.cells #[.int .i64 i, .int .i64 t, .slice (some ⟨g, 0, none⟩) d cap] 27)).alloc (.cells #[.int .i64 0, .int .i64 0, .slice none 0 0] 27)) b1 hrb)
  have HR1 := hide r1
  have s1 := b1.size
  simp at s1
  clear b1 r1 HB HO HR N
  obtain ⟨q0, q1, q2, q3, q4, q5, q6⟩ := T1.out
  obtain ⟨p0, p1, p2, p3, p4, p5, p6⟩ := U1.out
  by_cases e0 : v = 0
  · have z0 : (v == 0) = true := by simp [e0]
    clear q0 q1 q2 q3 q4 q5 q6 p0 p1 p2 p3 p4 p5 p6
    go_wp2_with fail
    refine (O.out _ _ _ HR1.out (by omega) (by omega) (by omega) (by omega)).mono ?_
    rintro e w2 ⟨x, rfl, r2, b2⟩
    obtain ⟨q0, q1, q2, q3, q4, q5, q6⟩ := T1.out.but b2 (by omega)
    obtain ⟨p0, p1, p2, p3, p4, p5, p6⟩ := U1.out.but b2 (by omega)
    have HR2 := hide r2
    have HB2 := hide (HB1.out.trans b2)
    have HK2 := hide (HK1.out.but b2)
    have HO2 := hide (owns_but HO1.out b2 hrb)
    have IA2 := hide (IA.out.but b2 (by omega))
    have IB2 := hide (IB.out.but b2 (by omega))
    clear r2 b2 HB1 HK1 HO1 T1 U1 IA IB HR1
    go_wp2_with fail
    refine bodyPost_ret (v := .agg #[.int .i64 x, .int .i64 t, .slice (some ⟨g, 0, none⟩) d cap]) ?_ rfl ?_
    · simp [results, Try.results19, go_sem, p1, p2, p3]
    · have S0 : HIt B w0 w rb g a n c _ _ _ w2 := ⟨HO2.out, HR2.out, HB2.out, HK2.out⟩
      have S1 := S0.set hB s0 hrb (Nat.le_refl _) IA2.out 0 (.int .i64 x)
      have B1 := IB2.out.set ⟨w.heap.size, 0, none⟩ (.int .i64 x)
      have S2 := S1.set hB s0 hrb (Nat.le_succ _) B1 0 (.int .i64 x)
      have B2 := B1.set ⟨w.heap.size + 1, 0, none⟩ (.int .i64 x)
      have S3 := S2.set hB s0 hrb (Nat.le_succ _) B2 1 (.int .i64 t)
      have B3 := B2.set ⟨w.heap.size + 1, 1, none⟩ (.int .i64 t)
      have S4 := S3.set hB s0 hrb (Nat.le_succ _) B3 2 (.slice (some ⟨g, 0, none⟩) d cap)
      exact ⟨_, _, _, _, _, rfl, by omega, S4.own, S4.rd, S4.but, S4.kp⟩
  · have z0 : (v == 0) = false := by simp [e0]
    by_cases e1 : v = 1
    · have z1 : (v == 1) = true := by simp [e1]
      clear q0 q1 q2 q3 q4 q5 q6 p0 p1 p2 p3 p4 p5 p6
      go_wp2_with fail
      refine (O.out _ _ _ HR1.out (by omega) (by omega) (by omega) (by omega)).mono ?_
      rintro e w2 ⟨x, rfl, r2, b2⟩
      obtain ⟨q0, q1, q2, q3, q4, q5, q6⟩ := T1.out.but b2 (by omega)
      obtain ⟨p0, p1, p2, p3, p4, p5, p6⟩ := U1.out.but b2 (by omega)
      have HR2 := hide r2
      have HB2 := hide (HB1.out.trans b2)
      have HK2 := hide (HK1.out.but b2)
      have HO2 := hide (owns_but HO1.out b2 hrb)
      have IA2 := hide (IA.out.but b2 (by omega))
      have IB2 := hide (IB.out.but b2 (by omega))
      clear r2 b2 HB1 HK1 HO1 T1 U1 IA IB HR1
      go_wp2_with fail
      refine bodyPost_ret (v := .agg #[.int .i64 i, .int .i64 x, .slice (some ⟨g, 0, none⟩) d cap]) ?_ rfl ?_
      · simp [results, Try.results19, go_sem, p1, p2, p3]
      · have S0 : HIt B w0 w rb g a n c _ _ _ w2 := ⟨HO2.out, HR2.out, HB2.out, HK2.out⟩
        have S1 := S0.set hB s0 hrb (Nat.le_refl _) IA2.out 1 (.int .i64 x)
        have B1 := IB2.out.set ⟨w.heap.size, 1, none⟩ (.int .i64 x)
        have S2 := S1.set hB s0 hrb (Nat.le_succ _) B1 0 (.int .i64 i)
        have B2 := B1.set ⟨w.heap.size + 1, 0, none⟩ (.int .i64 i)
        have S3 := S2.set hB s0 hrb (Nat.le_succ _) B2 1 (.int .i64 x)
        have B3 := B2.set ⟨w.heap.size + 1, 1, none⟩ (.int .i64 x)
        have S4 := S3.set hB s0 hrb (Nat.le_succ _) B3 2 (.slice (some ⟨g, 0, none⟩) d cap)
        exact ⟨_, _, _, _, _, rfl, by omega, S4.own, S4.rd, S4.but, S4.kp⟩
    · have z1 : (v == 1) = false := by simp [e1]
      by_cases e2 : v = 2
      · have z2 : (v == 2) = true := by simp [e2]
        clear q0 q1 q2 q4 q5 q6 p0 p1 p2 p3 p4 p5 p6
        go_wp2_with fail
        refine (V.out _ HR1.out HB1.out HO1.out).mono ?_
        rintro e w2 ⟨v2, d2', f2, rfl, hd2, o2, r2, b2, k2⟩
        obtain ⟨a2, c2, rfl, _, _⟩ := row_of_owns o2
        obtain ⟨q0, q1, q2, q3, q4, q5, q6⟩ := T1.out.kp k2 (by omega) (by omega)
        obtain ⟨p0, p1, p2, p3, p4, p5, p6⟩ := U1.out.kp k2 (by omega) (by omega)
        have HR2 := hide r2
        have HB2 := hide b2
        have HK2 := hide (HK1.out.trans k2)
        have HO2 := hide o2
        have IA2 := hide (IA.out.keep (k2.2 _ (by omega) (by omega) (by omega)))
        have IB2 := hide (IB.out.keep (k2.2 _ (by omega) (by omega) (by omega)))
        clear r2 b2 k2 o2 HB1 HK1 HO1 T1 U1 IA IB HR1
        go_wp2_with fail
        refine bodyPost_ret (v := .agg #[.int .i64 i, .int .i64 t, .slice a2 d2' c2]) ?_ rfl ?_
        · simp [results, Try.results19, go_sem, p1, p2, p3]
        · have S0 : HIt B w0 w rb g a n c _ _ _ w2 := ⟨HO2.out, HR2.out, HB2.out, HK2.out⟩
          have S1 := S0.set hB s0 hrb (Nat.le_refl _) IA2.out 2 (.slice a2 d2' c2)
          have B1 := IB2.out.set ⟨w.heap.size, 2, none⟩ (.slice a2 d2' c2)
          have S2 := S1.set hB s0 hrb (Nat.le_succ _) B1 0 (.int .i64 i)
          have B2 := B1.set ⟨w.heap.size + 1, 0, none⟩ (.int .i64 i)
          have S3 := S2.set hB s0 hrb (Nat.le_succ _) B2 1 (.int .i64 t)
          have B3 := B2.set ⟨w.heap.size + 1, 1, none⟩ (.int .i64 t)
          have S4 := S3.set hB s0 hrb (Nat.le_succ _) B3 2 (.slice a2 d2' c2)
          exact ⟨_, _, _, _, _, rfl, by omega, S4.own, S4.rd, S4.but, S4.kp⟩
      · have z2 : (v == 2) = false := by simp [e2]
        have HR2 := HR1
        have HB2 := HB1
        have HK2 := HK1
        have HO2 := HO1
        have IA2 := IA
        have IB2 := IB
        go_wp2_with fail
        refine bodyPost_ret (v := .agg #[.int .i64 i, .int .i64 t, .slice (some ⟨g, 0, none⟩) d cap]) ?_ rfl ?_
        · simp [results, Try.results19, go_sem, p1, p2, p3]
        · have S0 : HIt B w0 w rb g a n c _ _ _ w1 := ⟨HO2.out, HR2.out, HB2.out, HK2.out⟩
          have S1 := S0
          have B1 := IB2.out
          have S2 := S1.set hB s0 hrb (Nat.le_succ _) B1 0 (.int .i64 i)
          have B2 := B1.set ⟨w.heap.size + 1, 0, none⟩ (.int .i64 i)
          have S3 := S2.set hB s0 hrb (Nat.le_succ _) B2 1 (.int .i64 t)
          have B3 := B2.set ⟨w.heap.size + 1, 1, none⟩ (.int .i64 t)
          have S4 := S3.set hB s0 hrb (Nat.le_succ _) B3 2 (.slice (some ⟨g, 0, none⟩) d cap)
          exact ⟨_, _, _, _, _, rfl, by omega, S4.own, S4.rd, S4.but, S4.kp⟩
end Go.Proofs.Ytcbmfannbaaokaa
