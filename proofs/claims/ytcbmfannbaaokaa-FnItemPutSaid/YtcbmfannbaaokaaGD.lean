/- The reader of drawn bytes: hurtItems; drawn items. -/
import Derived.Test.YtcbmfannbaaokaaGC
namespace Go.Proofs.Ytcbmfannbaaokaa
open Go.RowKit
set_option linter.unusedSimpArgs false
set_option linter.unusedVariables false

/-- Items that are read, all at base or behind. -/
structure IHi (w : World) (base g n : Nat) (L : IL) : Prop where
  lo : base ≤ g
  lt : g < w.heap.size
  at_ : ∀ i, i < n → w.cell? ⟨g, i * 3, none⟩ = some (.int .i64 (L i).id) ∧ w.cell? ⟨g, i * 3 + 1, none⟩ = some (.int .i64 (L i).tags) ∧ ∃ a m c, w.cell? ⟨g, i * 3 + 2, none⟩ = some (.slice a m c) ∧ Row w a m (L i).vec ∧ ∀ b off, a = some ⟨b, off, none⟩ → base ≤ b
theorem IHi.iat {w : World} {base g n : Nat} {L : IL} (h : IHi w base g n L) : ∀ i, i < n → IAt w g (0 + i * 3) (L i) := by
  intro i hi
  obtain ⟨c0, c1, a, m, c, c2, hr, _⟩ := h.at_ i hi
  rw [Nat.zero_add]
  exact ⟨c0, c1, a, m, c, c2, hr⟩
theorem IHi.irow {w : World} {base g n : Nat} {L : IL} (h : IHi w base g n L) : IRow w (some ⟨g, 0, none⟩) n L := ⟨.inr ⟨g, 0, rfl, h.lt, h.iat⟩⟩
theorem IHi.but {rb : Nat} {w w' : World} {base g n : Nat} {L : IL} (h : IHi w base g n L) (hb : But rb w w') (hr : rb < base) : IHi w' base g n L := by
  have hne : g ≠ rb := by have := h.lo; omega
  refine ⟨h.lo, Nat.lt_of_lt_of_le h.lt hb.size, fun i hi => ?_⟩
  obtain ⟨c0, c1, a, m, c, c2, hrow, ha⟩ := h.at_ i hi
  exact ⟨(hb.cell (p := ⟨g, i * 3, none⟩) h.lt hne).trans c0, (hb.cell (p := ⟨g, i * 3 + 1, none⟩) h.lt hne).trans c1, a, m, c, (hb.cell (p := ⟨g, i * 3 + 2, none⟩) h.lt hne).trans c2, hb.row hrow (fun b off e => by have := ha b off e; omega), ha⟩
theorem IHi.below {w w' : World} {base g n : Nat} {L : IL} (h : IHi w base g n L) (hb : Below w.heap.size w w') : IHi w' base g n L := by
  refine ⟨h.lo, Nat.lt_of_lt_of_le h.lt hb.size, fun i hi => ?_⟩
  obtain ⟨c0, c1, a, m, c, c2, hrow, ha⟩ := h.at_ i hi
  exact ⟨(hb.cell (p := ⟨g, i * 3, none⟩) h.lt).trans c0, (hb.cell (p := ⟨g, i * 3 + 1, none⟩) h.lt).trans c1, a, m, c, (hb.cell (p := ⟨g, i * 3 + 2, none⟩) h.lt).trans c2, hrow.below hb, ha⟩

theorem VSl.hi {w : World} {B C : Nat} {v : Value} {xs : List Int} {b : Nat} (h : VSl w B C v xs b) (h0 : xs.length ≠ 0) : ∃ c, v = .slice (some ⟨b, 0, none⟩) xs.length c ∧ ArrC w b xs.length (intF xs) c ∧ B ≤ b := by
  obtain ⟨a, c, e, h1 | ⟨rfl, k1, k2, ha⟩⟩ := h
  · exact absurd h1 h0
  · exact ⟨c, e, ha, k1⟩
theorem own_hi {w : World} {base g n cap : Nat} {M : IL} {sv : Nat → Value} (hown : w.ownsRow base 27 3 (.slice (some ⟨g, 0, none⟩) n cap) n (icl M sv n)) (hg : base ≤ g) (hlt : g < w.heap.size)
    (hv : ∀ i, i < n → ∃ a m c, sv i = .slice a m c ∧ Row w a m (M i).vec ∧ ∀ b off, a = some ⟨b, off, none⟩ → base ≤ b) : IHi w base g n M := by
  refine ⟨hg, hlt, fun i hi => ?_⟩
  obtain ⟨a, m, c, e, hr, ha⟩ := hv i hi
  have c0 := hown.cellAt (i * 3) (by omega)
  have c1 := hown.cellAt (i * 3 + 1) (by omega)
  have c2 := hown.cellAt (i * 3 + 2) (by omega)
  rw [icl_at M sv (by omega)] at c0 c1 c2
  rw [icell_0] at c0
  rw [icell_1] at c1
  rw [icell_2, e] at c2
  exact ⟨c0, c1, a, m, c, c2, hr, ha⟩
theorem Vecs.hi {w : World} {B k : Nat} {M : IL} {V : Nat → Nat} {sv : Nat → Value} {g : Nat} (h : Vecs w B k M V sv g) {d : Nat} (d1 : 1 ≤ d) (hl : ∀ j, j < k → (M j).vec.length = d) (i : Nat) (hi : i < k) : ∃ a m c, sv i = .slice a m c ∧ Row w a m (M i).vec ∧ ∀ b off, a = some ⟨b, off, none⟩ → B ≤ b := by
  obtain ⟨c, e, ha, hb⟩ := (h.vec i hi).hi (by rw [hl i hi]; omega)
  exact ⟨_, _, c, e, ha.row, fun b off e => by cases e; exact hb⟩
theorem GI.hi {w : World} {base g cap m : Nat} {M : IL} {V : Nat → Nat} {sv : Nat → Value} (h : GI w base g cap m M V sv) {d : Nat} (d1 : 1 ≤ d) (hl : ∀ j, j < m → (M j).vec.length = d) : IHi w base g m M :=
  own_hi h.own h.shape.1 h.lt (h.vecs.hi d1 hl)
theorem ArrC.owns {w : World} {b : Nat} {xs : List Int} {cap base : Nat} (h : ArrC w b xs.length (intF xs) cap) (hb : base ≤ b) (hl : xs.length ≤ 1000) : w.ownsRow base 2 1 (.slice (some ⟨b, 0, none⟩) xs.length cap) xs.length (vals (nth xs) xs.length) := by
  obtain ⟨cur, hc, hs, hm, hcap, hv⟩ := h
  refine ⟨by simp [vals_len], .inr ⟨b, cap, cur, rfl, hb, hc, hm, ?_, by omega, ?_⟩⟩
  · rcases hcap with h | h
    · exact h
    · unfold maxLen; omega
  · refine List.ext_getElem? fun i => ?_
    by_cases hi : i < xs.length
    · rw [List.getElem?_take_of_lt (by omega), Array.getElem?_toList, hv i hi]; simp [vals, hi, intF]
    · rw [List.getElem?_eq_none (by simp; omega), List.getElem?_eq_none (by rw [vals_len]; omega)]

/-- Drawn items, right or not. -/
def DItems (base : Nat) (w' : World) (v : Value) : Prop :=
  ∃ g n cap L, v = .slice (some ⟨g, 0, none⟩) n cap ∧ n ≤ cap ∧ n ≤ 61 ∧ IHi w' base g n L ∧ ∀ i, i < n → (L i).vec.length ≤ 200
def HurtIsPost (B : Nat) (w0 : World) (rb : Nat) (a : Option Addr) (n c : Nat) (e : Ending) (w' : World) : Prop :=
  ∃ v, e = .returned v ∧ DItems w0.heap.size w' v ∧ Rd B w' rb a n c ∧ But rb w0 w'

set_option maxHeartbeats 4000000 in
theorem hurtItems_any (B rb n c : Nat) (a : Option Addr) (d : Nat) (v : Value) (w0 w : World) (h : Rd B w rb a n c) (hB : B ≤ w0.heap.size) (hrb : rb < w0.heap.size) (hb : But rb w0 w) (d1 : 1 ≤ d) (d2 : d ≤ 8) (hd : DIt w0 w d v) :
    Calls Try.prog 33 #[.pointer (some ⟨rb, 0, none⟩), v] w fun e w' => HurtIsPost B w0 rb a n c e w' := by
  have N := hide (fun w (h : Rd B w rb a n c) => below_any B rb n c a 24 w h (by omega) (by omega))
  obtain ⟨g, cp, m, M, V, sv, rfl, hg, hm, hl⟩ := hd
  have HG := hide hg
  have HL := hide hl
  have HB := hide hb
  have HR := hide h
  have s0 := hb.size
  obtain ⟨g0, cur, _, hcp, _⟩ := hg.shape
  by_cases hm0 : 0 < m
  · have hm0' : (0 : Int) < (m : Int) := by omega
    clear hg hl hb h
    go_enter Try.func33, Try.ntmps33
    go_wp2_with fail
    refine (N.out _ HR.out).mono ?_
    rintro e w1 ⟨x, rfl, x0, x1, r1, b1⟩
    have HG1 := hide (HG.out.but b1 hrb)
    have HR1 := hide r1
    have HB1 := hide (HB.out.trans b1)
    have s1 := b1.size
    clear r1 b1 HG HR HB N
    have hd0 := HL.out 0 hm0
    obtain ⟨vc, ev, ha0, hlo0⟩ := (HG1.out.vecs.vec 0 hm0).hi (by rw [hd0]; omega)
    have own0 := ha0.owns hlo0 (by rw [hd0]; omega)
    rw [hd0] at ev own0
    have k0 := HG1.out.arr.cell (j := 0) (by omega)
    have k1 := HG1.out.arr.cell (j := 1) (by omega)
    have k2 := HG1.out.arr.cell (j := 2) (by omega)
    have q0 := icell_0 M sv 0
    have q1 := icell_1 M sv 0
    have q2 := icell_2 M sv 0
    simp only [Nat.zero_mul, Nat.zero_add] at q0 q1 q2
    rw [q0] at k0
    rw [q1] at k1
    rw [q2, ev] at k2
    have EV := hide ev
    have HA0 := hide ha0
    have OW := hide own0
    clear q0 q1 q2 ev ha0 own0
    by_cases e0 : x = 0
    · have z0 : (x == 0) = true := by simp [e0]
      have HI := hide (hurtItem_any B rb n c a (M 0).id (M 0).tags d vc (V 0) (nth (M 0).vec) w0 w1 HR1.out hB hrb HB1.out d1 (by omega) OW.out)
      go_wp2_with fail
      refine HI.out.mono ?_
      rintro e w2 ⟨i2, t2, v2, d2', f2, rfl, hd2, o2, r2, b2, kp2⟩
      obtain ⟨a2, c2, rfl, _, _⟩ := row_of_owns o2
      have hsep := HG1.out.vecs.sep 0 hm0 (by rw [hd0]; omega)
      have hgb := kp2.2 g HG1.out.lt (by omega) (Ne.symm hsep.1)
      have arr2 := HG1.out.arr.block hgb
      have isb : IsBlk w2 g := by
        obtain ⟨_, cur, hc, _⟩ := HG1.out.shape
        exact ⟨cur, _, hgb.trans hc⟩
      have j0 := (arr2.cell (j := 0) (by omega))
      have j1 := (arr2.cell (j := 1) (by omega))
      have j2 := (arr2.cell (j := 2) (by omega))
      have f0 := arr2.froz 0
      have f1 := arr2.froz 1
      have f2' := arr2.froz 2
      have q0 := icell_0 M sv 0
      have q1 := icell_1 M sv 0
      have q2 := icell_2 M sv 0
      simp only [Nat.zero_mul, Nat.zero_add] at q0 q1 q2
      rw [q0] at j0
      rw [q1] at j1
      rw [q2, EV.out] at j2
      have DONE : Hid (HurtIsPost B w0 rb a n c (.returned (.slice (some ⟨g, 0, none⟩) m cp)) (((w2.setCell ⟨g, 0, none⟩ (.int .i64 i2)).setCell ⟨g, 1, none⟩ (.int .i64 t2)).setCell ⟨g, 2, none⟩ (.slice a2 d2' c2))) := hide (by
        have arr3 := ((arr2.set 0 (.int .i64 i2)).set 1 (.int .i64 t2)).set 2 (.slice a2 d2' c2)
        have o3 := owns_item (owns_item (owns_item o2 isb 0 (.int .i64 i2)) (isb.set ⟨g, 0, none⟩ _) 1 (.int .i64 t2)) ((isb.set ⟨g, 0, none⟩ (.int .i64 i2)).set ⟨g, 1, none⟩ (.int .i64 t2)) 2 (.slice a2 d2' c2)
        obtain ⟨a3, c3, e3, row3, lo3⟩ := row_of_owns o3
        cases e3
        have bg : But g w2 (((w2.setCell ⟨g, 0, none⟩ (.int .i64 i2)).setCell ⟨g, 1, none⟩ (.int .i64 t2)).setCell ⟨g, 2, none⟩ (.slice a2 d2' c2)) := (((But.refl g w2).setCell 0 _).setCell 1 _).setCell 2 _
        refine ⟨_, rfl, ⟨g, m, cp, M.put 0 ⟨i2, t2, ints f2 d2'⟩, rfl, hcp, by omega, ⟨g0, arr3.lt, fun i hi => ?_⟩, fun i hi => ?_⟩, r2.but bg (by omega) (by omega), but_far (but_far (but_far b2 g0 _ _) g0 _ _) g0 _ _⟩
        · have c0 := arr3.cell (j := i * 3) (by omega)
          have c1 := arr3.cell (j := i * 3 + 1) (by omega)
          have c2 := arr3.cell (j := i * 3 + 2) (by omega)
          by_cases hi0 : i = 0
          · subst hi0
            rw [IL.put_at]
            simp at c0 c1 c2
            exact ⟨by simpa using c0, by simpa using c1, _, _, _, by simpa using c2, row3, lo3⟩
          · rw [IL.put_off _ _ hi0]
            simp only [show i * 3 ≠ 0 by omega, show i * 3 ≠ 1 by omega, show i * 3 ≠ 2 by omega, if_false, icell_0] at c0
            simp only [show i * 3 + 1 ≠ 0 by omega, show i * 3 + 1 ≠ 1 by omega, show i * 3 + 1 ≠ 2 by omega, if_false, icell_1] at c1
            simp only [show i * 3 + 2 ≠ 0 by omega, show i * 3 + 2 ≠ 1 by omega, show i * 3 + 2 ≠ 2 by omega, if_false, icell_2] at c2
            have hdi := HL.out i hi
            obtain ⟨ci, ei, hai, hloi⟩ := (HG1.out.vecs.vec i hi).hi (by rw [hdi]; omega)
            rw [ei] at c2
            have hs2 := hsep.2 i hi hi0 (by rw [hdi]; omega)
            have hs3 := HG1.out.vecs.sep i hi (by rw [hdi]; omega)
            have hb1 := kp2.2 (V i) hai.lt (by omega) hs2
            have hb2 := bg.block (V i) (Nat.lt_of_lt_of_le hai.lt kp2.1) hs3.1
            exact ⟨c0, c1, _, _, _, c2, (hai.block (hb2.trans hb1)).row, fun b off e => by cases e; exact hloi⟩
        · by_cases hi0 : i = 0
          · subst hi0; rw [IL.put_at]; show (ints f2 d2').length ≤ 200; rw [ints_len]; exact hd2
          · rw [IL.put_off _ _ hi0, HL.out i hi]; omega)
      clear hsep hgb arr2 isb q0 q1 q2 k0 k1 k2 o2 r2 b2 kp2 HI OW HA0 EV HG1 HR1 HB1 HL
      go_wp2_with fail
      go_ret
      exact DONE.out
    · have z0 : (x == 0) = false := by simp [e0]
      by_cases e1 : x = 1
      · have z1 : (x == 1) = true := by simp [e1]
        obtain ⟨i0, hi, hz0, hz1, hz2⟩ := itemInfo
        have howns := hide (HG1.out.own.alloc (.cells #[.int .i64 (M 0).id, .int .i64 (M 0).tags, .slice (some ⟨V 0, 0, none⟩) d vc] 27))
        go_wp2_with (at_builtin; refine wpList_append_lies _ rfl _ _ 24 rfl w0.heap.size 27 i0 _ 3 40 Try.underlying24 hi hz0 hz1 hz2 rfl (by decide) _ _ _ rfl howns.out ⟨_, 0, none⟩ 1 1 [.int .i64 (M 0).id, .int .i64 (M 0).tags, .slice (some ⟨V 0, 0, none⟩) d vc] rfl rfl (three_new _ _ _ _ _) (three_one _ _ _ _ _) (by omega) (by unfold maxLen; omega) (by omega) (by simp; omega) _ rfl ?_)
        intro g5 c5 w5 hown5 hgrow hat5 hglt
        have bA : Below w1.heap.size w1 (w1.alloc (.cells #[.int .i64 (M 0).id, .int .i64 (M 0).tags, .slice (some ⟨V 0, 0, none⟩) d vc] 27)) := balloc (Below.refl _ _) _
        have vecs5 := (HG1.out.vecs.below bA).row hgrow.size fun i hi hne => hgrow.block i hi (by simpa [Value.ownBlock] using hne)
        have r5 := HR1.out.app hrb hB HG1.out.own hgrow
        have b5 := but_app HB1.out HG1.out.own hgrow
        have DONE : Hid (HurtIsPost B w0 rb a n c (.returned (.slice (some ⟨g5, 0, none⟩) (m + 1) c5)) w5) := hide (by
          rw [← EV.out, ← icl_put M sv m (M 0) (sv 0)] at hown5
          have hsh : w0.heap.size ≤ g5 ∧ m + 1 ≤ c5 := by
            rcases hown5.2 with ⟨h0, _⟩ | ⟨g', cap', cur', hv', hb', hg', hcap', _⟩
            · cases h0
            · simp only [Value.slice.injEq, Option.some.injEq, Addr.mk.injEq] at hv'
              obtain ⟨⟨rfl, _⟩, _, rfl⟩ := hv'
              exact ⟨hb', hcap'⟩
          refine ⟨_, rfl, ⟨g5, m + 1, c5, M.put m (M 0), rfl, hsh.2, by omega, own_hi hown5 hsh.1 hglt fun i hi => ?_, fun i hi => ?_⟩, r5, b5⟩
          · by_cases hi0 : i = m
            · subst hi0; rw [IL.put_at, putF_at]; exact vecs5.hi d1 HL.out 0 hm0
            · rw [IL.put_off _ _ hi0, putF_off _ _ hi0]; exact vecs5.hi d1 HL.out i (by omega)
          · by_cases hi0 : i = m
            · subst hi0; rw [IL.put_at, hd0]; omega
            · rw [IL.put_off _ _ hi0, HL.out i (by omega)]; omega)
        clear hown5 hgrow hat5 hglt howns vecs5 r5 b5 bA k0 k1 k2 OW HA0 EV HG1 HR1 HB1 HL
        go_wp2_with fail
        go_ret
        exact DONE.out
      · have z1 : (x == 1) = false := by simp [e1]
        clear k0 k1 k2
        go_wp2_with fail
        go_ret
        exact ⟨_, rfl, ⟨g, m, cp, M, rfl, hcp, by omega, HG1.out.hi d1 HL.out, fun i hi => by rw [HL.out i hi]; omega⟩, HR1.out, HB1.out⟩
  · obtain rfl : m = 0 := by omega
    clear hg hl hb h
    go_enter Try.func33, Try.ntmps33
    go_wp2_with fail
    go_ret
    exact ⟨_, rfl, ⟨g, 0, cp, M, rfl, hcp, by omega, HG.out.hi d1 HL.out, fun i hi => absurd hi (by omega)⟩, HR.out, HB.out⟩
end Go.Proofs.Ytcbmfannbaaokaa
