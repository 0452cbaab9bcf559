/- The walk of the law FnExactReadVec. -/
import Derived.Test.YtlabfbkeckjbmaaDoorSF3
import Derived.Test.YtlabfbkeckjbmaaDoorVM
import Derived.WalkSmall
namespace Go.Proofs.YtlabfbkeckjbmaaDoor
open Go.RowKit
set_option maxRecDepth 8000
set_option linter.unusedSimpArgs false
set_option linter.unusedVariables false

theorem tab_lt {w : World} (h : Tab w) : 0 < w.heap.size := by
  unfold Tab Lib.TabIs World.var? at h
  rw [tabG] at h
  simp only [Option.bind_some] at h
  rcases Nat.lt_or_ge 0 w.heap.size with h' | h'
  · exact h'
  · rw [Array.getElem?_eq_none h'] at h; cases h

theorem Vars.from {B : Nat} {w2 w w' : World} (h2 : Vars w2) (h : Vars w) (hb : Below B w w') (hB : w2.heap.size ≤ B) : Vars w' := by
  have lt := tab_lt h2.tab
  have l1 := h2.ls
  have l2 := h2.lr
  obtain ⟨t, ls, ⟨te, pe, hs⟩, lr, ⟨te', pe', hr⟩⟩ := h
  refine ⟨?_, Nat.lt_of_lt_of_le ls hb.size, ⟨te, pe, (hb.cell (p := ⟨2, 0, none⟩) (by show 2 < B; omega)).trans hs⟩, Nat.lt_of_lt_of_le lr hb.size, ⟨te', pe', (hb.cell (p := ⟨3, 0, none⟩) (by show 3 < B; omega)).trans hr⟩⟩
  exact var?_below hb tabG (by omega) t

theorem Mlen.from {B : Nat} {w2 w w' : World} (h2 : Mlen w2) (h : Mlen w) (hb : Below B w w') (hB : w2.heap.size ≤ B) : Mlen w' := by
  have l1 := h2.lt
  obtain ⟨lt, m, hm⟩ := h
  exact ⟨Nat.lt_of_lt_of_le lt hb.size, m, (hb.cell (p := ⟨1, 0, none⟩) (by show 1 < B; omega)).trans hm⟩

set_option maxHeartbeats 2000000 in
theorem exactReadVec_walk (s : ByteArray) (w : World) (V : Vars w) (M : Mlen w) :
    Calls Tryd.prog 5 #[.string s] w fun e w' => e = .returned (.bool true) ∧ Below w.heap.size w w' := by
  by_cases hs : s.size ≤ 1048576
  · have SR := hide (sReadVec_any s w hs)
    have IR := hide (fun w1 V M => iReadVec_any s w1 hs V M)
    have HV := hide V
    have HM := hide M
    clear V M
    unfold SRead at SR
    unfold IRead at IR
    obtain ⟨X, hX⟩ : ∃ X, readVL s.data.toList = X := ⟨_, rfl⟩
    obtain ⟨b, hb⟩ : ∃ b, readVB s.data.toList = b := ⟨_, rfl⟩
    rw [hX, hb] at SR
    simp only [hX, hb] at IR
    clear hX hb
    obtain ⟨m, hm⟩ : ∃ m, X.length = m := ⟨_, rfl⟩
    rw [hm] at SR
    have HMM := hide hm
    clear hm
    have t1 : (b != b) = false := by cases b <;> rfl
    go_enter Tryd.func5, Tryd.ntmps5
    go_wp2_with fail
    refine SR.out.mono ?_
    rintro e w2 ⟨a2, c2, rfl, hr2, hm8, hb2⟩
    have V2 := hide (HV.out.below hb2)
    have M2 := hide (HM.out.below hb2)
    have R2 := hide hr2
    have B2 := hide hb2
    clear hr2 hb2
    go_wp2_with fail
    refine (IR.out w2 V2.out M2.out).mono ?_
    rintro e w3 ⟨v, rfl, hf, hb3⟩
    obtain ⟨a3, c3, rfl, hm3⟩ := hf.mine
    rw [HMM.out] at hm3 ⊢
    have K3 := hide hm3
    have R3 := hide (R2.out.below hb3)
    have B3 := hide (bstep B2.out hb3)
    have l3 := hb3.size
    have V3 := hide (V2.out.below hb3)
    have M3 := hide (M2.out.below hb3)
    clear hm3 hb3 hf
    go_wp2_with fail
    refine (eqInts_any _ _ _ _ _ _ _ _ _ K3.out.row R3.out (by omega)).mono ?_
    rintro e w4 ⟨rfl, hb4⟩
    rw [decide_eq_true rfl]
    have K4 := hide (K3.out.below hb4)
    have R4 := hide (R3.out.below hb4)
    have B4 := hide (bstep B3.out hb4)
    have l4 := hb4.size
    have V4 := hide (V3.out.below hb4)
    have M4 := hide (M3.out.below hb4)
    clear hb4
    go_wp2_with fail
    refine (markMine_any w2.heap.size m _ a3 1 _ _ K4.out (by omega) (by omega) (by omega) (by omega)).mono ?_
    rintro e w5 ⟨rfl, hm5, hb5⟩
    have K5 := hide hm5
    have R5 := hide (R2.out.belowFrom R4.out hb5 (Nat.le_refl _))
    have B5 := hide (B4.out.trans (hb5.mono (by have := B2.out.size; omega)))
    have V5 := hide (V2.out.from V4.out hb5 (Nat.le_refl _))
    have M5 := hide (M2.out.from M4.out hb5 (Nat.le_refl _))
    clear hm5 hb5
    go_wp2_with fail
    refine (heldMine_any w2.heap.size m _ a3 1 _ K5.out (by omega) (by omega) (by omega)).mono ?_
    rintro e w6 ⟨rfl, hw⟩
    have hw' := hw.symm
    subst hw'
    clear hw
    have hne : ((1 : Int) + (m : Int) != 1 + (m : Int)) = false := by simp
    go_wp2_with fail
    refine (IR.out w5 V5.out M5.out).mono ?_
    rintro e w7 ⟨v, rfl, hf, hb7⟩
    obtain ⟨a7, c7, rfl, hm7⟩ := hf.mine
    rw [HMM.out] at hm7 ⊢
    have K7 := hide hm7
    have K7a := hide (K5.out.below hb7)
    have R7 := hide (R5.out.below hb7)
    have B7 := hide (bstep B5.out hb7)
    clear hm7 hb7 hf
    go_wp2_with fail
    refine (eqInts_any _ _ _ _ _ _ _ _ _ K7.out.row R7.out (by omega)).mono ?_
    rintro e w8 ⟨rfl, hb8⟩
    rw [decide_eq_true rfl]
    have K8 := hide (K7a.out.below hb8)
    have B8 := hide (bstep B7.out hb8)
    clear hb8
    go_wp2_with fail
    refine (heldMine_any w2.heap.size m _ a3 1 _ K8.out (by omega) (by omega) (by omega)).mono ?_
    rintro e w9 ⟨rfl, hw⟩
    have hw' := hw.symm
    subst hw'
    clear hw
    go_wp2
    go_ret
    exact ⟨rfl, B8.out⟩
  · have hn' : (1048576 : Int) < s.size := by omega
    go_enter Tryd.func5, Tryd.ntmps5
    go_wp2
    go_ret
    exact ⟨rfl, (by repeat' first | with_reducible exact Below.refl _ _ | with_reducible assumption | with_reducible refine below_drewN ?_ _ | with_reducible refine balloc ?_ _ | with_reducible refine Below.drew ?_ | with_reducible refine Below.setCell ?_ (by first | (simp; done) | (simp; omega) | omega) _ | with_reducible refine bstep ?_ (by assumption))⟩
end Go.Proofs.YtlabfbkeckjbmaaDoor
