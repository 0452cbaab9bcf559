/- The walk of the law FnVecTexts. -/
import Derived.Test.YtlabfbkeckjbmaaDoorTD2
import Derived.Test.YtlabfbkeckjbmaaDoorSE2
import Derived.Test.YtlabfbkeckjbmaaDoorVS
import Derived.Test.YtlabfbkeckjbmaaDoorDP
namespace Go.Proofs.YtlabfbkeckjbmaaDoor
open Go.RowKit
set_option maxRecDepth 8000
set_option linter.unusedSimpArgs false
set_option linter.unusedVariables false

/-- A vector comes back from its text. -/
theorem read_back (xs : List Int) : readVB (vecTB xs) = vecOkB xs ∧ readVL (vecTB xs) = (if vecOkB xs then xs else []) := by
  cases hv : vecOkB xs
  · have e : vecTB xs = [] := by unfold vecTB; rw [hv]; rfl
    have r : readVB [] = false := by decide
    rw [e, r]
    exact ⟨rfl, by unfold readVL; rw [r]; rfl⟩
  · obtain ⟨⟨n1, n8⟩, hm⟩ := vecOk_mem hv
    have hne : xs ≠ [] := by intro e; rw [e] at n1; simp at n1
    have e : vecTB xs = vecT xs := by unfold vecTB; rw [hv, if_pos rfl]
    have hs := vecT_split hne
    obtain ⟨_, b⟩ := all_itoa (xs := xs) fun x hx => by
      have : -1048576 ≤ x ∧ x ≤ 1048576 := of_decide_eq_true (hm x hx)
      omega
    have hval : valV (vecT xs) = xs := by unfold valV; rw [hs, b]
    have hn : vecT xs ≠ [] := fun q => by
      rw [q] at hs
      have h0 : splitC 44 [] = [[]] := rfl
      rw [h0] at hs
      cases xs with
      | nil => exact hne rfl
      | cons x r =>
        have hx : Lib.itoa x = [] := (List.cons.inj hs).1.symm
        rcases lt_or_geI x 0 with p | p
        · rw [itoa_min p] at hx; cases hx
        · rw [itoa_pos p] at hx; exact dec_ne _ hx
    have hl : (vecT xs).length ≤ 80 := by have := vecT_len9 _ xs rfl hm; omega
    have r : readVB (vecT xs) = true := by
      unfold readVB
      rw [decide_eq_true hn, decide_eq_true hl, hval, decide_eq_true e]; rfl
    rw [e, r]
    exact ⟨rfl, by unfold readVL; rw [r, if_pos rfl, if_pos rfl, hval]⟩
/-- What is read, written again, is that text. -/
theorem text_back {l : List UInt8} (h : readVB l = true) : vecTB (readVL l) = l := by
  have h' := h
  unfold readVB at h'
  simp only [Bool.and_eq_true, decide_eq_true_eq] at h'
  unfold readVL
  rw [h, if_pos rfl]
  exact h'.2.2

set_option maxHeartbeats 8000000 in
set_option maxRecDepth 8000 in
theorem vecTexts_walk (a : Option Addr) (n cap : Nat) (zs : List Int) (w : World) (V : Vars w) (M : Mlen w) (h : IsRow .u8 w a n cap zs) :
    Calls Tryd.prog 3 #[.slice a n cap] w fun e w' => e = .returned (.bool true) ∧ Below w.heap.size w w' := by
  have BG := hide (big_any a n cap w)
  by_cases hn : n ≤ 1048576
  · rw [decide_eq_false (show ¬ 1048576 < n by omega)] at BG
    have HC := hide (h.code hn)
    have HV := hide V
    have HM := hide M
    clear h V M
    go_enter Tryd.func3, Tryd.ntmps3
    go_wp2_with fail
    refine BG.out.mono ?_
    rintro e w' ⟨rfl, hw⟩
    obtain rfl := hw.symm
    clear BG hw
    go_wp2_with fail
    refine (drawVecText_any a n cap w HC.out).mono ?_
    rintro e w1 ⟨a2, n2, c2, xs, rfl, hr1, hn2, hb1⟩
    have R1 := hide hr1
    have B1 := hide hb1
    have hl := hr1.len
    have HL := hide hl
    obtain ⟨rb1, rb2⟩ := read_back xs
    have RB1 := hide rb1
    have RB2 := hide rb2
    obtain ⟨vo, hvo⟩ : ∃ vo, vecOkB xs = vo := ⟨_, rfl⟩
    have VO := hide (fun w1 h hn => sVecOk_any a2 n2 c2 xs w1 h hn)
    have IT := hide (fun w1 h hn T => iVecText_any a2 n2 c2 xs w1 h hn T)
    have ST := hide (fun w1 h hn => sVecText_any a2 n2 c2 xs w1 h hn)
    have sl := vecTB_len (xs := xs)
    obtain ⟨S, hS⟩ : ∃ S, bs (vecTB xs) = S := ⟨_, rfl⟩
    have SL : Hid (S.data.toList = vecTB xs) := hide (by rw [← hS, bs_list])
    simp only [hS] at IT ST sl
    simp only [hvo] at VO RB1 RB2
    clear hr1 hb1 rb1 rb2 hS hvo hl
    go_wp2_with fail
    refine (IT.out w1 R1.out (by omega) (HV.out.below B1.out).tab).mono ?_
    rintro e w2 ⟨rfl, hb2⟩
    have B2 := hide (bstep B1.out hb2)
    have R2 := hide (R1.out.below hb2)
    clear hb2 IT R1
    go_wp2_with fail
    refine (drawReadVec_any a n cap w2 (HC.out.below B2.out)).mono ?_
    rintro e w3 ⟨t, rfl, ht, hb3⟩
    have B3 := hide (bstep B2.out hb3)
    have R3 := hide (R2.out.below hb3)
    have IR := hide (fun w1 V M => iReadVec_any t w1 (by omega) V M)
    have SR := hide (fun w1 => sReadVec_any t w1 (by omega))
    unfold IRead at IR
    unfold SRead at SR
    have TB := hide (fun h => text_back (l := t.data.toList) h)
    obtain ⟨X, hX⟩ : ∃ X, readVL t.data.toList = X := ⟨_, rfl⟩
    obtain ⟨b, hb⟩ : ∃ b, readVB t.data.toList = b := ⟨_, rfl⟩
    simp only [hX, hb] at IR SR TB
    obtain ⟨m, hm⟩ : ∃ m, X.length = m := ⟨_, rfl⟩
    have HMM := hide hm
    simp only [hm] at SR
    clear hb3 hX hb hm R2
    go_wp2_with fail
    refine (IR.out w3 (HV.out.below B3.out) (HM.out.below B3.out)).mono ?_
    rintro e w4 ⟨v, rfl, hf, hb4⟩
    obtain ⟨a4, c4, rfl, hm4⟩ := hf.mine
    rw [HMM.out] at hm4 ⊢
    have X4 := hide hm4.row
    have B4 := hide (bstep B3.out hb4)
    have R4 := hide (R3.out.below hb4)
    clear hb4 hf hm4 R3
    go_wp2_with fail
    refine (SR.out w4).mono ?_
    rintro e w5 ⟨a5, c5, rfl, hr5, hm8, hb5⟩
    have B5 := hide (bstep B4.out hb5)
    have R5 := hide (R4.out.below hb5)
    have X5 := hide (X4.out.below hb5)
    have Y5 := hide hr5
    clear hb5 hr5 R4 X4
    have q1 : (S.toList == S.toList) = true := by simp
    have q2 : (b != b) = false := by cases b <;> rfl
    go_wp2_with fail
    refine (ST.out w5 R5.out (by omega)).mono ?_
    rintro e w6 ⟨rfl, hb6⟩
    have B6 := hide (bstep B5.out hb6)
    have R6 := hide (R5.out.below hb6)
    have X6 := hide (X5.out.below hb6)
    have Y6 := hide (Y5.out.below hb6)
    clear hb6 R5 X5 Y5
    go_wp2_with fail
    refine (sameInts_any a4 a5 m c4 m c5 X X w6 X6.out Y6.out (by omega)).mono ?_
    rintro e w7 ⟨rfl, hb7⟩
    rw [decide_eq_true rfl]
    have B7 := hide (bstep B6.out hb7)
    have R7 := hide (R6.out.below hb7)
    have X7 := hide (X6.out.below hb7)
    clear hb7 R6 X6 Y6
    cases b
    · have B8 := hide B7.out
      have R8 := hide R7.out
      clear B7 R7 X7
      have IS := hide (iReadVec_any S w7 (by omega) (HV.out.below B8.out) (HM.out.below B8.out))
      unfold IRead at IS
      rw [SL.out, RB1.out, RB2.out] at IS
      cases vo
      · go_wp2_with fail
        refine IS.out.mono ?_
        rintro e w9 ⟨v9, rfl, hf9, hb9⟩
        have B9 := hide (bstep B8.out hb9)
        have R9 := hide (R8.out.below hb9)
        clear hb9 hf9
        go_wp2_with fail
        refine (VO.out w9 R9.out (by omega)).mono ?_
        rintro e w10 ⟨rfl, hw⟩
        have hw' := hw.symm
        subst hw'
        clear hw
        go_wp2_with fail
        go_ret
        exact ⟨rfl, B9.out⟩
      · rw [if_pos rfl] at IS
        go_wp2_with fail
        refine IS.out.mono ?_
        rintro e w9 ⟨v9, rfl, hf9, hb9⟩
        obtain ⟨a9, c9, rfl, hm9⟩ := hf9.mine
        have Z9 := hide hm9.row
        have B9 := hide (bstep B8.out hb9)
        have R9 := hide (R8.out.below hb9)
        clear hb9 hf9 hm9
        go_wp2_with fail
        refine (VO.out w9 R9.out (by omega)).mono ?_
        rintro e w10 ⟨rfl, hw⟩
        have hw' := hw.symm
        subst hw'
        clear hw
        go_wp2_with fail
        refine (sameInts_any a9 a2 xs.length c9 n2 c2 xs xs w9 Z9.out R9.out (by rw [HL.out]; omega)).mono ?_
        rintro e w11 ⟨rfl, hb11⟩
        rw [decide_eq_true rfl]
        have B11 := hide (bstep B9.out hb11)
        clear hb11
        go_wp2_with fail
        go_ret
        exact ⟨rfl, B11.out⟩
    · have q3 : ((bs (vecTB X)).toList == t.toList) = true := sEq5 (by rw [bs_list]; exact TB.out rfl)
      have XT := hide (iVecText_any a4 m c4 X w7 X7.out (by omega) (HV.out.below B7.out).tab)
      go_wp2_with fail
      refine XT.out.mono ?_
      rintro e w8 ⟨rfl, hb8⟩
      have B8 := hide (bstep B7.out hb8)
      have R8 := hide (R7.out.below hb8)
      clear hb8 B7 R7 X7
      have IS := hide (iReadVec_any S w8 (by omega) (HV.out.below B8.out) (HM.out.below B8.out))
      unfold IRead at IS
      rw [SL.out, RB1.out, RB2.out] at IS
      cases vo
      · go_wp2_with fail
        refine IS.out.mono ?_
        rintro e w9 ⟨v9, rfl, hf9, hb9⟩
        have B9 := hide (bstep B8.out hb9)
        have R9 := hide (R8.out.below hb9)
        clear hb9 hf9
        go_wp2_with fail
        refine (VO.out w9 R9.out (by omega)).mono ?_
        rintro e w10 ⟨rfl, hw⟩
        have hw' := hw.symm
        subst hw'
        clear hw
        go_wp2_with fail
        go_ret
        exact ⟨rfl, B9.out⟩
      · rw [if_pos rfl] at IS
        go_wp2_with fail
        refine IS.out.mono ?_
        rintro e w9 ⟨v9, rfl, hf9, hb9⟩
        obtain ⟨a9, c9, rfl, hm9⟩ := hf9.mine
        have Z9 := hide hm9.row
        have B9 := hide (bstep B8.out hb9)
        have R9 := hide (R8.out.below hb9)
        clear hb9 hf9 hm9
        go_wp2_with fail
        refine (VO.out w9 R9.out (by omega)).mono ?_
        rintro e w10 ⟨rfl, hw⟩
        have hw' := hw.symm
        subst hw'
        clear hw
        go_wp2_with fail
        refine (sameInts_any a9 a2 xs.length c9 n2 c2 xs xs w9 Z9.out R9.out (by rw [HL.out]; omega)).mono ?_
        rintro e w11 ⟨rfl, hb11⟩
        rw [decide_eq_true rfl]
        have B11 := hide (bstep B9.out hb11)
        clear hb11
        go_wp2_with fail
        go_ret
        exact ⟨rfl, B11.out⟩
  · rw [decide_eq_true (show 1048576 < n by omega)] at BG
    go_enter Tryd.func3, Tryd.ntmps3
    go_wp2_with fail
    refine BG.out.mono ?_
    rintro e w' ⟨rfl, rfl⟩
    go_wp2
    go_ret
    exact ⟨rfl, (by repeat' first | with_reducible exact Below.refl _ _ | with_reducible assumption | with_reducible refine below_drewN ?_ _ | with_reducible refine balloc ?_ _ | with_reducible refine Below.drew ?_ | with_reducible refine Below.setCell ?_ (by first | (simp; done) | (simp; omega) | omega) _ | with_reducible refine bstep ?_ (by assumption))⟩
end Go.Proofs.YtlabfbkeckjbmaaDoor
