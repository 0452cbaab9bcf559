/- CmdOk of the program. -/
import Derived.Test.YtlmiamohhmabhaaDoorXA1
namespace Go.Proofs.YtlmiamohhmabhaaDoor
open Go.RowKit
set_option maxRecDepth 8000
set_option linter.unusedSimpArgs false
set_option linter.unusedVariables false

/-- Whether a command is right. -/
def cmdB (k a b c : Int) (vn : Nat) (xs : List Int) : Bool :=
  if k = 1 then fitsB 1 8 0 0 0 0 false a b c vn xs else
  if k = 2 then fitsB 1 9999 0 255 0 0 true a b c vn xs else
  if k = 3 then fitsB 1 9999 0 0 0 0 false a b c vn xs else
  if k = 4 then fitsB 0 0 0 0 0 0 false a b c vn xs else
  if k = 5 then fitsB 1 60 0 0 0 0 false a b c vn xs else
  if k = 6 then fitsB 1 20 0 255 0 1000 true a b c vn xs else
  if k = 7 then fitsB 0 1125899906842624 0 255 0 1000 true a b c vn xs else
  false

theorem cmdB_no {k : Int} (h : kindB k = false) (a b c : Int) (vn : Nat) (xs : List Int) : cmdB k a b c vn xs = false := by
  have h' : ¬ (1 ≤ k ∧ k ≤ 7) := of_decide_eq_false h
  unfold cmdB
  rw [if_neg (show ¬ k = 1 by omega), if_neg (show ¬ k = 2 by omega), if_neg (show ¬ k = 3 by omega), if_neg (show ¬ k = 4 by omega), if_neg (show ¬ k = 5 by omega), if_neg (show ¬ k = 6 by omega), if_neg (show ¬ k = 7 by omega)]

set_option maxHeartbeats 8000000 in
set_option maxRecDepth 4000 in
theorem iCmdOk_any (k a b c : Int) (va : Option Addr) (vn vc : Nat) (xs : List Int) (w : World) (rv : Row w va vn xs) (hn : vn ≤ 1048576) (F : Forms w) :
    Calls Tryd.prog 9 #[.agg #[.int .i64 k, .int .i64 a, .int .i64 b, .int .i64 c, .slice va vn vc]] w fun e w' => e = .returned (.bool (cmdB k a b c vn xs)) ∧ Below w.heap.size w w' := by
  have C0 := hide (v5_new w (.int .i64 k) (.int .i64 a) (.int .i64 b) (.int .i64 c) (.slice va vn vc) 27)
  have B0 : Hid (Below w.heap.size w (w.alloc (.cells #[.int .i64 k, .int .i64 a, .int .i64 b, .int .i64 c, .slice va vn vc] 27))) := hide (balloc (Below.refl _ _) _)
  have RV := hide rv
  have FO := hide (fun w1 (s : Below w.heap.size w w1) => formOf_any k w1 (F.below s))
  clear rv F
  obtain ⟨_, y0, y1, y2, y3, y4, _⟩ := v5_facts C0.out
  cases hk : kindB k
  · have CN := hide (cmdB_no hk a b c vn xs)
    rw [CN.out]
    have e7 : formR (kindN k) = #[.int .i64 0, .string ⟨#[]⟩, .int .i64 0, .int .i64 0, .int .i64 0, .int .i64 0, .int .i64 0, .int .i64 0, .bool false] := by unfold kindN; rw [hk]; rfl
    rw [e7, hk] at FO
    clear hk e7
    go_enter Tryd.func9, Tryd.ntmps9
    go_wp2_with fail
    refine (FO.out _ B0.out).mono ?_
    rintro e w1 ⟨rfl, hb1⟩
    have B1 := hide (bstep B0.out hb1)
    clear hb1
    go_wp2_with fail
    go_ret
    exact ⟨rfl, balloc B1.out _⟩
  · have h' : 1 ≤ k ∧ k ≤ 7 := of_decide_eq_true hk
    clear hk
    rcases (show k = 1 ∨ k = 2 ∨ k = 3 ∨ k = 4 ∨ k = 5 ∨ k = 6 ∨ k = 7 from by omega) with rfl | rfl | rfl | rfl | rfl | rfl | rfl
    · have e1 : formR (kindN 1) = #[.int .i64 1, .string ⟨#[100, 105, 109]⟩, .int .i64 1, .int .i64 8, .int .i64 0, .int .i64 0, .int .i64 0, .int .i64 0, .bool false] := by rw [show kindN 1 = 0 from by decide]; rfl
      have e2 : kindB 1 = true := by decide
      have e3 : cmdB 1 a b c vn xs = fitsB 1 8 0 0 0 0 false a b c vn xs := rfl
      rw [e1, e2] at FO
      rw [e3]
      have FI := hide (fun w1 (s : Below w.heap.size w w1) => fits_any 1 ⟨#[100, 105, 109]⟩ 1 8 0 0 0 0 false 1 a b c va vn vc xs w1 (RV.out.below s) hn)
      generalize fitsB 1 8 0 0 0 0 false a b c vn xs = R at FI ⊢
      clear h' e1 e2 e3
      go_enter Tryd.func9, Tryd.ntmps9
      go_wp2_with fail
      refine (FO.out _ B0.out).mono ?_
      rintro e w1 ⟨rfl, hb1⟩
      have B1 := hide (balloc (bstep B0.out hb1) (.cells #[.int .i64 1, .string ⟨#[100, 105, 109]⟩, .int .i64 1, .int .i64 8, .int .i64 0, .int .i64 0, .int .i64 0, .int .i64 0, .bool false] 46))
      have C1 := hide (row_belowC (row_belowC C0.out hb1) (balloc (Below.refl w1.heap.size w1) (.cells #[.int .i64 1, .string ⟨#[100, 105, 109]⟩, .int .i64 1, .int .i64 8, .int .i64 0, .int .i64 0, .int .i64 0, .int .i64 0, .bool false] 46)))
      clear hb1 y0 y1 y2 y3 y4 C0
      obtain ⟨_, y0, y1, y2, y3, y4, _⟩ := v5_facts C1.out
      go_wp2_with fail
      refine (FI.out _ B1.out).mono ?_
      rintro e w2 ⟨rfl, hb2⟩
      have B2 := hide (bstep B1.out hb2)
      clear hb2
      go_wp2_with fail
      go_ret
      exact ⟨rfl, B2.out⟩
    · have e1 : formR (kindN 2) = #[.int .i64 2, .string ⟨#[112, 117, 116]⟩, .int .i64 1, .int .i64 9999, .int .i64 0, .int .i64 255, .int .i64 0, .int .i64 0, .bool true] := by rw [show kindN 2 = 1 from by decide]; rfl
      have e2 : kindB 2 = true := by decide
      have e3 : cmdB 2 a b c vn xs = fitsB 1 9999 0 255 0 0 true a b c vn xs := rfl
      rw [e1, e2] at FO
      rw [e3]
      have FI := hide (fun w1 (s : Below w.heap.size w w1) => fits_any 2 ⟨#[112, 117, 116]⟩ 1 9999 0 255 0 0 true 2 a b c va vn vc xs w1 (RV.out.below s) hn)
      generalize fitsB 1 9999 0 255 0 0 true a b c vn xs = R at FI ⊢
      clear h' e1 e2 e3
      go_enter Tryd.func9, Tryd.ntmps9
      go_wp2_with fail
      refine (FO.out _ B0.out).mono ?_
      rintro e w1 ⟨rfl, hb1⟩
      have B1 := hide (balloc (bstep B0.out hb1) (.cells #[.int .i64 2, .string ⟨#[112, 117, 116]⟩, .int .i64 1, .int .i64 9999, .int .i64 0, .int .i64 255, .int .i64 0, .int .i64 0, .bool true] 46))
      have C1 := hide (row_belowC (row_belowC C0.out hb1) (balloc (Below.refl w1.heap.size w1) (.cells #[.int .i64 2, .string ⟨#[112, 117, 116]⟩, .int .i64 1, .int .i64 9999, .int .i64 0, .int .i64 255, .int .i64 0, .int .i64 0, .bool true] 46)))
      clear hb1 y0 y1 y2 y3 y4 C0
      obtain ⟨_, y0, y1, y2, y3, y4, _⟩ := v5_facts C1.out
      go_wp2_with fail
      refine (FI.out _ B1.out).mono ?_
      rintro e w2 ⟨rfl, hb2⟩
      have B2 := hide (bstep B1.out hb2)
      clear hb2
      go_wp2_with fail
      go_ret
      exact ⟨rfl, B2.out⟩
    · have e1 : formR (kindN 3) = #[.int .i64 3, .string ⟨#[100, 114, 111, 112]⟩, .int .i64 1, .int .i64 9999, .int .i64 0, .int .i64 0, .int .i64 0, .int .i64 0, .bool false] := by rw [show kindN 3 = 2 from by decide]; rfl
      have e2 : kindB 3 = true := by decide
      have e3 : cmdB 3 a b c vn xs = fitsB 1 9999 0 0 0 0 false a b c vn xs := rfl
      rw [e1, e2] at FO
      rw [e3]
      have FI := hide (fun w1 (s : Below w.heap.size w w1) => fits_any 3 ⟨#[100, 114, 111, 112]⟩ 1 9999 0 0 0 0 false 3 a b c va vn vc xs w1 (RV.out.below s) hn)
      generalize fitsB 1 9999 0 0 0 0 false a b c vn xs = R at FI ⊢
      clear h' e1 e2 e3
      go_enter Tryd.func9, Tryd.ntmps9
      go_wp2_with fail
      refine (FO.out _ B0.out).mono ?_
      rintro e w1 ⟨rfl, hb1⟩
      have B1 := hide (balloc (bstep B0.out hb1) (.cells #[.int .i64 3, .string ⟨#[100, 114, 111, 112]⟩, .int .i64 1, .int .i64 9999, .int .i64 0, .int .i64 0, .int .i64 0, .int .i64 0, .bool false] 46))
      have C1 := hide (row_belowC (row_belowC C0.out hb1) (balloc (Below.refl w1.heap.size w1) (.cells #[.int .i64 3, .string ⟨#[100, 114, 111, 112]⟩, .int .i64 1, .int .i64 9999, .int .i64 0, .int .i64 0, .int .i64 0, .int .i64 0, .bool false] 46)))
      clear hb1 y0 y1 y2 y3 y4 C0
      obtain ⟨_, y0, y1, y2, y3, y4, _⟩ := v5_facts C1.out
      go_wp2_with fail
      refine (FI.out _ B1.out).mono ?_
      rintro e w2 ⟨rfl, hb2⟩
      have B2 := hide (bstep B1.out hb2)
      clear hb2
      go_wp2_with fail
      go_ret
      exact ⟨rfl, B2.out⟩
    · have e1 : formR (kindN 4) = #[.int .i64 4, .string ⟨#[98, 117, 105, 108, 100]⟩, .int .i64 0, .int .i64 0, .int .i64 0, .int .i64 0, .int .i64 0, .int .i64 0, .bool false] := by rw [show kindN 4 = 3 from by decide]; rfl
      have e2 : kindB 4 = true := by decide
      have e3 : cmdB 4 a b c vn xs = fitsB 0 0 0 0 0 0 false a b c vn xs := rfl
      rw [e1, e2] at FO
      rw [e3]
      have FI := hide (fun w1 (s : Below w.heap.size w w1) => fits_any 4 ⟨#[98, 117, 105, 108, 100]⟩ 0 0 0 0 0 0 false 4 a b c va vn vc xs w1 (RV.out.below s) hn)
      generalize fitsB 0 0 0 0 0 0 false a b c vn xs = R at FI ⊢
      clear h' e1 e2 e3
      go_enter Tryd.func9, Tryd.ntmps9
      go_wp2_with fail
      refine (FO.out _ B0.out).mono ?_
      rintro e w1 ⟨rfl, hb1⟩
      have B1 := hide (balloc (bstep B0.out hb1) (.cells #[.int .i64 4, .string ⟨#[98, 117, 105, 108, 100]⟩, .int .i64 0, .int .i64 0, .int .i64 0, .int .i64 0, .int .i64 0, .int .i64 0, .bool false] 46))
      have C1 := hide (row_belowC (row_belowC C0.out hb1) (balloc (Below.refl w1.heap.size w1) (.cells #[.int .i64 4, .string ⟨#[98, 117, 105, 108, 100]⟩, .int .i64 0, .int .i64 0, .int .i64 0, .int .i64 0, .int .i64 0, .int .i64 0, .bool false] 46)))
      clear hb1 y0 y1 y2 y3 y4 C0
      obtain ⟨_, y0, y1, y2, y3, y4, _⟩ := v5_facts C1.out
      go_wp2_with fail
      refine (FI.out _ B1.out).mono ?_
      rintro e w2 ⟨rfl, hb2⟩
      have B2 := hide (bstep B1.out hb2)
      clear hb2
      go_wp2_with fail
      go_ret
      exact ⟨rfl, B2.out⟩
    · have e1 : formR (kindN 5) = #[.int .i64 5, .string ⟨#[116, 105, 99, 107]⟩, .int .i64 1, .int .i64 60, .int .i64 0, .int .i64 0, .int .i64 0, .int .i64 0, .bool false] := by rw [show kindN 5 = 4 from by decide]; rfl
      have e2 : kindB 5 = true := by decide
      have e3 : cmdB 5 a b c vn xs = fitsB 1 60 0 0 0 0 false a b c vn xs := rfl
      rw [e1, e2] at FO
      rw [e3]
      have FI := hide (fun w1 (s : Below w.heap.size w w1) => fits_any 5 ⟨#[116, 105, 99, 107]⟩ 1 60 0 0 0 0 false 5 a b c va vn vc xs w1 (RV.out.below s) hn)
      generalize fitsB 1 60 0 0 0 0 false a b c vn xs = R at FI ⊢
      clear h' e1 e2 e3
      go_enter Tryd.func9, Tryd.ntmps9
      go_wp2_with fail
      refine (FO.out _ B0.out).mono ?_
      rintro e w1 ⟨rfl, hb1⟩
      have B1 := hide (balloc (bstep B0.out hb1) (.cells #[.int .i64 5, .string ⟨#[116, 105, 99, 107]⟩, .int .i64 1, .int .i64 60, .int .i64 0, .int .i64 0, .int .i64 0, .int .i64 0, .bool false] 46))
      have C1 := hide (row_belowC (row_belowC C0.out hb1) (balloc (Below.refl w1.heap.size w1) (.cells #[.int .i64 5, .string ⟨#[116, 105, 99, 107]⟩, .int .i64 1, .int .i64 60, .int .i64 0, .int .i64 0, .int .i64 0, .int .i64 0, .bool false] 46)))
      clear hb1 y0 y1 y2 y3 y4 C0
      obtain ⟨_, y0, y1, y2, y3, y4, _⟩ := v5_facts C1.out
      go_wp2_with fail
      refine (FI.out _ B1.out).mono ?_
      rintro e w2 ⟨rfl, hb2⟩
      have B2 := hide (bstep B1.out hb2)
      clear hb2
      go_wp2_with fail
      go_ret
      exact ⟨rfl, B2.out⟩
    · have e1 : formR (kindN 6) = #[.int .i64 6, .string ⟨#[110, 101, 97, 114]⟩, .int .i64 1, .int .i64 20, .int .i64 0, .int .i64 255, .int .i64 0, .int .i64 1000, .bool true] := by rw [show kindN 6 = 5 from by decide]; rfl
      have e2 : kindB 6 = true := by decide
      have e3 : cmdB 6 a b c vn xs = fitsB 1 20 0 255 0 1000 true a b c vn xs := rfl
      rw [e1, e2] at FO
      rw [e3]
      have FI := hide (fun w1 (s : Below w.heap.size w w1) => fits_any 6 ⟨#[110, 101, 97, 114]⟩ 1 20 0 255 0 1000 true 6 a b c va vn vc xs w1 (RV.out.below s) hn)
      generalize fitsB 1 20 0 255 0 1000 true a b c vn xs = R at FI ⊢
      clear h' e1 e2 e3
      go_enter Tryd.func9, Tryd.ntmps9
      go_wp2_with fail
      refine (FO.out _ B0.out).mono ?_
      rintro e w1 ⟨rfl, hb1⟩
      have B1 := hide (balloc (bstep B0.out hb1) (.cells #[.int .i64 6, .string ⟨#[110, 101, 97, 114]⟩, .int .i64 1, .int .i64 20, .int .i64 0, .int .i64 255, .int .i64 0, .int .i64 1000, .bool true] 46))
      have C1 := hide (row_belowC (row_belowC C0.out hb1) (balloc (Below.refl w1.heap.size w1) (.cells #[.int .i64 6, .string ⟨#[110, 101, 97, 114]⟩, .int .i64 1, .int .i64 20, .int .i64 0, .int .i64 255, .int .i64 0, .int .i64 1000, .bool true] 46)))
      clear hb1 y0 y1 y2 y3 y4 C0
      obtain ⟨_, y0, y1, y2, y3, y4, _⟩ := v5_facts C1.out
      go_wp2_with fail
      refine (FI.out _ B1.out).mono ?_
      rintro e w2 ⟨rfl, hb2⟩
      have B2 := hide (bstep B1.out hb2)
      clear hb2
      go_wp2_with fail
      go_ret
      exact ⟨rfl, B2.out⟩
    · have e1 : formR (kindN 7) = #[.int .i64 7, .string ⟨#[119, 105, 116, 104, 105, 110]⟩, .int .i64 0, .int .i64 1125899906842624, .int .i64 0, .int .i64 255, .int .i64 0, .int .i64 1000, .bool true] := by rw [show kindN 7 = 6 from by decide]; rfl
      have e2 : kindB 7 = true := by decide
      have e3 : cmdB 7 a b c vn xs = fitsB 0 1125899906842624 0 255 0 1000 true a b c vn xs := rfl
      rw [e1, e2] at FO
      rw [e3]
      have FI := hide (fun w1 (s : Below w.heap.size w w1) => fits_any 7 ⟨#[119, 105, 116, 104, 105, 110]⟩ 0 1125899906842624 0 255 0 1000 true 7 a b c va vn vc xs w1 (RV.out.below s) hn)
      generalize fitsB 0 1125899906842624 0 255 0 1000 true a b c vn xs = R at FI ⊢
      clear h' e1 e2 e3
      go_enter Tryd.func9, Tryd.ntmps9
      go_wp2_with fail
      refine (FO.out _ B0.out).mono ?_
      rintro e w1 ⟨rfl, hb1⟩
      have B1 := hide (balloc (bstep B0.out hb1) (.cells #[.int .i64 7, .string ⟨#[119, 105, 116, 104, 105, 110]⟩, .int .i64 0, .int .i64 1125899906842624, .int .i64 0, .int .i64 255, .int .i64 0, .int .i64 1000, .bool true] 46))
      have C1 := hide (row_belowC (row_belowC C0.out hb1) (balloc (Below.refl w1.heap.size w1) (.cells #[.int .i64 7, .string ⟨#[119, 105, 116, 104, 105, 110]⟩, .int .i64 0, .int .i64 1125899906842624, .int .i64 0, .int .i64 255, .int .i64 0, .int .i64 1000, .bool true] 46)))
      clear hb1 y0 y1 y2 y3 y4 C0
      obtain ⟨_, y0, y1, y2, y3, y4, _⟩ := v5_facts C1.out
      go_wp2_with fail
      refine (FI.out _ B1.out).mono ?_
      rintro e w2 ⟨rfl, hb2⟩
      have B2 := hide (bstep B1.out hb2)
      clear hb2
      go_wp2_with fail
      go_ret
      exact ⟨rfl, B2.out⟩
end Go.Proofs.YtlmiamohhmabhaaDoor
