/- named of the program: how many numbers a form asks. -/
import Derived.Test.YtlmiamohhmabhaaDoorXA1
namespace Go.Proofs.YtlmiamohhmabhaaDoor
open Go.RowKit
set_option maxRecDepth 8000
set_option linter.unusedSimpArgs false
set_option linter.unusedVariables false

def posN (q : Int) : Nat := if 0 < q then 1 else 0
def nmN (q0 q1 q2 : Int) : Nat := posN q0 + posN q1 + posN q2

theorem posN_le (q : Int) : posN q ≤ 1 := by unfold posN; split <;> omega

theorem posN_pos {q : Int} (h : 0 < q) : posN q = 1 := if_pos h

theorem posN_not {q : Int} (h : ¬ 0 < q) : posN q = 0 := if_neg h

theorem indexL (p0 q0 p1 q1 p2 q2 : Int) (w : World) : (Instr.index 44 (.agg #[.int .i64 p0, .int .i64 q0, .int .i64 p1, .int .i64 q1, .int .i64 p2, .int .i64 q2]) (.int .i64 0)).run Tryd.prog w = .ok (.agg #[.int .i64 p0, .int .i64 q0]) w ∧ (Instr.index 44 (.agg #[.int .i64 p0, .int .i64 q0, .int .i64 p1, .int .i64 q1, .int .i64 p2, .int .i64 q2]) (.int .i64 1)).run Tryd.prog w = .ok (.agg #[.int .i64 p1, .int .i64 q1]) w ∧ (Instr.index 44 (.agg #[.int .i64 p0, .int .i64 q0, .int .i64 p1, .int .i64 q1, .int .i64 p2, .int .i64 q2]) (.int .i64 2)).run Tryd.prog w = .ok (.agg #[.int .i64 p2, .int .i64 q2]) w := by
  have u1 := Tryd.underlying44
  have u2 := Tryd.underlying43
  have s2 := Tryd.sizeOf43
  refine ⟨?_, ?_, ?_⟩ <;> (simp [Instr.index, go_sem, part])
structure NmB (w0 w : World) (F : Nat → Value) : Prop where
  one : w.rowIs w0.heap.size 46 9 F
  bel : Below w0.heap.size w0 w

theorem NmB.below {w0 w w' : World} {F : Nat → Value} (h : NmB w0 w F) (hb : Below w.heap.size w w') : NmB w0 w' F := ⟨row_belowC h.one hb, bstep h.bel hb⟩

set_option maxHeartbeats 8000000 in
set_option maxRecDepth 4000 in
theorem named_any (fk : Int) (fn : ByteArray) (p0 q0 p1 q1 p2 q2 : Int) (fv : Bool) (w : World) :
    Calls Tryd.prog 47 #[.agg #[.int .i64 fk, .string fn, .int .i64 p0, .int .i64 q0, .int .i64 p1, .int .i64 q1, .int .i64 p2, .int .i64 q2, .bool fv]] w fun e w' => e = .returned (.int .i64 (nmN q0 q1 q2 : Nat)) ∧ Below w.heap.size w w' := by
  have F0 : Hid (NmB w (w.alloc (.cells #[.int .i64 fk, .string fn, .int .i64 p0, .int .i64 q0, .int .i64 p1, .int .i64 q1, .int .i64 p2, .int .i64 q2, .bool fv] 46)) (v9 (.int .i64 fk) (.string fn) (.int .i64 p0) (.int .i64 q0) (.int .i64 p1) (.int .i64 q1) (.int .i64 p2) (.int .i64 q2) (.bool fv))) := hide
    ⟨v9_new w _ _ _ _ _ _ _ _ _ _, balloc (Below.refl _ _) _⟩
  unfold nmN
  go_enter Tryd.func47, Tryd.ntmps47
  go_wp2_with fail
  go_loopw [3, 8] (fun t i wr => ∃ j m : Nat, j ≤ 3 ∧ m ≤ j ∧ i = .int .i64 j ∧ t = .int .i64 m ∧ Hid (m = (if 0 < j then posN q0 else 0) + (if 1 < j then posN q1 else 0) + (if 2 < j then posN q2 else 0)) ∧ Hid (NmB w wr (v9 (.int .i64 fk) (.string fn) (.int .i64 p0) (.int .i64 q0) (.int .i64 p1) (.int .i64 q1) (.int .i64 p2) (.int .i64 q2) (.bool fv)))) (fun _ i _ => 3 - (intOf i).toNat)
  case atStart => exact ⟨0, 0, by omega, by omega, rfl, rfl, hide (by simp), F0⟩
  case round =>
    obtain ⟨j, m, hj, hm, rfl, rfl, HM, HF⟩ := hrel
    clear F0
    rcases (show j = 0 ∨ j = 1 ∨ j = 2 ∨ j = 3 from by omega) with rfl | rfl | rfl | rfl
    · have hix : ∀ wx, (Instr.index 44 (.agg #[.int .i64 p0, .int .i64 q0, .int .i64 p1, .int .i64 q1, .int .i64 p2, .int .i64 q2]) (.int .i64 0)).run Tryd.prog wx = .ok (.agg #[.int .i64 p0, .int .i64 q0]) wx := fun wx => (indexL p0 q0 p1 q1 p2 q2 wx).1
      by_cases h : 0 < q0
      · go_wp2_with fail
        go_roundw
        case rel => exact ⟨1, m + 1, by omega, by omega, by go_num, by go_num, hide (by have := HM.out; simp [posN_pos h] at this ⊢; omega), hide (HF.out.below (balloc (Below.refl _ _) _))⟩
        case measure => simp [intOf]
      · go_wp2_with fail
        go_roundw
        case rel => exact ⟨1, m, by omega, by omega, by go_num, rfl, hide (by have := HM.out; simp [posN_not h] at this ⊢; omega), hide (HF.out.below (balloc (Below.refl _ _) _))⟩
        case measure => simp [intOf]
    · have hix : ∀ wx, (Instr.index 44 (.agg #[.int .i64 p0, .int .i64 q0, .int .i64 p1, .int .i64 q1, .int .i64 p2, .int .i64 q2]) (.int .i64 1)).run Tryd.prog wx = .ok (.agg #[.int .i64 p1, .int .i64 q1]) wx := fun wx => (indexL p0 q0 p1 q1 p2 q2 wx).2.1
      by_cases h : 0 < q1
      · go_wp2_with fail
        go_roundw
        case rel => exact ⟨2, m + 1, by omega, by omega, by go_num, by go_num, hide (by have := HM.out; simp [posN_pos h] at this ⊢; omega), hide (HF.out.below (balloc (Below.refl _ _) _))⟩
        case measure => simp [intOf]
      · go_wp2_with fail
        go_roundw
        case rel => exact ⟨2, m, by omega, by omega, by go_num, rfl, hide (by have := HM.out; simp [posN_not h] at this ⊢; omega), hide (HF.out.below (balloc (Below.refl _ _) _))⟩
        case measure => simp [intOf]
    · have hix : ∀ wx, (Instr.index 44 (.agg #[.int .i64 p0, .int .i64 q0, .int .i64 p1, .int .i64 q1, .int .i64 p2, .int .i64 q2]) (.int .i64 2)).run Tryd.prog wx = .ok (.agg #[.int .i64 p2, .int .i64 q2]) wx := fun wx => (indexL p0 q0 p1 q1 p2 q2 wx).2.2
      by_cases h : 0 < q2
      · go_wp2_with fail
        go_roundw
        case rel => exact ⟨3, m + 1, by omega, by omega, by go_num, by go_num, hide (by have := HM.out; simp [posN_pos h] at this ⊢; omega), hide (HF.out.below (balloc (Below.refl _ _) _))⟩
        case measure => simp [intOf]
      · go_wp2_with fail
        go_roundw
        case rel => exact ⟨3, m, by omega, by omega, by go_num, rfl, hide (by have := HM.out; simp [posN_not h] at this ⊢; omega), hide (HF.out.below (balloc (Below.refl _ _) _))⟩
        case measure => simp [intOf]
    · obtain rfl : m = posN q0 + posN q1 + posN q2 := by have := HM.out; simpa using this
      go_wp2_with fail
      go_ret
      exact ⟨rfl, HF.out.bel⟩
end Go.Proofs.YtlmiamohhmabhaaDoor
