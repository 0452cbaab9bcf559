/- Marks over items, the rest: markItemS and heldItemS of any slice that the call owns, markItem, heldItem. -/
import Derived.Test.YtkogkgdoebdmgaaIJ
namespace Go.Proofs.Ytkogkgdoebdmgaa
open Go.RowKit
set_option linter.unusedSimpArgs false
set_option linter.unusedVariables false











set_option maxHeartbeats 800000 in
theorem markItem_any {B C : Nat} {v : Value} {xs : List Int} {b : Nat} (i t q : Int) (w : World) (h : VSl w B C v xs b) (hn : xs.length ≤ 1048576) (hq : 0 ≤ q) (hq2 : q ≤ 100000000) :
    Calls Try.prog 14 #[.agg #[.int .i64 i, .int .i64 t, v], .int .i64 q] w fun e w' => e = .returned (.int .i64 (q + (xs.length : Int))) ∧ VSl w' B C v (marks q xs.length) b ∧ Far B C w w' := by
  have hb : Below w.heap.size w (w.alloc (.cells #[.int .i64 i, .int .i64 t, v] 28)) := balloc (Below.refl _ _) _
  have M := hide (markV_any q _ (h.below hb) hn hq hq2)
  have HB := hide hb
  obtain ⟨va, vc, rfl, _⟩ := id h
  clear h hb
  go_enter Try.func14, Try.ntmps14
  go_wp2_with fail
  refine M.out.mono ?_
  rintro e w1 ⟨rfl, h1, b1, z1⟩
  have HF : Hid (Far B C w w1) := hide (by
    by_cases h0 : xs.length = 0
    · rw [z1 h0]; exact Far.ofBelow HB.out
    · have := h1.lt (by rw [marks_len]; exact h0)
      exact (Far.ofBelow HB.out).trans (Far.ofBut b1 this.1 this.2.1))
  go_wp2_with fail
  go_ret
  exact ⟨rfl, h1, HF.out⟩

set_option maxHeartbeats 800000 in
theorem heldItem_any {B C : Nat} {v : Value} {n : Nat} {b : Nat} (i t q : Int) (w : World) (h : VSl w B C v (marks q n) b) (hn : n ≤ 1048576) (hq : 0 ≤ q) (hq2 : q ≤ 100000000) :
    Calls Try.prog 35 #[.agg #[.int .i64 i, .int .i64 t, v], .int .i64 q] w fun e w' => e = .returned (.int .i64 (q + (n : Int))) ∧ Below w.heap.size w w' := by
  have hb : Below w.heap.size w (w.alloc (.cells #[.int .i64 i, .int .i64 t, v] 28)) := balloc (Below.refl _ _) _
  have M := hide (heldV_any q _ (h.below hb) hn hq hq2)
  have hno : ¬ (q + (n : Int)) < 0 := by omega
  obtain ⟨va, vc, rfl, _⟩ := id h
  clear h hb
  go_enter Try.func35, Try.ntmps35
  go_wp2_with fail
  refine M.out.mono ?_
  rintro e w1 ⟨rfl, rfl⟩
  go_wp2_with fail
  go_ret
  exact ⟨rfl, (by repeat' first | with_reducible exact Below.refl _ _ | with_reducible assumption | with_reducible refine below_drewN ?_ _ | with_reducible refine balloc ?_ _ | with_reducible refine Below.drew ?_ | with_reducible refine Below.setCell ?_ (by first | (simp; done) | (simp; omega) | omega) _ | with_reducible refine bstep ?_ (by assumption))⟩
end Go.Proofs.Ytkogkgdoebdmgaa
