/- Marks over heaps: markNearS, heldNearS, markHeap, heldHeap of the laws. -/
import Derived.Test.YtjddabggoaffaaaHO
import Derived.Test.YtjddabggoaffaaaHR0
import Derived.Test.YtjddabggoaffaaaHH
namespace Go.Proofs.Ytjddabggoaffaaa
open Go.RowKit
set_option linter.unusedSimpArgs false
set_option linter.unusedVariables false

/-- A box that is not the row. -/
theorem HBx.turn {w w' : World} {x : Nat} {K : Int} {c : Option Addr} {m cap : Nat} {a : Option Addr} {l B : Nat} (h : HBx w x K c m cap) (t : Turn a l B w w') (ne : l = 0 ∨ ∃ b, a = some ⟨b, 0, none⟩ ∧ b ≠ x) : HBx w' x K c m cap := by
  rcases t with t | ⟨h0, b, e, hb, hbut⟩
  · exact h.below t
  · rcases ne with h1 | ⟨b', e', hne⟩
    · exact absurd h1 h0
    · rw [e] at e'
      cases e'
      exact ⟨Nat.lt_of_lt_of_le h.lt hbut.size, (hbut.cellN h.lt (Ne.symm hne)).trans h.c0, (hbut.cellN h.lt (Ne.symm hne)).trans h.c1⟩
set_option maxHeartbeats 800000 in
theorem markHeap_any (K : Int) (a : Option Addr) (l cap B : Nat) (q : Int) (L : NL) (w : World) (h : Wr w a l L B) (hl : l ≤ 1048576) (hq : 0 ≤ q) (hq2 : q ≤ 100000000) :
    Calls Try.prog 11 #[.agg #[.int .i64 K, .slice a l cap], .int .i64 q] w fun e w' => e = .returned (.int .i64 (q + 2 * (l : Int))) ∧ Wr w' a l (markL q) B ∧ Turn a l B w w' := by
  have M := hide (fun w1 (hb : Below w.heap.size w w1) => markNearS_any a l cap B q L w1 (h.below hb) hl hq hq2)
  clear h
  go_enter Try.func11, Try.ntmps11
  go_wp2_with fail
  refine (M.out _ (by repeat' first | with_reducible exact Below.refl _ _ | with_reducible assumption | with_reducible refine below_drewN ?_ _ | with_reducible refine balloc ?_ _ | with_reducible refine Below.drew ?_ | with_reducible refine Below.setCell ?_ (by first | (simp; done) | (simp; omega) | omega) _ | with_reducible refine bstep ?_ (by assumption))).mono ?_
  rintro e w1 ⟨rfl, h1, b1⟩
  go_wp2_with fail
  go_ret
  exact ⟨rfl, h1, b1.after (balloc (Below.refl _ _) _)⟩

set_option maxHeartbeats 800000 in
theorem heldHeap_any (K : Int) (a : Option Addr) (l cap B : Nat) (q : Int) (w : World) (h : Wr w a l (markL q) B) (hl : l ≤ 1048576) (hq : 0 ≤ q) (hq2 : q ≤ 100000000) :
    Calls Try.prog 12 #[.agg #[.int .i64 K, .slice a l cap], .int .i64 q] w fun e w' => e = .returned (.int .i64 (q + 2 * (l : Int))) ∧ Below w.heap.size w w' := by
  have M := hide (fun w1 (hb : Below w.heap.size w w1) => heldNearS_any a l cap B q w1 (h.below hb) hl hq hq2)
  have hn : ¬ (q + 2 * (l : Int)) < 0 := by omega
  clear h
  go_enter Try.func12, Try.ntmps12
  go_wp2_with fail
  refine (M.out _ (by repeat' first | with_reducible exact Below.refl _ _ | with_reducible assumption | with_reducible refine below_drewN ?_ _ | with_reducible refine balloc ?_ _ | with_reducible refine Below.drew ?_ | with_reducible refine Below.setCell ?_ (by first | (simp; done) | (simp; omega) | omega) _ | with_reducible refine bstep ?_ (by assumption))).mono ?_
  rintro e w1 ⟨rfl, hw1⟩
  subst hw1
  go_wp2_with fail
  go_ret
  exact ⟨rfl, (by repeat' first | with_reducible exact Below.refl _ _ | with_reducible assumption | with_reducible refine below_drewN ?_ _ | with_reducible refine balloc ?_ _ | with_reducible refine Below.drew ?_ | with_reducible refine Below.setCell ?_ (by first | (simp; done) | (simp; omega) | omega) _ | with_reducible refine bstep ?_ (by assumption))⟩
end Go.Proofs.Ytjddabggoaffaaa
