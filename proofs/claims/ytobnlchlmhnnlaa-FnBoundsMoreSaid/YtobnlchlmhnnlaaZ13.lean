/- The reader of drawn bytes: hurtVec; drawn pairs of vectors. -/
import Derived.Test.YtobnlchlmhnnlaaZ10
import Derived.Deep.AppendLies
namespace Go.Proofs.Ytobnlchlmhnnlaa
open Go.RowKit
set_option maxRecDepth 8000
set_option linter.unusedSimpArgs false

def HurtPost (B : Nat) (w0 : World) (rb : Nat) (a : Option Addr) (n c : Nat) (e : Ending) (w' : World) : Prop :=
  ∃ (v : Value) (d : Nat) (f : Nat → Int), e = .returned v ∧ d ≤ 200 ∧ w'.ownsRow w0.heap.size 2 1 v d (vals f d) ∧ Rd B w' rb a n c ∧ But rb w0 w'

theorem made_owns (w : World) (base n : Nat) (hb : base ≤ w.heap.size) (hn : n ≤ 1000) : (w.alloc (.cells (madeCells #[.int .i64 0] n) 2)).ownsRow base 2 1 (.slice (some ⟨w.heap.size, 0, none⟩) n n) n (vals (fun _ => 0) n) := by
  obtain ⟨c, hc, hs, hv⟩ := World.rowIs_made w (.int .i64 0) n 2
  refine ⟨by simp [vals_len], .inr ⟨w.heap.size, n, c, rfl, hb, hc, Nat.le_refl _, by unfold maxLen; omega, by omega, ?_⟩⟩
  rw [Nat.mul_one, List.take_of_length_le (by simp; omega)]
  refine List.ext_getElem? fun i => ?_
  by_cases hi : i < n
  · rw [Array.getElem?_toList, hv i hi]; simp [vals, hi]
  · rw [Array.getElem?_toList, Array.getElem?_eq_none (by omega), List.getElem?_eq_none (by rw [vals_len]; omega)]

theorem vals_set0 (f : Nat → Int) (d : Nat) (x : Int) (_ : 1 ≤ d) : (vals f d).set 0 (.int .i64 x) = vals (fun j => if j = 0 then x else f j) d := by
  refine List.ext_getElem? fun i => ?_
  by_cases hi : i < d
  · by_cases h0 : i = 0
    · subst h0; simp [vals, hi]
    · rw [List.getElem?_set_ne (by omega)]; simp [vals, hi, h0]
  · rw [List.getElem?_eq_none (by simp [vals_len]; omega), List.getElem?_eq_none (by simp [vals_len]; omega)]



def PairPost (w : World) (e : Ending) (w' : World) : Prop :=
  ∃ (a1 : Option Addr) (n1 c1 : Nat) (xs : List Int) (a2 : Option Addr) (n2 c2 : Nat) (ys : List Int), e = .returned (.tuple #[.slice a1 n1 c1, .slice a2 n2 c2]) ∧ Row w' a1 n1 xs ∧ Row w' a2 n2 ys ∧ n1 ≤ 200 ∧ n2 ≤ 200 ∧ Below w.heap.size w w'



end Go.Proofs.Ytobnlchlmhnnlaa