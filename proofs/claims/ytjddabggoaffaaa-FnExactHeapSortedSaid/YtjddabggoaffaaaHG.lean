/- The laws' small functions over heaps: szHeap, toHeap, eqHeap. HeapTop of the program and of the model. -/
import Derived.Test.YtjddabggoaffaaaHF
import Derived.Test.YtjddabggoaffaaaHD
namespace Go.Proofs.Ytjddabggoaffaaa
open Go.RowKit
set_option linter.unusedSimpArgs false
set_option linter.unusedVariables false

set_option maxHeartbeats 400000 in
theorem szHeap_any (K : Int) (a : Option Addr) (n cap : Nat) (left : Int) (w : World) (h0 : 0 ≤ left) (h1 : left ≤ 1048576) (hn : n ≤ 9223372036854775807) :
    Calls Try.prog 5 #[.agg #[.int .i64 K, .slice a n cap], .int .i64 left] w fun e w' => e = .returned (.int .i64 (if left - (n : Int) < 0 then -1 else left - (n : Int))) ∧ Below w.heap.size w w' := by
  by_cases h : left - (n : Int) < 0
  · have R := hide (fun w1 => szNearS_any a n cap left w1 h0 h1 hn)
    rw [if_pos h]
    simp only [if_pos h] at R
    go_enter Try.func5, Try.ntmps5
    go_wp2_with fail
    refine (R.out _).mono ?_
    rintro e w1 ⟨rfl, rfl⟩
    go_wp2_with fail
    go_ret
    exact ⟨rfl, (by repeat' first | with_reducible exact Below.refl _ _ | with_reducible assumption | with_reducible refine below_drewN ?_ _ | with_reducible refine balloc ?_ _ | with_reducible refine Below.drew ?_ | with_reducible refine Below.setCell ?_ (by first | (simp; done) | (simp; omega) | omega) _ | with_reducible refine bstep ?_ (by assumption))⟩
  · have R := hide (fun w1 => szNearS_any a n cap left w1 h0 h1 hn)
    rw [if_neg h]
    simp only [if_neg h] at R
    go_enter Try.func5, Try.ntmps5
    go_wp2_with fail
    refine (R.out _).mono ?_
    rintro e w1 ⟨rfl, rfl⟩
    go_wp2_with fail
    go_ret
    exact ⟨rfl, (by repeat' first | with_reducible exact Below.refl _ _ | with_reducible assumption | with_reducible refine below_drewN ?_ _ | with_reducible refine balloc ?_ _ | with_reducible refine Below.drew ?_ | with_reducible refine Below.setCell ?_ (by first | (simp; done) | (simp; omega) | omega) _ | with_reducible refine bstep ?_ (by assumption))⟩

theorem OwnN.away {w : World} {b n : Nat} {f g : Nat → Int} (h : OwnN w b n f g) (p : Addr) (v : Value) (hp : b ≠ p.block) : OwnN (w.setCell p v) b n f g := World.rowIs.of_block h (Below.heap_setCell w p v b hp)

def ToH (w : World) (K : Int) (n : Nat) (f g : Nat → Int) (e : Ending) (w' : World) : Prop :=
  ∃ b, e = .returned (.agg #[.int .i64 K, .slice (some ⟨b, 0, none⟩) n n]) ∧ w.heap.size ≤ b ∧ OwnN w' b n f g ∧ Below w.heap.size w w'

set_option maxHeartbeats 800000 in
theorem toHeap_any (K : Int) (a : Option Addr) (n cap : Nat) (f g : Nat → Int) (w : World) (h : PRow w a n f g) (hn : n ≤ 1048576) :
    Calls Try.prog 7 #[.agg #[.int .i64 K, .slice a n cap]] w fun e w' => ToH w K n f g e w' := by
  have R := hide (fun w1 (hb : Below w.heap.size w w1) => toNearS_any a n cap f g w1 (h.below hb) hn)
  go_enter Try.func7, Try.ntmps7
  go_wp2_with fail
  refine (R.out _ (by repeat' first | with_reducible exact Below.refl _ _ | with_reducible assumption | with_reducible refine below_drewN ?_ _ | with_reducible refine balloc ?_ _ | with_reducible refine Below.drew ?_ | with_reducible refine Below.setCell ?_ (by first | (simp; done) | (simp; omega) | omega) _ | with_reducible refine bstep ?_ (by assumption))).mono ?_
  rintro e w1 ⟨b1, rfl, l1, o1, hb1⟩
  simp at l1
  have hz := hb1.size
  simp at hz
  have q0 : w1.cell? ⟨w.heap.size + 1 + 1, 0, none⟩ = some (.int .i64 K) := (hb1.cell (p := ⟨w.heap.size + 1 + 1, 0, none⟩) (by simp)).trans (by simp [go_sem])
  have q1 : w1.cell? ⟨w.heap.size + 1 + 1, 1, none⟩ = some (.slice none 0 0) := (hb1.cell (p := ⟨w.heap.size + 1 + 1, 1, none⟩) (by simp)).trans (by simp [go_sem])
  have q2 : w1.frozen? ⟨w.heap.size + 1 + 1, 1, none⟩ = false := (hb1.frozen (p := ⟨w.heap.size + 1 + 1, 1, none⟩) (by simp)).trans (by simp [go_sem])
  have q3 : w1.cell? ⟨w.heap.size + 1, 0, none⟩ = some (.int .i64 0) := (hb1.cell (p := ⟨w.heap.size + 1, 0, none⟩) (by simp)).trans (by simp [go_sem])
  have q4 : w1.cell? ⟨w.heap.size + 1, 1, none⟩ = some (.slice none 0 0) := (hb1.cell (p := ⟨w.heap.size + 1, 1, none⟩) (by simp)).trans (by simp [go_sem])
  have q5 : w1.frozen? ⟨w.heap.size + 1, 0, none⟩ = false := (hb1.frozen (p := ⟨w.heap.size + 1, 0, none⟩) (by simp)).trans (by simp [go_sem])
  have q6 : w1.frozen? ⟨w.heap.size + 1, 1, none⟩ = false := (hb1.frozen (p := ⟨w.heap.size + 1, 1, none⟩) (by simp)).trans (by simp [go_sem])
  go_wp2_with fail
  refine bodyPost_ret (v := .agg #[.int .i64 K, .slice (some ⟨b1, 0, none⟩) n n]) ?_ rfl ⟨b1, rfl, by omega, ?_, ?_⟩
  · simp [results, Try.results7, go_sem, q3, q4]
  · exact ((o1.away _ _ (by simp; omega)).away _ _ (by simp; omega)).away _ _ (by simp; omega)
  · exact (by repeat' first | with_reducible exact Below.refl _ _ | with_reducible assumption | with_reducible refine below_drewN ?_ _ | with_reducible refine balloc ?_ _ | with_reducible refine Below.drew ?_ | with_reducible refine Below.setCell ?_ (by first | (simp; done) | (simp; omega) | omega) _ | with_reducible refine bstep ?_ (by assumption))

set_option maxHeartbeats 800000 in
theorem eqHeap_self (K : Int) (a a' : Option Addr) (n cap cap' : Nat) (f g : Nat → Int) (w : World) (h : PRow w a n f g) (h' : PRow w a' n f g) (hn : n ≤ 1048576) :
    Calls Try.prog 10 #[.agg #[.int .i64 K, .slice a n cap], .agg #[.int .i64 K, .slice a' n cap']] w fun e w' => e = .returned (.bool true) ∧ Below w.heap.size w w' := by
  have R := hide (fun w1 (hb : Below w.heap.size w w1) => eqNearS_self a a' n cap cap' f g w1 (h.below hb) (h'.below hb) hn)
  have g1 : (K != K) = false := by simp
  clear h h'
  go_enter Try.func10, Try.ntmps10
  go_wp2_with fail
  refine (R.out _ (by repeat' first | with_reducible exact Below.refl _ _ | with_reducible assumption | with_reducible refine below_drewN ?_ _ | with_reducible refine balloc ?_ _ | with_reducible refine Below.drew ?_ | with_reducible refine Below.setCell ?_ (by first | (simp; done) | (simp; omega) | omega) _ | with_reducible refine bstep ?_ (by assumption))).mono ?_
  rintro e w1 ⟨rfl, hb1⟩
  go_wp2_with fail
  go_ret
  exact ⟨rfl, (by repeat' first | with_reducible exact Below.refl _ _ | with_reducible assumption | with_reducible refine below_drewN ?_ _ | with_reducible refine balloc ?_ _ | with_reducible refine Below.drew ?_ | with_reducible refine Below.setCell ?_ (by first | (simp; done) | (simp; omega) | omega) _ | with_reducible refine bstep ?_ (by assumption))⟩

def topB (K : Int) (n : Nat) (f g : Nat → Int) : Bool := heapB K n f g && decide (0 < n)
def topV (K : Int) (n : Nat) (f g : Nat → Int) : Value := .tuple #[.agg #[.int .i64 (if topB K n f g then f 0 else 0), .int .i64 (if topB K n f g then g 0 else 0)], .bool (topB K n f g)]



end Go.Proofs.Ytjddabggoaffaaa