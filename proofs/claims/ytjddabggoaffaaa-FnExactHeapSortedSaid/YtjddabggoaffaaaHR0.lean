/- Marks over Nears: markNearS, heldNearS of the laws. -/
import Derived.Test.YtjddabggoaffaaaHO0
namespace Go.Proofs.Ytjddabggoaffaaa
open Go.RowKit
set_option linter.unusedSimpArgs false
set_option linter.unusedVariables false

def markL (q : Int) : NL := fun i => (q + 2 * (i : Int), q + 2 * (i : Int) + 1)
def mixL (k : Nat) (A B : NL) : NL := fun i => if i < k then A i else B i
theorem mixL_put (k : Nat) (A B : NL) : (mixL k A B).put k (A k) = mixL (k + 1) A B := by
  funext i
  unfold NL.put mixL
  by_cases e : i = k
  · subst e; simp
  · by_cases l : i < k
    · simp [e, l, show i < k + 1 by omega]
    · simp [e, l, show ¬ i < k + 1 by omega]

/-- A slice of l Nears that may be written, at or behind block B. -/
def Wr (w : World) (a : Option Addr) (l : Nat) (L : NL) (B : Nat) : Prop := l = 0 ∨ ∃ b, a = some ⟨b, 0, none⟩ ∧ B ≤ b ∧ RowL w b l L
/-- Nothing old has turned, or, of a slice with something in it, its row alone. -/
def Turn (a : Option Addr) (l B : Nat) (w w' : World) : Prop := Below w.heap.size w w' ∨ (l ≠ 0 ∧ ∃ b, a = some ⟨b, 0, none⟩ ∧ B ≤ b ∧ But b w w')
theorem Wr.below {w w' : World} {a : Option Addr} {l : Nat} {L : NL} {B : Nat} (h : Wr w a l L B) (hb : Below w.heap.size w w') : Wr w' a l L B := by
  rcases h with h0 | ⟨b, e, hB, hr⟩
  · exact .inl h0
  · exact .inr ⟨b, e, hB, hr.below hb⟩
theorem Wr.prow {w : World} {a : Option Addr} {l : Nat} {L : NL} {B : Nat} (h : Wr w a l L B) : PRow w a l (fun i => (L i).1) (fun i => (L i).2) := by
  rcases h with h0 | ⟨b, rfl, hB, hr⟩
  · exact ⟨.inl h0⟩
  · exact hr.prow
theorem Turn.low {a : Option Addr} {l B X : Nat} {w w' : World} (h : Turn a l B w w') (hX : X ≤ B) (hs : X ≤ w.heap.size) : Below X w w' := by
  rcases h with h | ⟨_, b, _, hb, hbut⟩
  · exact h.mono hs
  · exact hbut.below (by omega) hs
theorem Turn.after {a : Option Addr} {l B : Nat} {x w w' : World} (h : Turn a l B w w') (k : Below x.heap.size x w) : Turn a l B x w' := by
  rcases h with h | ⟨h0, b, e, hb, hbut⟩
  · exact .inl (bstep k h)
  · exact .inr ⟨h0, b, e, hb, (But.ofBelow k).trans hbut⟩
/-- A row that lies behind another one. -/
theorem Wr.turn {w w' : World} {c : Option Addr} {m : Nat} {M : NL} {C : Nat} {b l B : Nat} (h : Wr w c m M C) (t : Turn (some ⟨b, 0, none⟩) l B w w') (hb : b < C) : Wr w' c m M C := by
  rcases t with t | ⟨h0, b', e, hb', hbut⟩
  · exact h.below t
  · cases e
    rcases h with h1 | ⟨x, ex, hx, hr⟩
    · exact .inl h1
    · exact .inr ⟨x, ex, hx, hr.but hbut (by omega)⟩

set_option maxHeartbeats 800000 in
theorem markNearS_row (b l cap : Nat) (q : Int) (L : NL) (w : World) (ho : RowL w b l L) (hl : l ≤ 1048576) (hq : 0 ≤ q) (hq2 : q ≤ 100000000) :
    Calls Try.prog 16 #[.slice (some ⟨b, 0, none⟩) l cap, .int .i64 q] w fun e w' => e = .returned (.int .i64 (q + 2 * (l : Int))) ∧ RowL w' b l (markL q) ∧ But b w w' := by
  go_enter Try.func16, Try.ntmps16
  go_wp2_with fail
  go_loopw [1, 5] (fun q' i wr => ∃ k : Nat, k ≤ l ∧ i = .int .i64 k ∧ q' = .int .i64 (q + 2 * (k : Int)) ∧ RowL wr b l (mixL k (markL q) L) ∧ But b w wr) (fun _ i _ => l - (intOf i).toNat)
  case atStart => exact ⟨0, Nat.zero_le _, rfl, by simp, ho.congr (fun j _ => by simp [mixL]), But.refl _ _⟩
  case round =>
    obtain ⟨k, hk, rfl, rfl, hrow, hbut⟩ := hrel
    by_cases hlt : k < l
    · have HR := hide hrow
      have HB := hide hbut
      have y0 := hrow.c0 hlt
      have y1 := hrow.c1 hlt
      have y2 := hrow.froz (k * 2)
      have y3 := hrow.froz (k * 2 + 1)
      clear hrow hbut ho
      go_wp2_with fail
      go_roundw
      case rel =>
        have hs := HR.out.set k (q + 2 * (k : Int)) (q + 2 * (k : Int) + 1)
        rw [show ((q + 2 * (k : Int), q + 2 * (k : Int) + 1) : Int × Int) = markL q k from rfl, mixL_put] at hs
        exact ⟨k + 1, by omega, by go_num, by congr 1; omega, hs, (HB.out.setCell _ _).setCell _ _⟩
      case measure => simp [intOf]; omega
    · obtain rfl : k = l := by omega
      go_wp2_with fail
      go_ret
      exact ⟨rfl, hrow.congr (fun j hj => by simp [mixL, hj]), hbut⟩

set_option maxHeartbeats 400000 in
theorem markNearS_nil (a : Option Addr) (cap : Nat) (q : Int) (w : World) :
    Calls Try.prog 16 #[.slice a 0 cap, .int .i64 q] w fun e w' => e = .returned (.int .i64 q) ∧ w' = w := by
  go_enter Try.func16, Try.ntmps16
  go_wp2_with fail
  refine wp_loop_rounds 1 ?_
  rw [rounds_succ]
  go_wp2_with fail
  go_ret
  exact ⟨rfl, rfl⟩

theorem markNearS_any (a : Option Addr) (l cap B : Nat) (q : Int) (L : NL) (w : World) (h : Wr w a l L B) (hl : l ≤ 1048576) (hq : 0 ≤ q) (hq2 : q ≤ 100000000) :
    Calls Try.prog 16 #[.slice a l cap, .int .i64 q] w fun e w' => e = .returned (.int .i64 (q + 2 * (l : Int))) ∧ Wr w' a l (markL q) B ∧ Turn a l B w w' := by
  rcases h with h0 | ⟨b, rfl, hB, hr⟩
  · subst h0
    refine (markNearS_nil a cap q w).mono fun e w' ⟨he, hw⟩ => ?_
    subst hw
    exact ⟨by rw [he]; simp, .inl rfl, .inl (Below.refl _ _)⟩
  · by_cases h0 : l = 0
    · subst h0
      refine (markNearS_nil _ cap q w).mono fun e w' ⟨he, hw⟩ => ?_
      subst hw
      exact ⟨by rw [he]; simp, .inl rfl, .inl (Below.refl _ _)⟩
    · exact (markNearS_row b l cap q L w hr hl hq hq2).mono fun e w' ⟨he, hr', hb⟩ => ⟨he, .inr ⟨b, rfl, hB, hr'⟩, .inr ⟨h0, b, rfl, hB, hb⟩⟩

set_option maxHeartbeats 800000 in
theorem heldNearS_row (b l cap : Nat) (q : Int) (w : World) (ho : RowL w b l (markL q)) (hl : l ≤ 1048576) (hq : 0 ≤ q) (hq2 : q ≤ 100000000) :
    Calls Try.prog 17 #[.slice (some ⟨b, 0, none⟩) l cap, .int .i64 q] w fun e w' => e = .returned (.int .i64 (q + 2 * (l : Int))) ∧ w' = w := by
  go_enter Try.func17, Try.ntmps17
  go_wp2_with fail
  go_loopw [1, 5] (fun q' i wr => ∃ k : Nat, k ≤ l ∧ i = .int .i64 k ∧ q' = .int .i64 (q + 2 * (k : Int)) ∧ wr = w) (fun _ i _ => l - (intOf i).toNat)
  case atStart => exact ⟨0, Nat.zero_le _, rfl, by simp, by trivial⟩
  case round =>
    obtain ⟨k, hk, rfl, rfl, rfl⟩ := hrel
    by_cases hlt : k < l
    · have y0 : wr.cell? ⟨b, k * 2, none⟩ = some (.int .i64 (q + 2 * (k : Int))) := ho.c0 hlt
      have y1 : wr.cell? ⟨b, k * 2 + 1, none⟩ = some (.int .i64 (q + 2 * (k : Int) + 1)) := ho.c1 hlt
      have z0 : ((q + 2 * (k : Int)) != (q + 2 * (k : Int))) = false := by simp
      have z1 : ((q + 2 * (k : Int) + 1) != (q + 2 * (k : Int) + 1)) = false := by simp
      clear ho
      go_wp2_with fail
      go_roundw
      case rel => exact ⟨k + 1, by omega, by go_num, by congr 1; omega, by trivial⟩
      case measure => simp [intOf]; omega
    · obtain rfl : k = l := by omega
      go_wp2_with fail
      go_ret
      exact ⟨rfl, rfl⟩

set_option maxHeartbeats 400000 in
theorem heldNearS_nil (a : Option Addr) (cap : Nat) (q : Int) (w : World) :
    Calls Try.prog 17 #[.slice a 0 cap, .int .i64 q] w fun e w' => e = .returned (.int .i64 q) ∧ w' = w := by
  go_enter Try.func17, Try.ntmps17
  go_wp2_with fail
  refine wp_loop_rounds 1 ?_
  rw [rounds_succ]
  go_wp2_with fail
  go_ret
  exact ⟨rfl, rfl⟩

theorem heldNearS_any (a : Option Addr) (l cap B : Nat) (q : Int) (w : World) (h : Wr w a l (markL q) B) (hl : l ≤ 1048576) (hq : 0 ≤ q) (hq2 : q ≤ 100000000) :
    Calls Try.prog 17 #[.slice a l cap, .int .i64 q] w fun e w' => e = .returned (.int .i64 (q + 2 * (l : Int))) ∧ w' = w := by
  rcases h with h0 | ⟨b, rfl, hB, hr⟩
  · subst h0
    refine (heldNearS_nil a cap q w).mono fun e w' ⟨he, hw⟩ => ⟨by rw [he]; simp, hw⟩
  · exact heldNearS_row b l cap q w hr hl hq hq2
end Go.Proofs.Ytjddabggoaffaaa
