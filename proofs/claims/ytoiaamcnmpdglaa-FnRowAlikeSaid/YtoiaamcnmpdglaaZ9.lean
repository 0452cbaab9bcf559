/- Distances of the program: distTo, DistOf. -/
import Derived.Test.YtoiaamcnmpdglaaZ6
import Derived.Laws.StructEq
namespace Go.Proofs.Ytoiaamcnmpdglaa
open Go.RowKit
set_option maxRecDepth 8000
set_option linter.unusedSimpArgs false

/-- Two arrays of eight numbers held against each other. -/
theorem eqArr (p0 p1 p2 p3 p4 p5 p6 p7 q0 q1 q2 q3 q4 q5 q6 q7 : Int) (w : World) : (Op.equalIn 10000 114 (.agg #[.int .i64 p0, .int .i64 p1, .int .i64 p2, .int .i64 p3, .int .i64 p4, .int .i64 p5, .int .i64 p6, .int .i64 p7]) (.agg #[.int .i64 q0, .int .i64 q1, .int .i64 q2, .int .i64 q3, .int .i64 q4, .int .i64 q5, .int .i64 q6, .int .i64 q7])).run Try.prog w = .ok (((p0 == q0) && ((p1 == q1) && ((p2 == q2) && ((p3 == q3) && ((p4 == q4) && ((p5 == q5) && ((p6 == q6) && (p7 == q7))))))))) w := by
  have u3 := Try.underlying2
  have k3 := Try.isAgg2
  have z3 := Try.sizeOf2
  rw [show (10000 : Nat) = 9999 + 1 from rfl, Op.equalIn]
  simp only [Sem.run_bind, run_underlying Try.underlying114, Result.andThen_ok]
  simp only [Std.Legacy.Range.forIn_eq_forIn_range', Std.Legacy.Range.size, Nat.sub_zero, Nat.add_sub_cancel, Nat.div_one, List.range'_succ, List.range'_zero, List.forIn_cons, List.forIn_nil]
  go_simp
  by_cases h0 : p0 = q0
  case neg => simp [h0]
  by_cases h1 : p1 = q1
  case neg => simp [h0, h1]
  by_cases h2 : p2 = q2
  case neg => simp [h0, h1, h2]
  by_cases h3 : p3 = q3
  case neg => simp [h0, h1, h2, h3]
  by_cases h4 : p4 = q4
  case neg => simp [h0, h1, h2, h3, h4]
  by_cases h5 : p5 = q5
  case neg => simp [h0, h1, h2, h3, h4, h5]
  by_cases h6 : p6 = q6
  case neg => simp [h0, h1, h2, h3, h4, h5, h6]
  by_cases h7 : p7 = q7
  case neg => simp [h0, h1, h2, h3, h4, h5, h6, h7]
  simp [h0, h1, h2, h3, h4, h5, h6, h7]

theorem idx8 (xs : List Int) (k : Nat) (hk : k < 8) (w : World) : (Instr.index 114 (.agg #[.int .i64 (nth xs 0), .int .i64 (nth xs 1), .int .i64 (nth xs 2), .int .i64 (nth xs 3), .int .i64 (nth xs 4), .int .i64 (nth xs 5), .int .i64 (nth xs 6), .int .i64 (nth xs 7)]) (.int .i64 k)).run Try.prog w = .ok (.int .i64 (nth xs k)) w := by
  rcases (show k = 0 ∨ k = 1 ∨ k = 2 ∨ k = 3 ∨ k = 4 ∨ k = 5 ∨ k = 6 ∨ k = 7 by omega) with rfl | rfl | rfl | rfl | rfl | rfl | rfl | rfl <;> kernel_rfl

theorem get9 (ys : List Int) (n : Int) (k : Nat) (hk : k < 8) (h : k < ([.int .i64 (nth ys 0), .int .i64 (nth ys 1), .int .i64 (nth ys 2), .int .i64 (nth ys 3), .int .i64 (nth ys 4), .int .i64 (nth ys 5), .int .i64 (nth ys 6), .int .i64 (nth ys 7), .int .i64 n] : List Value).length) : ([.int .i64 (nth ys 0), .int .i64 (nth ys 1), .int .i64 (nth ys 2), .int .i64 (nth ys 3), .int .i64 (nth ys 4), .int .i64 (nth ys 5), .int .i64 (nth ys 6), .int .i64 (nth ys 7), .int .i64 n] : List Value)[k]'h = .int .i64 (nth ys k) := by
  rcases (show k = 0 ∨ k = 1 ∨ k = 2 ∨ k = 3 ∨ k = 4 ∨ k = 5 ∨ k = 6 ∨ k = 7 by omega) with rfl | rfl | rfl | rfl | rfl | rfl | rfl | rfl <;> rfl

theorem dsum_eq {xs ys : List Int} (h : ∀ j, j < 8 → nth xs j = nth ys j) : ∀ k, k ≤ 8 → dsum xs ys k = 0
  | 0, _ => rfl
  | k + 1, hk => by simp [dsum, dsum_eq h k (by omega), h k (by omega)]



theorem comp8 {xs : List Int} {n : Nat} (h : vecOkB xs = true) (hl : xs.length = n) : ∀ j, j < 8 → compB (nth xs j) = true := by
  intro j hj
  obtain ⟨_, _, hc⟩ := vecOk_all h hl
  by_cases hjn : j < n
  · exact hc j hjn
  · rw [nth_past (by omega)]; rfl

theorem dsum_past {xs ys : List Int} {n : Nat} (hx : xs.length = n) (hy : ys.length = n) : ∀ k, dsum xs ys (n + k) = dsum xs ys n
  | 0 => rfl
  | k + 1 => by
    have h1 : nth xs (n + k) = 0 := nth_past (by omega)
    have h2 : nth ys (n + k) = 0 := nth_past (by omega)
    have e : dsum xs ys (n + (k + 1)) = dsum xs ys (n + k) + (nth xs (n + k) - nth ys (n + k)) * (nth xs (n + k) - nth ys (n + k)) := rfl
    rw [e, dsum_past hx hy k, h1, h2]
    simp

end Go.Proofs.Ytoiaamcnmpdglaa