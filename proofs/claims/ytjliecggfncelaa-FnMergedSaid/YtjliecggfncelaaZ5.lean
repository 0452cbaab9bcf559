/- Distances of the program: distTo, DistOf. -/
import Derived.Test.YtjliecggfncelaaZ3
import Derived.Laws.StructEq
namespace Go.Proofs.Ytjliecggfncelaa
open Go.RowKit
set_option maxRecDepth 8000
set_option linter.unusedSimpArgs false

/-- Two arrays of eight numbers held against each other. -/
theorem eqArr (p0 p1 p2 p3 p4 p5 p6 p7 q0 q1 q2 q3 q4 q5 q6 q7 : Int) (w : World) : (Op.equalIn 10000 93 (.agg #[.int .i64 p0, .int .i64 p1, .int .i64 p2, .int .i64 p3, .int .i64 p4, .int .i64 p5, .int .i64 p6, .int .i64 p7]) (.agg #[.int .i64 q0, .int .i64 q1, .int .i64 q2, .int .i64 q3, .int .i64 q4, .int .i64 q5, .int .i64 q6, .int .i64 q7])).run Try.prog w = .ok (((p0 == q0) && ((p1 == q1) && ((p2 == q2) && ((p3 == q3) && ((p4 == q4) && ((p5 == q5) && ((p6 == q6) && (p7 == q7))))))))) w := by
  have u3 := Try.underlying2
  have k3 := Try.isAgg2
  have z3 := Try.sizeOf2
  rw [show (10000 : Nat) = 9999 + 1 from rfl, Op.equalIn]
  simp only [Sem.run_bind, run_underlying Try.underlying93, Result.andThen_ok]
  simp only [Std.Legacy.Range.forIn_eq_forIn_range', Std.Legacy.Range.size, Nat.sub_zero, Nat.add_sub_cancel, Nat.div_one, List.range'_succ, List.range'_zero, List.forIn_cons, List.forIn_nil]
  go_simp
  by_cases h0 : p0 = q0
  case neg => simp [h0]
  by_cases h1 : p1 = q1
  case neg => simp [h0, h1]
  by_cases h2 : p2 = q2
  case neg => simp [h0, h1, h2]
  by_cases h3 : p3 = q3
  case neg => simp [h0, h1, h2, h3]
  by_cases h4 : p4 = q4
  case neg => simp [h0, h1, h2, h3, h4]
  by_cases h5 : p5 = q5
  case neg => simp [h0, h1, h2, h3, h4, h5]
  by_cases h6 : p6 = q6
  case neg => simp [h0, h1, h2, h3, h4, h5, h6]
  by_cases h7 : p7 = q7
  case neg => simp [h0, h1, h2, h3, h4, h5, h6, h7]
  simp [h0, h1, h2, h3, h4, h5, h6, h7]

theorem idx8 (xs : List Int) (k : Nat) (hk : k < 8) (w : World) : (Instr.index 93 (.agg #[.int .i64 (nth xs 0), .int .i64 (nth xs 1), .int .i64 (nth xs 2), .int .i64 (nth xs 3), .int .i64 (nth xs 4), .int .i64 (nth xs 5), .int .i64 (nth xs 6), .int .i64 (nth xs 7)]) (.int .i64 k)).run Try.prog w = .ok (.int .i64 (nth xs k)) w := by
  rcases (show k = 0 ∨ k = 1 ∨ k = 2 ∨ k = 3 ∨ k = 4 ∨ k = 5 ∨ k = 6 ∨ k = 7 by omega) with rfl | rfl | rfl | rfl | rfl | rfl | rfl | rfl <;> kernel_rfl

theorem get9 (ys : List Int) (n : Int) (k : Nat) (hk : k < 8) (h : k < ([.int .i64 (nth ys 0), .int .i64 (nth ys 1), .int .i64 (nth ys 2), .int .i64 (nth ys 3), .int .i64 (nth ys 4), .int .i64 (nth ys 5), .int .i64 (nth ys 6), .int .i64 (nth ys 7), .int .i64 n] : List Value).length) : ([.int .i64 (nth ys 0), .int .i64 (nth ys 1), .int .i64 (nth ys 2), .int .i64 (nth ys 3), .int .i64 (nth ys 4), .int .i64 (nth ys 5), .int .i64 (nth ys 6), .int .i64 (nth ys 7), .int .i64 n] : List Value)[k]'h = .int .i64 (nth ys k) := by
  rcases (show k = 0 ∨ k = 1 ∨ k = 2 ∨ k = 3 ∨ k = 4 ∨ k = 5 ∨ k = 6 ∨ k = 7 by omega) with rfl | rfl | rfl | rfl | rfl | rfl | rfl | rfl <;> rfl

theorem dsum_eq {xs ys : List Int} (h : ∀ j, j < 8 → nth xs j = nth ys j) : ∀ k, k ≤ 8 → dsum xs ys k = 0
  | 0, _ => rfl
  | k + 1, hk => by simp [dsum, dsum_eq h k (by omega), h k (by omega)]

set_option maxHeartbeats 1000000 in
theorem distTo_any (xs ys : List Int) (n n' : Int) (w : World) (hx : ∀ j, j < 8 → compB (nth xs j) = true) (hy : ∀ j, j < 8 → compB (nth ys j) = true) :
    Calls Try.prog 74 #[.agg #[.int .i64 (nth xs 0), .int .i64 (nth xs 1), .int .i64 (nth xs 2), .int .i64 (nth xs 3), .int .i64 (nth xs 4), .int .i64 (nth xs 5), .int .i64 (nth xs 6), .int .i64 (nth xs 7), .int .i64 n], .agg #[.int .i64 (nth ys 0), .int .i64 (nth ys 1), .int .i64 (nth ys 2), .int .i64 (nth ys 3), .int .i64 (nth ys 4), .int .i64 (nth ys 5), .int .i64 (nth ys 6), .int .i64 (nth ys 7), .int .i64 n']] w fun e w' => e = .returned (.int .i64 (dsum xs ys 8)) ∧ Below w.heap.size w w' := by
  by_cases hq : ∀ j, j < 8 → nth xs j = nth ys j
  · have he := fun w => eqArr (nth xs 0) (nth xs 1) (nth xs 2) (nth xs 3) (nth xs 4) (nth xs 5) (nth xs 6) (nth xs 7) (nth ys 0) (nth ys 1) (nth ys 2) (nth ys 3) (nth ys 4) (nth ys 5) (nth ys 6) (nth ys 7) w
    have hf : ((nth xs 0 == nth ys 0) && ((nth xs 1 == nth ys 1) && ((nth xs 2 == nth ys 2) && ((nth xs 3 == nth ys 3) && ((nth xs 4 == nth ys 4) && ((nth xs 5 == nth ys 5) && ((nth xs 6 == nth ys 6) && (nth xs 7 == nth ys 7)))))))) = true := by simp [hq 0 (by omega), hq 1 (by omega), hq 2 (by omega), hq 3 (by omega), hq 4 (by omega), hq 5 (by omega), hq 6 (by omega), hq 7 (by omega)]
    rw [hf] at he
    clear hf
    rw [dsum_eq hq 8 (Nat.le_refl _)]
    have HX := hide hx
    have HY := hide hy
    have HQ := hide hq
    clear hx hy hq
    go_enter Try.func74, Try.ntmps74
    go_wp2
    go_ret
    exact ⟨rfl, (by repeat' first | with_reducible exact Below.refl _ _ | with_reducible assumption | with_reducible refine below_drewN ?_ _ | with_reducible refine balloc ?_ _ | with_reducible refine Below.drew ?_ | with_reducible refine Below.setCell ?_ (by first | (simp; done) | (simp; omega) | omega) _ | with_reducible refine bstep ?_ (by assumption))⟩
  · have he := fun w => eqArr (nth xs 0) (nth xs 1) (nth xs 2) (nth xs 3) (nth xs 4) (nth xs 5) (nth xs 6) (nth xs 7) (nth ys 0) (nth ys 1) (nth ys 2) (nth ys 3) (nth ys 4) (nth ys 5) (nth ys 6) (nth ys 7) w
    have hf : (((nth xs 0 == nth ys 0) && ((nth xs 1 == nth ys 1) && ((nth xs 2 == nth ys 2) && ((nth xs 3 == nth ys 3) && ((nth xs 4 == nth ys 4) && ((nth xs 5 == nth ys 5) && ((nth xs 6 == nth ys 6) && (nth xs 7 == nth ys 7))))))))) = false := by
      apply Bool.eq_false_iff.2
      intro h
      apply hq
      simp only [Bool.and_eq_true, beq_iff_eq] at h
      obtain ⟨h0, h1, h2, h3, h4, h5, h6, h7⟩ := h
      intro k hk
      rcases (show k = 0 ∨ k = 1 ∨ k = 2 ∨ k = 3 ∨ k = 4 ∨ k = 5 ∨ k = 6 ∨ k = 7 by omega) with rfl | rfl | rfl | rfl | rfl | rfl | rfl | rfl <;> assumption
    rw [hf] at he
    have HX := hide hx
    have HY := hide hy
    clear hx hy hq hf
    go_enter Try.func74, Try.ntmps74
    go_wp2
    go_loop [5, 6, 7, 8, 16] (fun s _ _ _ i => ∃ k : Nat, k ≤ 8 ∧ i = .int .i64 k ∧ s = .int .i64 (dsum xs ys k)) (fun _ _ _ _ i => 8 - (intOf i).toNat)
    case atStart => exact ⟨0, Nat.zero_le _, rfl, rfl⟩
    case round =>
      obtain ⟨k, hk, rfl, rfl⟩ := hrel
      by_cases hlt : k < 8
      · have hi := fun w => idx8 xs k hlt w
        have hg := get9 ys n' k hlt
        have bx := HX.out k hlt
        have byy := HY.out k hlt
        obtain ⟨p0, p1⟩ := sq_bd bx byy
        obtain ⟨s0, s1⟩ := dsum_bd HX.out HY.out k hk
        simp only [compB, decide_eq_true_eq] at bx byy
        obtain ⟨x0, x1⟩ := bx
        obtain ⟨y0, y1⟩ := byy
        go_wp2
        go_round
        case rel => exact ⟨k + 1, by omega, by go_num, rfl⟩
        case measure => simp [intOf]; omega
      · have hkn : k = 8 := by omega
        subst hkn
        go_wp2
        go_ret
        exact ⟨rfl, (by repeat' first | with_reducible exact Below.refl _ _ | with_reducible assumption | with_reducible refine below_drewN ?_ _ | with_reducible refine balloc ?_ _ | with_reducible refine Below.drew ?_ | with_reducible refine Below.setCell ?_ (by first | (simp; done) | (simp; omega) | omega) _ | with_reducible refine bstep ?_ (by assumption))⟩

theorem comp8 {xs : List Int} {n : Nat} (h : vecOkB xs = true) (hl : xs.length = n) : ∀ j, j < 8 → compB (nth xs j) = true := by
  intro j hj
  obtain ⟨_, _, hc⟩ := vecOk_all h hl
  by_cases hjn : j < n
  · exact hc j hjn
  · rw [nth_past (by omega)]; rfl

theorem dsum_past {xs ys : List Int} {n : Nat} (hx : xs.length = n) (hy : ys.length = n) : ∀ k, dsum xs ys (n + k) = dsum xs ys n
  | 0 => rfl
  | k + 1 => by
    have h1 : nth xs (n + k) = 0 := nth_past (by omega)
    have h2 : nth ys (n + k) = 0 := nth_past (by omega)
    have e : dsum xs ys (n + (k + 1)) = dsum xs ys (n + k) + (nth xs (n + k) - nth ys (n + k)) * (nth xs (n + k) - nth ys (n + k)) := rfl
    rw [e, dsum_past hx hy k, h1, h2]
    simp

set_option maxHeartbeats 2000000 in
theorem iDistOf_any (a a' : Option Addr) (n cap n' cap' : Nat) (xs ys : List Int) (w : World) (h : Row w a n xs) (h' : Row w a' n' ys) (hn : n ≤ 1048576) (hn' : n' ≤ 1048576) :
    Calls Try.prog 67 #[.slice a n cap, .slice a' n' cap'] w fun e w' => e = .returned (.int .i64 (distL xs ys)) ∧ Below w.heap.size w w' := by
  have H := vectorsOf_any a a' n cap n' cap' xs ys w h h' hn hn'
  unfold distL
  cases hp : pairB xs ys
  · rw [hp] at H
    simp only [Bool.false_eq_true, if_false, vecV] at H ⊢
    have K := hide H
    clear H h h'
    go_enter Try.func67, Try.ntmps67
    go_wp2_with fail
    refine K.out.mono ?_
    rintro e w1 ⟨rfl, hb⟩
    go_wp2
    go_ret
    exact ⟨rfl, (by repeat' first | with_reducible exact Below.refl _ _ | with_reducible assumption | with_reducible refine below_drewN ?_ _ | with_reducible refine balloc ?_ _ | with_reducible refine Below.drew ?_ | with_reducible refine Below.setCell ?_ (by first | (simp; done) | (simp; omega) | omega) _ | with_reducible refine bstep ?_ (by assumption))⟩
  · rw [hp] at H
    have hx : vecOkB xs = true := by unfold pairB at hp; simp only [Bool.and_eq_true] at hp; exact hp.1.1
    have hy : vecOkB ys = true := by unfold pairB at hp; simp only [Bool.and_eq_true] at hp; exact hp.1.2
    have hl : xs.length = ys.length := by unfold pairB at hp; simp only [Bool.and_eq_true, decide_eq_true_eq] at hp; exact hp.2
    have hd : dsum xs ys xs.length = dsum xs ys 8 := by
      have h8 := (vecOk_all hx rfl).2.1
      have := dsum_past (xs := xs) (ys := ys) rfl hl.symm (8 - xs.length)
      rw [show xs.length + (8 - xs.length) = 8 by omega] at this
      exact this.symm
    have D := hide (fun w => distTo_any xs ys n n' w (comp8 hx rfl) (comp8 hy rfl))
    simp only [if_true, vecV] at H ⊢
    rw [hd]
    have K := hide H
    clear H h h' hd hl hx hy hp
    go_enter Try.func67, Try.ntmps67
    go_wp2_with fail
    refine K.out.mono ?_
    rintro e w1 ⟨rfl, hb⟩
    go_wp2_with fail
    refine (D.out _).mono ?_
    rintro e w2 ⟨rfl, hb2⟩
    go_wp2
    go_ret
    exact ⟨rfl, (by repeat' first | with_reducible exact Below.refl _ _ | with_reducible assumption | with_reducible refine below_drewN ?_ _ | with_reducible refine balloc ?_ _ | with_reducible refine Below.drew ?_ | with_reducible refine Below.setCell ?_ (by first | (simp; done) | (simp; omega) | omega) _ | with_reducible refine bstep ?_ (by assumption))⟩
end Go.Proofs.Ytjliecggfncelaa
