/- The law FnDist: its plain facts, and its walk. -/
import Derived.Test.YtppdlbhmhjheiaaDE
import Derived.Test.YtppdlbhmhjheiaaDP
import Derived.Test.YtppdlbhmhjheiaaVG
import Derived.Test.YtppdlbhmhjheiaaVS
import Derived.OpenShut
namespace Go.Proofs.Ytppdlbhmhjheiaa
open Go.RowKit
set_option linter.unusedSimpArgs false
set_option linter.unusedVariables false

theorem dsum_comm (xs ys : List Int) : ∀ k, dsum xs ys k = dsum ys xs k
  | 0 => rfl
  | k + 1 => by
    have h : (nth xs k - nth ys k) * (nth xs k - nth ys k) = (nth ys k - nth xs k) * (nth ys k - nth xs k) := by
      rw [← Int.neg_mul_neg]; congr 1 <;> omega
    simp only [dsum, dsum_comm xs ys k, h]
theorem pairB_comm (xs ys : List Int) : pairB xs ys = pairB ys xs := by
  unfold pairB
  rw [Bool.and_comm (vecOkB xs)]
  congr 1
  exact decide_eq_decide.2 eq_comm
theorem distL_comm (xs ys : List Int) : distL xs ys = distL ys xs := by
  unfold distL
  rw [pairB_comm]
  cases h : pairB ys xs
  · rfl
  · have hl : ys.length = xs.length := by unfold pairB at h; simp only [Bool.and_eq_true, decide_eq_true_eq] at h; exact h.2
    simp only [if_true]
    rw [dsum_comm, hl]
theorem sq_zero {d : Int} (h : d * d = 0) : d = 0 := by
  rcases Int.mul_eq_zero.1 h with h | h <;> exact h
theorem dsum_zero {xs ys : List Int} {n : Nat} (hx : ∀ j, j < n → compB (nth xs j) = true) (hy : ∀ j, j < n → compB (nth ys j) = true) : ∀ k, k ≤ n → dsum xs ys k = 0 → ∀ j, j < k → nth xs j = nth ys j
  | 0, _, _ => fun j hj => absurd hj (by omega)
  | k + 1, hk, h => by
    have b0 := (dsum_bd hx hy k (by omega)).1
    have b1 := (sq_bd (hx k (by omega)) (hy k (by omega))).1
    simp only [dsum] at h
    have h1 : dsum xs ys k = 0 := by omega
    have h2 : (nth xs k - nth ys k) * (nth xs k - nth ys k) = 0 := by omega
    have h3 := sq_zero h2
    intro j hj
    rcases Nat.lt_succ_iff_lt_or_eq.1 hj with g | g
    · exact dsum_zero hx hy k (by omega) h1 j g
    · subst g; omega
theorem pairB_parts {xs ys : List Int} (h : pairB xs ys = true) : vecOkB xs = true ∧ vecOkB ys = true ∧ xs.length = ys.length := by
  unfold pairB at h
  simp only [Bool.and_eq_true, decide_eq_true_eq] at h
  exact ⟨h.1.1, h.1.2, h.2⟩
theorem distL_bd {xs ys : List Int} (h : pairB xs ys = true) : 0 ≤ distL xs ys ∧ distL xs ys ≤ 35184372088832 := by
  obtain ⟨hx, hy, hl⟩ := pairB_parts h
  obtain ⟨n1, n8, hc⟩ := vecOk_all hx rfl
  obtain ⟨_, _, hc'⟩ := vecOk_all hy hl.symm
  have := dsum_bd hc hc' xs.length (Nat.le_refl _)
  unfold distL
  rw [h, if_pos rfl]
  omega
theorem dsum_same (xs : List Int) : ∀ k, dsum xs xs k = 0
  | 0 => rfl
  | k + 1 => by simp [dsum, dsum_same xs k]
theorem distL_zero {xs ys : List Int} (h : pairB xs ys = true) : (distL xs ys == 0) = decide (xs = ys) := by
  obtain ⟨hx, hy, hl⟩ := pairB_parts h
  obtain ⟨n1, n8, hc⟩ := vecOk_all hx rfl
  obtain ⟨_, _, hc'⟩ := vecOk_all hy hl.symm
  unfold distL
  rw [h, if_pos rfl]
  by_cases e : xs = ys
  · subst e
    rw [decide_eq_true rfl, dsum_same]; rfl
  · rw [decide_eq_false e]
    rw [beq_eq_false_iff_ne]
    intro h0
    exact e (nth_ext hl (dsum_zero hc hc' xs.length (Nat.le_refl _) h0))

set_option maxHeartbeats 2000000 in
theorem dist_walk (a : Option Addr) (n cap : Nat) (zs : List Int) (w : World) (h : IsRow .u8 w a n cap zs) :
    Calls Try.prog 3 #[.slice a n cap] w fun e w' => e = .returned (.bool true) ∧ Below w.heap.size w w' := by
  have BG := hide (big_any a n cap w)
  by_cases hn : n ≤ 1048576
  · rw [decide_eq_false (show ¬ 1048576 < n by omega)] at BG
    have hcode := h.code hn
    have DR := hide (drawDistOf_any a n cap w hcode)
    clear h hcode
    go_enter Try.func3, Try.ntmps3
    go_wp2_with fail
    refine BG.out.mono ?_
    rintro e w' ⟨rfl, hw⟩
    obtain rfl := hw.symm
    clear BG hw
    go_wp2_with fail
    refine DR.out.mono ?_
    rintro e w1 ⟨a1, n1, c1, xs, a2, n2, c2, ys, rfl, r1, r2, h1, h2, hb1⟩
    clear DR
    obtain ⟨q, hq⟩ : ∃ q, distL xs ys = q := ⟨_, rfl⟩
    have I := hide (fun w (r1 : Row w a1 n1 xs) (r2 : Row w a2 n2 ys) => iDistOf_any a1 a2 n1 c1 n2 c2 xs ys w r1 r2 (by omega) (by omega))
    have S := hide (fun w (r1 : Row w a1 n1 xs) (r2 : Row w a2 n2 ys) => sDistOf_any a1 a2 n1 c1 n2 c2 xs ys w r1 r2 (by omega) (by omega))
    have I' := hide (fun w (r1 : Row w a1 n1 xs) (r2 : Row w a2 n2 ys) => iDistOf_any a2 a1 n2 c2 n1 c1 ys xs w r2 r1 (by omega) (by omega))
    rw [hq] at I S
    rw [distL_comm ys xs, hq] at I'
    have hqq : (q != q) = false := by simp
    have hqe : (q == q) = true := by simp
    have HQ := hide hq
    have R1 := hide r1
    have R2 := hide r2
    clear r1 r2 hq
    cases hp : pairB xs ys
    · have hq1 : q = -1 := by rw [← HQ.out]; unfold distL; rw [hp]; rfl
      have V := hide (fun w (r1 : Row w a1 n1 xs) => iVecOk_any a1 n1 c1 xs w r1 (by omega))
      have V' := hide (fun w (r1 : Row w a1 n1 xs) => sVecOk_any a1 n1 c1 xs w r1 (by omega))
      have hvv : (vecOkB xs == vecOkB xs) = true := by simp
      have hq0 : q < 0 := by omega
      clear hp hq1
      go_wp2_with fail
      refine (I.out _ R1.out R2.out).mono ?_
      rintro e w2 ⟨rfl, hb2⟩
      go_wp2_with fail
      refine (S.out _ (R1.out.below hb2) (R2.out.below hb2)).mono ?_
      rintro e w3 ⟨rfl, hb3⟩
      go_wp2_with fail
      refine (S.out _ ((R1.out.below hb2).below hb3) ((R2.out.below hb2).below hb3)).mono ?_
      rintro e w4 ⟨rfl, hb4⟩
      go_wp2_with fail
      refine (V.out _ (((R1.out.below hb2).below hb3).below hb4)).mono ?_
      rintro e w5 ⟨rfl, hb5⟩
      go_wp2_with fail
      refine (V'.out _ ((((R1.out.below hb2).below hb3).below hb4).below hb5)).mono ?_
      rintro e w6 ⟨rfl, rfl⟩
      go_wp2
      go_ret
      exact ⟨rfl, (by repeat' first | with_reducible exact Below.refl _ _ | with_reducible assumption | with_reducible refine below_drewN ?_ _ | with_reducible refine balloc ?_ _ | with_reducible refine Below.drew ?_ | with_reducible refine Below.setCell ?_ (by first | (simp; done) | (simp; omega) | omega) _ | with_reducible refine bstep ?_ (by assumption))⟩
    · obtain ⟨q0, q1⟩ := distL_bd hp
      have hz := distL_zero hp
      rw [HQ.out] at q0 q1 hz
      obtain ⟨hx, _, _⟩ := pairB_parts hp
      have hself : distL xs xs = 0 := by
        unfold distL pairB
        rw [hx, decide_eq_true rfl]
        exact dsum_same xs _
      have IS := hide (fun w (r1 : Row w a1 n1 xs) => iDistOf_any a1 a1 n1 c1 n1 c1 xs xs w r1 r1 (by omega) (by omega))
      rw [hself] at IS
      have SM := hide (fun w (r1 : Row w a1 n1 xs) (r2 : Row w a2 n2 ys) => sameInts_any a1 a2 n1 c1 n2 c2 xs ys w r1 r2 (by omega))
      rw [← hz] at SM
      have hqz : ((q == 0) == (q == 0)) = true := by simp
      have hmx : decide (q ≤ 1125899906842624) = true := decide_eq_true (by omega)
      clear hp hz hx hself
      go_wp2_with fail
      refine (I.out _ R1.out R2.out).mono ?_
      rintro e w2 ⟨rfl, hb2⟩
      go_wp2_with fail
      refine (S.out _ (R1.out.below hb2) (R2.out.below hb2)).mono ?_
      rintro e w3 ⟨rfl, hb3⟩
      have R1 := hide ((R1.out.below hb2).below hb3)
      have R2 := hide ((R2.out.below hb2).below hb3)
      go_wp2_with fail
      refine (I'.out _ R1.out R2.out).mono ?_
      rintro e w4 ⟨rfl, hb4⟩
      go_wp2_with fail
      refine (SM.out _ (R1.out.below hb4) (R2.out.below hb4)).mono ?_
      rintro e w5 ⟨rfl, hb5⟩
      go_wp2_with fail
      refine (IS.out _ ((R1.out.below hb4).below hb5)).mono ?_
      rintro e w6 ⟨rfl, hb6⟩
      go_wp2
      go_ret
      exact ⟨rfl, (by repeat' first | with_reducible exact Below.refl _ _ | with_reducible assumption | with_reducible refine below_drewN ?_ _ | with_reducible refine balloc ?_ _ | with_reducible refine Below.drew ?_ | with_reducible refine Below.setCell ?_ (by first | (simp; done) | (simp; omega) | omega) _ | with_reducible refine bstep ?_ (by assumption))⟩
  · rw [decide_eq_true (show 1048576 < n by omega)] at BG
    go_enter Try.func3, Try.ntmps3
    go_wp2_with fail
    refine BG.out.mono ?_
    rintro e w' ⟨rfl, rfl⟩
    go_wp2
    go_ret
    exact ⟨rfl, (by repeat' first | with_reducible exact Below.refl _ _ | with_reducible assumption | with_reducible refine below_drewN ?_ _ | with_reducible refine balloc ?_ _ | with_reducible refine Below.drew ?_ | with_reducible refine Below.setCell ?_ (by first | (simp; done) | (simp; omega) | omega) _ | with_reducible refine bstep ?_ (by assumption))⟩
end Go.Proofs.Ytppdlbhmhjheiaa
