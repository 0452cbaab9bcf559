/- The walk of FnBounds. -/
import Derived.Test.YtnblahppkfbhdaaLP
import Derived.Test.YtnblahppkfbhdaaEA
import Derived.Test.YtnblahppkfbhdaaEB
namespace Go.Proofs.Ytnblahppkfbhdaa
open Go.RowKit
set_option linter.unusedSimpArgs false
set_option linter.unusedVariables false

theorem sq_le {l z : Int} (h0 : 0 ≤ l) (h : l ≤ z ∨ l ≤ -z) : l * l ≤ z * z := by
  rcases h with h | h
  · exact Int.mul_le_mul h h h0 (by omega)
  · rw [← Int.neg_mul_neg z z]; exact Int.mul_le_mul h h h0 (by omega)
theorem sq_ge {m z : Int} (h1 : z ≤ m) (h2 : -z ≤ m) : z * z ≤ m * m := by
  by_cases h : 0 ≤ z
  · exact Int.mul_le_mul h1 h1 h (by omega)
  · rw [← Int.neg_mul_neg z z]; exact Int.mul_le_mul h2 h2 (by omega) (by omega)
theorem least_le_dsum (n : Nat) (f g : Nat → Int) (vs qs : List Int) (h : ∀ j, j < n → f j ≤ nth vs j ∧ nth vs j ≤ g j) : leastN n f g qs ≤ dsum vs qs n := by
  unfold leastN
  induction n with
  | zero => simp [sumSq, dsum]
  | succ n ih =>
    have i := ih (fun j hj => h j (by omega))
    obtain ⟨h1, h2⟩ := h n (by omega)
    have s := sq_le (l := leastV (f n) (g n) (nth qs n)) (z := nth vs n - nth qs n) (by unfold leastV; omega) (by unfold leastV; omega)
    simp only [sumSq, dsum]
    omega
theorem dsum_le_most (n : Nat) (f g : Nat → Int) (vs qs : List Int) (h : ∀ j, j < n → f j ≤ nth vs j ∧ nth vs j ≤ g j) : dsum vs qs n ≤ mostN n f g qs := by
  unfold mostN
  induction n with
  | zero => simp [sumSq, dsum]
  | succ n ih =>
    have i := ih (fun j hj => h j (by omega))
    obtain ⟨h1, h2⟩ := h n (by omega)
    have s := sq_ge (m := mostV (f n) (g n) (nth qs n)) (z := nth vs n - nth qs n) (by unfold mostV; omega) (by unfold mostV; omega)
    simp only [sumSq, dsum]
    omega
theorem vecOk_between {n : Nat} {f g : Nat → Int} {vs : List Int} (hb : boxB n f g = true) (hl : vs.length = n) (h : ∀ j, j < n → f j ≤ nth vs j ∧ nth vs j ≤ g j) : vecOkB vs = true := by
  have hn := boxB_num' hb
  unfold vecOkB
  rw [hl, decide_eq_true hn, Bool.true_and]
  refine all_nth fun j hj => ?_
  have hr := boxB_at' hb (show j < n by omega)
  have := h j (by omega)
  simp only [rightB, compB, Bool.and_eq_true, decide_eq_true_eq] at hr ⊢
  omega
theorem hasN_between {n : Nat} {f g : Nat → Int} {vs : List Int} (hb : boxB n f g = true) (h : ∀ j, j < n → f j ≤ nth vs j ∧ nth vs j ≤ g j) : hasN n f g vs = true := by
  refine allN_yes fun j hj => ?_
  have := h j hj
  simp only [hasB, boxB_at' hb hj, Bool.true_and, inB, decide_eq_true_eq]
  exact this
theorem form_parts {n : Nat} {f g : Nat → Int} {m : Nat} {xs : List Int} (h : formB n f g m xs = true) : boxB n f g = true ∧ vecOkB xs = true ∧ n = m := by
  simp only [formB, Bool.and_eq_true, decide_eq_true_eq] at h
  exact ⟨h.1.1, h.1.2, h.2⟩

set_option maxHeartbeats 4000000 in
set_option maxRecDepth 4000 in
theorem bounds_walk (a : Option Addr) (n cap : Nat) (zs : List Int) (w : World) (h : IsRow .u8 w a n cap zs) :
    Calls Try.prog 3 #[.slice a n cap] w fun e w' => e = .returned (.bool true) ∧ Below w.heap.size w w' := by
  have BG := hide (big_any a n cap w)
  by_cases hn : n ≤ 1048576
  · rw [decide_eq_false (show ¬ 1048576 < n by omega)] at BG
    have hcode := h.code hn
    have DR := hide (drawLowOf_any a n cap w hcode)
    have HCO := hide hcode
    clear h hcode
    go_enter Try.func3, Try.ntmps3
    go_wp2_with fail
    refine BG.out.mono ?_
    rintro e w' ⟨rfl, hw⟩
    obtain rfl := hw.symm
    clear BG hw
    go_wp2_with fail
    refine DR.out.mono ?_
    rintro e w1 ⟨a1, n1, c1, f, g, a2, n2, c2, ys, rfl, r1, bd, r2, h1, h2, hb1⟩
    clear DR
    have R1 := hide r1
    have R2 := hide r2
    have LI := hide (fun w' (hb' : Below w1.heap.size w1 w') => iLowOf_any a1 a2 n1 c1 n2 c2 f g ys w' (R1.out.below hb') (R2.out.below hb') (by omega))
    have HI := hide (fun w' (hb' : Below w1.heap.size w1 w') => iHighOf_any a1 a2 n1 c1 n2 c2 f g ys w' (R1.out.below hb') (R2.out.below hb') (by omega))
    have LS := hide (fun w' (hb' : Below w1.heap.size w1 w') => sLowOf_any a1 a2 n1 c1 n2 c2 f g ys w' (R1.out.below hb') (R2.out.below hb') (by omega) (by omega))
    have HS := hide (fun w' (hb' : Below w1.heap.size w1 w') => sHighOf_any a1 a2 n1 c1 n2 c2 f g ys w' (R1.out.below hb') (R2.out.below hb') (by omega) (by omega))
    clear r1 r2 bd
    cases hF : formB n1 f g n2 ys
    · rw [hF] at LI HI LS HS
      simp only [Bool.false_eq_true, if_false] at LI HI LS HS
      clear hF
      go_wp2_with fail
      refine (LI.out _ (by repeat' first | with_reducible exact Below.refl _ _ | with_reducible assumption | with_reducible refine below_drewN ?_ _ | with_reducible refine balloc ?_ _ | with_reducible refine Below.drew ?_ | with_reducible refine Below.setCell ?_ (by first | (simp; done) | (simp; omega) | omega) _ | with_reducible refine bstep ?_ (by assumption))).mono ?_
      rintro e w2 ⟨rfl, hb2⟩
      go_wp2_with fail
      refine (HI.out _ hb2).mono ?_
      rintro e w3 ⟨rfl, hb3⟩
      have k3 := bstep hb2 hb3
      go_wp2_with fail
      refine (LS.out _ k3).mono ?_
      rintro e w4 ⟨rfl, hb4⟩
      have k4 := bstep k3 hb4
      go_wp2_with fail
      refine (HS.out _ k4).mono ?_
      rintro e w5 ⟨rfl, hb5⟩
      have k5 := bstep k4 hb5
      go_wp2_with fail
      refine (LS.out _ k5).mono ?_
      rintro e w6 ⟨rfl, hb6⟩
      have k6 := bstep k5 hb6
      go_wp2_with fail
      refine (HS.out _ k6).mono ?_
      rintro e w7 ⟨rfl, hb7⟩
      have k7 := bstep hb1 (bstep k6 hb7)
      go_wp2_with fail
      go_ret
      exact ⟨rfl, k7⟩
    · rw [hF] at LI HI LS HS
      simp only [if_true] at LI HI LS HS
      obtain ⟨hbx, hvx, hnm⟩ := form_parts hF
      have HBX := hide hbx
      have HVX := hide hvx
      have HNM := hide hnm
      have l2 := R2.out.len
      have hl0 : 0 ≤ leastN n1 f g ys := (sumSq_bounds _ n1 (fun i hi => least_bounds (boxB_at' hbx hi) (vecOkB_at hvx (by omega))) n1 (Nat.le_refl _)).1
      have LL2 := hide l2
      have KL := hide (fun vs hv => least_le_dsum n1 f g vs ys hv)
      have KM := hide (fun vs hv => dsum_le_most n1 f g vs ys hv)
      have IN := hide (fun w' (hb' : Below w1.heap.size w1 w') => inside_any a1 n1 c1 f g a n cap w' (R1.out.below hb') hbx ((HCO.out.below hb1).below hb'))
      clear hbx hvx hnm hF l2
      obtain ⟨lo, hlo⟩ : ∃ lo, leastN n1 f g ys = lo := ⟨_, rfl⟩
      obtain ⟨hi', hhi⟩ : ∃ hi', mostN n1 f g ys = hi' := ⟨_, rfl⟩
      rw [hlo] at LI LS KL hl0
      rw [hhi] at HI HS KM
      clear hlo hhi
      have t1 : (lo != lo) = false := by simp
      have t2 : (hi' != hi') = false := by simp
      have t3 : ¬ lo < 0 := by omega
      go_wp2_with fail
      refine (LI.out _ (by repeat' first | with_reducible exact Below.refl _ _ | with_reducible assumption | with_reducible refine below_drewN ?_ _ | with_reducible refine balloc ?_ _ | with_reducible refine Below.drew ?_ | with_reducible refine Below.setCell ?_ (by first | (simp; done) | (simp; omega) | omega) _ | with_reducible refine bstep ?_ (by assumption))).mono ?_
      rintro e w2 ⟨rfl, hb2⟩
      go_wp2_with fail
      refine (HI.out _ hb2).mono ?_
      rintro e w3 ⟨rfl, hb3⟩
      have k3 := bstep hb2 hb3
      go_wp2_with fail
      refine (LS.out _ k3).mono ?_
      rintro e w4 ⟨rfl, hb4⟩
      have k4 := bstep k3 hb4
      go_wp2_with fail
      refine (HS.out _ k4).mono ?_
      rintro e w5 ⟨rfl, hb5⟩
      have k5 := bstep k4 hb5
      clear LI HI LS HS hb2 hb3 hb4 hb5 k3 k4
      go_wp2_with fail
      refine (IN.out _ k5).mono ?_
      rintro e w6 ⟨a6, c6, vs, rfl, r6, hv6, hb6⟩
      have k6 := bstep k5 hb6
      have hvo := vecOk_between HBX.out r6.len hv6
      have hps : pairB vs ys = true := by
        unfold pairB
        rw [hvo, HVX.out, decide_eq_true (by have := r6.len; have := LL2.out; have := HNM.out; omega)]; rfl
      have DI := hide (iDistOf_any a6 a2 n1 c6 n2 c2 vs ys w6 r6 (R2.out.below k6) (by omega) (by omega))
      have hdv : distL vs ys = dsum vs ys n1 := by unfold distL; rw [hps, if_pos rfl, r6.len]
      have kl := KL.out vs hv6
      have km := KM.out vs hv6
      rw [hdv] at DI
      have HA := hide (fun w' (hb' : Below w6.heap.size w6 w') => iBoxHas_any a1 a6 n1 c1 n1 c6 f g vs w' ((R1.out.below k6).below hb') (r6.below hb') (by omega))
      rw [show boxHasB n1 f g n1 vs = true from by unfold boxHasB formB; rw [HBX.out, hvo, hasN_between HBX.out hv6, decide_eq_true rfl]; rfl] at HA
      generalize dsum vs ys n1 = dd at DI kl km
      clear hps hdv hvo hv6 r6 KL KM IN
      go_wp2_with fail
      refine DI.out.mono ?_
      rintro e w7 ⟨rfl, hb7⟩
      go_wp2_with fail
      refine (HA.out _ hb7).mono ?_
      rintro e w8 ⟨rfl, hb8⟩
      have k8 := bstep hb1 (bstep k6 (bstep hb7 hb8))
      go_wp2_with fail
      go_ret
      exact ⟨rfl, k8⟩
  · rw [decide_eq_true (show 1048576 < n by omega)] at BG
    go_enter Try.func3, Try.ntmps3
    go_wp2_with fail
    refine BG.out.mono ?_
    rintro e w' ⟨rfl, rfl⟩
    go_wp2
    go_ret
    exact ⟨rfl, (by repeat' first | with_reducible exact Below.refl _ _ | with_reducible assumption | with_reducible refine below_drewN ?_ _ | with_reducible refine balloc ?_ _ | with_reducible refine Below.drew ?_ | with_reducible refine Below.setCell ?_ (by first | (simp; done) | (simp; omega) | omega) _ | with_reducible refine bstep ?_ (by assumption))⟩
end Go.Proofs.Ytnblahppkfbhdaa
