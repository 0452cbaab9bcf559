/- The walk of FnPoint. -/
import Derived.Test.YtnblahppkfbhdaaLA
import Derived.Test.YtnblahppkfbhdaaBK
import Derived.Test.YtnblahppkfbhdaaBM
import Derived.Deep.RegionHeldLaw
namespace Go.Proofs.Ytnblahppkfbhdaa
open Go.RowKit
set_option linter.unusedSimpArgs false
set_option linter.unusedVariables false

theorem sq_turn (x y : Int) : (y - x) * (y - x) = (x - y) * (x - y) := by
  rw [← Int.neg_mul_neg]; congr 1 <;> omega
theorem least_point (x y : Int) : leastV x x y * leastV x x y = (x - y) * (x - y) := by
  by_cases h : x ≤ y
  · rw [show leastV x x y = y - x from by unfold leastV; omega]; exact sq_turn x y
  · rw [show leastV x x y = x - y from by unfold leastV; omega]
theorem most_point (x y : Int) : mostV x x y * mostV x x y = (x - y) * (x - y) := by
  by_cases h : x ≤ y
  · rw [show mostV x x y = y - x from by unfold mostV; omega]; exact sq_turn x y
  · rw [show mostV x x y = x - y from by unfold mostV; omega]
theorem leastN_point (xs ys : List Int) (n : Nat) : leastN n (nth xs) (nth xs) ys = dsum xs ys n := by
  unfold leastN
  induction n with
  | zero => rfl
  | succ n ih => simp only [sumSq, dsum, ih, least_point]
theorem mostN_point (xs ys : List Int) (n : Nat) : mostN n (nth xs) (nth xs) ys = dsum xs ys n := by
  unfold mostN
  induction n with
  | zero => rfl
  | succ n ih => simp only [sumSq, dsum, ih, most_point]
theorem vec_num {xs : List Int} (h : vecOkB xs = true) : 1 ≤ xs.length ∧ xs.length ≤ 8 := by
  simp only [vecOkB, Bool.and_eq_true, decide_eq_true_eq] at h; exact h.1
theorem boxB_point {xs : List Int} (h : vecOkB xs = true) : boxB xs.length (nth xs) (nth xs) = true := by
  unfold boxB
  rw [decide_eq_true (vec_num h), Bool.true_and]
  refine allN_yes fun i hi => ?_
  have := vecOkB_at h hi
  simp [rightB, this]
theorem hasN_point {xs : List Int} (h : vecOkB xs = true) : hasN xs.length (nth xs) (nth xs) xs = true := by
  refine allN_yes fun i hi => ?_
  have := vecOkB_at h hi
  simp [hasB, rightB, this, inB]

set_option maxHeartbeats 4000000 in
set_option maxRecDepth 4000 in
theorem point_walk (a : Option Addr) (n cap : Nat) (zs : List Int) (w : World) (h : IsRow .u8 w a n cap zs) :
    Calls Try.prog 6 #[.slice a n cap] w fun e w' => e = .returned (.bool true) ∧ Below w.heap.size w w' := by
  obtain ⟨i0, hi, hz0, hz1, hz2⟩ := infoRange_parts
  have BG := hide (big_any a n cap w)
  by_cases hn : n ≤ 1048576
  · rw [decide_eq_false (show ¬ 1048576 < n by omega)] at BG
    have hcode := h.code hn
    have DR := hide (drawDistOf_any a n cap w hcode)
    clear h hcode
    go_enter Try.func6, Try.ntmps6
    go_wp2_with fail
    refine BG.out.mono ?_
    rintro e w' ⟨rfl, hw⟩
    obtain rfl := hw.symm
    clear BG hw
    go_wp2_with fail
    refine DR.out.mono ?_
    rintro e w1 ⟨a1, n1, c1, xs, a2, n2, c2, ys, rfl, r1, r2, h1, h2, hb1⟩
    clear DR
    obtain ⟨q, hq⟩ : ∃ q, distL xs ys = q := ⟨_, rfl⟩
    have I := hide (iDistOf_any a1 a2 n1 c1 n2 c2 xs ys w1 r1 r2 (by omega) (by omega))
    have S := hide (fun w (r1 : Row w a1 n1 xs) (r2 : Row w a2 n2 ys) => sDistOf_any a1 a2 n1 c1 n2 c2 xs ys w r1 r2 (by omega) (by omega))
    rw [hq] at I S
    have hqq : (q != q) = false := by simp
    have hqe : (q == q) = true := by simp
    have HQ := hide hq
    have R1 := hide r1
    have R2 := hide r2
    clear r1 r2 hq
    cases hp : pairB xs ys
    · have hq1 : q = -1 := by rw [← HQ.out]; unfold distL; rw [hp]; rfl
      have hq0 : q < 0 := by omega
      clear hp hq1
      go_wp2_with fail
      refine I.out.mono ?_
      rintro e w2 ⟨rfl, hb2⟩
      go_wp2_with fail
      refine (S.out _ (R1.out.below hb2) (R2.out.below hb2)).mono ?_
      rintro e w3 ⟨rfl, hb3⟩
      go_wp2_with fail
      refine (S.out _ ((R1.out.below hb2).below hb3) ((R2.out.below hb2).below hb3)).mono ?_
      rintro e w4 ⟨rfl, hb4⟩
      go_wp2_with fail
      go_ret
      exact ⟨rfl, (by repeat' first | with_reducible exact Below.refl _ _ | with_reducible assumption | with_reducible refine below_drewN ?_ _ | with_reducible refine balloc ?_ _ | with_reducible refine Below.drew ?_ | with_reducible refine Below.setCell ?_ (by first | (simp; done) | (simp; omega) | omega) _ | with_reducible refine bstep ?_ (by assumption))⟩
    · obtain ⟨hx, hy, hlen⟩ := pairB_parts hp
      have hq0 : ¬ q < 0 := by have := (distL_bd hp).1; rw [HQ.out] at this; omega
      have hqd : dsum xs ys n1 = q := by
        have := HQ.out
        unfold distL at this
        rw [hp, if_pos rfl] at this
        rw [← R1.out.len]; exact this
      have ll1 := R1.out.len
      have ll2 := R2.out.len
      have n1a : 1 ≤ n1 := by have := vec_num hx; omega
      have n1b : n1 ≤ 8 := by have := vec_num hx; omega
      have LL1 := hide ll1
      have LN := hide (show n1 = n2 by omega)
      have HX := hide hx
      have HY := hide hy
      have HD := hide hqd
      clear hp hx hy hlen ll1 ll2 hqd
      go_wp2_with fail
      refine I.out.mono ?_
      rintro e w2 ⟨rfl, hb2⟩
      go_wp2_with fail
      refine (S.out _ (R1.out.below hb2) (R2.out.below hb2)).mono ?_
      rintro e w3 ⟨rfl, hb3⟩
      have R1 := hide ((R1.out.below hb2).below hb3)
      have R2 := hide ((R2.out.below hb2).below hb3)
      have BW := hide (show Below w.heap.size w w3 from (by repeat' first | with_reducible exact Below.refl _ _ | with_reducible assumption | with_reducible refine below_drewN ?_ _ | with_reducible refine balloc ?_ _ | with_reducible refine Below.drew ?_ | with_reducible refine Below.setCell ?_ (by first | (simp; done) | (simp; omega) | omega) _ | with_reducible refine bstep ?_ (by assumption)))
      clear I S hb1 hb2 hb3
      obtain ⟨b, off, ea, hb, hc⟩ : ∃ b off, a1 = some ⟨b, off, none⟩ ∧ b < w3.heap.size ∧ ∀ i, i < n1 → w3.cell? ⟨b, off + i, none⟩ = some (.int .i64 (nth xs i)) := by
        rcases R1.out.lies with q | q
        · omega
        · exact q
      subst ea
      go_wp2_with fail
      go_loopw [6, 7] (fun v i wr => ∃ k : Nat, k ≤ n1 ∧ i = .int .i64 k ∧ wr.ownsRow w3.heap.size 33 2 v k (pvals (nth xs) (nth xs) k) ∧ Below w3.heap.size w3 wr) (fun _ i _ => n1 - (intOf i).toNat)
      case atStart => exact ⟨0, Nat.zero_le _, rfl, World.ownsRow_made w3 #[] 0 (Nat.le_refl _) (Nat.zero_le _) rfl, (by repeat' first | with_reducible exact Below.refl _ _ | with_reducible assumption | with_reducible refine below_drewN ?_ _ | with_reducible refine balloc ?_ _ | with_reducible refine Below.drew ?_ | with_reducible refine Below.setCell ?_ (by first | (simp; done) | (simp; omega) | omega) _ | with_reducible refine bstep ?_ (by assumption))⟩
      case round =>
        obtain ⟨k, hk, rfl, hown, hbel⟩ := hrel
        have HC := hide hc
        have HB := hide hbel
        by_cases hlt : k < n1
        · have z1 : wr.cell? ⟨b, off + k, none⟩ = some (.int .i64 (nth xs k)) := (hbel.cell (p := ⟨b, off + k, none⟩) hb).trans (hc k hlt)
          have hlt' : (k : Int) < (n1 : Int) := by omega
          have l1 : b < wr.heap.size := Nat.lt_of_lt_of_le hb hbel.size
          have sz := hbel.size
          have HO := hide hown
          clear hbel hc hown
          go_upto_region 11 with fail
          go_region_held_law (fun w' => w'.cell? ⟨b, off + k, none⟩ = some (.int .i64 (nth xs k))) (first | assumption | (simp [go_sem]; done) | (rw [World.cell?_alloc_past _ _ _ (by omega)]; assumption) | (show (World.alloc _ _).cell? _ = _; rw [World.cell?_alloc_past _ _ _ (by omega)]; assumption))
            ((refine step_append_lies _ rfl _ _ 24 rfl w3.heap.size 33 i0 _ 2 16 Try.underlying24 hi hz0 hz1 hz2 rfl (by decide) _ _ _ rfl (owns_drewP (HO.out.alloc _)) ⟨_, 0, none⟩ 1 1 [.int .i64 (nth xs k), .int .i64 (nth xs k)] rfl rfl (two_new _ _ _ _) (by intro u hu; simp at hu; subst hu; rfl) (by omega) (by unfold maxLen; omega) (by omega) (by simp; omega) _ rfl ?_; intro gg cc wq hown1 hgrow hat hglt; have HBq := hide (below_appP ((balloc HB.out _).drew) (by simp; omega) (owns_drewP (HO.out.alloc _)) hgrow); have t1 := (HBq.out.cell (p := ⟨b, off + k, none⟩) hb).trans (HC.out k hlt)))
          all_goals
            have HO1 := hide hown1
            clear hown1 hgrow hat
            go_wp2_with fail
            go_roundw
            case rel => exact ⟨k + 1, by omega, by go_num, HO1.out, HBq.out⟩
            case measure => simp [intOf]; omega
        · obtain rfl : k = n1 := by omega
          obtain ⟨a4, c4, hv4, hr4, _⟩ := prow_of_owns hown
          subst hv4
          have ll1 := LL1.out
          have hx := HX.out
          have hy := HY.out
          have hln := LN.out
          have hqd := HD.out
          have F1 : formB k (nth xs) (nth xs) n2 ys = true := by
            unfold formB
            rw [← ll1, boxB_point hx, hy, decide_eq_true (by omega)]; rfl
          have F2 : boxHasB k (nth xs) (nth xs) k xs = true := by
            unfold boxHasB formB
            rw [← ll1, boxB_point hx, hx, hasN_point hx, decide_eq_true rfl]; rfl
          have OK := hide (iBoxOk_any a4 k c4 (nth xs) (nth xs) wr hr4)
          rw [show boxB k (nth xs) (nth xs) = true from by rw [← ll1]; exact boxB_point hx] at OK
          have LO := hide (fun w' (hb' : Below wr.heap.size wr w') => iLowOf_any a4 a2 k c4 n2 c2 (nth xs) (nth xs) ys w' (hr4.below hb') ((R2.out.below HB.out).below hb') (by omega))
          have HI := hide (fun w' (hb' : Below wr.heap.size wr w') => iHighOf_any a4 a2 k c4 n2 c2 (nth xs) (nth xs) ys w' (hr4.below hb') ((R2.out.below HB.out).below hb') (by omega))
          have HA := hide (fun w' (hb' : Below wr.heap.size wr w') => iBoxHas_any a4 (some ⟨b, off, none⟩) k c4 k c1 (nth xs) (nth xs) xs w' (hr4.below hb') ((R1.out.below HB.out).below hb') (by omega))
          rw [F1, leastN_point, hqd] at LO
          rw [F1, mostN_point, hqd] at HI
          rw [F2] at HA
          simp only [if_true] at LO HI
          have hBw := BW.out
          clear hbel hc hown F1 F2 ll1 hx hy hln hqd
          go_wp2_with fail
          refine OK.out.mono ?_
          rintro e w5 ⟨rfl, hb5⟩
          go_wp2_with fail
          refine (LO.out _ hb5).mono ?_
          rintro e w6 ⟨rfl, hb6⟩
          have hb6' := bstep hb5 hb6
          go_wp2_with fail
          refine (HI.out _ hb6').mono ?_
          rintro e w7 ⟨rfl, hb7⟩
          have hb7' := bstep hb6' hb7
          go_wp2_with fail
          refine (HA.out _ hb7').mono ?_
          rintro e w8 ⟨rfl, hb8⟩
          have hbw := HB.out
          have hbel2 := bstep hBw (bstep hbw (bstep hb7' hb8))
          go_wp2_with fail
          go_ret
          exact ⟨rfl, hbel2⟩
  · rw [decide_eq_true (show 1048576 < n by omega)] at BG
    go_enter Try.func6, Try.ntmps6
    go_wp2_with fail
    refine BG.out.mono ?_
    rintro e w' ⟨rfl, rfl⟩
    go_wp2
    go_ret
    exact ⟨rfl, (by repeat' first | with_reducible exact Below.refl _ _ | with_reducible assumption | with_reducible refine below_drewN ?_ _ | with_reducible refine balloc ?_ _ | with_reducible refine Below.drew ?_ | with_reducible refine Below.setCell ?_ (by first | (simp; done) | (simp; omega) | omega) _ | with_reducible refine bstep ?_ (by assumption))⟩
end Go.Proofs.Ytnblahppkfbhdaa
