/- Bounds of the model: the ends. -/
import Derived.Test.YtnblahppkfbhdaaBI
import Derived.Deep.DeepCutAuto
namespace Go.Proofs.Ytnblahppkfbhdaa
open Go.RowKit
set_option linter.unusedSimpArgs false
set_option linter.unusedVariables false

set_option maxHeartbeats 4000000 in
theorem l4Ends_some (b off n cap b' off' cap' : Nat) (f g : Nat → Int) (xs : List Int) (w : World) (h8 : n ≤ 8) (hb : b < w.heap.size) (hb' : b' < w.heap.size)
    (hr : ∀ i, i < n → rightB (f i) (g i) = true) (hx : ∀ i, i < n → compB (nth xs i) = true)
    (hc : ∀ i, i < n → w.cell? ⟨b, off + i * 2, none⟩ = some (.int .i64 (f i)) ∧ w.cell? ⟨b, off + i * 2 + 1, none⟩ = some (.int .i64 (g i)))
    (hc' : ∀ i, i < n → w.cell? ⟨b', off' + i, none⟩ = some (.int .i64 (nth xs i))) :
    Calls Try.prog 42 #[.slice (some ⟨b, off, none⟩) n cap, .slice (some ⟨b', off', none⟩) n cap'] w fun e w' => e = .returned (.tuple #[.int .i64 (leastN n f g xs), .int .i64 (mostN n f g xs)]) ∧ Below w.heap.size w w' := by
  have SL := hide (sumSq_bounds (fun i => leastV (f i) (g i) (nth xs i)) n (fun i hi => least_bounds (hr i hi) (hx i hi)))
  have SM := hide (sumSq_bounds (fun i => mostV (f i) (g i) (nth xs i)) n (fun i hi => most_bounds (hr i hi) (hx i hi)))
  have HR := hide hr
  have HX := hide hx
  have HC := hide hc
  have HC' := hide hc'
  clear hc hc' hr hx
  go_enter Try.func42, Try.ntmps42
  go_wp2_with fail
  go_loopw [6, 7, 8] (fun s t i wr => ∃ k : Nat, k ≤ n ∧ i = .int .i64 k ∧ s = .int .i64 (sumSq (fun i => leastV (f i) (g i) (nth xs i)) k) ∧ t = .int .i64 (sumSq (fun i => mostV (f i) (g i) (nth xs i)) k) ∧ Below w.heap.size w wr) (fun _ _ i _ => n - (intOf i).toNat)
  case atStart => exact ⟨0, Nat.zero_le _, rfl, rfl, rfl, (by repeat' first | with_reducible exact Below.refl _ _ | with_reducible assumption | with_reducible refine below_drewN ?_ _ | with_reducible refine balloc ?_ _ | with_reducible refine Below.drew ?_ | with_reducible refine Below.setCell ?_ (by first | (simp; done) | (simp; omega) | omega) _ | with_reducible refine bstep ?_ (by assumption))⟩
  case round =>
    obtain ⟨k, hk, rfl, rfl, rfl, hbel⟩ := hrel
    by_cases hlt : k < n
    · have b1 := SL.out k hk
      have b2 := SM.out k hk
      have b3 := sq_bounds (least_bounds (HR.out k hlt) (HX.out k hlt)).1 (least_bounds (HR.out k hlt) (HX.out k hlt)).2
      have b4 := sq_bounds (most_bounds (HR.out k hlt) (HX.out k hlt)).1 (most_bounds (HR.out k hlt) (HX.out k hlt)).2
      have b5 : ((k : Nat) : Int) * 17592186044416 ≤ 8 * 17592186044416 := by omega
      have hs : sumSq (fun i => leastV (f i) (g i) (nth xs i)) (k + 1) = sumSq (fun i => leastV (f i) (g i) (nth xs i)) k + leastV (f k) (g k) (nth xs k) * leastV (f k) (g k) (nth xs k) := rfl
      have ht : sumSq (fun i => mostV (f i) (g i) (nth xs i)) (k + 1) = sumSq (fun i => mostV (f i) (g i) (nth xs i)) k + mostV (f k) (g k) (nth xs k) * mostV (f k) (g k) (nth xs k) := rfl
      have z1 : wr.cell? ⟨b, off + k * 2, none⟩ = some (.int .i64 (f k)) := (hbel.cell (p := ⟨b, off + k * 2, none⟩) hb).trans (HC.out k hlt).1
      have z2 : wr.cell? ⟨b, off + k * 2 + 1, none⟩ = some (.int .i64 (g k)) := (hbel.cell (p := ⟨b, off + k * 2 + 1, none⟩) hb).trans (HC.out k hlt).2
      have z3 : wr.cell? ⟨b', off' + k, none⟩ = some (.int .i64 (nth xs k)) := (hbel.cell (p := ⟨b', off' + k, none⟩) hb').trans (HC'.out k hlt)
      have hr := HR.out k hlt
      have hx := HX.out k hlt
      simp only [rightB, compB, Bool.and_eq_true, decide_eq_true_eq] at hr hx
      have HB := hide hbel
      have hlt' : (k : Int) < (n : Int) := by omega
      clear hbel
      generalize sumSq (fun i => leastV (f i) (g i) (nth xs i)) k = s0 at b1 hs ⊢
      generalize sumSq (fun i => mostV (f i) (g i) (nth xs i)) k = t0 at b2 ht ⊢
      obtain ⟨v, hv⟩ : ∃ v, leastV (f k) (g k) (nth xs k) = v := ⟨_, rfl⟩
      obtain ⟨u, hu⟩ : ∃ u, mostV (f k) (g k) (nth xs k) = u := ⟨_, rfl⟩
      rw [hv] at b3 hs
      rw [hu] at b4 ht
      generalize f k = lo at z1 hv hu hr
      generalize g k = hi at z2 hv hu hr
      generalize nth xs k = x at z3 hv hu hx
      have hD : (lo - x < x - hi ∧ ¬ x - hi < 0 ∧ v = x - hi) ∨ (¬ lo - x < x - hi ∧ ¬ lo - x < 0 ∧ v = lo - x) ∨ (lo - x < x - hi ∧ x - hi < 0 ∧ v = 0) ∨ (¬ lo - x < x - hi ∧ lo - x < 0 ∧ v = 0) := by
        unfold leastV at hv; omega
      have hE : (x - lo < hi - x ∧ u = hi - x) ∨ (¬ x - lo < hi - x ∧ u = x - lo) := by
        unfold mostV at hu; omega
      clear hv hu
      have f1 : IntKind.i64.wrap (lo - x) = lo - x := wrapIn _ (by omega) (by omega)
      have f2 : IntKind.i64.wrap (x - hi) = x - hi := wrapIn _ (by omega) (by omega)
      have f3 : IntKind.i64.wrap (x - lo) = x - lo := wrapIn _ (by omega) (by omega)
      have f4 : IntKind.i64.wrap (hi - x) = hi - x := wrapIn _ (by omega) (by omega)
      go_upto_region 6 with fail
      go_cut [9] from 11 to 68 (fun s wx => s = .int .i64 v ∧ wx = wr.drew)
      case first =>
        rcases hD with ⟨d1, d2, hd⟩ | ⟨d1, d2, hd⟩ | ⟨d1, d2, hd⟩ | ⟨d1, d2, hd⟩
        all_goals
          go_region_held3 (fun w' => w'.cell? ⟨b, off + k * 2, none⟩ = some (.int .i64 lo) ∧ w'.cell? ⟨b, off + k * 2 + 1, none⟩ = some (.int .i64 hi) ∧ w'.cell? ⟨b', off' + k, none⟩ = some (.int .i64 x)) (refine ⟨?_, ?_, ?_⟩ <;> first | assumption | (simp [go_sem]; done)) (fail)
          all_goals
            go_wp2_with fail
            go_meet
            exact ⟨by rw [hd], rfl⟩
      case rest =>
        obtain ⟨rfl, rfl⟩ := hcut
        clear hD
        go_upto_region 7 with fail
        go_cut [10] from 11 to 68 (fun s wx => s = .int .i64 u ∧ wx = wr.drew.drew)
        case first =>
          rcases hE with ⟨d1, hd⟩ | ⟨d1, hd⟩
          all_goals
            go_region_held3 (fun w' => w'.cell? ⟨b, off + k * 2, none⟩ = some (.int .i64 lo) ∧ w'.cell? ⟨b, off + k * 2 + 1, none⟩ = some (.int .i64 hi) ∧ w'.cell? ⟨b', off' + k, none⟩ = some (.int .i64 x)) (refine ⟨?_, ?_, ?_⟩ <;> first | assumption | (simp [go_sem]; done) | (simp [go_sem, *]; done)) (fail)
            all_goals
              go_wp2_with fail
              go_meet
              exact ⟨by rw [hd], rfl⟩
        case rest =>
          obtain ⟨rfl, rfl⟩ := hcut
          clear hE f1 f2 f3 f4 hr hx
          go_wp2_with fail
          go_roundw
          case rel =>
            have hbel := HB.out
            exact ⟨k + 1, by omega, by go_num, by rw [hs], by rw [ht], (by repeat' first | with_reducible exact Below.refl _ _ | with_reducible assumption | with_reducible refine below_drewN ?_ _ | with_reducible refine balloc ?_ _ | with_reducible refine Below.drew ?_ | with_reducible refine Below.setCell ?_ (by first | (simp; done) | (simp; omega) | omega) _ | with_reducible refine bstep ?_ (by assumption))⟩
          case measure => simp [intOf]; omega
    · obtain rfl : k = n := by omega
      have HB := hide hbel
      clear hbel
      go_wp2_with fail
      exact bodyPost_ret (v := .tuple #[.int .i64 (leastN k f g xs), .int .i64 (mostN k f g xs)]) (by simp [results, Try.results42, go_sem, leastN, mostN]) rfl ⟨rfl, HB.out⟩
end Go.Proofs.Ytnblahppkfbhdaa
