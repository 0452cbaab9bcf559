/- Bounds of the program: how far a number is from a range, at least and at most; the sums; LowOf, HighOf, BoxHas. -/
import Derived.Test.YtkjkdafbfcfhfaaBA
import Derived.Test.YtkjkdafbfcfhfaaVC
import Derived.Deep.RegionHeld3
namespace Go.Proofs.Ytkjkdafbfcfhfaa
open Go.RowKit
set_option linter.unusedSimpArgs false
set_option linter.unusedVariables false

def leastV (lo hi x : Int) : Int := max (max (lo - x) (x - hi)) 0
def mostV (lo hi x : Int) : Int := max (hi - x) (x - lo)
def sumSq (d : Nat → Int) : Nat → Int
  | 0 => 0
  | k + 1 => sumSq d k + d k * d k
theorem sq_bounds {x : Int} (h0 : 0 ≤ x) (h1 : x ≤ 4194304) : 0 ≤ x * x ∧ x * x ≤ 17592186044416 := by
  have a := Int.mul_nonneg h0 h0
  have b : x * x ≤ 4194304 * 4194304 := Int.mul_le_mul h1 h1 h0 (by omega)
  omega
theorem sumSq_bounds (d : Nat → Int) (n : Nat) (h : ∀ i, i < n → 0 ≤ d i ∧ d i ≤ 4194304) : ∀ k, k ≤ n → 0 ≤ sumSq d k ∧ sumSq d k ≤ k * 17592186044416 := by
  intro k
  induction k with
  | zero => intro _; simp [sumSq]
  | succ k ih =>
    intro hk
    have hi := ih (by omega)
    have hb := sq_bounds (h k (by omega)).1 (h k (by omega)).2
    simp only [sumSq]
    omega
theorem sumSq_congr {d e : Nat → Int} {n : Nat} (h : ∀ i, i < n → d i = e i) : sumSq d n = sumSq e n := by
  induction n with
  | zero => rfl
  | succ n ih => simp only [sumSq]; rw [ih (fun i hi => h i (by omega)), h n (by omega)]
theorem least_bounds {lo hi x : Int} (hr : rightB lo hi = true) (hx : compB x = true) : 0 ≤ leastV lo hi x ∧ leastV lo hi x ≤ 4194304 := by
  simp only [rightB, compB, Bool.and_eq_true, decide_eq_true_eq] at hr hx
  unfold leastV; omega
theorem most_bounds {lo hi x : Int} (hr : rightB lo hi = true) (hx : compB x = true) : 0 ≤ mostV lo hi x ∧ mostV lo hi x ≤ 4194304 := by
  simp only [rightB, compB, Bool.and_eq_true, decide_eq_true_eq] at hr hx
  unfold mostV; omega

set_option maxHeartbeats 1600000 in
theorem least_any (b off n cap b' off' cap' : Nat) (k : Nat) (lo hi x : Int) (w : World) (hlt : k < n) (h8 : n ≤ 8) (hb : b < w.heap.size) (hb' : b' < w.heap.size)
    (hr : rightB lo hi = true) (hx : compB x = true)
    (z1 : w.cell? ⟨b, off + k * 2, none⟩ = some (.int .i64 lo)) (z2 : w.cell? ⟨b, off + k * 2 + 1, none⟩ = some (.int .i64 hi)) (z3 : w.cell? ⟨b', off' + k, none⟩ = some (.int .i64 x)) :
    Calls Try.prog 33 #[.agg #[.slice (some ⟨b, off, none⟩) n cap, .slice (some ⟨b', off', none⟩) n cap'], .int .i64 (k : Int)] w fun e w' => e = .returned (.int .i64 (leastV lo hi x)) ∧ Below w.heap.size w w' := by
  simp only [rightB, compB, Bool.and_eq_true, decide_eq_true_eq] at hr hx
  obtain ⟨v, hv⟩ : ∃ v, leastV lo hi x = v := ⟨_, rfl⟩
  have hD : (lo - x < x - hi ∧ ¬ x - hi < 0 ∧ v = x - hi) ∨ (¬ lo - x < x - hi ∧ ¬ lo - x < 0 ∧ v = lo - x) ∨ (lo - x < x - hi ∧ x - hi < 0 ∧ v = 0) ∨ (¬ lo - x < x - hi ∧ lo - x < 0 ∧ v = 0) := by
    unfold leastV at hv; omega
  rw [hv]
  clear hv
  have hlt' : (k : Int) < (n : Int) := by omega
  have hal := balloc (Below.refl w.heap.size w) (.cells #[.slice (some ⟨b, off, none⟩) n cap, .slice (some ⟨b', off', none⟩) n cap'] 56)
  have y1 := (hal.cell (p := ⟨b, off + k * 2, none⟩) hb).trans z1
  have y2 := (hal.cell (p := ⟨b, off + k * 2 + 1, none⟩) hb).trans z2
  have y3 := (hal.cell (p := ⟨b', off' + k, none⟩) hb').trans z3
  have n1 : b ≠ w.heap.size + 1 := by omega
  have n2 : b' ≠ w.heap.size + 1 := by omega
  clear hal
  go_enter Try.func33, Try.ntmps33
  go_upto_region 1 with fail
  go_cut [5, 6] (fun s s6 wx => ∃ q, s = .pointer (some ⟨q, 0, none⟩) ∧ s6 = .int .i64 x ∧ wx.cell? ⟨q, 0, none⟩ = some (.int .i64 lo) ∧ wx.cell? ⟨q, 1, none⟩ = some (.int .i64 hi) ∧ Below w.heap.size w wx)
  case first =>
    go_region_held3 (fun w' => w'.cell? ⟨w.heap.size, 0, none⟩ = some (.slice (some ⟨b, off, none⟩) n cap) ∧ w'.cell? ⟨w.heap.size, 1, none⟩ = some (.slice (some ⟨b', off', none⟩) n cap') ∧ w'.cell? ⟨b, off + k * 2, none⟩ = some (.int .i64 lo) ∧ w'.cell? ⟨b, off + k * 2 + 1, none⟩ = some (.int .i64 hi) ∧ w'.cell? ⟨b', off' + k, none⟩ = some (.int .i64 x)) (refine ⟨?_, ?_, ?_, ?_, ?_⟩ <;> first | assumption | exact y1 | exact y2 | exact y3 | (simp [go_sem]; done) | (simp [go_sem, *]; done) | (go_keep; done)) (fail)
    all_goals
      go_wp2_with fail
      go_meet
      refine ⟨_, rfl, rfl, ?_, ?_, ?_⟩
    all_goals first | (simp [go_sem]; done) | exact (by repeat' first | with_reducible exact Below.refl _ _ | with_reducible assumption | with_reducible refine below_drewN ?_ _ | with_reducible refine balloc ?_ _ | with_reducible refine Below.drew ?_ | with_reducible refine Below.setCell ?_ (by first | (simp; done) | (simp; omega) | omega) _ | with_reducible refine bstep ?_ (by assumption))
  case rest =>
    obtain ⟨q, rfl, rfl, c0, c1, hB⟩ := hcut
    rcases hD with ⟨d1, d2, hd⟩ | ⟨d1, d2, hd⟩ | ⟨d1, d2, hd⟩ | ⟨d1, d2, hd⟩
    all_goals
      subst hd
      go_wp2_with fail
      go_ret
      exact ⟨rfl, hB⟩



end Go.Proofs.Ytkjkdafbfcfhfaa
