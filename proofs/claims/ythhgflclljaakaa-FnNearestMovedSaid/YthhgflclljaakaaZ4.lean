/- Distances: l1Dist, DistOf of the model. -/
import Derived.Test.YthhgflclljaakaaZ2
import Derived.Test.YthhgflclljaakaaZ3
import Derived.Deep.OwnRows
import Derived.Deep.LoopGhost
import Derived.Deep.RegionWith
import Derived.Deep.DeepCutAuto
namespace Go.Proofs.Ythhgflclljaakaa
open Go.RowKit
set_option maxRecDepth 8000
set_option linter.unusedSimpArgs false

/-- The sum of the squares of the differences of the first k numbers. -/
def dsum (xs ys : List Int) : Nat → Int
  | 0 => 0
  | k + 1 => dsum xs ys k + (nth xs k - nth ys k) * (nth xs k - nth ys k)

theorem sq_bd {x y : Int} (hx : compB x = true) (hy : compB y = true) : 0 ≤ (x - y) * (x - y) ∧ (x - y) * (x - y) ≤ 4398046511104 := by
  simp only [compB, decide_eq_true_eq] at hx hy
  have h1 : -2097152 ≤ x - y := by omega
  have h2 : x - y ≤ 2097152 := by omega
  generalize x - y = d at h1 h2
  refine ⟨by rcases Int.le_total 0 d with h | h; exact Int.mul_nonneg h h; exact Int.mul_nonneg_of_nonpos_of_nonpos h h, ?_⟩
  rcases Int.le_total 0 d with h | h
  · exact Int.le_trans (Int.mul_le_mul h2 h2 h (by omega)) (by omega)
  · have e : d * d = (-d) * (-d) := by rw [Int.neg_mul_neg]
    rw [e]
    exact Int.le_trans (Int.mul_le_mul (show -d ≤ 2097152 by omega) (show -d ≤ 2097152 by omega) (by omega) (by omega)) (by omega)

theorem dsum_bd {xs ys : List Int} {n : Nat} (hx : ∀ j, j < n → compB (nth xs j) = true) (hy : ∀ j, j < n → compB (nth ys j) = true) : ∀ k, k ≤ n → 0 ≤ dsum xs ys k ∧ dsum xs ys k ≤ 4398046511104 * (k : Int)
  | 0, _ => by simp [dsum]
  | k + 1, h => by
    have ih := dsum_bd hx hy k (by omega)
    have := sq_bd (hx k (by omega)) (hy k (by omega))
    simp only [dsum]
    omega

set_option maxHeartbeats 1000000 in
theorem l1Dist_some (b off n cap b' off' cap' : Nat) (xs ys : List Int) (w : World) (hn : n ≤ 8) (hb : b < w.heap.size) (hb' : b' < w.heap.size)
    (hc : ∀ i, i < n → w.cell? ⟨b, off + i, none⟩ = some (.int .i64 (nth xs i))) (hc' : ∀ i, i < n → w.cell? ⟨b', off' + i, none⟩ = some (.int .i64 (nth ys i)))
    (hx : ∀ j, j < n → compB (nth xs j) = true) (hy : ∀ j, j < n → compB (nth ys j) = true) :
    Calls Try.prog 51 #[.slice (some ⟨b, off, none⟩) n cap, .slice (some ⟨b', off', none⟩) n cap'] w fun e w' => e = .returned (.int .i64 (dsum xs ys n)) ∧ Below w.heap.size w w' := by
  have HX := hide hx
  have HY := hide hy
  clear hx hy
  go_enter Try.func51, Try.ntmps51
  go_wp2
  go_loopw [5, 6] (fun s i wr => ∃ k : Nat, k ≤ n ∧ i = .int .i64 k ∧ s = .int .i64 (dsum xs ys k) ∧ Below w.heap.size w wr) (fun _ i _ => n - (intOf i).toNat)
  case atStart => exact ⟨0, Nat.zero_le _, rfl, rfl, (by repeat' first | with_reducible exact Below.refl _ _ | with_reducible assumption | with_reducible refine below_drewN ?_ _ | with_reducible refine balloc ?_ _ | with_reducible refine Below.drew ?_ | with_reducible refine Below.setCell ?_ (by first | (simp; done) | (simp; omega) | omega) _ | with_reducible refine bstep ?_ (by assumption))⟩
  case round =>
    obtain ⟨k, hk, rfl, rfl, hbel⟩ := hrel
    have HC := hide hc
    have HC' := hide hc'
    have HB := hide hbel
    by_cases hlt : k < n
    · have h1 : wr.cell? ⟨b, off + k, none⟩ = some (.int .i64 (nth xs k)) := (hbel.cell (p := ⟨b, off + k, none⟩) hb).trans (hc k hlt)
      have h2 : wr.cell? ⟨b', off' + k, none⟩ = some (.int .i64 (nth ys k)) := (hbel.cell (p := ⟨b', off' + k, none⟩) hb').trans (hc' k hlt)
      have hlt' : (k : Int) < (n : Int) := by omega
      have bx := HX.out k hlt
      have byy := HY.out k hlt
      obtain ⟨p0, p1⟩ := sq_bd bx byy
      obtain ⟨s0, s1⟩ := dsum_bd HX.out HY.out k hk
      simp only [compB, decide_eq_true_eq] at bx byy
      obtain ⟨x0, x1⟩ := bx
      obtain ⟨y0, y1⟩ := byy
      clear hbel hc hc'
      go_wp2
      go_quiet (fail)
      go_wp2
      go_roundw
      case rel => exact ⟨k + 1, by omega, by go_num, by first | rfl | (simp [dsum]; done), (by have := HB.out; exact (by repeat' first | with_reducible exact Below.refl _ _ | with_reducible assumption | with_reducible refine below_drewN ?_ _ | with_reducible refine balloc ?_ _ | with_reducible refine Below.drew ?_ | with_reducible refine Below.setCell ?_ (by first | (simp; done) | (simp; omega) | omega) _ | with_reducible refine bstep ?_ (by assumption)))⟩
      case measure => simp [intOf]; omega
    · have hkn : k = n := by omega
      subst hkn
      clear hc hc'
      go_wp2
      go_ret
      exact ⟨rfl, hbel⟩

theorem vecOk_all {xs : List Int} {n : Nat} (h : vecOkB xs = true) (hl : xs.length = n) : 1 ≤ n ∧ n ≤ 8 ∧ ∀ j, j < n → compB (nth xs j) = true := by
  unfold vecOkB at h
  rw [Bool.and_eq_true] at h
  have h1 := of_decide_eq_true h.1
  refine ⟨by omega, by omega, fun j hj => ?_⟩
  exact List.all_eq_true.1 h.2 (nth xs j) (by simp [nth, show j < xs.length by omega])

theorem l1Dist_any (a a' : Option Addr) (n cap cap' : Nat) (xs ys : List Int) (w : World) (h : Row w a n xs) (h' : Row w a' n ys) (hx : vecOkB xs = true) (hy : vecOkB ys = true) :
    Calls Try.prog 51 #[.slice a n cap, .slice a' n cap'] w fun e w' => e = .returned (.int .i64 (dsum xs ys n)) ∧ Below w.heap.size w w' := by
  obtain ⟨x1, x8, xc⟩ := vecOk_all hx h.len
  obtain ⟨y1, y8, yc⟩ := vecOk_all hy h'.len
  rcases h.lies with h0 | ⟨b, off, rfl, hb, hc⟩
  · omega
  · rcases h'.lies with h0 | ⟨b', off', rfl, hb', hc'⟩
    · omega
    · exact l1Dist_some b off n cap b' off' cap' xs ys w x8 hb hb' hc hc' xc yc

def distL (xs ys : List Int) : Int := if pairB xs ys then dsum xs ys xs.length else -1

end Go.Proofs.Ythhgflclljaakaa
/- VecNeg of the model: a list made by append. -/
namespace Go.Proofs.Ythhgflclljaakaa
open Go.RowKit
set_option maxRecDepth 8000
set_option linter.unusedSimpArgs false

theorem vecOk_bd {xs : List Int} {n : Nat} (h : vecOkB xs = true) (hl : xs.length = n) : 1 ≤ n ∧ n ≤ 8 ∧ ∀ j, j < n → -1048576 ≤ nth xs j ∧ nth xs j ≤ 1048576 := by
  unfold vecOkB at h
  rw [Bool.and_eq_true] at h
  have h1 := of_decide_eq_true h.1
  refine ⟨by omega, by omega, fun j hj => ?_⟩
  have := List.all_eq_true.1 h.2 (nth xs j) (by simp [nth, show j < xs.length by omega])
  simpa [compB] using this





/-- Each number turned; none where it is no vector. -/
def negL (xs : List Int) : List Int := if vecOkB xs then ints (fun j => -(nth xs j)) xs.length else []

end Go.Proofs.Ythhgflclljaakaa
/- The contract of sameInts. -/
namespace Go.Proofs.Ythhgflclljaakaa
open Go.RowKit
set_option maxRecDepth 8000









end Go.Proofs.Ythhgflclljaakaa
