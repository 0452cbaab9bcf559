/- Slices of ranges in memory: each takes two cells. BoxOk of the program and of the model. -/
import Derived.Test.YtcgeebdhkdfkpaaPA
import Derived.Test.YtcgeebdhkdfkpaaWB
namespace Go.Proofs.Ytcgeebdhkdfkpaa
open Go.RowKit
set_option maxRecDepth 8000
set_option linter.unusedSimpArgs false
set_option linter.unusedVariables false

def boxB (n : Nat) (f g : Nat → Int) : Bool := decide (1 ≤ n ∧ n ≤ 8) && allN n (fun i => rightB (f i) (g i))

set_option maxHeartbeats 800000 in
theorem iBoxOk_some (b off n cap : Nat) (f g : Nat → Int) (w : World) (h1 : 1 ≤ n) (h8 : n ≤ 8) (hb : b < w.heap.size) (hc : ∀ i, i < n → w.cell? ⟨b, off + i * 2, none⟩ = some (.int .i64 (f i)) ∧ w.cell? ⟨b, off + i * 2 + 1, none⟩ = some (.int .i64 (g i))) :
    Calls Try.prog 19 #[.slice (some ⟨b, off, none⟩) n cap] w fun e w' => e = .returned (.bool (allN n (fun i => rightB (f i) (g i)))) ∧ Below w.heap.size w w' := by
  go_enter Try.func19, Try.ntmps19
  go_wp2_with fail
  go_loopw [15] (fun i wr => ∃ k : Nat, k ≤ n ∧ i = .int .i64 k ∧ (∀ j, j < k → rightB (f j) (g j) = true) ∧ Below w.heap.size w wr) (fun i _ => n - (intOf i).toNat)
  case atStart => exact ⟨0, Nat.zero_le _, rfl, fun j h => absurd h (by omega), (by repeat' first | with_reducible exact Below.refl _ _ | with_reducible assumption | with_reducible refine below_drewN ?_ _ | with_reducible refine balloc ?_ _ | with_reducible refine Below.drew ?_ | with_reducible refine Below.setCell ?_ (by first | (simp; done) | (simp; omega) | omega) _ | with_reducible refine bstep ?_ (by assumption))⟩
  case round =>
    obtain ⟨k, hk, rfl, hpre, hbel⟩ := hrel
    have HP := hide hpre
    have HC := hide hc
    have HB := hide hbel
    by_cases hlt : k < n
    · have z1 : wr.cell? ⟨b, off + k * 2, none⟩ = some (.int .i64 (f k)) := (hbel.cell (p := ⟨b, off + k * 2, none⟩) hb).trans (hc k hlt).1
      have z2 : wr.cell? ⟨b, off + k * 2 + 1, none⟩ = some (.int .i64 (g k)) := (hbel.cell (p := ⟨b, off + k * 2 + 1, none⟩) hb).trans (hc k hlt).2
      have R := hide (right_any (f k) (g k))
      clear hpre hbel hc
      cases he : rightB (f k) (g k)
      · have HE := hide he
        rw [he] at R
        clear he
        go_wp2_with fail
        refine (R.out _).mono ?_
        rintro e wn ⟨rfl, hbn⟩
        go_wp2_with fail
        go_ret
        refine ⟨by rw [allN_no hlt HE.out]; rfl, ?_⟩
        have hbel := HB.out
        exact (by repeat' first | with_reducible exact Below.refl _ _ | with_reducible assumption | with_reducible refine below_drewN ?_ _ | with_reducible refine balloc ?_ _ | with_reducible refine Below.drew ?_ | with_reducible refine Below.setCell ?_ (by first | (simp; done) | (simp; omega) | omega) _ | with_reducible refine bstep ?_ (by assumption))
      · have HE := hide he
        rw [he] at R
        clear he
        go_wp2_with fail
        refine (R.out _).mono ?_
        rintro e wn ⟨rfl, hbn⟩
        go_wp2_with fail
        go_roundw
        case rel =>
          have hbel := HB.out
          exact ⟨k + 1, by omega, by go_num, fun j hj => (by rcases Nat.lt_succ_iff_lt_or_eq.1 hj with h | h; exact HP.out j h; rw [h]; exact HE.out), (by repeat' first | with_reducible exact Below.refl _ _ | with_reducible assumption | with_reducible refine below_drewN ?_ _ | with_reducible refine balloc ?_ _ | with_reducible refine Below.drew ?_ | with_reducible refine Below.setCell ?_ (by first | (simp; done) | (simp; omega) | omega) _ | with_reducible refine bstep ?_ (by assumption))⟩
        case measure => simp [intOf]; omega
    · clear hpre hbel hc
      go_wp2_with fail
      go_ret
      exact ⟨by rw [allN_yes (fun j hj => HP.out j (by omega))]; rfl, HB.out⟩

set_option maxHeartbeats 400000 in
theorem iBoxOk_few (a : Option Addr) (n cap : Nat) (w : World) (h : ¬ (1 ≤ n ∧ n ≤ 8)) :
    Calls Try.prog 19 #[.slice a n cap] w fun e w' => e = .returned (.bool false) ∧ Below w.heap.size w w' := by
  by_cases h1 : n < 1
  · have h1' : (n : Int) < 1 := by omega
    go_enter Try.func19, Try.ntmps19
    go_wp2_with fail
    go_ret
    exact ⟨rfl, (by repeat' first | with_reducible exact Below.refl _ _ | with_reducible assumption | with_reducible refine below_drewN ?_ _ | with_reducible refine balloc ?_ _ | with_reducible refine Below.drew ?_ | with_reducible refine Below.setCell ?_ (by first | (simp; done) | (simp; omega) | omega) _ | with_reducible refine bstep ?_ (by assumption))⟩
  · have h1' : ¬ (n : Int) < 1 := by omega
    have h8 : (8 : Int) < n := by omega
    go_enter Try.func19, Try.ntmps19
    go_wp2_with fail
    go_ret
    exact ⟨rfl, (by repeat' first | with_reducible exact Below.refl _ _ | with_reducible assumption | with_reducible refine below_drewN ?_ _ | with_reducible refine balloc ?_ _ | with_reducible refine Below.drew ?_ | with_reducible refine Below.setCell ?_ (by first | (simp; done) | (simp; omega) | omega) _ | with_reducible refine bstep ?_ (by assumption))⟩

theorem iBoxOk_any (a : Option Addr) (n cap : Nat) (f g : Nat → Int) (w : World) (h : PRow w a n f g) :
    Calls Try.prog 19 #[.slice a n cap] w fun e w' => e = .returned (.bool (boxB n f g)) ∧ Below w.heap.size w w' := by
  unfold boxB
  by_cases hn : 1 ≤ n ∧ n ≤ 8
  · rw [decide_eq_true hn, Bool.true_and]
    rcases h.lies with h0 | ⟨b, off, rfl, lt, hc⟩
    · omega
    · exact iBoxOk_some b off n cap f g w hn.1 hn.2 lt hc
  · rw [decide_eq_false hn, Bool.false_and]
    exact iBoxOk_few a n cap w hn

set_option maxHeartbeats 800000 in
theorem sBoxOk_some (b off n cap : Nat) (f g : Nat → Int) (w : World) (hn : n ≤ 1048576) (hb : b < w.heap.size) (hc : ∀ i, i < n → w.cell? ⟨b, off + i * 2, none⟩ = some (.int .i64 (f i)) ∧ w.cell? ⟨b, off + i * 2 + 1, none⟩ = some (.int .i64 (g i))) :
    Calls Try.prog 13 #[.slice (some ⟨b, off, none⟩) n cap] w fun e w' => e = .returned (.bool (boxB n f g)) ∧ Below w.heap.size w w' := by
  have L := hide (l1In_any (n : Int) 1 8)
  go_enter Try.func13, Try.ntmps13
  go_wp2_with fail
  go_loopw [3] (fun i wr => ∃ k : Nat, k ≤ n ∧ i = .int .i64 k ∧ (∀ j, j < k → rightB (f j) (g j) = true) ∧ Below w.heap.size w wr) (fun i _ => n - (intOf i).toNat)
  case atStart => exact ⟨0, Nat.zero_le _, rfl, fun j h => absurd h (by omega), (by repeat' first | with_reducible exact Below.refl _ _ | with_reducible assumption | with_reducible refine below_drewN ?_ _ | with_reducible refine balloc ?_ _ | with_reducible refine Below.drew ?_ | with_reducible refine Below.setCell ?_ (by first | (simp; done) | (simp; omega) | omega) _ | with_reducible refine bstep ?_ (by assumption))⟩
  case round =>
    obtain ⟨k, hk, rfl, hpre, hbel⟩ := hrel
    have HP := hide hpre
    have HC := hide hc
    have HB := hide hbel
    by_cases hlt : k < n
    · have z1 : wr.cell? ⟨b, off + k * 2, none⟩ = some (.int .i64 (f k)) := (hbel.cell (p := ⟨b, off + k * 2, none⟩) hb).trans (hc k hlt).1
      have z2 : wr.cell? ⟨b, off + k * 2 + 1, none⟩ = some (.int .i64 (g k)) := (hbel.cell (p := ⟨b, off + k * 2 + 1, none⟩) hb).trans (hc k hlt).2
      have R := hide (sRangeOk_any (f k) (g k))
      clear hpre hbel hc
      cases he : rightB (f k) (g k)
      · have HE := hide he
        rw [he] at R
        clear he
        go_wp2_with fail
        refine (R.out _).mono ?_
        rintro e wn ⟨rfl, hbn⟩
        go_wp2_with fail
        go_ret
        refine ⟨by unfold boxB; rw [allN_no hlt HE.out, Bool.and_false]; rfl, ?_⟩
        have hbel := HB.out
        exact (by repeat' first | with_reducible exact Below.refl _ _ | with_reducible assumption | with_reducible refine below_drewN ?_ _ | with_reducible refine balloc ?_ _ | with_reducible refine Below.drew ?_ | with_reducible refine Below.setCell ?_ (by first | (simp; done) | (simp; omega) | omega) _ | with_reducible refine bstep ?_ (by assumption))
      · have HE := hide he
        rw [he] at R
        clear he
        go_wp2_with fail
        refine (R.out _).mono ?_
        rintro e wn ⟨rfl, hbn⟩
        go_wp2_with fail
        go_roundw
        case rel =>
          have hbel := HB.out
          exact ⟨k + 1, by omega, by go_num, fun j hj => (by rcases Nat.lt_succ_iff_lt_or_eq.1 hj with h | h; exact HP.out j h; rw [h]; exact HE.out), (by repeat' first | with_reducible exact Below.refl _ _ | with_reducible assumption | with_reducible refine below_drewN ?_ _ | with_reducible refine balloc ?_ _ | with_reducible refine Below.drew ?_ | with_reducible refine Below.setCell ?_ (by first | (simp; done) | (simp; omega) | omega) _ | with_reducible refine bstep ?_ (by assumption))⟩
        case measure => simp [intOf]; omega
    · clear hpre hbel hc
      go_wp2_with fail
      refine (L.out _).mono ?_
      rintro e wn ⟨rfl, rfl⟩
      go_wp2_with fail
      go_ret
      refine ⟨?_, HB.out⟩
      unfold boxB
      rw [allN_yes (fun j hj => HP.out j (by omega)), Bool.and_true]
      unfold inB
      rw [show decide ((1 : Int) ≤ (n : Int) ∧ (n : Int) ≤ 8) = decide (1 ≤ n ∧ n ≤ 8) from decide_eq_decide.2 (by omega)]
      rfl

set_option maxHeartbeats 400000 in
theorem sBoxOk_none (a : Option Addr) (n cap : Nat) (w : World) (hn : n < 1) :
    Calls Try.prog 13 #[.slice a n cap] w fun e w' => e = .returned (.bool false) ∧ Below w.heap.size w w' := by
  have L := hide (l1In_any (n : Int) 1 8)
  rw [show inB (n : Int) 1 8 = false from by unfold inB; exact decide_eq_false (by omega)] at L
  go_enter Try.func13, Try.ntmps13
  go_wp2_with fail
  refine wp_loop_rounds 1 ?_
  rw [rounds_succ]
  go_wp2_with fail
  refine (L.out _).mono ?_
  rintro e wn ⟨rfl, rfl⟩
  go_wp2_with fail
  go_ret
  exact ⟨rfl, (by repeat' first | with_reducible exact Below.refl _ _ | with_reducible assumption | with_reducible refine below_drewN ?_ _ | with_reducible refine balloc ?_ _ | with_reducible refine Below.drew ?_ | with_reducible refine Below.setCell ?_ (by first | (simp; done) | (simp; omega) | omega) _ | with_reducible refine bstep ?_ (by assumption))⟩

theorem sBoxOk_any (a : Option Addr) (n cap : Nat) (f g : Nat → Int) (w : World) (h : PRow w a n f g) (hn : n ≤ 1048576) :
    Calls Try.prog 13 #[.slice a n cap] w fun e w' => e = .returned (.bool (boxB n f g)) ∧ Below w.heap.size w w' := by
  rcases h.lies with h0 | ⟨b, off, rfl, lt, hc⟩
  · rw [show boxB n f g = false from by unfold boxB; rw [decide_eq_false (by omega), Bool.false_and]]
    exact sBoxOk_none a n cap w (by omega)
  · exact sBoxOk_some b off n cap f g w hn lt hc
end Go.Proofs.Ytcgeebdhkdfkpaa
