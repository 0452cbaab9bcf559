/- Vectors: VecOk of the model and of the program. -/
import Derived.Test.YtlmiamohhmabhaaDoorVA0
import Derived.Test.YtlmiamohhmabhaaDoorWN
namespace Go.Proofs.YtlmiamohhmabhaaDoor
open Go.RowKit
set_option maxRecDepth 8000
set_option linter.unusedSimpArgs false

def vecOkB (xs : List Int) : Bool := decide (1 ≤ xs.length ∧ xs.length ≤ 8) && xs.all compB

theorem all_nth {xs : List Int} (h : ∀ j, j < xs.length → compB (nth xs j) = true) : xs.all compB = true := by
  rw [List.all_eq_true]
  intro x hx
  obtain ⟨j, hj, rfl⟩ := List.getElem_of_mem hx
  have := h j hj
  simpa [nth, hj] using this

theorem not_all_nth {xs : List Int} {j : Nat} (hj : j < xs.length) (h : compB (nth xs j) = false) : xs.all compB = false := by
  rw [List.all_eq_false]
  exact ⟨xs[j], List.getElem_mem hj, by simpa [nth, hj] using h⟩

set_option maxHeartbeats 400000 in
theorem sVecOk_some (b off n cap : Nat) (xs : List Int) (w : World) (hl : xs.length = n) (hn : n ≤ 1048576) (hc : ∀ i, i < n → w.cell? ⟨b, off + i, none⟩ = some (.int .i64 (nth xs i))) :
    Calls Tryd.prog 21 #[.slice (some ⟨b, off, none⟩) n cap] w fun e w' => e = .returned (.bool (vecOkB xs)) ∧ w' = w := by
  go_enter Tryd.func21, Tryd.ntmps21
  go_wp2
  go_loop [3] (fun i => ∃ k : Nat, k ≤ n ∧ i = .int .i64 k ∧ (∀ j, j < k → compB (nth xs j) = true)) (fun i => n - (intOf i).toNat)
  case atStart => exact ⟨0, Nat.zero_le _, rfl, fun j h => absurd h (by omega)⟩
  case round =>
    obtain ⟨k, hk, rfl, hpre⟩ := hrel
    have HP : Hid (∀ j, j < k → compB (nth xs j) = true) := hpre
    have HC : Hid (∀ i, i < n → w.cell? ⟨b, off + i, none⟩ = some (.int .i64 (nth xs i))) := hc
    by_cases hlt : k < n
    · have h1 := hc k hlt
      clear hpre hc
      cases he : compB (nth xs k)
      · have HE : Hid (compB (nth xs k) = false) := he
        go_wp2_with (go_at_call 40; refine (l1Comp_any _ _).mono ?_; rintro e w' ⟨rfl, rfl⟩)
        go_ret
        exact ⟨by rw [show vecOkB xs = false from by unfold vecOkB; rw [not_all_nth (by omega) HE.out, Bool.and_false]]; rfl, rfl⟩
      · have HE : Hid (compB (nth xs k) = true) := he
        go_wp2_with (go_at_call 40; refine (l1Comp_any _ _).mono ?_; rintro e w' ⟨rfl, rfl⟩)
        go_round
        case rel => exact ⟨k + 1, by omega, by go_num, fun j hj => (by rcases Nat.lt_succ_iff_lt_or_eq.1 hj with h | h; exact HP.out j h; rw [h]; exact HE.out)⟩
        case measure => simp [intOf]; omega
    · clear hpre hc
      go_wp2_with (go_at_call 18; refine (l1In_any _ _ _ _).mono ?_; rintro e w' ⟨rfl, rfl⟩)
      go_ret
      refine ⟨?_, rfl⟩
      rw [show vecOkB xs = inB (n : Int) 1 8 from by
        unfold vecOkB
        rw [all_nth (fun j hj => HP.out j (by omega)), Bool.and_true]
        unfold inB
        rw [hl]
        exact decide_eq_decide.2 (by omega)]
      rfl

set_option maxHeartbeats 400000 in
theorem sVecOk_none (a : Option Addr) (n cap : Nat) (w : World) (hn : n < 1) :
    Calls Tryd.prog 21 #[.slice a n cap] w fun e w' => e = .returned (.bool false) ∧ w' = w := by
  go_enter Tryd.func21, Tryd.ntmps21
  go_wp2
  refine wp_loop_rounds 1 ?_
  rw [rounds_succ]
  go_wp2_with (go_at_call 18; refine (l1In_any _ _ _ _).mono ?_; rintro e w' ⟨rfl, rfl⟩)
  go_ret
  refine ⟨?_, rfl⟩
  rw [show false = inB (n : Int) 1 8 from by unfold inB; exact (decide_eq_false (by omega)).symm]
  rfl

theorem sVecOk_any (a : Option Addr) (n cap : Nat) (xs : List Int) (w : World) (h : Row w a n xs) (hn : n ≤ 1048576) :
    Calls Tryd.prog 21 #[.slice a n cap] w fun e w' => e = .returned (.bool (vecOkB xs)) ∧ w' = w := by
  rcases h.lies with h0 | ⟨b, off, rfl, hb, hc⟩
  · have hx : xs = [] := List.eq_nil_of_length_eq_zero (h.len.trans h0)
    subst hx
    exact sVecOk_none a n cap w (by omega)
  · exact sVecOk_some b off n cap xs w h.len hn hc
end Go.Proofs.YtlmiamohhmabhaaDoor
