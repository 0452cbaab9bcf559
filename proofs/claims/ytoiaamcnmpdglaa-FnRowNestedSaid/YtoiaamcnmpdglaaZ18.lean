/- sameRanges of the laws. -/
import Derived.Test.YtoiaamcnmpdglaaZ14
import Derived.Test.YtoiaamcnmpdglaaZ3
namespace Go.Proofs.Ytoiaamcnmpdglaa
open Go.RowKit
set_option maxRecDepth 8000
set_option linter.unusedSimpArgs false
set_option linter.unusedVariables false

set_option maxHeartbeats 1600000 in
theorem sameRanges_some (b off n cap b' off' cap' : Nat) (f g f' g' : Nat → Int) (w : World) (hn : n ≤ 1048576) (hb : b < w.heap.size) (hb' : b' < w.heap.size)
    (hc : ∀ i, i < n → w.cell? ⟨b, off + i * 2, none⟩ = some (.int .i64 (f i)) ∧ w.cell? ⟨b, off + i * 2 + 1, none⟩ = some (.int .i64 (g i)))
    (hc' : ∀ i, i < n → w.cell? ⟨b', off' + i * 2, none⟩ = some (.int .i64 (f' i)) ∧ w.cell? ⟨b', off' + i * 2 + 1, none⟩ = some (.int .i64 (g' i))) :
    Calls Try.prog 16 #[.slice (some ⟨b, off, none⟩) n cap, .slice (some ⟨b', off', none⟩) n cap'] w fun e w' => e = .returned (.bool (sameB n f g f' g')) ∧ Below w.heap.size w w' := by
  go_enter Try.func16, Try.ntmps16
  go_wp2
  go_loopw [5] (fun i wr => ∃ k : Nat, k ≤ n ∧ i = .int .i64 k ∧ (∀ j, j < k → (decide (f j = f' j) && decide (g j = g' j)) = true) ∧ Below w.heap.size w wr) (fun i _ => n - (intOf i).toNat)
  case atStart => exact ⟨0, Nat.zero_le _, rfl, fun j h => absurd h (by omega), (by repeat' first | with_reducible exact Below.refl _ _ | with_reducible assumption | with_reducible refine below_drewN ?_ _ | with_reducible refine balloc ?_ _ | with_reducible refine Below.drew ?_ | with_reducible refine Below.setCell ?_ (by first | (simp; done) | (simp; omega) | omega) _ | with_reducible refine bstep ?_ (by assumption))⟩
  case round =>
    obtain ⟨k, hk, rfl, hpre, hbel⟩ := hrel
    have HP := hide hpre
    have HC := hide hc
    have HC' := hide hc'
    have HB := hide hbel
    by_cases hlt : k < n
    · have z1 : wr.cell? ⟨b, off + k * 2, none⟩ = some (.int .i64 (f k)) := (hbel.cell (p := ⟨b, off + k * 2, none⟩) hb).trans (hc k hlt).1
      have z2 : wr.cell? ⟨b, off + k * 2 + 1, none⟩ = some (.int .i64 (g k)) := (hbel.cell (p := ⟨b, off + k * 2 + 1, none⟩) hb).trans (hc k hlt).2
      have z3 : wr.cell? ⟨b', off' + k * 2, none⟩ = some (.int .i64 (f' k)) := (hbel.cell (p := ⟨b', off' + k * 2, none⟩) hb').trans (hc' k hlt).1
      have z4 : wr.cell? ⟨b', off' + k * 2 + 1, none⟩ = some (.int .i64 (g' k)) := (hbel.cell (p := ⟨b', off' + k * 2 + 1, none⟩) hb').trans (hc' k hlt).2
      have hlt' : (k : Int) < (n : Int) := by omega
      clear hpre hbel hc hc'
      obtain ⟨v, hv⟩ : ∃ v, (decide (f k = f' k) && decide (g k = g' k)) = v := ⟨_, rfl⟩
      have HE := hide hv
      have hEq : ∀ w, (Op.equalIn 10000 64 (.agg #[.int .i64 (f k), .int .i64 (g k)]) (.agg #[.int .i64 (f' k), .int .i64 (g' k)])).run Try.prog w = .ok v w := fun w => by
        rw [eqRg, ← hv]
        rfl
      clear hv
      go_upto_region 6 with fail
      go_region_held3 (fun w' => w'.cell? ⟨b, off + k * 2, none⟩ = some (.int .i64 (f k)) ∧ w'.cell? ⟨b, off + k * 2 + 1, none⟩ = some (.int .i64 (g k)) ∧ w'.cell? ⟨b', off' + k * 2, none⟩ = some (.int .i64 (f' k)) ∧ w'.cell? ⟨b', off' + k * 2 + 1, none⟩ = some (.int .i64 (g' k))) (refine ⟨?_, ?_, ?_, ?_⟩ <;> first | assumption | (simp [go_sem]; done)) (fail)
      all_goals
        cases v
        · go_wp2_with fail
          go_ret
          refine ⟨by rw [show sameB n f g f' g' = false from allN_no hlt HE.out]; rfl, ?_⟩
          have hbel := HB.out
          exact (by repeat' first | with_reducible exact Below.refl _ _ | with_reducible assumption | with_reducible refine below_drewN ?_ _ | with_reducible refine balloc ?_ _ | with_reducible refine Below.drew ?_ | with_reducible refine Below.setCell ?_ (by first | (simp; done) | (simp; omega) | omega) _ | with_reducible refine bstep ?_ (by assumption))
        · go_wp2_with fail
          go_roundw
          case rel =>
            have hbel := HB.out
            exact ⟨k + 1, by omega, by go_num, fun j hj => (by rcases Nat.lt_succ_iff_lt_or_eq.1 hj with h | h; exact HP.out j h; rw [h]; exact HE.out), (by repeat' first | with_reducible exact Below.refl _ _ | with_reducible assumption | with_reducible refine below_drewN ?_ _ | with_reducible refine balloc ?_ _ | with_reducible refine Below.drew ?_ | with_reducible refine Below.setCell ?_ (by first | (simp; done) | (simp; omega) | omega) _ | with_reducible refine bstep ?_ (by assumption))⟩
          case measure => simp [intOf]; omega
    · clear hpre hbel hc hc'
      go_wp2
      go_ret
      exact ⟨by rw [show sameB n f g f' g' = true from allN_yes fun j hj => HP.out j (by omega)]; rfl, HB.out⟩

set_option maxHeartbeats 400000 in
theorem sameRanges_len (a a' : Option Addr) (n cap n' cap' : Nat) (w : World) (h : ¬ n = n') :
    Calls Try.prog 16 #[.slice a n cap, .slice a' n' cap'] w fun e w' => e = .returned (.bool false) ∧ Below w.heap.size w w' := by
  have hne : ((n : Int) != (n' : Int)) = true := by rw [bne_iff_ne]; omega
  go_enter Try.func16, Try.ntmps16
  go_wp2
  go_ret
  exact ⟨rfl, (by repeat' first | with_reducible exact Below.refl _ _ | with_reducible assumption | with_reducible refine below_drewN ?_ _ | with_reducible refine balloc ?_ _ | with_reducible refine Below.drew ?_ | with_reducible refine Below.setCell ?_ (by first | (simp; done) | (simp; omega) | omega) _ | with_reducible refine bstep ?_ (by assumption))⟩

set_option maxHeartbeats 400000 in
theorem sameRanges_none (a a' : Option Addr) (n cap cap' : Nat) (w : World) (hn : n < 1) :
    Calls Try.prog 16 #[.slice a n cap, .slice a' n cap'] w fun e w' => e = .returned (.bool true) ∧ Below w.heap.size w w' := by
  go_enter Try.func16, Try.ntmps16
  go_wp2
  refine wp_loop_rounds 1 ?_
  rw [rounds_succ]
  go_wp2
  go_ret
  exact ⟨rfl, (by repeat' first | with_reducible exact Below.refl _ _ | with_reducible assumption | with_reducible refine below_drewN ?_ _ | with_reducible refine balloc ?_ _ | with_reducible refine Below.drew ?_ | with_reducible refine Below.setCell ?_ (by first | (simp; done) | (simp; omega) | omega) _ | with_reducible refine bstep ?_ (by assumption))⟩

theorem sameRanges_any (a a' : Option Addr) (n cap n' cap' : Nat) (f g f' g' : Nat → Int) (w : World) (h : PRow w a n f g) (h' : PRow w a' n' f' g') (hn : n ≤ 1048576) :
    Calls Try.prog 16 #[.slice a n cap, .slice a' n' cap'] w fun e w' => e = .returned (.bool (decide (n = n') && sameB n f g f' g')) ∧ Below w.heap.size w w' := by
  by_cases e : n = n'
  · subst e
    rw [decide_eq_true rfl, Bool.true_and]
    by_cases h0 : n = 0
    · rw [show sameB n f g f' g' = true from allN_yes fun i hi => absurd hi (by omega)]
      exact sameRanges_none a a' n cap cap' w (by omega)
    · rcases h.lies with q | ⟨b, off, rfl, lt, hc⟩
      · omega
      · rcases h'.lies with q | ⟨b', off', rfl, lt', hc'⟩
        · omega
        · exact sameRanges_some b off n cap b' off' cap' f g f' g' w hn lt lt' hc hc'
  · rw [decide_eq_false e, Bool.false_and]
    exact sameRanges_len a a' n cap n' cap' w e
end Go.Proofs.Ytoiaamcnmpdglaa
