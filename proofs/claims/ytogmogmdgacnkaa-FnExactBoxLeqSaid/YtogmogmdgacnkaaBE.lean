/- BoxLeq of the program and of the model. -/
import Derived.Test.YtogmogmdgacnkaaBA
import Derived.Test.YtogmogmdgacnkaaWC
import Derived.Deep.RegionHeld3
namespace Go.Proofs.Ytogmogmdgacnkaa
open Go.RowKit
set_option linter.unusedSimpArgs false
set_option linter.unusedVariables false

def alikeB (n : Nat) (f g : Nat → Int) (n' : Nat) (f' g' : Nat → Int) : Bool := boxB n f g && boxB n' f' g' && decide (n = n')
def leqN (n : Nat) (f g f' g' : Nat → Int) : Bool := allN n (fun i => leqB (f i) (g i) (f' i) (g' i))
theorem boxB_num {n : Nat} {f g : Nat → Int} (h : boxB n f g = true) : 1 ≤ n ∧ n ≤ 8 := by
  simp only [boxB, Bool.and_eq_true, decide_eq_true_eq] at h; exact h.1
theorem boxB_at {n k : Nat} {f g : Nat → Int} (h : boxB n f g = true) (hk : k < n) : rightB (f k) (g k) = true := by
  simp only [boxB, Bool.and_eq_true] at h; exact allN_at h.2 hk

set_option maxHeartbeats 800000 in
theorem boxesAlike_any (a a' : Option Addr) (n cap n' cap' : Nat) (f g f' g' : Nat → Int) (w : World) (h : PRow w a n f g) (h' : PRow w a' n' f' g') :
    Calls Try.prog 23 #[.slice a n cap, .slice a' n' cap'] w fun e w' => e = .returned (.bool (alikeB n f g n' f' g')) ∧ Below w.heap.size w w' := by
  have A := hide (iBoxOk_any a n cap f g w h)
  have B := hide (fun w1 (hb : Below w.heap.size w w1) => iBoxOk_any a' n' cap' f' g' w1 (h'.below hb))
  clear h h'
  unfold alikeB
  cases h1 : boxB n f g
  · rw [h1] at A
    simp only [Bool.and_true, Bool.and_false, Bool.true_and, Bool.false_and]
    go_enter Try.func23, Try.ntmps23
    go_wp2_with fail
    refine A.out.mono ?_
    rintro e w1 ⟨rfl, hb1⟩
    go_wp2_with fail
    go_ret
    exact ⟨rfl, (by repeat' first | with_reducible exact Below.refl _ _ | with_reducible assumption | with_reducible refine below_drewN ?_ _ | with_reducible refine balloc ?_ _ | with_reducible refine Below.drew ?_ | with_reducible refine Below.setCell ?_ (by first | (simp; done) | (simp; omega) | omega) _ | with_reducible refine bstep ?_ (by assumption))⟩
  · rw [h1] at A
    cases h2 : boxB n' f' g'
    · rw [h2] at B
      simp only [Bool.and_true, Bool.and_false, Bool.true_and, Bool.false_and]
      go_enter Try.func23, Try.ntmps23
      go_wp2_with fail
      refine A.out.mono ?_
      rintro e w1 ⟨rfl, hb1⟩
      go_wp2_with fail
      refine (B.out _ hb1).mono ?_
      rintro e w2 ⟨rfl, hb2⟩
      go_wp2_with fail
      go_ret
      exact ⟨rfl, (by repeat' first | with_reducible exact Below.refl _ _ | with_reducible assumption | with_reducible refine below_drewN ?_ _ | with_reducible refine balloc ?_ _ | with_reducible refine Below.drew ?_ | with_reducible refine Below.setCell ?_ (by first | (simp; done) | (simp; omega) | omega) _ | with_reducible refine bstep ?_ (by assumption))⟩
    · rw [h2] at B
      by_cases he : n = n'
      · subst he
        have he' : ((n : Int) == (n : Int)) = true := by simp
        rw [decide_eq_true rfl]
        simp only [Bool.and_true, Bool.and_false, Bool.true_and, Bool.false_and]
        go_enter Try.func23, Try.ntmps23
        go_wp2_with fail
        refine A.out.mono ?_
        rintro e w1 ⟨rfl, hb1⟩
        go_wp2_with fail
        refine (B.out _ hb1).mono ?_
        rintro e w2 ⟨rfl, hb2⟩
        go_wp2_with fail
        go_ret
        exact ⟨rfl, (by repeat' first | with_reducible exact Below.refl _ _ | with_reducible assumption | with_reducible refine below_drewN ?_ _ | with_reducible refine balloc ?_ _ | with_reducible refine Below.drew ?_ | with_reducible refine Below.setCell ?_ (by first | (simp; done) | (simp; omega) | omega) _ | with_reducible refine bstep ?_ (by assumption))⟩
      · have he' : ((n : Int) == (n' : Int)) = false := by simp; omega
        rw [decide_eq_false he]
        simp only [Bool.and_true, Bool.and_false, Bool.true_and, Bool.false_and]
        go_enter Try.func23, Try.ntmps23
        go_wp2_with fail
        refine A.out.mono ?_
        rintro e w1 ⟨rfl, hb1⟩
        go_wp2_with fail
        refine (B.out _ hb1).mono ?_
        rintro e w2 ⟨rfl, hb2⟩
        go_wp2_with fail
        go_ret
        exact ⟨rfl, (by repeat' first | with_reducible exact Below.refl _ _ | with_reducible assumption | with_reducible refine below_drewN ?_ _ | with_reducible refine balloc ?_ _ | with_reducible refine Below.drew ?_ | with_reducible refine Below.setCell ?_ (by first | (simp; done) | (simp; omega) | omega) _ | with_reducible refine bstep ?_ (by assumption))⟩

set_option maxHeartbeats 1600000 in
theorem iBoxLeq_some (b off n cap b' off' cap' : Nat) (f g f' g' : Nat → Int) (w : World) (h8 : n ≤ 8) (hb : b < w.heap.size) (hb' : b' < w.heap.size)
    (hc : ∀ i, i < n → w.cell? ⟨b, off + i * 2, none⟩ = some (.int .i64 (f i)) ∧ w.cell? ⟨b, off + i * 2 + 1, none⟩ = some (.int .i64 (g i)))
    (hc' : ∀ i, i < n → w.cell? ⟨b', off' + i * 2, none⟩ = some (.int .i64 (f' i)) ∧ w.cell? ⟨b', off' + i * 2 + 1, none⟩ = some (.int .i64 (g' i)))
    (AL : Hid (Calls Try.prog 23 #[.slice (some ⟨b, off, none⟩) n cap, .slice (some ⟨b', off', none⟩) n cap'] w fun e w' => e = .returned (.bool true) ∧ Below w.heap.size w w')) :
    Calls Try.prog 12 #[.slice (some ⟨b, off, none⟩) n cap, .slice (some ⟨b', off', none⟩) n cap'] w fun e w' => e = .returned (.bool (leqN n f g f' g')) ∧ Below w.heap.size w w' := by
  go_enter Try.func12, Try.ntmps12
  go_wp2_with fail
  refine AL.out.mono ?_
  rintro e w1 ⟨rfl, hb1⟩
  go_wp2_with fail
  go_loopw [13] (fun i wr => ∃ k : Nat, k ≤ n ∧ i = .int .i64 k ∧ (∀ j, j < k → leqB (f j) (g j) (f' j) (g' j) = true) ∧ Below w.heap.size w wr) (fun i _ => n - (intOf i).toNat)
  case atStart => exact ⟨0, Nat.zero_le _, rfl, fun j h => absurd h (by omega), (by repeat' first | with_reducible exact Below.refl _ _ | with_reducible assumption | with_reducible refine below_drewN ?_ _ | with_reducible refine balloc ?_ _ | with_reducible refine Below.drew ?_ | with_reducible refine Below.setCell ?_ (by first | (simp; done) | (simp; omega) | omega) _ | with_reducible refine bstep ?_ (by assumption))⟩
  case round =>
    obtain ⟨k, hk, rfl, hpre, hbel⟩ := hrel
    have HP := hide hpre
    have HC := hide hc
    have HC' := hide hc'
    have HB := hide hbel
    by_cases hlt : k < n
    · have z1 : wr.cell? ⟨b, off + k * 2, none⟩ = some (.int .i64 (f k)) := (hbel.cell (p := ⟨b, off + k * 2, none⟩) hb).trans (hc k hlt).1
      have z2 : wr.cell? ⟨b, off + k * 2 + 1, none⟩ = some (.int .i64 (g k)) := (hbel.cell (p := ⟨b, off + k * 2 + 1, none⟩) hb).trans (hc k hlt).2
      have hlt' : (k : Int) < (n : Int) := by omega
      have l2 : b' < wr.heap.size := Nat.lt_of_lt_of_le hb' hbel.size
      have hal := balloc (Below.refl wr.heap.size wr) (.cells #[.int .i64 (f k), .int .i64 (g k)] 35)
      have z3 : (wr.alloc (.cells #[.int .i64 (f k), .int .i64 (g k)] 35)).cell? ⟨b', off' + k * 2, none⟩ = some (.int .i64 (f' k)) := ((hal.cell (p := ⟨b', off' + k * 2, none⟩) l2).trans (hbel.cell (p := ⟨b', off' + k * 2, none⟩) hb')).trans (hc' k hlt).1
      have z4 : (wr.alloc (.cells #[.int .i64 (f k), .int .i64 (g k)] 35)).cell? ⟨b', off' + k * 2 + 1, none⟩ = some (.int .i64 (g' k)) := ((hal.cell (p := ⟨b', off' + k * 2 + 1, none⟩) l2).trans (hbel.cell (p := ⟨b', off' + k * 2 + 1, none⟩) hb')).trans (hc' k hlt).2
      have R := hide (iRangeLeq_any (f k) (g k) (f' k) (g' k))
      clear hpre hbel hc hc' hal
      obtain ⟨v, hv⟩ : ∃ v, leqB (f k) (g k) (f' k) (g' k) = v := ⟨_, rfl⟩
      have HE := hide hv
      rw [hv] at R
      clear hv
      have l3 : b' < (wr.alloc (.cells #[.int .i64 (f k), .int .i64 (g k)] 35)).heap.size := by simp; omega
      go_upto_region 6 with fail
      go_region_held3 (fun w' => w'.cell? ⟨wr.heap.size, 0, none⟩ = some (.int .i64 (f k)) ∧ w'.cell? ⟨wr.heap.size, 1, none⟩ = some (.int .i64 (g k)) ∧ w'.cell? ⟨b', off' + k * 2, none⟩ = some (.int .i64 (f' k)) ∧ w'.cell? ⟨b', off' + k * 2 + 1, none⟩ = some (.int .i64 (g' k))) (refine ⟨?_, ?_, ?_, ?_⟩ <;> first | assumption | (simp [go_sem]; done)) ((go_at_call 24; refine (R.out _).mono ?_; rintro e wn ⟨rfl, hbn⟩; have s1 : wn.cell? ⟨wr.heap.size, 0, none⟩ = some (.int .i64 (f k)) := (hbn.cell (p := ⟨wr.heap.size, 0, none⟩) (by simp)).trans (by simp [go_sem]); have s2 : wn.cell? ⟨wr.heap.size, 1, none⟩ = some (.int .i64 (g k)) := (hbn.cell (p := ⟨wr.heap.size, 1, none⟩) (by simp)).trans (by simp [go_sem]); have s3 := (hbn.cell (p := ⟨b', off' + k * 2, none⟩) l3).trans z3; have s4 := (hbn.cell (p := ⟨b', off' + k * 2 + 1, none⟩) l3).trans z4))
      all_goals
        cases v
        · go_wp2_with fail
          go_ret
          refine ⟨by rw [show leqN n f g f' g' = false from allN_no hlt HE.out]; rfl, ?_⟩
          have hbel := HB.out
          exact (by repeat' first | with_reducible exact Below.refl _ _ | with_reducible assumption | with_reducible refine below_drewN ?_ _ | with_reducible refine balloc ?_ _ | with_reducible refine Below.drew ?_ | with_reducible refine Below.setCell ?_ (by first | (simp; done) | (simp; omega) | omega) _ | with_reducible refine bstep ?_ (by assumption))
        · go_wp2_with fail
          go_roundw
          case rel =>
            have hbel := HB.out
            exact ⟨k + 1, by omega, by go_num, fun j hj => (by rcases Nat.lt_succ_iff_lt_or_eq.1 hj with h | h; exact HP.out j h; rw [h]; exact HE.out), (by repeat' first | with_reducible exact Below.refl _ _ | with_reducible assumption | with_reducible refine below_drewN ?_ _ | with_reducible refine balloc ?_ _ | with_reducible refine Below.drew ?_ | with_reducible refine Below.setCell ?_ (by first | (simp; done) | (simp; omega) | omega) _ | with_reducible refine bstep ?_ (by assumption))⟩
          case measure => simp [intOf]; omega
    · clear hpre hbel hc hc'
      go_wp2_with fail
      go_ret
      exact ⟨by rw [show leqN n f g f' g' = true from allN_yes fun j hj => HP.out j (by omega)]; rfl, HB.out⟩

def boxLeqB (n : Nat) (f g : Nat → Int) (n' : Nat) (f' g' : Nat → Int) : Bool := alikeB n f g n' f' g' && leqN n f g f' g'

set_option maxHeartbeats 800000 in
theorem iBoxLeq_any (a a' : Option Addr) (n cap n' cap' : Nat) (f g f' g' : Nat → Int) (w : World) (h : PRow w a n f g) (h' : PRow w a' n' f' g') :
    Calls Try.prog 12 #[.slice a n cap, .slice a' n' cap'] w fun e w' => e = .returned (.bool (boxLeqB n f g n' f' g')) ∧ Below w.heap.size w w' := by
  have AL := hide (boxesAlike_any a a' n cap n' cap' f g f' g' w h h')
  unfold boxLeqB
  cases hA : alikeB n f g n' f' g'
  · rw [hA] at AL
    simp only [Bool.and_true, Bool.and_false, Bool.true_and, Bool.false_and]
    clear h h'
    go_enter Try.func12, Try.ntmps12
    go_wp2_with fail
    refine AL.out.mono ?_
    rintro e w1 ⟨rfl, hb1⟩
    go_wp2_with fail
    go_ret
    exact ⟨rfl, (by repeat' first | with_reducible exact Below.refl _ _ | with_reducible assumption | with_reducible refine below_drewN ?_ _ | with_reducible refine balloc ?_ _ | with_reducible refine Below.drew ?_ | with_reducible refine Below.setCell ?_ (by first | (simp; done) | (simp; omega) | omega) _ | with_reducible refine bstep ?_ (by assumption))⟩
  · rw [hA] at AL
    rw [Bool.true_and]
    simp only [alikeB, Bool.and_eq_true, decide_eq_true_eq] at hA
    obtain ⟨⟨h1, h2⟩, rfl⟩ := hA
    have hn := boxB_num h1
    rcases h.lies with q | ⟨b, off, rfl, lt, hc⟩
    · omega
    · rcases h'.lies with q | ⟨b', off', rfl, lt', hc'⟩
      · omega
      · exact iBoxLeq_some b off n cap b' off' cap' f g f' g' w hn.2 lt lt' hc hc' AL
end Go.Proofs.Ytogmogmdgacnkaa
