/- VecNeg of the model: a list made by append. -/
import Derived.Test.YtppdlbhmhjheiaaVC
import Derived.Test.YtppdlbhmhjheiaaVV
namespace Go.Proofs.Ytppdlbhmhjheiaa
open Go.RowKit
set_option linter.unusedSimpArgs false

theorem vecOk_bd {xs : List Int} {n : Nat} (h : vecOkB xs = true) (hl : xs.length = n) : 1 ≤ n ∧ n ≤ 8 ∧ ∀ j, j < n → -1048576 ≤ nth xs j ∧ nth xs j ≤ 1048576 := by
  unfold vecOkB at h
  rw [Bool.and_eq_true] at h
  have h1 := of_decide_eq_true h.1
  refine ⟨by omega, by omega, fun j hj => ?_⟩
  have := List.all_eq_true.1 h.2 (nth xs j) (by simp [nth, show j < xs.length by omega])
  simpa [compB] using this

set_option maxHeartbeats 1000000 in
theorem sVecNeg_yes (b off n cap : Nat) (xs : List Int) (w : World) (hl : xs.length = n) (hb : b < w.heap.size) (hc : ∀ i, i < n → w.cell? ⟨b, off + i, none⟩ = some (.int .i64 (nth xs i))) (hv : vecOkB xs = true) :
    Calls Try.prog 18 #[.slice (some ⟨b, off, none⟩) n cap] w fun e w' => ∃ v, e = .returned v ∧ w'.ownsRow w.heap.size 2 1 v n (vals (fun j => -(nth xs j)) n) ∧ Below w.heap.size w w' := by
  obtain ⟨n1, n8, hbd⟩ := vecOk_bd hv hl
  obtain ⟨i0, hi, hz0, hz1, hz2⟩ := info_parts Try.infoI64
  have HV : Hid (∀ wx, Below w.heap.size w wx → Calls Try.prog 12 #[.slice (some ⟨b, off, none⟩) n cap] wx fun e w' => e = .returned (.bool true) ∧ w' = wx) := fun wx hbx => by
    have := sVecOk_some b off n cap xs wx hl (by omega) (fun i hi => (hbx.cell (p := ⟨b, off + i, none⟩) hb).trans (hc i hi))
    rw [hv] at this
    exact this
  have HBD := hide hbd
  have HI := hide hi
  clear hbd hv
  go_enter Try.func18, Try.ntmps18
  go_wp2_with fail
  go_loopw [3, 4] (fun v i wr => ∃ k : Nat, k ≤ n ∧ i = .int .i64 k ∧ wr.ownsRow w.heap.size 2 1 v k (vals (fun j => -(nth xs j)) k) ∧ Below w.heap.size w wr) (fun _ i _ => n - (intOf i).toNat)
  case atStart => exact ⟨0, Nat.zero_le _, rfl, World.ownsRow_made w #[] 0 (Nat.le_refl _) (Nat.zero_le _) rfl, (by repeat' first | with_reducible exact Below.refl _ _ | with_reducible assumption | with_reducible refine below_drewN ?_ _ | with_reducible refine balloc ?_ _ | with_reducible refine Below.drew ?_ | with_reducible refine Below.setCell ?_ (by first | (simp; done) | (simp; omega) | omega) _ | with_reducible refine bstep ?_ (by assumption))⟩
  case round =>
    obtain ⟨k, hk, rfl, hown, hbel⟩ := hrel
    have HC := hide hc
    have HB := hide hbel
    by_cases hlt : k < n
    · have h1 : wr.cell? ⟨b, off + k, none⟩ = some (.int .i64 (nth xs k)) := (hbel.cell (p := ⟨b, off + k, none⟩) hb).trans (hc k hlt)
      obtain ⟨x0, x1⟩ := HBD.out k hlt
      have HO := hide hown
      clear hc hbel hown
      go_wp2_with (first | (go_at_call 12; refine (HV.out _ HB.out).mono ?_; rintro e w1 ⟨rfl, rfl⟩) | (at_builtin; refine wpList_append_own _ rfl _ _ 24 rfl w.heap.size 2 i0 (.int .i64 0) 1 8 Try.underlying24 hi hz0 hz1 hz2 rfl (by decide) _ _ _ rfl (HO.out.alloc _) ⟨_, 0, none⟩ 1 1 [.int .i64 (-(nth xs k))] rfl rfl ?c1 ?c2 ?c3 ?c4 ?c5 ?_))
      case c1 => exact one_new _ _ _
      case c2 => intro u hu; simp at hu; subst hu; rfl
      case c3 => unfold maxLen; omega
      case c4 => omega
      case c5 => have := HB.out.size; simp; omega
      intro v' w2 hown2 hgrow _
      rw [← vals_succ (fun j => -(nth xs j)) k] at hown2
      have hB2 := below_app HB.out HO.out hgrow
      clear hgrow HO
      have HO := hide hown2
      clear hown2
      go_wp2_with fail
      go_roundw
      case rel => exact ⟨k + 1, by omega, by go_num, HO.out, hB2⟩
      case measure => simp [intOf]; omega
    · clear hc
      go_wp2_with fail
      go_ret
      have hkn : k = n := by omega
      subst hkn
      exact ⟨_, rfl, hown, hbel⟩

set_option maxHeartbeats 1000000 in
theorem sVecNeg_no (a : Option Addr) (n cap : Nat) (xs : List Int) (w : World) (h : Row w a n xs) (hn : n ≤ 1048576) (hv : vecOkB xs = false) :
    Calls Try.prog 18 #[.slice a n cap] w fun e w' => ∃ v, e = .returned v ∧ w'.ownsRow w.heap.size 2 1 v 0 [] ∧ Below w.heap.size w w' := by
  have HV : Hid (∀ wx, Below w.heap.size w wx → Calls Try.prog 12 #[.slice a n cap] wx fun e w' => e = .returned (.bool false) ∧ w' = wx) := fun wx hbx => by
    have := sVecOk_any a n cap xs wx (h.below hbx) hn
    rw [hv] at this
    exact this
  clear h hv
  by_cases hz : n < 1
  · go_enter Try.func18, Try.ntmps18
    go_wp2_with fail
    refine wp_loop_rounds 1 ?_
    rw [rounds_succ]
    go_wp2_with fail
    go_ret
    exact ⟨_, rfl, World.ownsRow_made w #[] 0 (Nat.le_refl _) (Nat.zero_le _) rfl, (by repeat' first | with_reducible exact Below.refl _ _ | with_reducible assumption | with_reducible refine below_drewN ?_ _ | with_reducible refine balloc ?_ _ | with_reducible refine Below.drew ?_ | with_reducible refine Below.setCell ?_ (by first | (simp; done) | (simp; omega) | omega) _ | with_reducible refine bstep ?_ (by assumption))⟩
  · have hz' : (0 : Int) < n := by omega
    go_enter Try.func18, Try.ntmps18
    go_wp2_with fail
    refine wp_loop_rounds 1 ?_
    rw [rounds_succ]
    go_wp2_with (go_at_call 12; refine (HV.out _ (by repeat' first | with_reducible exact Below.refl _ _ | with_reducible assumption | with_reducible refine below_drewN ?_ _ | with_reducible refine balloc ?_ _ | with_reducible refine Below.drew ?_ | with_reducible refine Below.setCell ?_ (by first | (simp; done) | (simp; omega) | omega) _ | with_reducible refine bstep ?_ (by assumption))).mono ?_; rintro e w1 ⟨rfl, rfl⟩)
    go_ret
    exact ⟨_, rfl, World.ownsRow_made w #[] 0 (Nat.le_refl _) (Nat.zero_le _) rfl, (by repeat' first | with_reducible exact Below.refl _ _ | with_reducible assumption | with_reducible refine below_drewN ?_ _ | with_reducible refine balloc ?_ _ | with_reducible refine Below.drew ?_ | with_reducible refine Below.setCell ?_ (by first | (simp; done) | (simp; omega) | omega) _ | with_reducible refine bstep ?_ (by assumption))⟩

/-- Each number turned; none where it is no vector. -/
def negL (xs : List Int) : List Int := if vecOkB xs then ints (fun j => -(nth xs j)) xs.length else []

theorem sVecNeg_any (a : Option Addr) (n cap : Nat) (xs : List Int) (w : World) (h : Row w a n xs) (hn : n ≤ 1048576) :
    Calls Try.prog 18 #[.slice a n cap] w fun e w' => ∃ a2 cap2, e = .returned (.slice a2 (negL xs).length cap2) ∧ Row w' a2 (negL xs).length (negL xs) ∧ (∀ b off, a2 = some ⟨b, off, none⟩ → w.heap.size ≤ b) ∧ Below w.heap.size w w' := by
  unfold negL
  cases hv : vecOkB xs
  · refine (sVecNeg_no a n cap xs w h hn hv).mono ?_
    rintro e w' ⟨v, rfl, ho, hb⟩
    obtain ⟨a2, c2, rfl, hr, hf⟩ := row_of_owns (f := fun _ => 0) (n := 0) ho
    exact ⟨a2, c2, rfl, hr, hf, hb⟩
  · rcases h.lies with h0 | ⟨b, off, rfl, hb, hc⟩
    · have := vecOk_bd hv h.len
      omega
    · refine (sVecNeg_yes b off n cap xs w h.len hb hc hv).mono ?_
      rintro e w' ⟨v, rfl, ho, hb⟩
      obtain ⟨a2, c2, rfl, hr, hf⟩ := row_of_owns ho
      simp only [if_true, ints_len, h.len]
      exact ⟨a2, c2, rfl, hr, hf, hb⟩
end Go.Proofs.Ytppdlbhmhjheiaa
