/- BoxJoin of the model. -/
import Derived.Test.YtobnlchlmhnnlaaZ16
import Derived.Test.YtobnlchlmhnnlaaZ4
import Derived.Deep.RegionHeldLaw
import Derived.Test.YtobnlchlmhnnlaaZ12
namespace Go.Proofs.Ytobnlchlmhnnlaa
open Go.RowKit
set_option maxRecDepth 8000
set_option linter.unusedSimpArgs false
set_option linter.unusedVariables false

def SJoin (w : World) (n : Nat) (F G : Nat → Int) (e : Ending) (w' : World) : Prop :=
  ∃ a cap, e = .returned (.tuple #[.slice a n cap, .bool true]) ∧ PRow w' a n F G ∧ Below w.heap.size w w'

set_option maxHeartbeats 4000000 in
theorem sBoxJoin_some (b off n cap b' off' cap' : Nat) (f g f' g' : Nat → Int) (w : World) (h8 : n ≤ 8) (hb : b < w.heap.size) (hb' : b' < w.heap.size)
    (hr : ∀ i, i < n → rightB (f i) (g i) = true) (hr' : ∀ i, i < n → rightB (f' i) (g' i) = true)
    (hc : ∀ i, i < n → w.cell? ⟨b, off + i * 2, none⟩ = some (.int .i64 (f i)) ∧ w.cell? ⟨b, off + i * 2 + 1, none⟩ = some (.int .i64 (g i)))
    (hc' : ∀ i, i < n → w.cell? ⟨b', off' + i * 2, none⟩ = some (.int .i64 (f' i)) ∧ w.cell? ⟨b', off' + i * 2 + 1, none⟩ = some (.int .i64 (g' i)))
    (A : Hid (Calls Try.prog 17 #[.slice (some ⟨b, off, none⟩) n cap] w fun e w' => e = .returned (.bool true) ∧ Below w.heap.size w w'))
    (B : Hid (∀ w1, Below w.heap.size w w1 → Calls Try.prog 17 #[.slice (some ⟨b', off', none⟩) n cap'] w1 fun e w' => e = .returned (.bool true) ∧ Below w1.heap.size w1 w')) :
    Calls Try.prog 7 #[.slice (some ⟨b, off, none⟩) n cap, .slice (some ⟨b', off', none⟩) n cap'] w fun e w' => SJoin w n (joinF f f') (joinG g g') e w' := by
  obtain ⟨i0, hi, hz0, hz1, hz2⟩ := infoRange_parts
  have hnn : ((n : Int) != (n : Int)) = false := by simp
  have HR := hide hr
  have HR' := hide hr'
  clear hr hr'
  go_enter Try.func7, Try.ntmps7
  go_wp2_with fail
  refine A.out.mono ?_
  rintro e w1 ⟨rfl, hb1⟩
  go_wp2_with fail
  refine (B.out _ hb1).mono ?_
  rintro e w2 ⟨rfl, hb2⟩
  have Bw2 : Below w.heap.size w w2 := (by repeat' first | with_reducible exact Below.refl _ _ | with_reducible assumption | with_reducible refine below_drewN ?_ _ | with_reducible refine balloc ?_ _ | with_reducible refine Below.drew ?_ | with_reducible refine Below.setCell ?_ (by first | (simp; done) | (simp; omega) | omega) _ | with_reducible refine bstep ?_ (by assumption))
  have hs2 := Bw2.size
  clear A B hb1 hb2
  go_wp2_with fail
  go_loopw [6, 7] (fun v i wr => ∃ k : Nat, k ≤ n ∧ i = .int .i64 k ∧ wr.ownsRow w.heap.size 34 2 v k (pvals (joinF f f') (joinG g g') k) ∧ Below w.heap.size w wr) (fun _ i _ => n - (intOf i).toNat)
  case atStart => exact ⟨0, Nat.zero_le _, rfl, World.ownsRow_made w2 #[] 0 hs2 (Nat.zero_le _) rfl, (by repeat' first | with_reducible exact Below.refl _ _ | with_reducible assumption | with_reducible refine below_drewN ?_ _ | with_reducible refine balloc ?_ _ | with_reducible refine Below.drew ?_ | with_reducible refine Below.setCell ?_ (by first | (simp; done) | (simp; omega) | omega) _ | with_reducible refine bstep ?_ (by assumption))⟩
  case round =>
    obtain ⟨k, hk, rfl, hown, hbel⟩ := hrel
    have HC := hide hc
    have HC' := hide hc'
    have HB := hide hbel
    by_cases hlt : k < n
    · have z1 : wr.cell? ⟨b, off + k * 2, none⟩ = some (.int .i64 (f k)) := (hbel.cell (p := ⟨b, off + k * 2, none⟩) hb).trans (hc k hlt).1
      have z2 : wr.cell? ⟨b, off + k * 2 + 1, none⟩ = some (.int .i64 (g k)) := (hbel.cell (p := ⟨b, off + k * 2 + 1, none⟩) hb).trans (hc k hlt).2
      have z3 : wr.cell? ⟨b', off' + k * 2, none⟩ = some (.int .i64 (f' k)) := (hbel.cell (p := ⟨b', off' + k * 2, none⟩) hb').trans (hc' k hlt).1
      have z4 : wr.cell? ⟨b', off' + k * 2 + 1, none⟩ = some (.int .i64 (g' k)) := (hbel.cell (p := ⟨b', off' + k * 2 + 1, none⟩) hb').trans (hc' k hlt).2
      have hlt' : (k : Int) < (n : Int) := by omega
      have l1 : b < wr.heap.size := Nat.lt_of_lt_of_le hb hbel.size
      have l2 : b' < wr.heap.size := Nat.lt_of_lt_of_le hb' hbel.size
      have sz := hbel.size
      have R := sRangeJoin_any (f k) (g k) (f' k) (g' k)
      rw [show joinB (f k) (g k) (f' k) (g' k) = true from by unfold joinB; rw [HR.out k hlt, HR'.out k hlt]; rfl] at R
      simp only [if_true] at R
      have R := hide R
      have HO := hide hown
      clear hbel hc hc' hown
      go_upto_region 7 with fail
      go_region_held_law (fun w' => w'.cell? ⟨b, off + k * 2, none⟩ = some (.int .i64 (f k)) ∧ w'.cell? ⟨b, off + k * 2 + 1, none⟩ = some (.int .i64 (g k)) ∧ w'.cell? ⟨b', off' + k * 2, none⟩ = some (.int .i64 (f' k)) ∧ w'.cell? ⟨b', off' + k * 2 + 1, none⟩ = some (.int .i64 (g' k))) (refine ⟨?_, ?_, ?_, ?_⟩ <;> first | assumption | (simp [go_sem]; done) | (rw [World.cell?_alloc_past _ _ _ (by omega)]; assumption))
        (first
          | (go_at_call 18; refine (R.out _).mono ?_; rintro e wn ⟨rfl, hbn⟩; have s1 := (hbn.cell (p := ⟨b, off + k * 2, none⟩) l1).trans z1; have s2 := (hbn.cell (p := ⟨b, off + k * 2 + 1, none⟩) l1).trans z2; have s3 := (hbn.cell (p := ⟨b', off' + k * 2, none⟩) l2).trans z3; have s4 := (hbn.cell (p := ⟨b', off' + k * 2 + 1, none⟩) l2).trans z4; have szn : wr.heap.size ≤ wn.heap.size := hbn.size; have HOn := hide (owns_below (owns_drewP HO.out) hbn); have HBn := hide (bstep (HB.out.drew) hbn))
          | (refine step_append_lies _ rfl _ _ 24 rfl w.heap.size 34 i0 _ 2 16 Try.underlying24 hi hz0 hz1 hz2 rfl (by decide) _ _ _ rfl (HOn.out.alloc _) ⟨_, 0, none⟩ 1 1 [.int .i64 (min (f k) (f' k)), .int .i64 (max (g k) (g' k))] rfl rfl (two_new _ _ _ _) (by intro u hu; simp at hu; rcases hu with rfl | rfl <;> rfl) (by omega) (by unfold maxLen; omega) (by omega) (by simp; omega) _ rfl ?_; intro gg cc wq hown1 hgrow hat hglt; have HBq := hide (below_appP (balloc HBn.out _) (by simp; omega) (HOn.out.alloc _) hgrow); have t1 := (HBq.out.cell (p := ⟨b, off + k * 2, none⟩) hb).trans (HC.out k hlt).1; have t2 := (HBq.out.cell (p := ⟨b, off + k * 2 + 1, none⟩) hb).trans (HC.out k hlt).2; have t3 := (HBq.out.cell (p := ⟨b', off' + k * 2, none⟩) hb').trans (HC'.out k hlt).1; have t4 := (HBq.out.cell (p := ⟨b', off' + k * 2 + 1, none⟩) hb').trans (HC'.out k hlt).2))
      all_goals
        have HO1 := hide hown1
        clear hown1 hgrow hat
        go_wp2_with fail
        go_roundw
        case rel => exact ⟨k + 1, by omega, by go_num, HO1.out, HBq.out⟩
        case measure => simp [intOf]; omega
    · obtain rfl : k = n := by omega
      obtain ⟨a2, c2, hv2, hr2, _⟩ := prow_of_owns hown
      subst hv2
      clear hbel hc hc' hown
      go_wp2_with fail
      refine bodyPost_ret (v := .tuple #[.slice a2 k c2, .bool true]) ?_ rfl ⟨a2, c2, rfl, hr2, HB.out⟩
      simp [results, Try.results7, go_sem]
end Go.Proofs.Ytobnlchlmhnnlaa

/- BoxJoin of the model, all arguments; the walk of FnExactBoxJoin. -/
namespace Go.Proofs.Ytobnlchlmhnnlaa
open Go.RowKit
set_option maxRecDepth 8000
set_option linter.unusedSimpArgs false
set_option linter.unusedVariables false

set_option maxHeartbeats 800000 in
theorem sBoxJoin_no (a a' : Option Addr) (n cap n' cap' : Nat) (f g f' g' : Nat → Int) (w : World) (h : PRow w a n f g) (h' : PRow w a' n' f' g') (hn : n ≤ 1048576) (hn' : n' ≤ 1048576) (hA : alikeB n f g n' f' g' = false) :
    Calls Try.prog 7 #[.slice a n cap, .slice a' n' cap'] w fun e w' => e = .returned (.tuple #[.slice none 0 0, .bool false]) ∧ Below w.heap.size w w' := by
  have A := hide (sBoxOk_any a n cap f g w h hn)
  have B := hide (fun w1 (hb : Below w.heap.size w w1) => sBoxOk_any a' n' cap' f' g' w1 (h'.below hb) hn')
  clear h h'
  unfold alikeB at hA
  cases h1 : boxB n f g
  · rw [h1] at A
    go_enter Try.func7, Try.ntmps7
    go_wp2_with fail
    refine A.out.mono ?_
    rintro e w1 ⟨rfl, hb1⟩
    go_wp2_with fail
    refine bodyPost_ret (v := .tuple #[.slice none 0 0, .bool false]) ?_ rfl ⟨rfl, (by repeat' first | with_reducible exact Below.refl _ _ | with_reducible assumption | with_reducible refine below_drewN ?_ _ | with_reducible refine balloc ?_ _ | with_reducible refine Below.drew ?_ | with_reducible refine Below.setCell ?_ (by first | (simp; done) | (simp; omega) | omega) _ | with_reducible refine bstep ?_ (by assumption))⟩
    simp [results, Try.results7, go_sem]
  · rw [h1] at A hA
    cases h2 : boxB n' f' g'
    · rw [h2] at B
      clear hA
      go_enter Try.func7, Try.ntmps7
      go_wp2_with fail
      refine A.out.mono ?_
      rintro e w1 ⟨rfl, hb1⟩
      go_wp2_with fail
      refine (B.out _ hb1).mono ?_
      rintro e w2 ⟨rfl, hb2⟩
      go_wp2_with fail
      refine bodyPost_ret (v := .tuple #[.slice none 0 0, .bool false]) ?_ rfl ⟨rfl, (by repeat' first | with_reducible exact Below.refl _ _ | with_reducible assumption | with_reducible refine below_drewN ?_ _ | with_reducible refine balloc ?_ _ | with_reducible refine Below.drew ?_ | with_reducible refine Below.setCell ?_ (by first | (simp; done) | (simp; omega) | omega) _ | with_reducible refine bstep ?_ (by assumption))⟩
      simp [results, Try.results7, go_sem]
    · rw [h2] at B hA
      have he' : ((n : Int) != (n' : Int)) = true := by
        simp at hA
        rw [bne_iff_ne]; omega
      clear hA
      go_enter Try.func7, Try.ntmps7
      go_wp2_with fail
      refine A.out.mono ?_
      rintro e w1 ⟨rfl, hb1⟩
      go_wp2_with fail
      refine (B.out _ hb1).mono ?_
      rintro e w2 ⟨rfl, hb2⟩
      go_wp2_with fail
      refine bodyPost_ret (v := .tuple #[.slice none 0 0, .bool false]) ?_ rfl ⟨rfl, (by repeat' first | with_reducible exact Below.refl _ _ | with_reducible assumption | with_reducible refine below_drewN ?_ _ | with_reducible refine balloc ?_ _ | with_reducible refine Below.drew ?_ | with_reducible refine Below.setCell ?_ (by first | (simp; done) | (simp; omega) | omega) _ | with_reducible refine bstep ?_ (by assumption))⟩
      simp [results, Try.results7, go_sem]

theorem sBoxJoin_yes (a a' : Option Addr) (n cap n' cap' : Nat) (f g f' g' : Nat → Int) (w : World) (h : PRow w a n f g) (h' : PRow w a' n' f' g') (hA : alikeB n f g n' f' g' = true) :
    Calls Try.prog 7 #[.slice a n cap, .slice a' n' cap'] w fun e w' => SJoin w n (joinF f f') (joinG g g') e w' := by
  simp only [alikeB, Bool.and_eq_true, decide_eq_true_eq] at hA
  obtain ⟨⟨h1, h2⟩, rfl⟩ := hA
  have hn := boxB_num h1
  have A := hide (sBoxOk_any a n cap f g w h (by omega))
  have B := hide (fun w1 (hb : Below w.heap.size w w1) => sBoxOk_any a' n cap' f' g' w1 (h'.below hb) (by omega))
  rw [h1] at A
  rw [h2] at B
  rcases h.lies with q | ⟨b, off, rfl, lt, hc⟩
  · omega
  · rcases h'.lies with q | ⟨b', off', rfl, lt', hc'⟩
    · omega
    · exact sBoxJoin_some b off n cap b' off' cap' f g f' g' w hn.2 lt lt' (fun i hi => boxB_at h1 hi) (fun i hi => boxB_at h2 hi) hc hc' A B



end Go.Proofs.Ytobnlchlmhnnlaa