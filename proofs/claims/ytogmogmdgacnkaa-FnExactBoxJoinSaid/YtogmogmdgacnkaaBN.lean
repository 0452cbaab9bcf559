/- BoxJoin of the program. -/
import Derived.Test.YtogmogmdgacnkaaBM
import Derived.Test.YtogmogmdgacnkaaBE
import Derived.Test.YtogmogmdgacnkaaWD
namespace Go.Proofs.Ytogmogmdgacnkaa
open Go.RowKit
set_option linter.unusedSimpArgs false
set_option linter.unusedVariables false

def joinF (f f' : Nat → Int) (i : Nat) : Int := min (f i) (f' i)
def joinG (g g' : Nat → Int) (i : Nat) : Int := max (g i) (g' i)

def IJoin (w : World) (n : Nat) (F G : Nat → Int) (e : Ending) (w' : World) : Prop :=
  ∃ b, e = .returned (.tuple #[.slice (some ⟨b, 0, none⟩) n n, .bool true]) ∧ w.heap.size ≤ b ∧ OwnP w' b n F G ∧ Below w.heap.size w w'

set_option maxHeartbeats 1600000 in
theorem iBoxJoin_some (b off n cap b' off' cap' : Nat) (f g f' g' : Nat → Int) (w : World) (h8 : n ≤ 8) (hb : b < w.heap.size) (hb' : b' < w.heap.size)
    (hc : ∀ i, i < n → w.cell? ⟨b, off + i * 2, none⟩ = some (.int .i64 (f i)) ∧ w.cell? ⟨b, off + i * 2 + 1, none⟩ = some (.int .i64 (g i)))
    (hc' : ∀ i, i < n → w.cell? ⟨b', off' + i * 2, none⟩ = some (.int .i64 (f' i)) ∧ w.cell? ⟨b', off' + i * 2 + 1, none⟩ = some (.int .i64 (g' i)))
    (AL : Hid (Calls Try.prog 23 #[.slice (some ⟨b, off, none⟩) n cap, .slice (some ⟨b', off', none⟩) n cap'] w fun e w' => e = .returned (.bool true) ∧ Below w.heap.size w w')) :
    Calls Try.prog 14 #[.slice (some ⟨b, off, none⟩) n cap, .slice (some ⟨b', off', none⟩) n cap'] w fun e w' => IJoin w n (joinF f f') (joinG g g') e w' := by
  have hmk := run_make_pairs (P := Try.prog) 25 35 (.int .i64 0) (.int .i64 0) 16 Try.underlying25 Try.infoRange .i64 .i64 n (by omega) (by omega)
  go_enter Try.func14, Try.ntmps14
  go_wp2_with fail
  refine AL.out.mono ?_
  rintro e w1 ⟨rfl, hb1⟩
  go_wp2_with fail
  have hs1 := hb1.size
  go_loopw [18] (fun i wr => ∃ k : Nat, k ≤ n ∧ i = .int .i64 k ∧ OwnP wr w1.heap.size n (upTo k (joinF f f')) (upTo k (joinG g g')) ∧ Below w.heap.size w wr) (fun i _ => n - (intOf i).toNat)
  case atStart => exact ⟨0, Nat.zero_le _, rfl, (OwnP.made w1 n).congr (fun j _ => by simp [upTo]) (fun j _ => by simp [upTo]), (by repeat' first | with_reducible exact Below.refl _ _ | with_reducible assumption | with_reducible refine below_drewN ?_ _ | with_reducible refine balloc ?_ _ | with_reducible refine Below.drew ?_ | with_reducible refine Below.setCell ?_ (by first | (simp; done) | (simp; omega) | omega) _ | with_reducible refine bstep ?_ (by assumption))⟩
  case round =>
    obtain ⟨k, hk, rfl, hrow, hbel⟩ := hrel
    have HC := hide hc
    have HC' := hide hc'
    have HB := hide hbel
    have HR := hide hrow
    by_cases hlt : k < n
    · have z1 : wr.cell? ⟨b, off + k * 2, none⟩ = some (.int .i64 (f k)) := (hbel.cell (p := ⟨b, off + k * 2, none⟩) hb).trans (hc k hlt).1
      have z2 : wr.cell? ⟨b, off + k * 2 + 1, none⟩ = some (.int .i64 (g k)) := (hbel.cell (p := ⟨b, off + k * 2 + 1, none⟩) hb).trans (hc k hlt).2
      have hlt' : (k : Int) < (n : Int) := by omega
      have l2 : b' < wr.heap.size := Nat.lt_of_lt_of_le hb' hbel.size
      have l0 := hrow.lt
      have hal := balloc (Below.refl wr.heap.size wr) (.cells #[.int .i64 (f k), .int .i64 (g k)] 35)
      have z3 : (wr.alloc (.cells #[.int .i64 (f k), .int .i64 (g k)] 35)).cell? ⟨b', off' + k * 2, none⟩ = some (.int .i64 (f' k)) := ((hal.cell (p := ⟨b', off' + k * 2, none⟩) l2).trans (hbel.cell (p := ⟨b', off' + k * 2, none⟩) hb')).trans (hc' k hlt).1
      have z4 : (wr.alloc (.cells #[.int .i64 (f k), .int .i64 (g k)] 35)).cell? ⟨b', off' + k * 2 + 1, none⟩ = some (.int .i64 (g' k)) := ((hal.cell (p := ⟨b', off' + k * 2 + 1, none⟩) l2).trans (hbel.cell (p := ⟨b', off' + k * 2 + 1, none⟩) hb')).trans (hc' k hlt).2
      have HR1 := hide (hrow.below hal)
      have l3 : b' < (wr.alloc (.cells #[.int .i64 (f k), .int .i64 (g k)] 35)).heap.size := by simp; omega
      have R := hide (join_any (f k) (g k) (f' k) (g' k))
      clear hbel hc hc' hal hrow
      have n1 : b' ≠ w1.heap.size := by omega
      have n2 : wr.heap.size ≠ w1.heap.size := by omega
      have KB := hide (fun (W : World) (hW : Below (wr.alloc (.cells #[.int .i64 (f k), .int .i64 (g k)] 35)).drew.heap.size (wr.alloc (.cells #[.int .i64 (f k), .int .i64 (g k)] 35)).drew W) => OwnP.below (w := (wr.alloc (.cells #[.int .i64 (f k), .int .i64 (g k)] 35)).drew) HR1.out hW)
      go_upto_region 7 with fail
      go_region_held3 (fun w' => w'.cell? ⟨wr.heap.size, 0, none⟩ = some (.int .i64 (f k)) ∧ w'.cell? ⟨wr.heap.size, 1, none⟩ = some (.int .i64 (g k)) ∧ w'.cell? ⟨b', off' + k * 2, none⟩ = some (.int .i64 (f' k)) ∧ w'.cell? ⟨b', off' + k * 2 + 1, none⟩ = some (.int .i64 (g' k))) (refine ⟨?_, ?_, ?_, ?_⟩ <;> first | assumption | (simp [go_sem]; done) | (simp [go_sem, *]; done) | (go_keep; done)) ((go_at_call 26; refine (R.out _).mono ?_; rintro e wn ⟨rfl, hbn⟩; have s1 : wn.cell? ⟨wr.heap.size, 0, none⟩ = some (.int .i64 (f k)) := (hbn.cell (p := ⟨wr.heap.size, 0, none⟩) (by simp)).trans (by simp [go_sem]); have s2 : wn.cell? ⟨wr.heap.size, 1, none⟩ = some (.int .i64 (g k)) := (hbn.cell (p := ⟨wr.heap.size, 1, none⟩) (by simp)).trans (by simp [go_sem]); have s3 := (hbn.cell (p := ⟨b', off' + k * 2, none⟩) l3).trans z3; have s4 := (hbn.cell (p := ⟨b', off' + k * 2 + 1, none⟩) l3).trans z4; have HRn := hide (KB.out _ hbn); have y0 := HRn.out.c0 hlt; have y1 := HRn.out.c1 hlt; have y2 := World.rowIs.frozen HRn.out (k * 2); have y3 := World.rowIs.frozen HRn.out (k * 2 + 1)))
      all_goals
        go_wp2_with fail
        go_roundw
        case rel =>
          have hbel := HB.out
          have hn1 : w.heap.size ≤ w1.heap.size := hs1
          exact ⟨k + 1, by omega, by go_num, HRn.out.step, (by repeat' first | with_reducible exact Below.refl _ _ | with_reducible assumption | with_reducible refine below_drewN ?_ _ | with_reducible refine balloc ?_ _ | with_reducible refine Below.drew ?_ | with_reducible refine Below.setCell ?_ (by first | (simp; done) | (simp; omega) | omega) _ | with_reducible refine bstep ?_ (by assumption))⟩
        case measure => simp [intOf]; omega
    · clear hbel hc hc'
      go_wp2_with fail
      refine bodyPost_ret (v := .tuple #[.slice (some ⟨w1.heap.size, 0, none⟩) n n, .bool true]) ?_ rfl ⟨_, rfl, hs1, hrow.congr (fun j hj => by rw [upTo, if_pos (by omega)]) (fun j hj => by rw [upTo, if_pos (by omega)]), HB.out⟩
      simp [results, Try.results14, go_sem]

set_option maxHeartbeats 800000 in
theorem iBoxJoin_no (a a' : Option Addr) (n cap n' cap' : Nat) (f g f' g' : Nat → Int) (w : World) (h : PRow w a n f g) (h' : PRow w a' n' f' g') (hA : alikeB n f g n' f' g' = false) :
    Calls Try.prog 14 #[.slice a n cap, .slice a' n' cap'] w fun e w' => e = .returned (.tuple #[.slice none 0 0, .bool false]) ∧ Below w.heap.size w w' := by
  have AL := hide (boxesAlike_any a a' n cap n' cap' f g f' g' w h h')
  rw [hA] at AL
  clear h h'
  go_enter Try.func14, Try.ntmps14
  go_wp2_with fail
  refine AL.out.mono ?_
  rintro e w1 ⟨rfl, hb1⟩
  go_wp2_with fail
  refine bodyPost_ret (v := .tuple #[.slice none 0 0, .bool false]) ?_ rfl ⟨rfl, (by repeat' first | with_reducible exact Below.refl _ _ | with_reducible assumption | with_reducible refine below_drewN ?_ _ | with_reducible refine balloc ?_ _ | with_reducible refine Below.drew ?_ | with_reducible refine Below.setCell ?_ (by first | (simp; done) | (simp; omega) | omega) _ | with_reducible refine bstep ?_ (by assumption))⟩
  simp [results, Try.results14, go_sem]

theorem iBoxJoin_yes (a a' : Option Addr) (n cap n' cap' : Nat) (f g f' g' : Nat → Int) (w : World) (h : PRow w a n f g) (h' : PRow w a' n' f' g') (hA : alikeB n f g n' f' g' = true) :
    Calls Try.prog 14 #[.slice a n cap, .slice a' n' cap'] w fun e w' => IJoin w n (joinF f f') (joinG g g') e w' := by
  have AL := hide (boxesAlike_any a a' n cap n' cap' f g f' g' w h h')
  rw [hA] at AL
  simp only [alikeB, Bool.and_eq_true, decide_eq_true_eq] at hA
  obtain ⟨⟨h1, h2⟩, rfl⟩ := hA
  have hn := boxB_num h1
  rcases h.lies with q | ⟨b, off, rfl, lt, hc⟩
  · omega
  · rcases h'.lies with q | ⟨b', off', rfl, lt', hc'⟩
    · omega
    · exact iBoxJoin_some b off n cap b' off' cap' f g f' g' w hn.2 lt lt' hc hc' AL
end Go.Proofs.Ytogmogmdgacnkaa
