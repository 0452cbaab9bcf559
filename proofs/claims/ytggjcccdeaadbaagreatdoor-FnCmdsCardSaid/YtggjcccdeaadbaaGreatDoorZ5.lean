/- Three cells, by place. -/
import Derived.Test.YtggjcccdeaadbaaGreatDoorZ4
import Derived.Deep.OwnRows
import Derived.Deep.LoopGhost
import Derived.Deep.RegionWith
import Derived.Deep.DeepCutAuto
namespace Go.Proofs.YtggjcccdeaadbaaGreatDoor
open Go.RowKit
set_option maxRecDepth 8000
set_option linter.unusedSimpArgs false
set_option linter.unusedVariables false

/-- A list of three numbers, by place. -/
def f3 (a b c : Int) (j : Nat) : Value := .int .i64 (if j = 0 then a else if j = 1 then b else c)

theorem f3_new (w : World) (a b c : Int) (T : TypeId) : (w.alloc (.cells #[.int .i64 a, .int .i64 b, .int .i64 c] T)).rowIs w.heap.size T 3 (f3 a b c) :=
  World.rowIs_alloc w #[.int .i64 a, .int .i64 b, .int .i64 c] T (f3 a b c) (by intro i hi; rcases (show i = 0 ∨ i = 1 ∨ i = 2 from by simp at hi; omega) with rfl | rfl | rfl <;> rfl)

theorem f3_set0 {w : World} {q : Nat} {T : TypeId} {a b c : Int} (h : w.rowIs q T 3 (f3 a b c)) (x : Int) : (w.setCell ⟨q, 0, none⟩ (.int .i64 x)).rowIs q T 3 (f3 x b c) :=
  (World.rowIs.set h 0 _).congr fun j hj => by rcases (show j = 0 ∨ j = 1 ∨ j = 2 from by omega) with rfl | rfl | rfl <;> rfl

theorem f3_set1 {w : World} {q : Nat} {T : TypeId} {a b c : Int} (h : w.rowIs q T 3 (f3 a b c)) (x : Int) : (w.setCell ⟨q, 1, none⟩ (.int .i64 x)).rowIs q T 3 (f3 a x c) :=
  (World.rowIs.set h 1 _).congr fun j hj => by rcases (show j = 0 ∨ j = 1 ∨ j = 2 from by omega) with rfl | rfl | rfl <;> rfl

theorem f3_set2 {w : World} {q : Nat} {T : TypeId} {a b c : Int} (h : w.rowIs q T 3 (f3 a b c)) (x : Int) : (w.setCell ⟨q, 2, none⟩ (.int .i64 x)).rowIs q T 3 (f3 a b x) :=
  (World.rowIs.set h 2 _).congr fun j hj => by rcases (show j = 0 ∨ j = 1 ∨ j = 2 from by omega) with rfl | rfl | rfl <;> rfl

theorem three_set {w : World} {T : TypeId} {b : Nat} {F : Nat → Value} (h : w.rowIs b T 3 F) (v0 v1 v2 : Value) :
    (((w.setCell ⟨b, 0, none⟩ v0).setCell ⟨b, 1, none⟩ v1).setCell ⟨b, 2, none⟩ v2).cell? ⟨b, 0, none⟩ = some v0 ∧ (((w.setCell ⟨b, 0, none⟩ v0).setCell ⟨b, 1, none⟩ v1).setCell ⟨b, 2, none⟩ v2).cell? ⟨b, 1, none⟩ = some v1 ∧ (((w.setCell ⟨b, 0, none⟩ v0).setCell ⟨b, 1, none⟩ v1).setCell ⟨b, 2, none⟩ v2).cell? ⟨b, 2, none⟩ = some v2 := by
  have W3 := World.rowIs.set (World.rowIs.set (World.rowIs.set h 0 v0) 1 v1) 2 v2
  exact ⟨by simpa using World.rowIs.cell W3 (show 0 < 3 by omega), by simpa using World.rowIs.cell W3 (show 1 < 3 by omega), by simpa using World.rowIs.cell W3 (show 2 < 3 by omega)⟩
end Go.Proofs.YtggjcccdeaadbaaGreatDoor

/- Slices of int64 in memory: what a slice leads to ('Row'); contracts of the small functions of the laws over them: toInt64S, eqInt64S, markInt64S, heldInt64S. -/
namespace Go.Proofs.YtggjcccdeaadbaaGreatDoor
open Go.RowKit
set_option maxRecDepth 8000























end Go.Proofs.YtggjcccdeaadbaaGreatDoor

/- An answer that the program made ('Mine'): nil, or a row of its own: read, marked, held. -/
namespace Go.Proofs.YtggjcccdeaadbaaGreatDoor
open Go.RowKit
set_option maxRecDepth 8000
set_option linter.unusedSimpArgs false

structure Mine (base : Nat) (w : World) (a : Option Addr) (n : Nat) (xs : List Int) : Prop where
  len : xs.length = n
  lies : (a = none ∧ n = 0) ∨ ∃ g, a = some ⟨g, 0, none⟩ ∧ base ≤ g ∧ Own w g xs

theorem Mine.row {base : Nat} {w : World} {a : Option Addr} {n : Nat} {xs : List Int} (h : Mine base w a n xs) : Row w a n xs := by
  rcases h.lies with ⟨rfl, h0⟩ | ⟨g, rfl, hb, ho⟩
  · exact ⟨h.len, .inl h0⟩
  · have := ho.row
    rw [h.len] at this
    exact this

theorem Mine.below {base : Nat} {w w' : World} {a : Option Addr} {n : Nat} {xs : List Int} (h : Mine base w a n xs) (hb : Below w.heap.size w w') : Mine base w' a n xs := by
  refine ⟨h.len, ?_⟩
  rcases h.lies with h0 | ⟨g, e, hg, ho⟩
  · exact .inl h0
  · exact .inr ⟨g, e, hg, ho.below hb⟩

theorem Mine.but {base g' : Nat} {w w' : World} {a : Option Addr} {n : Nat} {xs : List Int} (h : Mine base w a n xs) (hb : But g' w w') (hg : g' < base) : Mine base w' a n xs := by
  refine ⟨h.len, ?_⟩
  rcases h.lies with h0 | ⟨g, e, hg, ho⟩
  · exact .inl h0
  · exact .inr ⟨g, e, hg, hb.own ho (by omega)⟩
/-- What lies below a base is as it was, where all below it is. -/
theorem Row.belowAt {B : Nat} {w w' : World} {a : Option Addr} {n : Nat} {xs : List Int} (h : Row w a n xs) (hb : Below B w w') (hlt : ∀ b off, a = some ⟨b, off, none⟩ → b < B) : Row w' a n xs := by
  refine ⟨h.len, ?_⟩
  rcases h.lies with h0 | ⟨b, off, e, lt, hc⟩
  · exact .inl h0
  · exact .inr ⟨b, off, e, Nat.lt_of_lt_of_le lt hb.size, fun i hi => (hb.cell (p := ⟨b, off + i, none⟩) (hlt b off e)).trans (hc i hi)⟩

theorem Row.lt {w : World} {a : Option Addr} {n : Nat} {xs : List Int} (h : Row w a n xs) (hn : 0 < n) : ∀ b off, a = some ⟨b, off, none⟩ → b < w.heap.size := by
  intro b off e
  rcases h.lies with h0 | ⟨b', off', e', lt, _⟩
  · omega
  · rw [e] at e'; cases e'; exact lt

theorem Row.belowFrom {B : Nat} {w0 w w' : World} {a : Option Addr} {n : Nat} {xs : List Int} (h0 : Row w0 a n xs) (h : Row w a n xs) (hb : Below B w w') (hB : w0.heap.size ≤ B) : Row w' a n xs := by
  by_cases hn : n = 0
  · exact ⟨h.len, .inl hn⟩
  · exact h.belowAt hb fun b off e => Nat.lt_of_lt_of_le (h0.lt (by omega) b off e) hB

theorem Row.butFrom {g : Nat} {w0 w w' : World} {a : Option Addr} {n : Nat} {xs : List Int} (h0 : Row w0 a n xs) (h : Row w a n xs) (hb : But g w w') (hg : w0.heap.size ≤ g) : Row w' a n xs := by
  by_cases hn : n = 0
  · exact ⟨h.len, .inl hn⟩
  · exact hb.row h fun b off e => by have := h0.lt (by omega) b off e; omega



end Go.Proofs.YtggjcccdeaadbaaGreatDoor
/- The contract of sameInts. -/
namespace Go.Proofs.YtggjcccdeaadbaaGreatDoor
open Go.RowKit
set_option maxRecDepth 8000

set_option maxHeartbeats 400000 in
theorem sameInts_some (b off n cap b' off' cap' : Nat) (xs ys : List Int) (w : World) (hl : xs.length = n) (hl' : ys.length = n) (hn : n ≤ 1048576) (hb : b < w.heap.size) (hb' : b' < w.heap.size)
    (hc : ∀ i, i < n → w.cell? ⟨b, off + i, none⟩ = some (.int .i64 (nth xs i))) (hc' : ∀ i, i < n → w.cell? ⟨b', off' + i, none⟩ = some (.int .i64 (nth ys i))) :
    Calls Tryz.prog 32 #[.slice (some ⟨b, off, none⟩) n cap, .slice (some ⟨b', off', none⟩) n cap'] w fun e w' => e = .returned (.bool (decide (xs = ys))) ∧ Below w.heap.size w w' := by
  go_enter Tryz.func32, Tryz.ntmps32
  go_wp2
  go_loopw [5] (fun i wr => ∃ k : Nat, k ≤ n ∧ i = .int .i64 k ∧ (∀ j, j < k → nth xs j = nth ys j) ∧ Below w.heap.size w wr) (fun i _ => n - (intOf i).toNat)
  case atStart => exact ⟨0, Nat.zero_le _, rfl, fun j h => absurd h (by omega), (by repeat' first | with_reducible exact Below.refl _ _ | with_reducible assumption | with_reducible refine below_drewN ?_ _ | with_reducible refine balloc ?_ _ | with_reducible refine Below.drew ?_ | with_reducible refine Below.setCell ?_ (by first | (simp; done) | (simp; omega) | omega) _ | with_reducible refine bstep ?_ (by assumption))⟩
  case round =>
    obtain ⟨k, hk, rfl, hpre, hbel⟩ := hrel
    have HP : Hid (∀ j, j < k → nth xs j = nth ys j) := hpre
    have HC : Hid (∀ i, i < n → w.cell? ⟨b, off + i, none⟩ = some (.int .i64 (nth xs i))) := hc
    have HC' : Hid (∀ i, i < n → w.cell? ⟨b', off' + i, none⟩ = some (.int .i64 (nth ys i))) := hc'
    have HB : Hid (Below w.heap.size w wr) := hbel
    by_cases hlt : k < n
    · have h1 : wr.cell? ⟨b, off + k, none⟩ = some (.int .i64 (nth xs k)) := (hbel.cell (p := ⟨b, off + k, none⟩) hb).trans (hc k hlt)
      have h2 : wr.cell? ⟨b', off' + k, none⟩ = some (.int .i64 (nth ys k)) := (hbel.cell (p := ⟨b', off' + k, none⟩) hb').trans (hc' k hlt)
      have hlt' : (k : Int) < (n : Int) := by omega
      clear hpre hbel hc hc'
      by_cases he : nth xs k = nth ys k
      · have hne : (nth xs k != nth ys k) = false := by simp [he]
        have HE : Hid (nth xs k = nth ys k) := he
        clear he
        go_wp2
        go_quiet (fail)
        go_wp2
        go_roundw
        case rel => exact ⟨k + 1, by omega, by go_num, fun j hj => (by rcases Nat.lt_succ_iff_lt_or_eq.1 hj with h | h; exact HP.out j h; rw [h]; exact HE.out), (by have := HB.out; exact (by repeat' first | with_reducible exact Below.refl _ _ | with_reducible assumption | with_reducible refine below_drewN ?_ _ | with_reducible refine balloc ?_ _ | with_reducible refine Below.drew ?_ | with_reducible refine Below.setCell ?_ (by first | (simp; done) | (simp; omega) | omega) _ | with_reducible refine bstep ?_ (by assumption)))⟩
        case measure => simp [intOf]; omega
      · have hne : (nth xs k != nth ys k) = true := by simp [he]
        have HE : Hid (¬ nth xs k = nth ys k) := he
        clear he
        go_wp2
        go_quiet (fail)
        go_wp2
        go_ret
        exact ⟨by rw [show decide (xs = ys) = false from decide_eq_false fun e => HE.out (by rw [e])]; rfl, (by have := HB.out; exact (by repeat' first | with_reducible exact Below.refl _ _ | with_reducible assumption | with_reducible refine below_drewN ?_ _ | with_reducible refine balloc ?_ _ | with_reducible refine Below.drew ?_ | with_reducible refine Below.setCell ?_ (by first | (simp; done) | (simp; omega) | omega) _ | with_reducible refine bstep ?_ (by assumption)))⟩
    · clear hpre hbel hc hc'
      go_wp2
      go_ret
      exact ⟨by rw [show decide (xs = ys) = true from decide_eq_true (nth_ext (hl.trans hl'.symm) fun j hj => HP.out j (by omega))]; rfl, HB.out⟩

set_option maxHeartbeats 400000 in
theorem sameInts_len (a a' : Option Addr) (n cap n' cap' : Nat) (w : World) (h : ¬ n = n') :
    Calls Tryz.prog 32 #[.slice a n cap, .slice a' n' cap'] w fun e w' => e = .returned (.bool false) ∧ Below w.heap.size w w' := by
  have hne : ((n : Int) != (n' : Int)) = true := by rw [bne_iff_ne]; omega
  go_enter Tryz.func32, Tryz.ntmps32
  go_wp2
  go_ret
  exact ⟨rfl, (by repeat' first | with_reducible exact Below.refl _ _ | with_reducible assumption | with_reducible refine below_drewN ?_ _ | with_reducible refine balloc ?_ _ | with_reducible refine Below.drew ?_ | with_reducible refine Below.setCell ?_ (by first | (simp; done) | (simp; omega) | omega) _ | with_reducible refine bstep ?_ (by assumption))⟩

set_option maxHeartbeats 400000 in
theorem sameInts_none (a a' : Option Addr) (n cap cap' : Nat) (w : World) (hn : n < 1) :
    Calls Tryz.prog 32 #[.slice a n cap, .slice a' n cap'] w fun e w' => e = .returned (.bool true) ∧ Below w.heap.size w w' := by
  go_enter Tryz.func32, Tryz.ntmps32
  go_wp2
  refine wp_loop_rounds 1 ?_
  rw [rounds_succ]
  go_wp2
  go_ret
  exact ⟨rfl, (by repeat' first | with_reducible exact Below.refl _ _ | with_reducible assumption | with_reducible refine below_drewN ?_ _ | with_reducible refine balloc ?_ _ | with_reducible refine Below.drew ?_ | with_reducible refine Below.setCell ?_ (by first | (simp; done) | (simp; omega) | omega) _ | with_reducible refine bstep ?_ (by assumption))⟩

theorem sameInts_any (a a' : Option Addr) (n cap n' cap' : Nat) (xs ys : List Int) (w : World) (h : Row w a n xs) (h' : Row w a' n' ys) (hn : n ≤ 1048576) :
    Calls Tryz.prog 32 #[.slice a n cap, .slice a' n' cap'] w fun e w' => e = .returned (.bool (decide (xs = ys))) ∧ Below w.heap.size w w' := by
  by_cases e : n = n'
  · subst e
    rcases h.lies with h0 | ⟨b, off, rfl, hb, hc⟩
    · have hx : xs = [] := List.eq_nil_of_length_eq_zero (h.len.trans h0)
      have hy : ys = [] := List.eq_nil_of_length_eq_zero (h'.len.trans h0)
      subst hx hy
      simpa using sameInts_none a a' n cap cap' w (by omega)
    · rcases h'.lies with h0 | ⟨b', off', rfl, hb', hc'⟩
      · have hx : xs = [] := List.eq_nil_of_length_eq_zero (h.len.trans h0)
        have hy : ys = [] := List.eq_nil_of_length_eq_zero (h'.len.trans h0)
        subst hx hy
        simpa using sameInts_none (some ⟨b, off, none⟩) a' n cap cap' w (by omega)
      · exact sameInts_some b off n cap b' off' cap' xs ys w h.len h'.len hn hb hb' hc hc'
  · have : decide (xs = ys) = false := decide_eq_false fun q => e (by rw [← h.len, ← h'.len, q])
    rw [this]
    exact sameInts_len a a' n cap n' cap' w e

end Go.Proofs.YtggjcccdeaadbaaGreatDoor
