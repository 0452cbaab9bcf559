/- Three cells, by place. -/
import Derived.Test.YtlmiamohhmabhaaDoorZ4
import Derived.Deep.OwnRows
import Derived.Deep.LoopGhost
import Derived.Deep.RegionWith
import Derived.Deep.DeepCutAuto
namespace Go.Proofs.YtlmiamohhmabhaaDoor
open Go.RowKit
set_option maxRecDepth 8000
set_option linter.unusedSimpArgs false
set_option linter.unusedVariables false

/-- A list of three numbers, by place. -/
def f3 (a b c : Int) (j : Nat) : Value := .int .i64 (if j = 0 then a else if j = 1 then b else c)

theorem f3_new (w : World) (a b c : Int) (T : TypeId) : (w.alloc (.cells #[.int .i64 a, .int .i64 b, .int .i64 c] T)).rowIs w.heap.size T 3 (f3 a b c) :=
  World.rowIs_alloc w #[.int .i64 a, .int .i64 b, .int .i64 c] T (f3 a b c) (by intro i hi; rcases (show i = 0 ∨ i = 1 ∨ i = 2 from by simp at hi; omega) with rfl | rfl | rfl <;> rfl)

theorem f3_set0 {w : World} {q : Nat} {T : TypeId} {a b c : Int} (h : w.rowIs q T 3 (f3 a b c)) (x : Int) : (w.setCell ⟨q, 0, none⟩ (.int .i64 x)).rowIs q T 3 (f3 x b c) :=
  (World.rowIs.set h 0 _).congr fun j hj => by rcases (show j = 0 ∨ j = 1 ∨ j = 2 from by omega) with rfl | rfl | rfl <;> rfl

theorem f3_set1 {w : World} {q : Nat} {T : TypeId} {a b c : Int} (h : w.rowIs q T 3 (f3 a b c)) (x : Int) : (w.setCell ⟨q, 1, none⟩ (.int .i64 x)).rowIs q T 3 (f3 a x c) :=
  (World.rowIs.set h 1 _).congr fun j hj => by rcases (show j = 0 ∨ j = 1 ∨ j = 2 from by omega) with rfl | rfl | rfl <;> rfl

theorem f3_set2 {w : World} {q : Nat} {T : TypeId} {a b c : Int} (h : w.rowIs q T 3 (f3 a b c)) (x : Int) : (w.setCell ⟨q, 2, none⟩ (.int .i64 x)).rowIs q T 3 (f3 a b x) :=
  (World.rowIs.set h 2 _).congr fun j hj => by rcases (show j = 0 ∨ j = 1 ∨ j = 2 from by omega) with rfl | rfl | rfl <;> rfl

theorem three_set {w : World} {T : TypeId} {b : Nat} {F : Nat → Value} (h : w.rowIs b T 3 F) (v0 v1 v2 : Value) :
    (((w.setCell ⟨b, 0, none⟩ v0).setCell ⟨b, 1, none⟩ v1).setCell ⟨b, 2, none⟩ v2).cell? ⟨b, 0, none⟩ = some v0 ∧ (((w.setCell ⟨b, 0, none⟩ v0).setCell ⟨b, 1, none⟩ v1).setCell ⟨b, 2, none⟩ v2).cell? ⟨b, 1, none⟩ = some v1 ∧ (((w.setCell ⟨b, 0, none⟩ v0).setCell ⟨b, 1, none⟩ v1).setCell ⟨b, 2, none⟩ v2).cell? ⟨b, 2, none⟩ = some v2 := by
  have W3 := World.rowIs.set (World.rowIs.set (World.rowIs.set h 0 v0) 1 v1) 2 v2
  exact ⟨by simpa using World.rowIs.cell W3 (show 0 < 3 by omega), by simpa using World.rowIs.cell W3 (show 1 < 3 by omega), by simpa using World.rowIs.cell W3 (show 2 < 3 by omega)⟩
end Go.Proofs.YtlmiamohhmabhaaDoor

/- Slices of int64 in memory: what a slice leads to ('Row'); contracts of the small functions of the laws over them: toInt64S, eqInt64S, markInt64S, heldInt64S. -/
namespace Go.Proofs.YtlmiamohhmabhaaDoor
open Go.RowKit
set_option maxRecDepth 8000

set_option maxHeartbeats 400000 in
theorem toInts_some (b off n cap : Nat) (xs : List Int) (w : World) (hl : xs.length = n) (hn : n ≤ 1048576) (hb : b < w.heap.size) (hc : ∀ i, i < n → w.cell? ⟨b, off + i, none⟩ = some (.int .i64 (nth xs i))) :
    Calls Tryd.prog 22 #[.slice (some ⟨b, off, none⟩) n cap] w fun e w' => ∃ g, e = .returned (.slice (some ⟨g, 0, none⟩) n n) ∧ w.heap.size ≤ g ∧ Own w' g xs ∧ Below w.heap.size w w' := by
  have hmk := run_make_row' (P := Tryd.prog) 22 2 (.int .i64 0) 8 Tryd.underlying22 Tryd.infoI64 rfl .i64 .i64 n (by omega) (by omega)
  go_enter Tryd.func22, Tryd.ntmps22
  go_wp2
  go_loopw [4] (fun i wr => ∃ k : Nat, k ≤ n ∧ i = .int .i64 k ∧ wr.rowIs w.heap.size 2 n (fun j => .int .i64 (if j < k then nth xs j else 0)) ∧ Below w.heap.size w wr) (fun i _ => n - (intOf i).toNat)
  case atStart =>
    exact ⟨0, Nat.zero_le _, rfl, (World.rowIs_made w (.int .i64 0) n 2).congr (fun j _ => by simp), (by repeat' first | with_reducible exact Below.refl _ _ | with_reducible assumption | with_reducible refine below_drewN ?_ _ | with_reducible refine balloc ?_ _ | with_reducible refine Below.drew ?_ | with_reducible refine Below.setCell ?_ (by first | (simp; done) | (simp; omega) | omega) _ | with_reducible refine bstep ?_ (by assumption))⟩
  case round =>
    obtain ⟨k, hk, rfl, hrow, hbel⟩ := hrel
    by_cases hlt : k < n
    · have h1 : wr.cell? ⟨b, off + k, none⟩ = some (.int .i64 (nth xs k)) := (hbel.cell (p := ⟨b, off + k, none⟩) hb).trans (hc k hlt)
      have h2 := World.rowIs.cell hrow hlt
      have h3 := World.rowIs.frozen hrow k
      have hs := copy_step hrow
      have HS : Hid _ := hs
      have HB : Hid (Below w.heap.size w wr) := hbel
      have HC : Hid (∀ i, i < n → w.cell? ⟨b, off + i, none⟩ = some (.int .i64 (nth xs i))) := hc
      clear hs hrow hbel hc
      go_wp2
      go_roundw
      case rel => exact ⟨k + 1, by omega, by go_num, HS.out, HB.out.setCell (Nat.le_refl _) _⟩
      case measure => simp [intOf]; omega
    · go_wp2
      go_ret
      refine ⟨_, rfl, Nat.le_refl _, ?_, hbel⟩
      unfold Own
      rw [hl]
      exact hrow.congr fun j hj => by rw [if_pos (by omega)]

set_option maxHeartbeats 400000 in
theorem toInts_none (a : Option Addr) (n cap : Nat) (w : World) (hn : n < 1) :
    Calls Tryd.prog 22 #[.slice a n cap] w fun e w' => ∃ g, e = .returned (.slice (some ⟨g, 0, none⟩) n n) ∧ w.heap.size ≤ g ∧ Own w' g [] ∧ Below w.heap.size w w' := by
  have hmk := run_make_row' (P := Tryd.prog) 22 2 (.int .i64 0) 8 Tryd.underlying22 Tryd.infoI64 rfl .i64 .i64 n (by omega) (by omega)
  go_enter Tryd.func22, Tryd.ntmps22
  go_wp2
  refine wp_loop_rounds 1 ?_
  rw [rounds_succ]
  go_wp2
  go_ret
  refine ⟨_, rfl, Nat.le_refl _, ?_, (by repeat' first | with_reducible exact Below.refl _ _ | with_reducible assumption | with_reducible refine below_drewN ?_ _ | with_reducible refine balloc ?_ _ | with_reducible refine Below.drew ?_ | with_reducible refine Below.setCell ?_ (by first | (simp; done) | (simp; omega) | omega) _ | with_reducible refine bstep ?_ (by assumption))⟩
  have h0 : n = 0 := by omega
  subst h0
  exact (World.rowIs_made w (.int .i64 0) 0 2).congr (fun j h => absurd h (by omega))

theorem toInts_any (a : Option Addr) (n cap : Nat) (xs : List Int) (w : World) (h : Row w a n xs) (hn : n ≤ 1048576) :
    Calls Tryd.prog 22 #[.slice a n cap] w fun e w' => ∃ g, e = .returned (.slice (some ⟨g, 0, none⟩) n n) ∧ w.heap.size ≤ g ∧ Own w' g xs ∧ Below w.heap.size w w' := by
  rcases h.lies with h0 | ⟨b, off, rfl, hb, hc⟩
  · have hx : xs = [] := List.eq_nil_of_length_eq_zero (h.len.trans h0)
    subst hx
    exact toInts_none a n cap w (by omega)
  · exact toInts_some b off n cap xs w h.len hn hb hc

set_option maxHeartbeats 400000 in
theorem eqInts_some (b off n cap b' off' cap' : Nat) (xs ys : List Int) (w : World) (hl : xs.length = n) (hl' : ys.length = n) (hn : n ≤ 1048576) (hb : b < w.heap.size) (hb' : b' < w.heap.size)
    (hc : ∀ i, i < n → w.cell? ⟨b, off + i, none⟩ = some (.int .i64 (nth xs i))) (hc' : ∀ i, i < n → w.cell? ⟨b', off' + i, none⟩ = some (.int .i64 (nth ys i))) :
    Calls Tryd.prog 25 #[.slice (some ⟨b, off, none⟩) n cap, .slice (some ⟨b', off', none⟩) n cap'] w fun e w' => e = .returned (.bool (decide (xs = ys))) ∧ Below w.heap.size w w' := by
  go_enter Tryd.func25, Tryd.ntmps25
  go_wp2
  go_loopw [5] (fun i wr => ∃ k : Nat, k ≤ n ∧ i = .int .i64 k ∧ (∀ j, j < k → nth xs j = nth ys j) ∧ Below w.heap.size w wr) (fun i _ => n - (intOf i).toNat)
  case atStart => exact ⟨0, Nat.zero_le _, rfl, fun j h => absurd h (by omega), (by repeat' first | with_reducible exact Below.refl _ _ | with_reducible assumption | with_reducible refine below_drewN ?_ _ | with_reducible refine balloc ?_ _ | with_reducible refine Below.drew ?_ | with_reducible refine Below.setCell ?_ (by first | (simp; done) | (simp; omega) | omega) _ | with_reducible refine bstep ?_ (by assumption))⟩
  case round =>
    obtain ⟨k, hk, rfl, hpre, hbel⟩ := hrel
    have HP : Hid (∀ j, j < k → nth xs j = nth ys j) := hpre
    have HC : Hid (∀ i, i < n → w.cell? ⟨b, off + i, none⟩ = some (.int .i64 (nth xs i))) := hc
    have HC' : Hid (∀ i, i < n → w.cell? ⟨b', off' + i, none⟩ = some (.int .i64 (nth ys i))) := hc'
    have HB : Hid (Below w.heap.size w wr) := hbel
    by_cases hlt : k < n
    · have h1 : wr.cell? ⟨b, off + k, none⟩ = some (.int .i64 (nth xs k)) := (hbel.cell (p := ⟨b, off + k, none⟩) hb).trans (hc k hlt)
      have h2 : wr.cell? ⟨b', off' + k, none⟩ = some (.int .i64 (nth ys k)) := (hbel.cell (p := ⟨b', off' + k, none⟩) hb').trans (hc' k hlt)
      have hlt' : (k : Int) < (n : Int) := by omega
      clear hpre hbel hc hc'
      by_cases he : nth xs k = nth ys k
      · have hne : (nth xs k != nth ys k) = false := by simp [he]
        have HE : Hid (nth xs k = nth ys k) := he
        clear he
        go_wp2
        go_quiet (fail)
        go_wp2
        go_roundw
        case rel => exact ⟨k + 1, by omega, by go_num, fun j hj => (by rcases Nat.lt_succ_iff_lt_or_eq.1 hj with h | h; exact HP.out j h; rw [h]; exact HE.out), (by have := HB.out; exact (by repeat' first | with_reducible exact Below.refl _ _ | with_reducible assumption | with_reducible refine below_drewN ?_ _ | with_reducible refine balloc ?_ _ | with_reducible refine Below.drew ?_ | with_reducible refine Below.setCell ?_ (by first | (simp; done) | (simp; omega) | omega) _ | with_reducible refine bstep ?_ (by assumption)))⟩
        case measure => simp [intOf]; omega
      · have hne : (nth xs k != nth ys k) = true := by simp [he]
        have HE : Hid (¬ nth xs k = nth ys k) := he
        clear he
        go_wp2
        go_quiet (fail)
        go_wp2
        go_ret
        exact ⟨by rw [show decide (xs = ys) = false from decide_eq_false fun e => HE.out (by rw [e])]; rfl, (by have := HB.out; exact (by repeat' first | with_reducible exact Below.refl _ _ | with_reducible assumption | with_reducible refine below_drewN ?_ _ | with_reducible refine balloc ?_ _ | with_reducible refine Below.drew ?_ | with_reducible refine Below.setCell ?_ (by first | (simp; done) | (simp; omega) | omega) _ | with_reducible refine bstep ?_ (by assumption)))⟩
    · clear hpre hbel hc hc'
      go_wp2
      go_ret
      exact ⟨by rw [show decide (xs = ys) = true from decide_eq_true (nth_ext (hl.trans hl'.symm) fun j hj => HP.out j (by omega))]; rfl, HB.out⟩

set_option maxHeartbeats 400000 in
theorem eqInts_len (a a' : Option Addr) (n cap n' cap' : Nat) (w : World) (h : ¬ n = n') :
    Calls Tryd.prog 25 #[.slice a n cap, .slice a' n' cap'] w fun e w' => e = .returned (.bool false) ∧ Below w.heap.size w w' := by
  have hne : ((n : Int) != (n' : Int)) = true := by rw [bne_iff_ne]; omega
  go_enter Tryd.func25, Tryd.ntmps25
  go_wp2
  go_ret
  exact ⟨rfl, (by repeat' first | with_reducible exact Below.refl _ _ | with_reducible assumption | with_reducible refine below_drewN ?_ _ | with_reducible refine balloc ?_ _ | with_reducible refine Below.drew ?_ | with_reducible refine Below.setCell ?_ (by first | (simp; done) | (simp; omega) | omega) _ | with_reducible refine bstep ?_ (by assumption))⟩

set_option maxHeartbeats 400000 in
theorem eqInts_none (a a' : Option Addr) (n cap cap' : Nat) (w : World) (hn : n < 1) :
    Calls Tryd.prog 25 #[.slice a n cap, .slice a' n cap'] w fun e w' => e = .returned (.bool true) ∧ Below w.heap.size w w' := by
  go_enter Tryd.func25, Tryd.ntmps25
  go_wp2
  refine wp_loop_rounds 1 ?_
  rw [rounds_succ]
  go_wp2
  go_ret
  exact ⟨rfl, (by repeat' first | with_reducible exact Below.refl _ _ | with_reducible assumption | with_reducible refine below_drewN ?_ _ | with_reducible refine balloc ?_ _ | with_reducible refine Below.drew ?_ | with_reducible refine Below.setCell ?_ (by first | (simp; done) | (simp; omega) | omega) _ | with_reducible refine bstep ?_ (by assumption))⟩

theorem eqInts_any (a a' : Option Addr) (n cap n' cap' : Nat) (xs ys : List Int) (w : World) (h : Row w a n xs) (h' : Row w a' n' ys) (hn : n ≤ 1048576) :
    Calls Tryd.prog 25 #[.slice a n cap, .slice a' n' cap'] w fun e w' => e = .returned (.bool (decide (xs = ys))) ∧ Below w.heap.size w w' := by
  by_cases e : n = n'
  · subst e
    rcases h.lies with h0 | ⟨b, off, rfl, hb, hc⟩
    · have hx : xs = [] := List.eq_nil_of_length_eq_zero (h.len.trans h0)
      have hy : ys = [] := List.eq_nil_of_length_eq_zero (h'.len.trans h0)
      subst hx hy
      simpa using eqInts_none a a' n cap cap' w (by omega)
    · rcases h'.lies with h0 | ⟨b', off', rfl, hb', hc'⟩
      · have hx : xs = [] := List.eq_nil_of_length_eq_zero (h.len.trans h0)
        have hy : ys = [] := List.eq_nil_of_length_eq_zero (h'.len.trans h0)
        subst hx hy
        simpa using eqInts_none (some ⟨b, off, none⟩) a' n cap cap' w (by omega)
      · exact eqInts_some b off n cap b' off' cap' xs ys w h.len h'.len hn hb hb' hc hc'
  · have : decide (xs = ys) = false := decide_eq_false fun q => e (by rw [← h.len, ← h'.len, q])
    rw [this]
    exact eqInts_len a a' n cap n' cap' w e

set_option maxHeartbeats 400000 in
theorem markInts_any (g n cap : Nat) (q : Int) (xs : List Int) (w : World) (ho : Own w g xs) (hl : xs.length = n) (hn : n ≤ 1048576) (hq : 0 ≤ q) (hq2 : q ≤ 100000000) :
    Calls Tryd.prog 36 #[.slice (some ⟨g, 0, none⟩) n cap, .int .i64 q] w fun e w' => e = .returned (.int .i64 (q + (n : Int))) ∧ Own w' g (marks q n) ∧ But g w w' := by
  go_enter Tryd.func36, Tryd.ntmps36
  go_wp2
  go_loopw [1, 5] (fun q' i wr => ∃ k : Nat, k ≤ n ∧ i = .int .i64 k ∧ q' = .int .i64 (q + (k : Int)) ∧ wr.rowIs g 2 n (fun j => .int .i64 (if j < k then q + (j : Int) else nth xs j)) ∧ But g w wr) (fun _ i _ => n - (intOf i).toNat)
  case atStart =>
    refine ⟨0, Nat.zero_le _, rfl, by simp, ?_, But.refl _ _⟩
    unfold Own at ho
    rw [hl] at ho
    exact ho.congr fun j _ => by simp
  case round =>
    obtain ⟨k, hk, rfl, rfl, hrow, hbut⟩ := hrel
    by_cases hlt : k < n
    · have h2 := World.rowIs.cell hrow hlt
      have h3 := World.rowIs.frozen hrow k
      simp only [Nat.lt_irrefl, if_false] at h2
      have HS : Hid _ := mark_step hrow
      have HB : Hid (But g w wr) := hbut
      have HO : Hid (Own w g xs) := ho
      clear hrow hbut ho
      go_wp2
      go_roundw
      case rel => exact ⟨k + 1, by omega, by go_num, by go_num, HS.out, HB.out.setCell _ _⟩
      case measure => simp [intOf]; omega
    · have hkn : k = n := by omega
      subst hkn
      go_wp2
      go_ret
      refine ⟨rfl, ?_, hbut⟩
      unfold Own
      rw [marks_len]
      exact hrow.congr fun j hj => by rw [if_pos hj, nth_marks _ _ _ hj]

set_option maxHeartbeats 400000 in
theorem markInts_none (a : Option Addr) (n cap : Nat) (q : Int) (w : World) (hn : n < 1) :
    Calls Tryd.prog 36 #[.slice a n cap, .int .i64 q] w fun e w' => e = .returned (.int .i64 q) ∧ w' = w := by
  go_enter Tryd.func36, Tryd.ntmps36
  go_wp2
  refine wp_loop_rounds 1 ?_
  rw [rounds_succ]
  go_wp2
  go_ret
  exact ⟨rfl, rfl⟩

set_option maxHeartbeats 400000 in
theorem heldInts_none (a : Option Addr) (n cap : Nat) (q : Int) (w : World) (hn : n < 1) :
    Calls Tryd.prog 37 #[.slice a n cap, .int .i64 q] w fun e w' => e = .returned (.int .i64 q) ∧ w' = w := by
  go_enter Tryd.func37, Tryd.ntmps37
  go_wp2
  refine wp_loop_rounds 1 ?_
  rw [rounds_succ]
  go_wp2
  go_ret
  exact ⟨rfl, rfl⟩

set_option maxHeartbeats 400000 in
theorem heldInts_any (g n cap : Nat) (q : Int) (w : World) (ho : Own w g (marks q n)) (hn : n ≤ 1048576) (hq : 0 ≤ q) (hq2 : q ≤ 100000000) :
    Calls Tryd.prog 37 #[.slice (some ⟨g, 0, none⟩) n cap, .int .i64 q] w fun e w' => e = .returned (.int .i64 (q + (n : Int))) ∧ w' = w := by
  have hc : ∀ i, i < n → w.cell? ⟨g, i, none⟩ = some (.int .i64 (q + (i : Int))) := fun i hi => by
    have := World.rowIs.cell ho (i := i) (by rw [marks_len]; exact hi)
    rwa [nth_marks _ _ _ hi] at this
  clear ho
  go_enter Tryd.func37, Tryd.ntmps37
  go_wp2
  go_loop [1, 5] (fun q' i => ∃ k : Nat, k ≤ n ∧ i = .int .i64 k ∧ q' = .int .i64 (q + (k : Int))) (fun _ i => n - (intOf i).toNat)
  case atStart => exact ⟨0, Nat.zero_le _, rfl, by simp⟩
  case round =>
    obtain ⟨k, hk, rfl, rfl⟩ := hrel
    by_cases hlt : k < n
    · have h2 := hc k hlt
      have HC : Hid _ := hc
      have hne : (q + (k : Int) != q + (k : Int)) = false := by simp
      clear hc
      go_wp2
      go_round
      case rel => exact ⟨k + 1, by omega, by go_num, by go_num⟩
      case measure => simp [intOf]; omega
    · have hkn : k = n := by omega
      subst hkn
      go_wp2
      go_ret
      exact ⟨rfl, rfl⟩

end Go.Proofs.YtlmiamohhmabhaaDoor

/- An answer that the program made ('Mine'): nil, or a row of its own: read, marked, held. -/
namespace Go.Proofs.YtlmiamohhmabhaaDoor
open Go.RowKit
set_option maxRecDepth 8000
set_option linter.unusedSimpArgs false

structure Mine (base : Nat) (w : World) (a : Option Addr) (n : Nat) (xs : List Int) : Prop where
  len : xs.length = n
  lies : (a = none ∧ n = 0) ∨ ∃ g, a = some ⟨g, 0, none⟩ ∧ base ≤ g ∧ Own w g xs

theorem Mine.row {base : Nat} {w : World} {a : Option Addr} {n : Nat} {xs : List Int} (h : Mine base w a n xs) : Row w a n xs := by
  rcases h.lies with ⟨rfl, h0⟩ | ⟨g, rfl, hb, ho⟩
  · exact ⟨h.len, .inl h0⟩
  · have := ho.row
    rw [h.len] at this
    exact this

theorem Mine.below {base : Nat} {w w' : World} {a : Option Addr} {n : Nat} {xs : List Int} (h : Mine base w a n xs) (hb : Below w.heap.size w w') : Mine base w' a n xs := by
  refine ⟨h.len, ?_⟩
  rcases h.lies with h0 | ⟨g, e, hg, ho⟩
  · exact .inl h0
  · exact .inr ⟨g, e, hg, ho.below hb⟩

theorem Mine.but {base g' : Nat} {w w' : World} {a : Option Addr} {n : Nat} {xs : List Int} (h : Mine base w a n xs) (hb : But g' w w') (hg : g' < base) : Mine base w' a n xs := by
  refine ⟨h.len, ?_⟩
  rcases h.lies with h0 | ⟨g, e, hg, ho⟩
  · exact .inl h0
  · exact .inr ⟨g, e, hg, hb.own ho (by omega)⟩
/-- What lies below a base is as it was, where all below it is. -/
theorem Row.belowAt {B : Nat} {w w' : World} {a : Option Addr} {n : Nat} {xs : List Int} (h : Row w a n xs) (hb : Below B w w') (hlt : ∀ b off, a = some ⟨b, off, none⟩ → b < B) : Row w' a n xs := by
  refine ⟨h.len, ?_⟩
  rcases h.lies with h0 | ⟨b, off, e, lt, hc⟩
  · exact .inl h0
  · exact .inr ⟨b, off, e, Nat.lt_of_lt_of_le lt hb.size, fun i hi => (hb.cell (p := ⟨b, off + i, none⟩) (hlt b off e)).trans (hc i hi)⟩

theorem Row.lt {w : World} {a : Option Addr} {n : Nat} {xs : List Int} (h : Row w a n xs) (hn : 0 < n) : ∀ b off, a = some ⟨b, off, none⟩ → b < w.heap.size := by
  intro b off e
  rcases h.lies with h0 | ⟨b', off', e', lt, _⟩
  · omega
  · rw [e] at e'; cases e'; exact lt

theorem Row.belowFrom {B : Nat} {w0 w w' : World} {a : Option Addr} {n : Nat} {xs : List Int} (h0 : Row w0 a n xs) (h : Row w a n xs) (hb : Below B w w') (hB : w0.heap.size ≤ B) : Row w' a n xs := by
  by_cases hn : n = 0
  · exact ⟨h.len, .inl hn⟩
  · exact h.belowAt hb fun b off e => Nat.lt_of_lt_of_le (h0.lt (by omega) b off e) hB

theorem Row.butFrom {g : Nat} {w0 w w' : World} {a : Option Addr} {n : Nat} {xs : List Int} (h0 : Row w0 a n xs) (h : Row w a n xs) (hb : But g w w') (hg : w0.heap.size ≤ g) : Row w' a n xs := by
  by_cases hn : n = 0
  · exact ⟨h.len, .inl hn⟩
  · exact hb.row h fun b off e => by have := h0.lt (by omega) b off e; omega

theorem markMine_any (base n cap : Nat) (a : Option Addr) (q : Int) (xs : List Int) (w : World) (hm : Mine base w a n xs) (hB : base ≤ w.heap.size) (hn : n ≤ 1048576) (hq : 0 ≤ q) (hq2 : q ≤ 100000000) :
    Calls Tryd.prog 36 #[.slice a n cap, .int .i64 q] w fun e w' => e = .returned (.int .i64 (q + (n : Int))) ∧ Mine base w' a n (marks q n) ∧ Below base w w' := by
  rcases hm.lies with ⟨rfl, h0⟩ | ⟨g, rfl, hg, ho⟩
  · refine (markInts_none none n cap q w (by omega)).mono ?_
    rintro e w' ⟨rfl, rfl⟩
    exact ⟨by rw [h0]; simp, ⟨marks_len q n, .inl ⟨rfl, h0⟩⟩, Below.refl _ _⟩
  · refine (markInts_any g n cap q xs w ho hm.len hn hq hq2).mono ?_
    rintro e w' ⟨rfl, ho', hbut⟩
    exact ⟨rfl, ⟨marks_len q n, .inr ⟨g, rfl, hg, ho'⟩⟩, hbut.below hg hB⟩

theorem heldMine_any (base n cap : Nat) (a : Option Addr) (q : Int) (w : World) (hm : Mine base w a n (marks q n)) (hn : n ≤ 1048576) (hq : 0 ≤ q) (hq2 : q ≤ 100000000) :
    Calls Tryd.prog 37 #[.slice a n cap, .int .i64 q] w fun e w' => e = .returned (.int .i64 (q + (n : Int))) ∧ w' = w := by
  rcases hm.lies with ⟨rfl, h0⟩ | ⟨g, rfl, hg, ho⟩
  · refine (heldInts_none none n cap q w (by omega)).mono ?_
    rintro e w' ⟨rfl, rfl⟩
    exact ⟨by rw [h0]; simp, rfl⟩
  · exact heldInts_any g n cap q w ho hn hq hq2
end Go.Proofs.YtlmiamohhmabhaaDoor

/- szInt64S of the laws. -/
namespace Go.Proofs.YtlmiamohhmabhaaDoor
open Go.RowKit
set_option maxRecDepth 8000
set_option linter.unusedSimpArgs false

def szN (left : Int) (n : Nat) : Int := if left - (n : Int) < 0 then -1 else left - (n : Int)

set_option maxHeartbeats 400000 in
theorem szInts_any (a : Option Addr) (n cap : Nat) (left : Int) (w : World) (h0 : 0 ≤ left) (h1 : left ≤ 1048576) (hn : n ≤ 9223372036854775807) :
    Calls Tryd.prog 17 #[.slice a n cap, .int .i64 left] w fun e w' => e = .returned (.int .i64 (szN left n)) ∧ w' = w := by
  unfold szN
  by_cases h : left - (n : Int) < 0
  · rw [if_pos h]
    go_enter Tryd.func17, Tryd.ntmps17
    go_wp2
    go_ret
    exact ⟨rfl, rfl⟩
  · rw [if_neg h]
    go_enter Tryd.func17, Tryd.ntmps17
    go_wp2
    go_ret
    exact ⟨rfl, rfl⟩
end Go.Proofs.YtlmiamohhmabhaaDoor

/- Worlds that part in the blocks between two places alone ('Far'). -/
namespace Go.Proofs.YtlmiamohhmabhaaDoor
open Go.RowKit
set_option maxRecDepth 8000

/-- w' is w, but for the blocks from B to ahead of C, which may have been written. -/
structure Far (B C : Nat) (w w' : World) : Prop where
  os : w'.os = w.os
  tape : w'.tape = w.tape
  output : w'.output = w.output
  size : w.heap.size ≤ w'.heap.size
  block : ∀ k, k < w.heap.size → (k < B ∨ C ≤ k) → w'.heap[k]? = w.heap[k]?

theorem Far.refl (B C : Nat) (w : World) : Far B C w w := ⟨rfl, rfl, rfl, Nat.le_refl _, fun _ _ _ => rfl⟩

theorem Far.trans {B C : Nat} {a b c : World} (h : Far B C a b) (k : Far B C b c) : Far B C a c :=
  ⟨k.os.trans h.os, k.tape.trans h.tape, k.output.trans h.output, Nat.le_trans h.size k.size, fun i hi hg => (k.block i (Nat.lt_of_lt_of_le hi h.size) hg).trans (h.block i hi hg)⟩

theorem Far.ofBelow {B C : Nat} {a b : World} (h : Below a.heap.size a b) : Far B C a b := ⟨h.os, h.tape, h.output, h.size, fun k hk _ => h.block k hk⟩

theorem Far.ofBut {B C g : Nat} {a b : World} (h : But g a b) (h1 : B ≤ g) (h2 : g < C) : Far B C a b := ⟨h.os, h.tape, h.output, h.size, fun k hk hg => h.block k hk (by omega)⟩

theorem Far.below {B C X : Nat} {a b : World} (h : Far B C a b) (hX : X ≤ B) (hs : X ≤ a.heap.size) : Below X a b := ⟨h.os, h.tape, h.output, h.size, fun k hk => h.block k (by omega) (.inl (by omega))⟩

theorem Far.setCell {B C g : Nat} {a w : World} (h : Far B C a w) (h1 : B ≤ g) (h2 : g < C) (o : Nat) (v : Value) : Far B C a (w.setCell ⟨g, o, none⟩ v) :=
  ⟨h.os, h.tape, h.output, by simpa [World.setCell] using h.size, fun k hk hg => (Below.heap_setCell w ⟨g, o, none⟩ v k (by simp; omega)).trans (h.block k hk hg)⟩

theorem Far.alloc {B C : Nat} {a b : World} (h : Far B C a b) (o : Obj) : Far B C a (b.alloc o) := h.trans (.ofBelow (balloc (Below.refl _ _) o))

theorem Far.mono {B C B' C' : Nat} {a b : World} (h : Far B C a b) (h1 : B' ≤ B) (h2 : C ≤ C') : Far B' C' a b := ⟨h.os, h.tape, h.output, h.size, fun k hk hg => h.block k hk (by omega)⟩
end Go.Proofs.YtlmiamohhmabhaaDoor
