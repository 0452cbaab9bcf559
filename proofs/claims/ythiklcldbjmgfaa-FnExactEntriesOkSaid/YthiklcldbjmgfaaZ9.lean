/- Slices of structs of two numbers in memory: each takes two cells. What a slice leads to, whatever its element type is. -/
import Derived.Test.YthiklcldbjmgfaaZ5
import Derived.Deep.RegionHeld3
import Derived.Deep.Slices
import Derived.Test.YthiklcldbjmgfaaZ1
import Derived.Test.YthiklcldbjmgfaaZ3
namespace Go.Proofs.Ythiklcldbjmgfaa
open Go.RowKit
set_option maxRecDepth 8000
set_option linter.unusedSimpArgs false
set_option linter.unusedVariables false

/-- A slice of n ranges that begins at a leads to the ranges from f i to g i. -/
structure PRow (w : World) (a : Option Addr) (n : Nat) (f g : Nat → Int) : Prop where
  lies : n = 0 ∨ ∃ b off, a = some ⟨b, off, none⟩ ∧ b < w.heap.size ∧ ∀ i, i < n → w.cell? ⟨b, off + i * 2, none⟩ = some (.int .i64 (f i)) ∧ w.cell? ⟨b, off + i * 2 + 1, none⟩ = some (.int .i64 (g i))

theorem PRow.below {w w' : World} {a : Option Addr} {n : Nat} {f g : Nat → Int} (h : PRow w a n f g) (hb : Below w.heap.size w w') : PRow w' a n f g := by
  rcases h.lies with h0 | ⟨b, off, e, lt, hc⟩
  · exact ⟨.inl h0⟩
  · exact ⟨.inr ⟨b, off, e, Nat.lt_of_lt_of_le lt hb.size, fun i hi => ⟨(hb.cell (p := ⟨b, off + i * 2, none⟩) lt).trans (hc i hi).1, (hb.cell (p := ⟨b, off + i * 2 + 1, none⟩) lt).trans (hc i hi).2⟩⟩⟩

/-- All of the first n. -/
def allN (n : Nat) (p : Nat → Bool) : Bool := (List.range n).all p

theorem allN_yes {n : Nat} {p : Nat → Bool} (h : ∀ i, i < n → p i = true) : allN n p = true := by
  simp only [allN, List.all_eq_true, List.mem_range]; exact h

theorem allN_no {n k : Nat} {p : Nat → Bool} (hk : k < n) (h : p k = false) : allN n p = false := by
  rw [Bool.eq_false_iff]
  intro q
  simp only [allN, List.all_eq_true, List.mem_range] at q
  have := q k hk
  rw [h] at this
  cases this

theorem allN_at {n k : Nat} {p : Nat → Bool} (h : allN n p = true) (hk : k < n) : p k = true := by
  simp only [allN, List.all_eq_true, List.mem_range] at h; exact h k hk

theorem run_make_pairs {P : Program} (t e : TypeId) (x y : Value) (bytes : Nat) (ht : P.underlying t = some (.slice e)) (hinfo : (P.info? e).map (fun i => (i.zero, i.size, i.bytes)) = some (some (.agg #[x, y]), 2, bytes))
    (kl kc : IntKind) (n : Nat) (hbytes : bytes * n ≤ 281474976710656) (h63 : n ≤ 9223372036854775807) (w : World) :
    (Instr.makeSlice t (.int kl (n : Int)) (.int kc (n : Int))).run P w = .ok (.slice (some ⟨w.heap.size, 0, none⟩) n n) (w.alloc (.cells (madeCells #[x, y] (n * 2)) e)) := by
  obtain ⟨i, hi, hzz⟩ := Option.map_eq_some_iff.1 hinfo
  simp only [Prod.mk.injEq] at hzz
  obtain ⟨hz, hs, hb⟩ := hzz
  have hb' : (i.bytes : Int) * (n : Int) ≤ 281474976710656 := by
    have h : ((i.bytes * n : Nat) : Int) ≤ 281474976710656 := by rw [hb]; omega
    rwa [Int.natCast_mul] at h
  have hr := run_make (P := P) w t e i _ ht hi hz kl kc n n (by omega) (Int.le_refl _) hb' (by omega)
  simp only [Int.toNat_natCast, hs] at hr
  exact hr

def pcell (f g : Nat → Int) (j : Nat) : Value := .int .i64 (if j % 2 = 0 then f (j / 2) else g (j / 2))

theorem pcell_lo (f g : Nat → Int) (i : Nat) : pcell f g (i * 2) = .int .i64 (f i) := by simp [pcell]

theorem pcell_hi (f g : Nat → Int) (i : Nat) : pcell f g (i * 2 + 1) = .int .i64 (g i) := by
  have h1 : (i * 2 + 1) % 2 = 1 := by omega
  have h2 : (i * 2 + 1) / 2 = i := by omega
  simp [pcell, h1, h2]

def upTo (k : Nat) (f : Nat → Int) (i : Nat) : Int := if i < k then f i else 0
/-- What the frame of a law tells of a slice of ranges that came in. -/
def IsPairs (w : World) (a : Option Addr) (len : Nat) (f g : Nat → Int) : Prop := PRow w a len f g ∧ len ≤ 9223372036854775807

theorem pairs_of {w : World} {x : Addr} {len m : Nat} {V0 V1 : Nat → Value} (hlm : len ≤ m) (hcell : ∀ i, i < m → w.cell? (x.add (i * 2)) = some (V0 i) ∧ w.cell? (x.add (i * 2 + 1)) = some (V1 i))
    (hv : ∀ i, i < m → ∃ z : Int × Int, V0 i = .int .i64 z.1 ∧ V1 i = .int .i64 z.2) : ∃ f g, PRow w (some x) len f g := by
  obtain ⟨z, hz⟩ := Go.Deep.choose_lt hv
  refine ⟨fun i => (z i).1, fun i => (z i).2, ?_⟩
  by_cases h0 : len = 0
  · exact ⟨.inl h0⟩
  · obtain ⟨b, off, spot⟩ := x
    have hc := (hcell 0 (by omega)).1
    have hspot : spot = none := by simpa [Addr.add] using World.cell?_spot hc
    subst hspot
    refine ⟨.inr ⟨b, off, rfl, ?_, fun i hi => ?_⟩⟩
    · by_cases hlt : b < w.heap.size
      · exact hlt
      · simp [World.cell?, Addr.add, Array.getElem?_eq_none (Nat.le_of_not_lt hlt)] at hc
    · obtain ⟨c0, c1⟩ := hcell i (by omega)
      obtain ⟨e0, e1⟩ := hz i (by omega)
      rw [e0] at c0
      rw [e1] at c1
      refine ⟨?_, ?_⟩
      · by_cases h00 : i = 0
        · subst h00; simpa [Addr.add] using c0
        · simpa [Addr.add, show ¬ i * 2 = 0 by omega] using c0
      · simpa [Addr.add, Nat.add_assoc] using c1

def sameB (n : Nat) (f g f' g' : Nat → Int) : Bool := allN n (fun i => decide (f i = f' i) && decide (g i = g' i))

theorem sameB_self (n : Nat) (f g : Nat → Int) : sameB n f g f g = true := allN_yes fun i _ => by simp
end Go.Proofs.Ythiklcldbjmgfaa

/- Slices of ranges in memory: each takes two cells. BoxOk of the program and of the model. -/
namespace Go.Proofs.Ythiklcldbjmgfaa
open Go.RowKit
set_option maxRecDepth 8000
set_option linter.unusedSimpArgs false
set_option linter.unusedVariables false

def boxB (n : Nat) (f g : Nat → Int) : Bool := decide (1 ≤ n ∧ n ≤ 8) && allN n (fun i => rightB (f i) (g i))

set_option maxHeartbeats 800000 in
theorem iBoxOk_some (b off n cap : Nat) (f g : Nat → Int) (w : World) (h1 : 1 ≤ n) (h8 : n ≤ 8) (hb : b < w.heap.size) (hc : ∀ i, i < n → w.cell? ⟨b, off + i * 2, none⟩ = some (.int .i64 (f i)) ∧ w.cell? ⟨b, off + i * 2 + 1, none⟩ = some (.int .i64 (g i))) :
    Calls Try.prog 31 #[.slice (some ⟨b, off, none⟩) n cap] w fun e w' => e = .returned (.bool (allN n (fun i => rightB (f i) (g i)))) ∧ Below w.heap.size w w' := by
  go_enter Try.func31, Try.ntmps31
  go_wp2_with fail
  go_loopw [15] (fun i wr => ∃ k : Nat, k ≤ n ∧ i = .int .i64 k ∧ (∀ j, j < k → rightB (f j) (g j) = true) ∧ Below w.heap.size w wr) (fun i _ => n - (intOf i).toNat)
  case atStart => exact ⟨0, Nat.zero_le _, rfl, fun j h => absurd h (by omega), (by repeat' first | with_reducible exact Below.refl _ _ | with_reducible assumption | with_reducible refine below_drewN ?_ _ | with_reducible refine balloc ?_ _ | with_reducible refine Below.drew ?_ | with_reducible refine Below.setCell ?_ (by first | (simp; done) | (simp; omega) | omega) _ | with_reducible refine bstep ?_ (by assumption))⟩
  case round =>
    obtain ⟨k, hk, rfl, hpre, hbel⟩ := hrel
    have HP := hide hpre
    have HC := hide hc
    have HB := hide hbel
    by_cases hlt : k < n
    · have z1 : wr.cell? ⟨b, off + k * 2, none⟩ = some (.int .i64 (f k)) := (hbel.cell (p := ⟨b, off + k * 2, none⟩) hb).trans (hc k hlt).1
      have z2 : wr.cell? ⟨b, off + k * 2 + 1, none⟩ = some (.int .i64 (g k)) := (hbel.cell (p := ⟨b, off + k * 2 + 1, none⟩) hb).trans (hc k hlt).2
      have R := hide (right_any (f k) (g k))
      clear hpre hbel hc
      cases he : rightB (f k) (g k)
      · have HE := hide he
        rw [he] at R
        clear he
        go_wp2_with fail
        refine (R.out _).mono ?_
        rintro e wn ⟨rfl, hbn⟩
        go_wp2_with fail
        go_ret
        refine ⟨by rw [allN_no hlt HE.out]; rfl, ?_⟩
        have hbel := HB.out
        exact (by repeat' first | with_reducible exact Below.refl _ _ | with_reducible assumption | with_reducible refine below_drewN ?_ _ | with_reducible refine balloc ?_ _ | with_reducible refine Below.drew ?_ | with_reducible refine Below.setCell ?_ (by first | (simp; done) | (simp; omega) | omega) _ | with_reducible refine bstep ?_ (by assumption))
      · have HE := hide he
        rw [he] at R
        clear he
        go_wp2_with fail
        refine (R.out _).mono ?_
        rintro e wn ⟨rfl, hbn⟩
        go_wp2_with fail
        go_roundw
        case rel =>
          have hbel := HB.out
          exact ⟨k + 1, by omega, by go_num, fun j hj => (by rcases Nat.lt_succ_iff_lt_or_eq.1 hj with h | h; exact HP.out j h; rw [h]; exact HE.out), (by repeat' first | with_reducible exact Below.refl _ _ | with_reducible assumption | with_reducible refine below_drewN ?_ _ | with_reducible refine balloc ?_ _ | with_reducible refine Below.drew ?_ | with_reducible refine Below.setCell ?_ (by first | (simp; done) | (simp; omega) | omega) _ | with_reducible refine bstep ?_ (by assumption))⟩
        case measure => simp [intOf]; omega
    · clear hpre hbel hc
      go_wp2_with fail
      go_ret
      exact ⟨by rw [allN_yes (fun j hj => HP.out j (by omega))]; rfl, HB.out⟩

set_option maxHeartbeats 400000 in
theorem iBoxOk_few (a : Option Addr) (n cap : Nat) (w : World) (h : ¬ (1 ≤ n ∧ n ≤ 8)) :
    Calls Try.prog 31 #[.slice a n cap] w fun e w' => e = .returned (.bool false) ∧ Below w.heap.size w w' := by
  by_cases h1 : n < 1
  · have h1' : (n : Int) < 1 := by omega
    go_enter Try.func31, Try.ntmps31
    go_wp2_with fail
    go_ret
    exact ⟨rfl, (by repeat' first | with_reducible exact Below.refl _ _ | with_reducible assumption | with_reducible refine below_drewN ?_ _ | with_reducible refine balloc ?_ _ | with_reducible refine Below.drew ?_ | with_reducible refine Below.setCell ?_ (by first | (simp; done) | (simp; omega) | omega) _ | with_reducible refine bstep ?_ (by assumption))⟩
  · have h1' : ¬ (n : Int) < 1 := by omega
    have h8 : (8 : Int) < n := by omega
    go_enter Try.func31, Try.ntmps31
    go_wp2_with fail
    go_ret
    exact ⟨rfl, (by repeat' first | with_reducible exact Below.refl _ _ | with_reducible assumption | with_reducible refine below_drewN ?_ _ | with_reducible refine balloc ?_ _ | with_reducible refine Below.drew ?_ | with_reducible refine Below.setCell ?_ (by first | (simp; done) | (simp; omega) | omega) _ | with_reducible refine bstep ?_ (by assumption))⟩

theorem iBoxOk_any (a : Option Addr) (n cap : Nat) (f g : Nat → Int) (w : World) (h : PRow w a n f g) :
    Calls Try.prog 31 #[.slice a n cap] w fun e w' => e = .returned (.bool (boxB n f g)) ∧ Below w.heap.size w w' := by
  unfold boxB
  by_cases hn : 1 ≤ n ∧ n ≤ 8
  · rw [decide_eq_true hn, Bool.true_and]
    rcases h.lies with h0 | ⟨b, off, rfl, lt, hc⟩
    · omega
    · exact iBoxOk_some b off n cap f g w hn.1 hn.2 lt hc
  · rw [decide_eq_false hn, Bool.false_and]
    exact iBoxOk_few a n cap w hn

set_option maxHeartbeats 800000 in
theorem sBoxOk_some (b off n cap : Nat) (f g : Nat → Int) (w : World) (hn : n ≤ 1048576) (hb : b < w.heap.size) (hc : ∀ i, i < n → w.cell? ⟨b, off + i * 2, none⟩ = some (.int .i64 (f i)) ∧ w.cell? ⟨b, off + i * 2 + 1, none⟩ = some (.int .i64 (g i))) :
    Calls Try.prog 26 #[.slice (some ⟨b, off, none⟩) n cap] w fun e w' => e = .returned (.bool (boxB n f g)) ∧ Below w.heap.size w w' := by
  have L := hide (l1In_any (n : Int) 1 8)
  go_enter Try.func26, Try.ntmps26
  go_wp2_with fail
  go_loopw [3] (fun i wr => ∃ k : Nat, k ≤ n ∧ i = .int .i64 k ∧ (∀ j, j < k → rightB (f j) (g j) = true) ∧ Below w.heap.size w wr) (fun i _ => n - (intOf i).toNat)
  case atStart => exact ⟨0, Nat.zero_le _, rfl, fun j h => absurd h (by omega), (by repeat' first | with_reducible exact Below.refl _ _ | with_reducible assumption | with_reducible refine below_drewN ?_ _ | with_reducible refine balloc ?_ _ | with_reducible refine Below.drew ?_ | with_reducible refine Below.setCell ?_ (by first | (simp; done) | (simp; omega) | omega) _ | with_reducible refine bstep ?_ (by assumption))⟩
  case round =>
    obtain ⟨k, hk, rfl, hpre, hbel⟩ := hrel
    have HP := hide hpre
    have HC := hide hc
    have HB := hide hbel
    by_cases hlt : k < n
    · have z1 : wr.cell? ⟨b, off + k * 2, none⟩ = some (.int .i64 (f k)) := (hbel.cell (p := ⟨b, off + k * 2, none⟩) hb).trans (hc k hlt).1
      have z2 : wr.cell? ⟨b, off + k * 2 + 1, none⟩ = some (.int .i64 (g k)) := (hbel.cell (p := ⟨b, off + k * 2 + 1, none⟩) hb).trans (hc k hlt).2
      have R := hide (sRangeOk_any (f k) (g k))
      clear hpre hbel hc
      cases he : rightB (f k) (g k)
      · have HE := hide he
        rw [he] at R
        clear he
        go_wp2_with fail
        refine (R.out _).mono ?_
        rintro e wn ⟨rfl, hbn⟩
        go_wp2_with fail
        go_ret
        refine ⟨by unfold boxB; rw [allN_no hlt HE.out, Bool.and_false]; rfl, ?_⟩
        have hbel := HB.out
        exact (by repeat' first | with_reducible exact Below.refl _ _ | with_reducible assumption | with_reducible refine below_drewN ?_ _ | with_reducible refine balloc ?_ _ | with_reducible refine Below.drew ?_ | with_reducible refine Below.setCell ?_ (by first | (simp; done) | (simp; omega) | omega) _ | with_reducible refine bstep ?_ (by assumption))
      · have HE := hide he
        rw [he] at R
        clear he
        go_wp2_with fail
        refine (R.out _).mono ?_
        rintro e wn ⟨rfl, hbn⟩
        go_wp2_with fail
        go_roundw
        case rel =>
          have hbel := HB.out
          exact ⟨k + 1, by omega, by go_num, fun j hj => (by rcases Nat.lt_succ_iff_lt_or_eq.1 hj with h | h; exact HP.out j h; rw [h]; exact HE.out), (by repeat' first | with_reducible exact Below.refl _ _ | with_reducible assumption | with_reducible refine below_drewN ?_ _ | with_reducible refine balloc ?_ _ | with_reducible refine Below.drew ?_ | with_reducible refine Below.setCell ?_ (by first | (simp; done) | (simp; omega) | omega) _ | with_reducible refine bstep ?_ (by assumption))⟩
        case measure => simp [intOf]; omega
    · clear hpre hbel hc
      go_wp2_with fail
      refine (L.out _).mono ?_
      rintro e wn ⟨rfl, rfl⟩
      go_wp2_with fail
      go_ret
      refine ⟨?_, HB.out⟩
      unfold boxB
      rw [allN_yes (fun j hj => HP.out j (by omega)), Bool.and_true]
      unfold inB
      rw [show decide ((1 : Int) ≤ (n : Int) ∧ (n : Int) ≤ 8) = decide (1 ≤ n ∧ n ≤ 8) from decide_eq_decide.2 (by omega)]
      rfl

set_option maxHeartbeats 400000 in
theorem sBoxOk_none (a : Option Addr) (n cap : Nat) (w : World) (hn : n < 1) :
    Calls Try.prog 26 #[.slice a n cap] w fun e w' => e = .returned (.bool false) ∧ Below w.heap.size w w' := by
  have L := hide (l1In_any (n : Int) 1 8)
  rw [show inB (n : Int) 1 8 = false from by unfold inB; exact decide_eq_false (by omega)] at L
  go_enter Try.func26, Try.ntmps26
  go_wp2_with fail
  refine wp_loop_rounds 1 ?_
  rw [rounds_succ]
  go_wp2_with fail
  refine (L.out _).mono ?_
  rintro e wn ⟨rfl, rfl⟩
  go_wp2_with fail
  go_ret
  exact ⟨rfl, (by repeat' first | with_reducible exact Below.refl _ _ | with_reducible assumption | with_reducible refine below_drewN ?_ _ | with_reducible refine balloc ?_ _ | with_reducible refine Below.drew ?_ | with_reducible refine Below.setCell ?_ (by first | (simp; done) | (simp; omega) | omega) _ | with_reducible refine bstep ?_ (by assumption))⟩

theorem sBoxOk_any (a : Option Addr) (n cap : Nat) (f g : Nat → Int) (w : World) (h : PRow w a n f g) (hn : n ≤ 1048576) :
    Calls Try.prog 26 #[.slice a n cap] w fun e w' => e = .returned (.bool (boxB n f g)) ∧ Below w.heap.size w w' := by
  rcases h.lies with h0 | ⟨b, off, rfl, lt, hc⟩
  · rw [show boxB n f g = false from by unfold boxB; rw [decide_eq_false (by omega), Bool.false_and]]
    exact sBoxOk_none a n cap w (by omega)
  · exact sBoxOk_some b off n cap f g w hn lt hc
end Go.Proofs.Ythiklcldbjmgfaa

/- Bounds of the program: how far a number is from a range, at least and at most; the sums; LowOf, HighOf, BoxHas. -/
namespace Go.Proofs.Ythiklcldbjmgfaa
open Go.RowKit
set_option maxRecDepth 8000
set_option linter.unusedSimpArgs false
set_option linter.unusedVariables false

def leastV (lo hi x : Int) : Int := max (max (lo - x) (x - hi)) 0
def mostV (lo hi x : Int) : Int := max (hi - x) (x - lo)
def sumSq (d : Nat → Int) : Nat → Int
  | 0 => 0
  | k + 1 => sumSq d k + d k * d k

theorem sq_bounds {x : Int} (h0 : 0 ≤ x) (h1 : x ≤ 4194304) : 0 ≤ x * x ∧ x * x ≤ 17592186044416 := by
  have a := Int.mul_nonneg h0 h0
  have b : x * x ≤ 4194304 * 4194304 := Int.mul_le_mul h1 h1 h0 (by omega)
  omega

theorem sumSq_bounds (d : Nat → Int) (n : Nat) (h : ∀ i, i < n → 0 ≤ d i ∧ d i ≤ 4194304) : ∀ k, k ≤ n → 0 ≤ sumSq d k ∧ sumSq d k ≤ k * 17592186044416 := by
  intro k
  induction k with
  | zero => intro _; simp [sumSq]
  | succ k ih =>
    intro hk
    have hi := ih (by omega)
    have hb := sq_bounds (h k (by omega)).1 (h k (by omega)).2
    simp only [sumSq]
    omega

theorem sumSq_congr {d e : Nat → Int} {n : Nat} (h : ∀ i, i < n → d i = e i) : sumSq d n = sumSq e n := by
  induction n with
  | zero => rfl
  | succ n ih => simp only [sumSq]; rw [ih (fun i hi => h i (by omega)), h n (by omega)]

theorem least_bounds {lo hi x : Int} (hr : rightB lo hi = true) (hx : compB x = true) : 0 ≤ leastV lo hi x ∧ leastV lo hi x ≤ 4194304 := by
  simp only [rightB, compB, Bool.and_eq_true, decide_eq_true_eq] at hr hx
  unfold leastV; omega

theorem most_bounds {lo hi x : Int} (hr : rightB lo hi = true) (hx : compB x = true) : 0 ≤ mostV lo hi x ∧ mostV lo hi x ≤ 4194304 := by
  simp only [rightB, compB, Bool.and_eq_true, decide_eq_true_eq] at hr hx
  unfold mostV; omega





end Go.Proofs.Ythiklcldbjmgfaa

/- Bounds of the program: the sums; LowOf, HighOf, BoxHas. -/
namespace Go.Proofs.Ythiklcldbjmgfaa
open Go.RowKit
set_option maxRecDepth 8000
set_option linter.unusedSimpArgs false
set_option linter.unusedVariables false

/-- Whether it is a box, and a vector of as many numbers. -/
def formB (n : Nat) (f g : Nat → Int) (m : Nat) (xs : List Int) : Bool := boxB n f g && vecOkB xs && decide (n = m)

theorem vecOkB_at {xs : List Int} (h : vecOkB xs = true) {k : Nat} (hk : k < xs.length) : compB (nth xs k) = true := by
  simp only [vecOkB, Bool.and_eq_true, List.all_eq_true] at h
  have := h.2 (nth xs k) (by unfold nth; simp [hk])
  exact this

theorem boxB_num' {n : Nat} {f g : Nat → Int} (h : boxB n f g = true) : 1 ≤ n ∧ n ≤ 8 := by
  simp only [boxB, Bool.and_eq_true, decide_eq_true_eq] at h; exact h.1

theorem boxB_at' {n k : Nat} {f g : Nat → Int} (h : boxB n f g = true) (hk : k < n) : rightB (f k) (g k) = true := by
  simp only [boxB, Bool.and_eq_true] at h; exact allN_at h.2 hk

def leastN (n : Nat) (f g : Nat → Int) (xs : List Int) : Int := sumSq (fun i => leastV (f i) (g i) (nth xs i)) n
def mostN (n : Nat) (f g : Nat → Int) (xs : List Int) : Int := sumSq (fun i => mostV (f i) (g i) (nth xs i)) n

set_option maxHeartbeats 800000 in
theorem boxFits_any (a a' : Option Addr) (n cap n' cap' : Nat) (f g : Nat → Int) (xs : List Int) (w : World) (h : PRow w a n f g) (h' : Row w a' n' xs) (hn' : n' ≤ 1048576) :
    Calls Try.prog 53 #[.slice a n cap, .slice a' n' cap'] w fun e w' => e = .returned (.bool (formB n f g n' xs)) ∧ Below w.heap.size w w' := by
  have A := hide (fun w1 (hb : Below w.heap.size w w1) => iBoxOk_any a n cap f g w1 (h.below hb))
  have B := hide (fun w1 (hb : Below w.heap.size w w1) => iVecOk_any a' n' cap' xs w1 (h'.below hb) hn')
  clear h h'
  unfold formB
  cases h1 : boxB n f g
  · rw [h1] at A
    simp only [Bool.and_true, Bool.and_false, Bool.true_and, Bool.false_and]
    go_enter Try.func53, Try.ntmps53
    go_wp2_with fail
    refine (A.out _ (by repeat' first | with_reducible exact Below.refl _ _ | with_reducible assumption | with_reducible refine below_drewN ?_ _ | with_reducible refine balloc ?_ _ | with_reducible refine Below.drew ?_ | with_reducible refine Below.setCell ?_ (by first | (simp; done) | (simp; omega) | omega) _ | with_reducible refine bstep ?_ (by assumption))).mono ?_
    rintro e w1 ⟨rfl, hb1⟩
    go_wp2_with fail
    go_ret
    exact ⟨rfl, (by repeat' first | with_reducible exact Below.refl _ _ | with_reducible assumption | with_reducible refine below_drewN ?_ _ | with_reducible refine balloc ?_ _ | with_reducible refine Below.drew ?_ | with_reducible refine Below.setCell ?_ (by first | (simp; done) | (simp; omega) | omega) _ | with_reducible refine bstep ?_ (by assumption))⟩
  · rw [h1] at A
    cases h2 : vecOkB xs
    · rw [h2] at B
      simp only [Bool.and_true, Bool.and_false, Bool.true_and, Bool.false_and]
      go_enter Try.func53, Try.ntmps53
      go_wp2_with fail
      refine (A.out _ (by repeat' first | with_reducible exact Below.refl _ _ | with_reducible assumption | with_reducible refine below_drewN ?_ _ | with_reducible refine balloc ?_ _ | with_reducible refine Below.drew ?_ | with_reducible refine Below.setCell ?_ (by first | (simp; done) | (simp; omega) | omega) _ | with_reducible refine bstep ?_ (by assumption))).mono ?_
      rintro e w1 ⟨rfl, hb1⟩
      go_wp2_with fail
      refine (B.out _ hb1).mono ?_
      rintro e w2 ⟨rfl, hb2⟩
      go_wp2_with fail
      go_ret
      exact ⟨rfl, (by repeat' first | with_reducible exact Below.refl _ _ | with_reducible assumption | with_reducible refine below_drewN ?_ _ | with_reducible refine balloc ?_ _ | with_reducible refine Below.drew ?_ | with_reducible refine Below.setCell ?_ (by first | (simp; done) | (simp; omega) | omega) _ | with_reducible refine bstep ?_ (by assumption))⟩
    · rw [h2] at B
      have hd : ((n : Int) == (n' : Int)) = decide (n = n') := by
        by_cases he : n = n'
        · subst he; simp
        · rw [decide_eq_false he]; simp; omega
      simp only [Bool.and_true, Bool.and_false, Bool.true_and, Bool.false_and]
      generalize decide (n = n') = u at hd
      go_enter Try.func53, Try.ntmps53
      go_wp2_with fail
      refine (A.out _ (by repeat' first | with_reducible exact Below.refl _ _ | with_reducible assumption | with_reducible refine below_drewN ?_ _ | with_reducible refine balloc ?_ _ | with_reducible refine Below.drew ?_ | with_reducible refine Below.setCell ?_ (by first | (simp; done) | (simp; omega) | omega) _ | with_reducible refine bstep ?_ (by assumption))).mono ?_
      rintro e w1 ⟨rfl, hb1⟩
      go_wp2_with fail
      refine (B.out _ hb1).mono ?_
      rintro e w2 ⟨rfl, hb2⟩
      go_wp2_with fail
      go_ret
      exact ⟨by first | rfl | (rw [hd]; done) | (simp [hd]; done), (by repeat' first | with_reducible exact Below.refl _ _ | with_reducible assumption | with_reducible refine below_drewN ?_ _ | with_reducible refine balloc ?_ _ | with_reducible refine Below.drew ?_ | with_reducible refine Below.setCell ?_ (by first | (simp; done) | (simp; omega) | omega) _ | with_reducible refine bstep ?_ (by assumption))⟩











end Go.Proofs.Ythiklcldbjmgfaa
/- Packed rows of the program in terms of the codes that they hold. -/
namespace Go.Proofs.Ythiklcldbjmgfaa
open Go.RowKit
set_option maxRecDepth 8000
set_option linter.unusedSimpArgs false
set_option linter.unusedVariables false

def dig (c3 c : Nat → Int) (i : Nat) : Nat := if c3 i = -1 then 0 else (c i).toNat
def outD (c3 : Nat → Int) (i : Nat) : Nat := if c3 i = -1 then 1 else 0
def pA (c1 c2 c3 : Nat → Int) (m : Nat) : Int := (numN 2 (dig c3 c1) m : Int)
def pB (c1 c2 c3 : Nat → Int) (m : Nat) : Int := (numN 16 (dig c3 c2) m : Int)
def pC (c1 c2 c3 : Nat → Int) (m : Nat) : Int := (numN 256 (dig c3 c3) m : Int)
def pD (c1 c2 c3 : Nat → Int) (m : Nat) : Int := (numN 2 (outD c3) m : Int)

/-- The codes of a place: all -1, or each a cell's. -/
def CodesAt (a b c : Int) : Prop := (a = -1 ∧ b = -1 ∧ c = -1) ∨ (0 ≤ a ∧ a < 2 ∧ 0 ≤ b ∧ b < 16 ∧ 0 ≤ c ∧ c < 256)
def CodesOk (m : Nat) (c1 c2 c3 : Nat → Int) : Prop := ∀ i, i < m → CodesAt (c1 i) (c2 i) (c3 i)

theorem dig_lt {m : Nat} {c1 c2 c3 : Nat → Int} (h : CodesOk m c1 c2 c3) : (∀ i, i < m → dig c3 c1 i < 2) ∧ (∀ i, i < m → dig c3 c2 i < 16) ∧ (∀ i, i < m → dig c3 c3 i < 256) ∧ (∀ i, i < m → outD c3 i < 2) := by
  refine ⟨fun i hi => ?_, fun i hi => ?_, fun i hi => ?_, fun i hi => ?_⟩ <;> have := h i hi <;> unfold CodesAt at this <;> simp only [dig, outD] <;> split <;> omega

theorem with_any (c1 c2 c3 : Nat → Int) (n : Int) (k : Nat) (w : World) (hk : k < 8) (h : CodesOk (k + 1) c1 c2 c3) :
    Calls Try.prog 52 #[.agg #[.int .u8 (pA c1 c2 c3 k), .int .u32 (pB c1 c2 c3 k), .int .u64 (pC c1 c2 c3 k), .int .u8 (pD c1 c2 c3 k), .int .i64 n], .int .i64 k, .agg #[.int .i64 (c1 k), .int .i64 (c2 k), .int .i64 (c3 k)]] w fun e w' => e = .returned (.agg #[.int .u8 (pA c1 c2 c3 (k + 1)), .int .u32 (pB c1 c2 c3 (k + 1)), .int .u64 (pC c1 c2 c3 (k + 1)), .int .u8 (pD c1 c2 c3 (k + 1)), .int .i64 n]) ∧ Below w.heap.size w w' := by
  obtain ⟨l1, l2, l3, l4⟩ := dig_lt h
  by_cases hc : c3 k = -1
  · have e1 : pA c1 c2 c3 (k + 1) = pA c1 c2 c3 k := by simp [pA, numN, dig, hc]
    have e2 : pB c1 c2 c3 (k + 1) = pB c1 c2 c3 k := by simp [pB, numN, dig, hc]
    have e3 : pC c1 c2 c3 (k + 1) = pC c1 c2 c3 k := by simp [pC, numN, dig, hc]
    have e4 : pD c1 c2 c3 (k + 1) = bits .or .u8 (pD c1 c2 c3 k) (2 ^ k % 256) := by
      have := lay2 (outD c3) k hk l4
      rw [show outD c3 k = 1 by simp [outD, hc]] at this
      unfold pD
      rw [← this]
      simp
    rw [e1, e2, e3, e4, hc]
    exact with_out _ _ _ _ n k _ _ w hk
  · have hr : CodesAt (c1 k) (c2 k) (c3 k) := h k (by omega)
    unfold CodesAt at hr
    have d1 : ((dig c3 c1 k : Nat) : Int) = c1 k := by simp only [dig, hc, if_false]; omega
    have d2 : ((dig c3 c2 k : Nat) : Int) = c2 k := by simp only [dig, hc, if_false]; omega
    have d3 : ((dig c3 c3 k : Nat) : Int) = c3 k := by simp only [dig, hc, if_false]; omega
    have e1 : pA c1 c2 c3 (k + 1) = bits .or .u8 (pA c1 c2 c3 k) (c1 k % 256 * 2 ^ k % 256) := by
      have := lay2 (dig c3 c1) k hk l1
      rw [d1] at this
      exact this.symm
    have e2 : pB c1 c2 c3 (k + 1) = bits .or .u32 (pB c1 c2 c3 k) (c2 k % 4294967296 * 2 ^ (4 * k) % 4294967296) := by
      have := lay16 (dig c3 c2) k hk l2
      rw [d2] at this
      exact this.symm
    have e3 : pC c1 c2 c3 (k + 1) = bits .or .u64 (pC c1 c2 c3 k) (c3 k % 18446744073709551616 * 2 ^ (8 * k) % 18446744073709551616) := by
      have := lay256 (dig c3 c3) k hk l3
      rw [d3] at this
      exact this.symm
    have e4 : pD c1 c2 c3 (k + 1) = pD c1 c2 c3 k := by simp [pD, numN, outD, hc]
    rw [e1, e2, e3, e4]
    exact with_in _ _ _ _ n k _ _ _ w hk hc



/-- The codes of a vector's number: of a right range. -/
theorem codeB_ok {lo hi x : Int} (hr : rightB lo hi = true) : CodesAt (codeB lo hi 1 x) (codeB lo hi 2 x) (codeB lo hi 3 x) := by
  unfold codeB CodesAt
  obtain ⟨a1, a2, a3, a4, a5⟩ := right_nums hr
  cases hh : hasB lo hi x
  · left; simp
  · right
    have hx : lo ≤ x ∧ x ≤ hi := by simp only [hasB, inB, Bool.and_eq_true, decide_eq_true_eq] at hh; exact hh.2
    simp only [Bool.true_and, show tierB 1 = true from rfl, show tierB 2 = true from rfl, show tierB 3 = true from rfl, if_true, show cellsN 1 = 2 from rfl, show cellsN 2 = 16 from rfl, show cellsN 3 = 256 from rfl]
    have b1 := code_nonneg lo hi 2 x (by omega) hx.1 a5
    have b2 := code_lt lo hi 2 x (by omega) hx.2 a5
    have b3 := code_nonneg lo hi 16 x (by omega) hx.1 a5
    have b4 := code_lt lo hi 16 x (by omega) hx.2 a5
    have b5 := code_nonneg lo hi 256 x (by omega) hx.1 a5
    have b6 := code_lt lo hi 256 x (by omega) hx.2 a5
    omega

/-- A box of five cells that may be written. -/
structure Five (w : World) (b : Nat) (v0 v1 v2 v3 v4 : Value) : Prop where
  lt : b < w.heap.size
  c0 : w.cell? ⟨b, 0, none⟩ = some v0
  c1 : w.cell? ⟨b, 1, none⟩ = some v1
  c2 : w.cell? ⟨b, 2, none⟩ = some v2
  c3 : w.cell? ⟨b, 3, none⟩ = some v3
  c4 : w.cell? ⟨b, 4, none⟩ = some v4
  f0 : w.frozen? ⟨b, 0, none⟩ = false
  f1 : w.frozen? ⟨b, 1, none⟩ = false
  f2 : w.frozen? ⟨b, 2, none⟩ = false
  f3 : w.frozen? ⟨b, 3, none⟩ = false
  f4 : w.frozen? ⟨b, 4, none⟩ = false

theorem Five.below {w w' : World} {b : Nat} {v0 v1 v2 v3 v4 : Value} (h : Five w b v0 v1 v2 v3 v4) (hb : Below w.heap.size w w') : Five w' b v0 v1 v2 v3 v4 :=
  ⟨Nat.lt_of_lt_of_le h.lt hb.size, (hb.cell (p := ⟨b, 0, none⟩) h.lt).trans h.c0, (hb.cell (p := ⟨b, 1, none⟩) h.lt).trans h.c1, (hb.cell (p := ⟨b, 2, none⟩) h.lt).trans h.c2, (hb.cell (p := ⟨b, 3, none⟩) h.lt).trans h.c3, (hb.cell (p := ⟨b, 4, none⟩) h.lt).trans h.c4,
    (hb.frozen (p := ⟨b, 0, none⟩) h.lt).trans h.f0, (hb.frozen (p := ⟨b, 1, none⟩) h.lt).trans h.f1, (hb.frozen (p := ⟨b, 2, none⟩) h.lt).trans h.f2, (hb.frozen (p := ⟨b, 3, none⟩) h.lt).trans h.f3, (hb.frozen (p := ⟨b, 4, none⟩) h.lt).trans h.f4⟩

theorem Five.drew {w : World} {b : Nat} {v0 v1 v2 v3 v4 : Value} (h : Five w b v0 v1 v2 v3 v4) : Five w.drew b v0 v1 v2 v3 v4 := h.below (Below.drew (Below.refl _ _))

theorem Five.new (w : World) (v0 v1 v2 v3 v4 : Value) (T : TypeId) (b : Nat) (hb : w.heap.size = b) : Five (w.alloc (.cells #[v0, v1, v2, v3, v4] T)) b v0 v1 v2 v3 v4 := hb ▸ ⟨by simp, by simp, by simp, by simp, by simp, by simp, by simp [go_sem], by simp [go_sem], by simp [go_sem], by simp [go_sem], by simp [go_sem]⟩

theorem Five.set {w : World} {b : Nat} {v0 v1 v2 v3 v4 : Value} (h : Five w b v0 v1 v2 v3 v4) (u0 u1 u2 u3 u4 : Value) :
    Five (((((w.setCell ⟨b, 0, none⟩ u0).setCell ⟨b, 1, none⟩ u1).setCell ⟨b, 2, none⟩ u2).setCell ⟨b, 3, none⟩ u3).setCell ⟨b, 4, none⟩ u4) b u0 u1 u2 u3 u4 := by
  obtain ⟨h0, h1, h2, h3, h4, h5, f0, f1, f2, f3, f4⟩ := h
  exact ⟨by simpa [World.setCell] using h0, by simp [go_sem, h1, h2, h3, h4, h5], by simp [go_sem, h1, h2, h3, h4, h5], by simp [go_sem, h1, h2, h3, h4, h5], by simp [go_sem, h1, h2, h3, h4, h5], by simp [go_sem, h1, h2, h3, h4, h5], by simp [go_sem, f0], by simp [go_sem, f1], by simp [go_sem, f2], by simp [go_sem, f3], by simp [go_sem, f4]⟩

theorem Five.away {w : World} {b : Nat} {v0 v1 v2 v3 v4 : Value} (h : Five w b v0 v1 v2 v3 v4) (p : Addr) (v : Value) (hp : b ≠ p.block) : Five (w.setCell p v) b v0 v1 v2 v3 v4 := by
  have e := Below.heap_setCell w p v b hp
  obtain ⟨h0, h1, h2, h3, h4, h5, f0, f1, f2, f3, f4⟩ := h
  refine ⟨by simpa [World.setCell] using h0, ?_, ?_, ?_, ?_, ?_, ?_, ?_, ?_, ?_, ?_⟩ <;> simp only [World.cell?, World.frozen?, e] at * <;> assumption

abbrev PK (c1 c2 c3 : Nat → Int) (m : Nat) (n : Int) : Value := .agg #[.int .u8 (pA c1 c2 c3 m), .int .u32 (pB c1 c2 c3 m), .int .u64 (pC c1 c2 c3 m), .int .u8 (pD c1 c2 c3 m), .int .i64 n]
abbrev PK0 : Value := .agg #[.int .u8 0, .int .u32 0, .int .u64 0, .int .u8 0, .int .i64 0]
end Go.Proofs.Ythiklcldbjmgfaa

/- packVector of the program. -/
namespace Go.Proofs.Ythiklcldbjmgfaa
open Go.RowKit
set_option maxRecDepth 8000
set_option linter.unusedSimpArgs false
set_option linter.unusedVariables false

/-- The code of each number of a vector, in its range, of a tier. -/
def vcode (f g : Nat → Int) (xs : List Int) (t : Int) (i : Nat) : Int := codeB (f i) (g i) t (nth xs i)

theorem vcode_ok {n : Nat} {f g : Nat → Int} (xs : List Int) (h : ∀ i, i < n → rightB (f i) (g i) = true) : CodesOk n (vcode f g xs 1) (vcode f g xs 2) (vcode f g xs 3) := fun i hi => codeB_ok (h i hi)

set_option maxHeartbeats 4000000 in
set_option maxRecDepth 4000 in
theorem packVector_yes (b off n cap b' off' cap' : Nat) (f g : Nat → Int) (xs : List Int) (w : World) (h8 : n ≤ 8) (hb : b < w.heap.size) (hb' : b' < w.heap.size)
    (hr : ∀ i, i < n → rightB (f i) (g i) = true)
    (hc : ∀ i, i < n → w.cell? ⟨b, off + i * 2, none⟩ = some (.int .i64 (f i)) ∧ w.cell? ⟨b, off + i * 2 + 1, none⟩ = some (.int .i64 (g i)))
    (hc' : ∀ i, i < n → w.cell? ⟨b', off' + i, none⟩ = some (.int .i64 (nth xs i)))
    (FO : Hid (∀ w1, Below w.heap.size w w1 → Calls Try.prog 53 #[.slice (some ⟨b, off, none⟩) n cap, .slice (some ⟨b', off', none⟩) n cap'] w1 fun e w' => e = .returned (.bool true) ∧ Below w1.heap.size w1 w')) :
    Calls Try.prog 34 #[.slice (some ⟨b, off, none⟩) n cap, .slice (some ⟨b', off', none⟩) n cap'] w fun e w' => e = .returned (.tuple #[PK (vcode f g xs 1) (vcode f g xs 2) (vcode f g xs 3) n n, .bool true]) ∧ Below w.heap.size w w' := by
  obtain ⟨c1, e1⟩ : ∃ c, vcode f g xs 1 = c := ⟨_, rfl⟩
  obtain ⟨c2, e2⟩ : ∃ c, vcode f g xs 2 = c := ⟨_, rfl⟩
  obtain ⟨c3, e3⟩ : ∃ c, vcode f g xs 3 = c := ⟨_, rfl⟩
  have CK := hide (vcode_ok (n := n) xs hr)
  have CD := hide (fun (k : Nat) (hk : k < n) => codesOf_any (f k) (g k) (nth xs k))
  simp only [show ∀ k, codeB (f k) (g k) 1 (nth xs k) = vcode f g xs 1 k from fun _ => rfl, show ∀ k, codeB (f k) (g k) 2 (nth xs k) = vcode f g xs 2 k from fun _ => rfl, show ∀ k, codeB (f k) (g k) 3 (nth xs k) = vcode f g xs 3 k from fun _ => rfl] at CD
  rw [e1, e2, e3] at CK CD ⊢
  clear e1 e2 e3
  have WI := hide (fun (k : Nat) (hk : k < n) (w1 : World) => with_any c1 c2 c3 n k w1 (by omega) (fun i hi => CK.out i (by omega)))
  clear hr
  go_enter Try.func34, Try.ntmps34
  go_wp2_with fail
  refine (FO.out _ (by repeat' first | with_reducible exact Below.refl _ _ | with_reducible assumption | with_reducible refine below_drewN ?_ _ | with_reducible refine balloc ?_ _ | with_reducible refine Below.drew ?_ | with_reducible refine Below.setCell ?_ (by first | (simp; done) | (simp; omega) | omega) _ | with_reducible refine bstep ?_ (by assumption))).mono ?_
  rintro e w1 ⟨rfl, hb1⟩
  have F4 : Five w1 w.heap.size (.int .u8 0) (.int .u32 0) (.int .u64 0) (.int .u8 0) (.int .i64 0) := (Five.new w _ _ _ _ _ _ _ rfl).below hb1
  have HF4 := hide F4
  have B1 : Below w.heap.size w w1 := (by repeat' first | with_reducible exact Below.refl _ _ | with_reducible assumption | with_reducible refine below_drewN ?_ _ | with_reducible refine balloc ?_ _ | with_reducible refine Below.drew ?_ | with_reducible refine Below.setCell ?_ (by first | (simp; done) | (simp; omega) | omega) _ | with_reducible refine bstep ?_ (by assumption))
  have HB1 := hide B1
  have hw1 := F4.lt
  clear hb1 F4 B1
  go_wp2_with fail
  go_loopw [19] (fun i wr => ∃ k : Nat, k ≤ n ∧ i = .int .i64 k ∧ Five wr w.heap.size (.int .u8 0) (.int .u32 0) (.int .u64 0) (.int .u8 0) (.int .i64 0) ∧ Five wr w1.heap.size (.int .u8 (pA c1 c2 c3 k)) (.int .u32 (pB c1 c2 c3 k)) (.int .u64 (pC c1 c2 c3 k)) (.int .u8 (pD c1 c2 c3 k)) (.int .i64 n) ∧ Below w.heap.size w wr) (fun i _ => n - (intOf i).toNat)
  case atStart =>
    have B1 := HB1.out
    exact ⟨0, Nat.zero_le _, rfl, HF4.out.below (balloc (Below.refl _ _) _), Five.new w1 _ _ _ _ _ _ _ rfl, (by repeat' first | with_reducible exact Below.refl _ _ | with_reducible assumption | with_reducible refine below_drewN ?_ _ | with_reducible refine balloc ?_ _ | with_reducible refine Below.drew ?_ | with_reducible refine Below.setCell ?_ (by first | (simp; done) | (simp; omega) | omega) _ | with_reducible refine bstep ?_ (by assumption))⟩
  case round =>
    obtain ⟨k, hk, rfl, hf4, hf6, hbel⟩ := hrel
    have HB := hide hbel
    have H4 := hide hf4
    have H6 := hide hf6
    by_cases hlt : k < n
    · have z1 : wr.cell? ⟨b, off + k * 2, none⟩ = some (.int .i64 (f k)) := (hbel.cell (p := ⟨b, off + k * 2, none⟩) hb).trans (hc k hlt).1
      have z2 : wr.cell? ⟨b, off + k * 2 + 1, none⟩ = some (.int .i64 (g k)) := (hbel.cell (p := ⟨b, off + k * 2 + 1, none⟩) hb).trans (hc k hlt).2
      have z3 : wr.cell? ⟨b', off' + k, none⟩ = some (.int .i64 (nth xs k)) := (hbel.cell (p := ⟨b', off' + k, none⟩) hb').trans (hc' k hlt)
      have C := hide (CD.out k hlt)
      have W := hide (WI.out k hlt)
      have lb : b < wr.heap.size := Nat.lt_of_lt_of_le hb hbel.size
      have hlt' : (k : Int) < (n : Int) := by omega
      have d6 : w.heap.size ≠ w1.heap.size := by omega
      obtain ⟨g0, y0, y1, y2, y3, y4, x0, x1, x2, x3, x4⟩ := hf6
      clear hc hc' hf4 hbel CD WI
      go_upto_region 7 with fail
      go_region_with (first | (go_at_call 51; refine (C.out _).mono ?_; rintro e wa ⟨rfl, hba⟩; have ha := H6.out.drew.below hba; have HA := hide ha; obtain ⟨g0a, y0a, y1a, y2a, y3a, y4a, x0a, x1a, x2a, x3a, x4a⟩ := ha) | (go_at_call 52; refine (W.out _).mono ?_; rintro e wb ⟨rfl, hbb⟩; have h6 := HA.out.below hbb; obtain ⟨g0b, y0b, y1b, y2b, y3b, y4b, x0b, x1b, x2b, x3b, x4b⟩ := h6))
      all_goals
        have H4' := hide ((H4.out.drew.below hba).below hbb)
        have H6' := hide (HA.out.below hbb)
        have hB : Below w.heap.size w wb := (by have hbel := HB.out; exact bstep (bstep (Below.drew hbel) hba) hbb)
        have HB' := hide hB
        clear hB hba hbb y0 y1 y2 y3 y4 x0 x1 x2 x3 x4 y0a y1a y2a y3a y4a x0a x1a x2a x3a x4a y0b y1b y2b y3b y4b x0b x1b x2b x3b x4b z1 z2 z3
        go_wp2_with fail
        go_roundw
        case rel => exact ⟨k + 1, by omega, by go_num, ((((H4'.out.away _ _ d6).away _ _ d6).away _ _ d6).away _ _ d6).away _ _ d6, H6'.out.set _ _ _ _ _, ((((HB'.out.setCell (by simp; omega) _).setCell (by simp; omega) _).setCell (by simp; omega) _).setCell (by simp; omega) _).setCell (by simp; omega) _⟩
        case measure => simp [intOf]; omega
    · obtain rfl : k = n := by omega
      obtain ⟨g0, y0, y1, y2, y3, y4, x0, x1, x2, x3, x4⟩ := hf6
      obtain ⟨g0b, y0b, y1b, y2b, y3b, y4b, x0b, x1b, x2b, x3b, x4b⟩ := hf4
      have d6 : w.heap.size ≠ w1.heap.size := by omega
      clear hc hc' hbel
      go_wp2_with fail
      refine bodyPost_ret (v := .tuple #[PK c1 c2 c3 k k, .bool true]) ?_ rfl ⟨rfl, ?_⟩
      · simp [results, Try.results34, go_sem, *]
      · have hbel := HB.out
        exact ((((hbel.setCell (by simp) _).setCell (by simp) _).setCell (by simp) _).setCell (by simp) _).setCell (by simp) _

set_option maxHeartbeats 800000 in
theorem packVector_no (a a' : Option Addr) (n cap n' cap' : Nat) (w : World)
    (FO : Hid (∀ w1, Below w.heap.size w w1 → Calls Try.prog 53 #[.slice a n cap, .slice a' n' cap'] w1 fun e w' => e = .returned (.bool false) ∧ Below w1.heap.size w1 w')) :
    Calls Try.prog 34 #[.slice a n cap, .slice a' n' cap'] w fun e w' => e = .returned (.tuple #[PK0, .bool false]) ∧ Below w.heap.size w w' := by
  go_enter Try.func34, Try.ntmps34
  go_wp2_with fail
  refine (FO.out _ (by repeat' first | with_reducible exact Below.refl _ _ | with_reducible assumption | with_reducible refine below_drewN ?_ _ | with_reducible refine balloc ?_ _ | with_reducible refine Below.drew ?_ | with_reducible refine Below.setCell ?_ (by first | (simp; done) | (simp; omega) | omega) _ | with_reducible refine bstep ?_ (by assumption))).mono ?_
  rintro e w1 ⟨rfl, hb1⟩
  have F4 : Five w1 w.heap.size (.int .u8 0) (.int .u32 0) (.int .u64 0) (.int .u8 0) (.int .i64 0) := (Five.new w _ _ _ _ _ _ _ rfl).below hb1
  obtain ⟨g0b, y0b, y1b, y2b, y3b, y4b, x0b, x1b, x2b, x3b, x4b⟩ := F4
  go_wp2_with fail
  refine bodyPost_ret (v := .tuple #[PK0, .bool false]) ?_ rfl ⟨rfl, ?_⟩
  · simp [results, Try.results34, go_sem, *]
  · have B1 : Below w.heap.size w w1 := (by repeat' first | with_reducible exact Below.refl _ _ | with_reducible assumption | with_reducible refine below_drewN ?_ _ | with_reducible refine balloc ?_ _ | with_reducible refine Below.drew ?_ | with_reducible refine Below.setCell ?_ (by first | (simp; done) | (simp; omega) | omega) _ | with_reducible refine bstep ?_ (by assumption))
    exact ((((B1.setCell (by simp) _).setCell (by simp) _).setCell (by simp) _).setCell (by simp) _).setCell (by simp) _

/-- The packed row of a vector in a book, where it fits. -/
def packT (n : Nat) (f g : Nat → Int) (m : Nat) (xs : List Int) : Value := if formB n f g m xs then PK (vcode f g xs 1) (vcode f g xs 2) (vcode f g xs 3) n n else PK0

theorem packVector_any (a a' : Option Addr) (n cap n' cap' : Nat) (f g : Nat → Int) (xs : List Int) (w : World) (h : PRow w a n f g) (h' : Row w a' n' xs) (hn' : n' ≤ 1048576) :
    Calls Try.prog 34 #[.slice a n cap, .slice a' n' cap'] w fun e w' => e = .returned (.tuple #[packT n f g n' xs, .bool (formB n f g n' xs)]) ∧ Below w.heap.size w w' := by
  have FO := hide (fun w1 (hb : Below w.heap.size w w1) => boxFits_any a a' n cap n' cap' f g xs w1 (h.below hb) (h'.below hb) hn')
  unfold packT
  cases hF : formB n f g n' xs
  · rw [hF] at FO
    exact packVector_no a a' n cap n' cap' w FO
  · rw [hF] at FO
    simp only [if_true]
    simp only [formB, Bool.and_eq_true, decide_eq_true_eq] at hF
    obtain ⟨⟨h1, h2⟩, rfl⟩ := hF
    have hn := boxB_num' h1
    rcases h.lies with q | ⟨b, off, rfl, lt, hc⟩
    · omega
    · rcases h'.lies with q | ⟨b', off', rfl, lt', hc'⟩
      · omega
      · exact packVector_yes b off n cap b' off' cap' f g xs w hn.2 lt lt' (fun i hi => boxB_at' h1 hi) hc hc' FO
end Go.Proofs.Ythiklcldbjmgfaa
