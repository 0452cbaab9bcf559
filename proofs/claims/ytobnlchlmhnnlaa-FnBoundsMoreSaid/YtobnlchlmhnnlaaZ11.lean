/- Slices of structs of two numbers in memory: each takes two cells. What a slice leads to, whatever its element type is. -/
import Derived.Test.YtobnlchlmhnnlaaZ5
import Derived.Deep.RegionHeld3
import Derived.Deep.Slices
import Derived.Test.YtobnlchlmhnnlaaZ1
namespace Go.Proofs.Ytobnlchlmhnnlaa
open Go.RowKit
set_option maxRecDepth 8000
set_option linter.unusedSimpArgs false
set_option linter.unusedVariables false

/-- A slice of n ranges that begins at a leads to the ranges from f i to g i. -/
structure PRow (w : World) (a : Option Addr) (n : Nat) (f g : Nat → Int) : Prop where
  lies : n = 0 ∨ ∃ b off, a = some ⟨b, off, none⟩ ∧ b < w.heap.size ∧ ∀ i, i < n → w.cell? ⟨b, off + i * 2, none⟩ = some (.int .i64 (f i)) ∧ w.cell? ⟨b, off + i * 2 + 1, none⟩ = some (.int .i64 (g i))

theorem PRow.below {w w' : World} {a : Option Addr} {n : Nat} {f g : Nat → Int} (h : PRow w a n f g) (hb : Below w.heap.size w w') : PRow w' a n f g := by
  rcases h.lies with h0 | ⟨b, off, e, lt, hc⟩
  · exact ⟨.inl h0⟩
  · exact ⟨.inr ⟨b, off, e, Nat.lt_of_lt_of_le lt hb.size, fun i hi => ⟨(hb.cell (p := ⟨b, off + i * 2, none⟩) lt).trans (hc i hi).1, (hb.cell (p := ⟨b, off + i * 2 + 1, none⟩) lt).trans (hc i hi).2⟩⟩⟩

/-- All of the first n. -/
def allN (n : Nat) (p : Nat → Bool) : Bool := (List.range n).all p

theorem allN_yes {n : Nat} {p : Nat → Bool} (h : ∀ i, i < n → p i = true) : allN n p = true := by
  simp only [allN, List.all_eq_true, List.mem_range]; exact h

theorem allN_no {n k : Nat} {p : Nat → Bool} (hk : k < n) (h : p k = false) : allN n p = false := by
  rw [Bool.eq_false_iff]
  intro q
  simp only [allN, List.all_eq_true, List.mem_range] at q
  have := q k hk
  rw [h] at this
  cases this

theorem allN_at {n k : Nat} {p : Nat → Bool} (h : allN n p = true) (hk : k < n) : p k = true := by
  simp only [allN, List.all_eq_true, List.mem_range] at h; exact h k hk

theorem run_make_pairs {P : Program} (t e : TypeId) (x y : Value) (bytes : Nat) (ht : P.underlying t = some (.slice e)) (hinfo : (P.info? e).map (fun i => (i.zero, i.size, i.bytes)) = some (some (.agg #[x, y]), 2, bytes))
    (kl kc : IntKind) (n : Nat) (hbytes : bytes * n ≤ 281474976710656) (h63 : n ≤ 9223372036854775807) (w : World) :
    (Instr.makeSlice t (.int kl (n : Int)) (.int kc (n : Int))).run P w = .ok (.slice (some ⟨w.heap.size, 0, none⟩) n n) (w.alloc (.cells (madeCells #[x, y] (n * 2)) e)) := by
  obtain ⟨i, hi, hzz⟩ := Option.map_eq_some_iff.1 hinfo
  simp only [Prod.mk.injEq] at hzz
  obtain ⟨hz, hs, hb⟩ := hzz
  have hb' : (i.bytes : Int) * (n : Int) ≤ 281474976710656 := by
    have h : ((i.bytes * n : Nat) : Int) ≤ 281474976710656 := by rw [hb]; omega
    rwa [Int.natCast_mul] at h
  have hr := run_make (P := P) w t e i _ ht hi hz kl kc n n (by omega) (Int.le_refl _) hb' (by omega)
  simp only [Int.toNat_natCast, hs] at hr
  exact hr

def pcell (f g : Nat → Int) (j : Nat) : Value := .int .i64 (if j % 2 = 0 then f (j / 2) else g (j / 2))

theorem pcell_lo (f g : Nat → Int) (i : Nat) : pcell f g (i * 2) = .int .i64 (f i) := by simp [pcell]

theorem pcell_hi (f g : Nat → Int) (i : Nat) : pcell f g (i * 2 + 1) = .int .i64 (g i) := by
  have h1 : (i * 2 + 1) % 2 = 1 := by omega
  have h2 : (i * 2 + 1) / 2 = i := by omega
  simp [pcell, h1, h2]

def upTo (k : Nat) (f : Nat → Int) (i : Nat) : Int := if i < k then f i else 0
/-- What the frame of a law tells of a slice of ranges that came in. -/
def IsPairs (w : World) (a : Option Addr) (len : Nat) (f g : Nat → Int) : Prop := PRow w a len f g ∧ len ≤ 9223372036854775807

theorem pairs_of {w : World} {x : Addr} {len m : Nat} {V0 V1 : Nat → Value} (hlm : len ≤ m) (hcell : ∀ i, i < m → w.cell? (x.add (i * 2)) = some (V0 i) ∧ w.cell? (x.add (i * 2 + 1)) = some (V1 i))
    (hv : ∀ i, i < m → ∃ z : Int × Int, V0 i = .int .i64 z.1 ∧ V1 i = .int .i64 z.2) : ∃ f g, PRow w (some x) len f g := by
  obtain ⟨z, hz⟩ := Go.Deep.choose_lt hv
  refine ⟨fun i => (z i).1, fun i => (z i).2, ?_⟩
  by_cases h0 : len = 0
  · exact ⟨.inl h0⟩
  · obtain ⟨b, off, spot⟩ := x
    have hc := (hcell 0 (by omega)).1
    have hspot : spot = none := by simpa [Addr.add] using World.cell?_spot hc
    subst hspot
    refine ⟨.inr ⟨b, off, rfl, ?_, fun i hi => ?_⟩⟩
    · by_cases hlt : b < w.heap.size
      · exact hlt
      · simp [World.cell?, Addr.add, Array.getElem?_eq_none (Nat.le_of_not_lt hlt)] at hc
    · obtain ⟨c0, c1⟩ := hcell i (by omega)
      obtain ⟨e0, e1⟩ := hz i (by omega)
      rw [e0] at c0
      rw [e1] at c1
      refine ⟨?_, ?_⟩
      · by_cases h00 : i = 0
        · subst h00; simpa [Addr.add] using c0
        · simpa [Addr.add, show ¬ i * 2 = 0 by omega] using c0
      · simpa [Addr.add, Nat.add_assoc] using c1

def sameB (n : Nat) (f g f' g' : Nat → Int) : Bool := allN n (fun i => decide (f i = f' i) && decide (g i = g' i))

theorem sameB_self (n : Nat) (f g : Nat → Int) : sameB n f g f g = true := allN_yes fun i _ => by simp
end Go.Proofs.Ytobnlchlmhnnlaa

/- Slices of ranges in memory: each takes two cells. BoxOk of the program and of the model. -/
namespace Go.Proofs.Ytobnlchlmhnnlaa
open Go.RowKit
set_option maxRecDepth 8000
set_option linter.unusedSimpArgs false
set_option linter.unusedVariables false

def boxB (n : Nat) (f g : Nat → Int) : Bool := decide (1 ≤ n ∧ n ≤ 8) && allN n (fun i => rightB (f i) (g i))

set_option maxHeartbeats 800000 in
theorem iBoxOk_some (b off n cap : Nat) (f g : Nat → Int) (w : World) (h1 : 1 ≤ n) (h8 : n ≤ 8) (hb : b < w.heap.size) (hc : ∀ i, i < n → w.cell? ⟨b, off + i * 2, none⟩ = some (.int .i64 (f i)) ∧ w.cell? ⟨b, off + i * 2 + 1, none⟩ = some (.int .i64 (g i))) :
    Calls Try.prog 31 #[.slice (some ⟨b, off, none⟩) n cap] w fun e w' => e = .returned (.bool (allN n (fun i => rightB (f i) (g i)))) ∧ Below w.heap.size w w' := by
  go_enter Try.func31, Try.ntmps31
  go_wp2_with fail
  go_loopw [15] (fun i wr => ∃ k : Nat, k ≤ n ∧ i = .int .i64 k ∧ (∀ j, j < k → rightB (f j) (g j) = true) ∧ Below w.heap.size w wr) (fun i _ => n - (intOf i).toNat)
  case atStart => exact ⟨0, Nat.zero_le _, rfl, fun j h => absurd h (by omega), (by repeat' first | with_reducible exact Below.refl _ _ | with_reducible assumption | with_reducible refine below_drewN ?_ _ | with_reducible refine balloc ?_ _ | with_reducible refine Below.drew ?_ | with_reducible refine Below.setCell ?_ (by first | (simp; done) | (simp; omega) | omega) _ | with_reducible refine bstep ?_ (by assumption))⟩
  case round =>
    obtain ⟨k, hk, rfl, hpre, hbel⟩ := hrel
    have HP := hide hpre
    have HC := hide hc
    have HB := hide hbel
    by_cases hlt : k < n
    · have z1 : wr.cell? ⟨b, off + k * 2, none⟩ = some (.int .i64 (f k)) := (hbel.cell (p := ⟨b, off + k * 2, none⟩) hb).trans (hc k hlt).1
      have z2 : wr.cell? ⟨b, off + k * 2 + 1, none⟩ = some (.int .i64 (g k)) := (hbel.cell (p := ⟨b, off + k * 2 + 1, none⟩) hb).trans (hc k hlt).2
      have R := hide (right_any (f k) (g k))
      clear hpre hbel hc
      cases he : rightB (f k) (g k)
      · have HE := hide he
        rw [he] at R
        clear he
        go_wp2_with fail
        refine (R.out _).mono ?_
        rintro e wn ⟨rfl, hbn⟩
        go_wp2_with fail
        go_ret
        refine ⟨by rw [allN_no hlt HE.out]; rfl, ?_⟩
        have hbel := HB.out
        exact (by repeat' first | with_reducible exact Below.refl _ _ | with_reducible assumption | with_reducible refine below_drewN ?_ _ | with_reducible refine balloc ?_ _ | with_reducible refine Below.drew ?_ | with_reducible refine Below.setCell ?_ (by first | (simp; done) | (simp; omega) | omega) _ | with_reducible refine bstep ?_ (by assumption))
      · have HE := hide he
        rw [he] at R
        clear he
        go_wp2_with fail
        refine (R.out _).mono ?_
        rintro e wn ⟨rfl, hbn⟩
        go_wp2_with fail
        go_roundw
        case rel =>
          have hbel := HB.out
          exact ⟨k + 1, by omega, by go_num, fun j hj => (by rcases Nat.lt_succ_iff_lt_or_eq.1 hj with h | h; exact HP.out j h; rw [h]; exact HE.out), (by repeat' first | with_reducible exact Below.refl _ _ | with_reducible assumption | with_reducible refine below_drewN ?_ _ | with_reducible refine balloc ?_ _ | with_reducible refine Below.drew ?_ | with_reducible refine Below.setCell ?_ (by first | (simp; done) | (simp; omega) | omega) _ | with_reducible refine bstep ?_ (by assumption))⟩
        case measure => simp [intOf]; omega
    · clear hpre hbel hc
      go_wp2_with fail
      go_ret
      exact ⟨by rw [allN_yes (fun j hj => HP.out j (by omega))]; rfl, HB.out⟩

set_option maxHeartbeats 400000 in
theorem iBoxOk_few (a : Option Addr) (n cap : Nat) (w : World) (h : ¬ (1 ≤ n ∧ n ≤ 8)) :
    Calls Try.prog 31 #[.slice a n cap] w fun e w' => e = .returned (.bool false) ∧ Below w.heap.size w w' := by
  by_cases h1 : n < 1
  · have h1' : (n : Int) < 1 := by omega
    go_enter Try.func31, Try.ntmps31
    go_wp2_with fail
    go_ret
    exact ⟨rfl, (by repeat' first | with_reducible exact Below.refl _ _ | with_reducible assumption | with_reducible refine below_drewN ?_ _ | with_reducible refine balloc ?_ _ | with_reducible refine Below.drew ?_ | with_reducible refine Below.setCell ?_ (by first | (simp; done) | (simp; omega) | omega) _ | with_reducible refine bstep ?_ (by assumption))⟩
  · have h1' : ¬ (n : Int) < 1 := by omega
    have h8 : (8 : Int) < n := by omega
    go_enter Try.func31, Try.ntmps31
    go_wp2_with fail
    go_ret
    exact ⟨rfl, (by repeat' first | with_reducible exact Below.refl _ _ | with_reducible assumption | with_reducible refine below_drewN ?_ _ | with_reducible refine balloc ?_ _ | with_reducible refine Below.drew ?_ | with_reducible refine Below.setCell ?_ (by first | (simp; done) | (simp; omega) | omega) _ | with_reducible refine bstep ?_ (by assumption))⟩

theorem iBoxOk_any (a : Option Addr) (n cap : Nat) (f g : Nat → Int) (w : World) (h : PRow w a n f g) :
    Calls Try.prog 31 #[.slice a n cap] w fun e w' => e = .returned (.bool (boxB n f g)) ∧ Below w.heap.size w w' := by
  unfold boxB
  by_cases hn : 1 ≤ n ∧ n ≤ 8
  · rw [decide_eq_true hn, Bool.true_and]
    rcases h.lies with h0 | ⟨b, off, rfl, lt, hc⟩
    · omega
    · exact iBoxOk_some b off n cap f g w hn.1 hn.2 lt hc
  · rw [decide_eq_false hn, Bool.false_and]
    exact iBoxOk_few a n cap w hn

set_option maxHeartbeats 800000 in
theorem sBoxOk_some (b off n cap : Nat) (f g : Nat → Int) (w : World) (hn : n ≤ 1048576) (hb : b < w.heap.size) (hc : ∀ i, i < n → w.cell? ⟨b, off + i * 2, none⟩ = some (.int .i64 (f i)) ∧ w.cell? ⟨b, off + i * 2 + 1, none⟩ = some (.int .i64 (g i))) :
    Calls Try.prog 17 #[.slice (some ⟨b, off, none⟩) n cap] w fun e w' => e = .returned (.bool (boxB n f g)) ∧ Below w.heap.size w w' := by
  have L := hide (l1In_any (n : Int) 1 8)
  go_enter Try.func17, Try.ntmps17
  go_wp2_with fail
  go_loopw [3] (fun i wr => ∃ k : Nat, k ≤ n ∧ i = .int .i64 k ∧ (∀ j, j < k → rightB (f j) (g j) = true) ∧ Below w.heap.size w wr) (fun i _ => n - (intOf i).toNat)
  case atStart => exact ⟨0, Nat.zero_le _, rfl, fun j h => absurd h (by omega), (by repeat' first | with_reducible exact Below.refl _ _ | with_reducible assumption | with_reducible refine below_drewN ?_ _ | with_reducible refine balloc ?_ _ | with_reducible refine Below.drew ?_ | with_reducible refine Below.setCell ?_ (by first | (simp; done) | (simp; omega) | omega) _ | with_reducible refine bstep ?_ (by assumption))⟩
  case round =>
    obtain ⟨k, hk, rfl, hpre, hbel⟩ := hrel
    have HP := hide hpre
    have HC := hide hc
    have HB := hide hbel
    by_cases hlt : k < n
    · have z1 : wr.cell? ⟨b, off + k * 2, none⟩ = some (.int .i64 (f k)) := (hbel.cell (p := ⟨b, off + k * 2, none⟩) hb).trans (hc k hlt).1
      have z2 : wr.cell? ⟨b, off + k * 2 + 1, none⟩ = some (.int .i64 (g k)) := (hbel.cell (p := ⟨b, off + k * 2 + 1, none⟩) hb).trans (hc k hlt).2
      have R := hide (sRangeOk_any (f k) (g k))
      clear hpre hbel hc
      cases he : rightB (f k) (g k)
      · have HE := hide he
        rw [he] at R
        clear he
        go_wp2_with fail
        refine (R.out _).mono ?_
        rintro e wn ⟨rfl, hbn⟩
        go_wp2_with fail
        go_ret
        refine ⟨by unfold boxB; rw [allN_no hlt HE.out, Bool.and_false]; rfl, ?_⟩
        have hbel := HB.out
        exact (by repeat' first | with_reducible exact Below.refl _ _ | with_reducible assumption | with_reducible refine below_drewN ?_ _ | with_reducible refine balloc ?_ _ | with_reducible refine Below.drew ?_ | with_reducible refine Below.setCell ?_ (by first | (simp; done) | (simp; omega) | omega) _ | with_reducible refine bstep ?_ (by assumption))
      · have HE := hide he
        rw [he] at R
        clear he
        go_wp2_with fail
        refine (R.out _).mono ?_
        rintro e wn ⟨rfl, hbn⟩
        go_wp2_with fail
        go_roundw
        case rel =>
          have hbel := HB.out
          exact ⟨k + 1, by omega, by go_num, fun j hj => (by rcases Nat.lt_succ_iff_lt_or_eq.1 hj with h | h; exact HP.out j h; rw [h]; exact HE.out), (by repeat' first | with_reducible exact Below.refl _ _ | with_reducible assumption | with_reducible refine below_drewN ?_ _ | with_reducible refine balloc ?_ _ | with_reducible refine Below.drew ?_ | with_reducible refine Below.setCell ?_ (by first | (simp; done) | (simp; omega) | omega) _ | with_reducible refine bstep ?_ (by assumption))⟩
        case measure => simp [intOf]; omega
    · clear hpre hbel hc
      go_wp2_with fail
      refine (L.out _).mono ?_
      rintro e wn ⟨rfl, rfl⟩
      go_wp2_with fail
      go_ret
      refine ⟨?_, HB.out⟩
      unfold boxB
      rw [allN_yes (fun j hj => HP.out j (by omega)), Bool.and_true]
      unfold inB
      rw [show decide ((1 : Int) ≤ (n : Int) ∧ (n : Int) ≤ 8) = decide (1 ≤ n ∧ n ≤ 8) from decide_eq_decide.2 (by omega)]
      rfl

set_option maxHeartbeats 400000 in
theorem sBoxOk_none (a : Option Addr) (n cap : Nat) (w : World) (hn : n < 1) :
    Calls Try.prog 17 #[.slice a n cap] w fun e w' => e = .returned (.bool false) ∧ Below w.heap.size w w' := by
  have L := hide (l1In_any (n : Int) 1 8)
  rw [show inB (n : Int) 1 8 = false from by unfold inB; exact decide_eq_false (by omega)] at L
  go_enter Try.func17, Try.ntmps17
  go_wp2_with fail
  refine wp_loop_rounds 1 ?_
  rw [rounds_succ]
  go_wp2_with fail
  refine (L.out _).mono ?_
  rintro e wn ⟨rfl, rfl⟩
  go_wp2_with fail
  go_ret
  exact ⟨rfl, (by repeat' first | with_reducible exact Below.refl _ _ | with_reducible assumption | with_reducible refine below_drewN ?_ _ | with_reducible refine balloc ?_ _ | with_reducible refine Below.drew ?_ | with_reducible refine Below.setCell ?_ (by first | (simp; done) | (simp; omega) | omega) _ | with_reducible refine bstep ?_ (by assumption))⟩

theorem sBoxOk_any (a : Option Addr) (n cap : Nat) (f g : Nat → Int) (w : World) (h : PRow w a n f g) (hn : n ≤ 1048576) :
    Calls Try.prog 17 #[.slice a n cap] w fun e w' => e = .returned (.bool (boxB n f g)) ∧ Below w.heap.size w w' := by
  rcases h.lies with h0 | ⟨b, off, rfl, lt, hc⟩
  · rw [show boxB n f g = false from by unfold boxB; rw [decide_eq_false (by omega), Bool.false_and]]
    exact sBoxOk_none a n cap w (by omega)
  · exact sBoxOk_some b off n cap f g w hn lt hc
end Go.Proofs.Ytobnlchlmhnnlaa

/- Rows of ranges of the call's own; contracts of the laws' small functions over them: szRangeS, toRangeS, eqRangeS. -/
namespace Go.Proofs.Ytobnlchlmhnnlaa
open Go.RowKit
set_option maxRecDepth 8000
set_option linter.unusedSimpArgs false
set_option linter.unusedVariables false

theorem Try.infoRange : (Try.prog.info? 34).map (fun i => (i.zero, i.size, i.bytes)) = some (some (.agg #[.int .i64 0, .int .i64 0]), 2, 16) := by kernel_rfl

/-- A row of ranges of the call's own, that may be written. -/
def OwnP (w : World) (b n : Nat) (f g : Nat → Int) : Prop := w.rowIs b 34 (n * 2) (pcell f g)

theorem OwnP.lt {w : World} {b n : Nat} {f g : Nat → Int} (h : OwnP w b n f g) : b < w.heap.size := World.rowIs.lt h

theorem OwnP.c0 {w : World} {b n : Nat} {f g : Nat → Int} (h : OwnP w b n f g) {i : Nat} (hi : i < n) : w.cell? ⟨b, i * 2, none⟩ = some (.int .i64 (f i)) := by
  rw [World.rowIs.cell h (show i * 2 < n * 2 by omega), pcell_lo]

theorem OwnP.c1 {w : World} {b n : Nat} {f g : Nat → Int} (h : OwnP w b n f g) {i : Nat} (hi : i < n) : w.cell? ⟨b, i * 2 + 1, none⟩ = some (.int .i64 (g i)) := by
  rw [World.rowIs.cell h (show i * 2 + 1 < n * 2 by omega), pcell_hi]

theorem OwnP.prow {w : World} {b n : Nat} {f g : Nat → Int} (h : OwnP w b n f g) : PRow w (some ⟨b, 0, none⟩) n f g :=
  ⟨.inr ⟨b, 0, rfl, h.lt, fun i hi => by rw [Nat.zero_add]; exact ⟨h.c0 hi, h.c1 hi⟩⟩⟩

theorem OwnP.below {w w' : World} {b n : Nat} {f g : Nat → Int} (h : OwnP w b n f g) (hb : Below w.heap.size w w') : OwnP w' b n f g := World.rowIs.of_block h (hb.block b (World.rowIs.lt h))

theorem OwnP.congr {w : World} {b n : Nat} {f g f' g' : Nat → Int} (h : OwnP w b n f g) (hf : ∀ i, i < n → f i = f' i) (hg : ∀ i, i < n → g i = g' i) : OwnP w b n f' g' := by
  refine World.rowIs.congr h fun j hj => ?_
  unfold pcell
  rw [hf (j / 2) (by omega), hg (j / 2) (by omega)]

theorem OwnP.made (w : World) (n : Nat) : OwnP (w.alloc (.cells (madeCells #[.int .i64 0, .int .i64 0] (n * 2)) 34)) w.heap.size n (fun _ => 0) (fun _ => 0) := by
  refine ⟨_, Go.Deep.blk_alloc_new _ _, size_madeCells _ _, fun i hi => ?_⟩
  rcases (show i % 2 = 0 ∨ i % 2 = 1 by omega) with h | h <;> simp [madeCells, hi, h, pcell]

theorem OwnP.set {w : World} {b n : Nat} {f g : Nat → Int} (h : OwnP w b n f g) (k : Nat) (x y : Int) :
    OwnP ((w.setCell ⟨b, k * 2, none⟩ (.int .i64 x)).setCell ⟨b, k * 2 + 1, none⟩ (.int .i64 y)) b n (fun i => if i = k then x else f i) (fun i => if i = k then y else g i) := by
  refine (World.rowIs.set (World.rowIs.set h (k * 2) _) (k * 2 + 1) _).congr fun j hj => ?_
  unfold pcell
  dsimp only
  rcases (show j % 2 = 0 ∨ j % 2 = 1 by omega) with h | h
  · rw [if_neg (show ¬ j = k * 2 + 1 by omega)]
    by_cases e : j = k * 2
    · rw [if_pos e, if_pos h, if_pos (show j / 2 = k by omega)]
    · rw [if_neg e, if_pos h, if_pos h, if_neg (show ¬ j / 2 = k by omega)]
  · by_cases e : j = k * 2 + 1
    · rw [if_pos e, if_neg (by omega), if_pos (show j / 2 = k by omega)]
    · rw [if_neg e, if_neg (by omega), if_neg (by omega), if_neg (by omega), if_neg (show ¬ j / 2 = k by omega)]

theorem OwnP.step {w : World} {b n k : Nat} {f g : Nat → Int} (h : OwnP w b n (upTo k f) (upTo k g)) :
    OwnP ((w.setCell ⟨b, k * 2, none⟩ (.int .i64 (f k))).setCell ⟨b, k * 2 + 1, none⟩ (.int .i64 (g k))) b n (upTo (k + 1) f) (upTo (k + 1) g) := by
  refine (h.set k (f k) (g k)).congr (fun i _ => ?_) (fun i _ => ?_)
  all_goals
    unfold upTo
    by_cases e : i = k
    · subst e; simp
    · by_cases l : i < k
      · simp [e, l, show i < k + 1 by omega]
      · simp [e, l, show ¬ i < k + 1 by omega]



def ToRs (w : World) (n : Nat) (f g : Nat → Int) (e : Ending) (w' : World) : Prop :=
  ∃ b, e = .returned (.slice (some ⟨b, 0, none⟩) n n) ∧ w.heap.size ≤ b ∧ OwnP w' b n f g ∧ Below w.heap.size w w'





end Go.Proofs.Ytobnlchlmhnnlaa
/- BoxLeq of the program and of the model. -/
namespace Go.Proofs.Ytobnlchlmhnnlaa
open Go.RowKit
set_option maxRecDepth 8000
set_option linter.unusedSimpArgs false
set_option linter.unusedVariables false

def alikeB (n : Nat) (f g : Nat → Int) (n' : Nat) (f' g' : Nat → Int) : Bool := boxB n f g && boxB n' f' g' && decide (n = n')
def leqN (n : Nat) (f g f' g' : Nat → Int) : Bool := allN n (fun i => leqB (f i) (g i) (f' i) (g' i))

theorem boxB_num {n : Nat} {f g : Nat → Int} (h : boxB n f g = true) : 1 ≤ n ∧ n ≤ 8 := by
  simp only [boxB, Bool.and_eq_true, decide_eq_true_eq] at h; exact h.1

theorem boxB_at {n k : Nat} {f g : Nat → Int} (h : boxB n f g = true) (hk : k < n) : rightB (f k) (g k) = true := by
  simp only [boxB, Bool.and_eq_true] at h; exact allN_at h.2 hk

set_option maxHeartbeats 800000 in
theorem boxesAlike_any (a a' : Option Addr) (n cap n' cap' : Nat) (f g f' g' : Nat → Int) (w : World) (h : PRow w a n f g) (h' : PRow w a' n' f' g') :
    Calls Try.prog 15 #[.slice a n cap, .slice a' n' cap'] w fun e w' => e = .returned (.bool (alikeB n f g n' f' g')) ∧ Below w.heap.size w w' := by
  have A := hide (iBoxOk_any a n cap f g w h)
  have B := hide (fun w1 (hb : Below w.heap.size w w1) => iBoxOk_any a' n' cap' f' g' w1 (h'.below hb))
  clear h h'
  unfold alikeB
  cases h1 : boxB n f g
  · rw [h1] at A
    simp only [Bool.and_true, Bool.and_false, Bool.true_and, Bool.false_and]
    go_enter Try.func15, Try.ntmps15
    go_wp2_with fail
    refine A.out.mono ?_
    rintro e w1 ⟨rfl, hb1⟩
    go_wp2_with fail
    go_ret
    exact ⟨rfl, (by repeat' first | with_reducible exact Below.refl _ _ | with_reducible assumption | with_reducible refine below_drewN ?_ _ | with_reducible refine balloc ?_ _ | with_reducible refine Below.drew ?_ | with_reducible refine Below.setCell ?_ (by first | (simp; done) | (simp; omega) | omega) _ | with_reducible refine bstep ?_ (by assumption))⟩
  · rw [h1] at A
    cases h2 : boxB n' f' g'
    · rw [h2] at B
      simp only [Bool.and_true, Bool.and_false, Bool.true_and, Bool.false_and]
      go_enter Try.func15, Try.ntmps15
      go_wp2_with fail
      refine A.out.mono ?_
      rintro e w1 ⟨rfl, hb1⟩
      go_wp2_with fail
      refine (B.out _ hb1).mono ?_
      rintro e w2 ⟨rfl, hb2⟩
      go_wp2_with fail
      go_ret
      exact ⟨rfl, (by repeat' first | with_reducible exact Below.refl _ _ | with_reducible assumption | with_reducible refine below_drewN ?_ _ | with_reducible refine balloc ?_ _ | with_reducible refine Below.drew ?_ | with_reducible refine Below.setCell ?_ (by first | (simp; done) | (simp; omega) | omega) _ | with_reducible refine bstep ?_ (by assumption))⟩
    · rw [h2] at B
      by_cases he : n = n'
      · subst he
        have he' : ((n : Int) == (n : Int)) = true := by simp
        rw [decide_eq_true rfl]
        simp only [Bool.and_true, Bool.and_false, Bool.true_and, Bool.false_and]
        go_enter Try.func15, Try.ntmps15
        go_wp2_with fail
        refine A.out.mono ?_
        rintro e w1 ⟨rfl, hb1⟩
        go_wp2_with fail
        refine (B.out _ hb1).mono ?_
        rintro e w2 ⟨rfl, hb2⟩
        go_wp2_with fail
        go_ret
        exact ⟨rfl, (by repeat' first | with_reducible exact Below.refl _ _ | with_reducible assumption | with_reducible refine below_drewN ?_ _ | with_reducible refine balloc ?_ _ | with_reducible refine Below.drew ?_ | with_reducible refine Below.setCell ?_ (by first | (simp; done) | (simp; omega) | omega) _ | with_reducible refine bstep ?_ (by assumption))⟩
      · have he' : ((n : Int) == (n' : Int)) = false := by simp; omega
        rw [decide_eq_false he]
        simp only [Bool.and_true, Bool.and_false, Bool.true_and, Bool.false_and]
        go_enter Try.func15, Try.ntmps15
        go_wp2_with fail
        refine A.out.mono ?_
        rintro e w1 ⟨rfl, hb1⟩
        go_wp2_with fail
        refine (B.out _ hb1).mono ?_
        rintro e w2 ⟨rfl, hb2⟩
        go_wp2_with fail
        go_ret
        exact ⟨rfl, (by repeat' first | with_reducible exact Below.refl _ _ | with_reducible assumption | with_reducible refine below_drewN ?_ _ | with_reducible refine balloc ?_ _ | with_reducible refine Below.drew ?_ | with_reducible refine Below.setCell ?_ (by first | (simp; done) | (simp; omega) | omega) _ | with_reducible refine bstep ?_ (by assumption))⟩

set_option maxHeartbeats 1600000 in
theorem iBoxLeq_some (b off n cap b' off' cap' : Nat) (f g f' g' : Nat → Int) (w : World) (h8 : n ≤ 8) (hb : b < w.heap.size) (hb' : b' < w.heap.size)
    (hc : ∀ i, i < n → w.cell? ⟨b, off + i * 2, none⟩ = some (.int .i64 (f i)) ∧ w.cell? ⟨b, off + i * 2 + 1, none⟩ = some (.int .i64 (g i)))
    (hc' : ∀ i, i < n → w.cell? ⟨b', off' + i * 2, none⟩ = some (.int .i64 (f' i)) ∧ w.cell? ⟨b', off' + i * 2 + 1, none⟩ = some (.int .i64 (g' i)))
    (AL : Hid (Calls Try.prog 15 #[.slice (some ⟨b, off, none⟩) n cap, .slice (some ⟨b', off', none⟩) n cap'] w fun e w' => e = .returned (.bool true) ∧ Below w.heap.size w w')) :
    Calls Try.prog 9 #[.slice (some ⟨b, off, none⟩) n cap, .slice (some ⟨b', off', none⟩) n cap'] w fun e w' => e = .returned (.bool (leqN n f g f' g')) ∧ Below w.heap.size w w' := by
  go_enter Try.func9, Try.ntmps9
  go_wp2_with fail
  refine AL.out.mono ?_
  rintro e w1 ⟨rfl, hb1⟩
  go_wp2_with fail
  go_loopw [13] (fun i wr => ∃ k : Nat, k ≤ n ∧ i = .int .i64 k ∧ (∀ j, j < k → leqB (f j) (g j) (f' j) (g' j) = true) ∧ Below w.heap.size w wr) (fun i _ => n - (intOf i).toNat)
  case atStart => exact ⟨0, Nat.zero_le _, rfl, fun j h => absurd h (by omega), (by repeat' first | with_reducible exact Below.refl _ _ | with_reducible assumption | with_reducible refine below_drewN ?_ _ | with_reducible refine balloc ?_ _ | with_reducible refine Below.drew ?_ | with_reducible refine Below.setCell ?_ (by first | (simp; done) | (simp; omega) | omega) _ | with_reducible refine bstep ?_ (by assumption))⟩
  case round =>
    obtain ⟨k, hk, rfl, hpre, hbel⟩ := hrel
    have HP := hide hpre
    have HC := hide hc
    have HC' := hide hc'
    have HB := hide hbel
    by_cases hlt : k < n
    · have z1 : wr.cell? ⟨b, off + k * 2, none⟩ = some (.int .i64 (f k)) := (hbel.cell (p := ⟨b, off + k * 2, none⟩) hb).trans (hc k hlt).1
      have z2 : wr.cell? ⟨b, off + k * 2 + 1, none⟩ = some (.int .i64 (g k)) := (hbel.cell (p := ⟨b, off + k * 2 + 1, none⟩) hb).trans (hc k hlt).2
      have hlt' : (k : Int) < (n : Int) := by omega
      have l2 : b' < wr.heap.size := Nat.lt_of_lt_of_le hb' hbel.size
      have hal := balloc (Below.refl wr.heap.size wr) (.cells #[.int .i64 (f k), .int .i64 (g k)] 34)
      have z3 : (wr.alloc (.cells #[.int .i64 (f k), .int .i64 (g k)] 34)).cell? ⟨b', off' + k * 2, none⟩ = some (.int .i64 (f' k)) := ((hal.cell (p := ⟨b', off' + k * 2, none⟩) l2).trans (hbel.cell (p := ⟨b', off' + k * 2, none⟩) hb')).trans (hc' k hlt).1
      have z4 : (wr.alloc (.cells #[.int .i64 (f k), .int .i64 (g k)] 34)).cell? ⟨b', off' + k * 2 + 1, none⟩ = some (.int .i64 (g' k)) := ((hal.cell (p := ⟨b', off' + k * 2 + 1, none⟩) l2).trans (hbel.cell (p := ⟨b', off' + k * 2 + 1, none⟩) hb')).trans (hc' k hlt).2
      have R := hide (iRangeLeq_any (f k) (g k) (f' k) (g' k))
      clear hpre hbel hc hc' hal
      obtain ⟨v, hv⟩ : ∃ v, leqB (f k) (g k) (f' k) (g' k) = v := ⟨_, rfl⟩
      have HE := hide hv
      rw [hv] at R
      clear hv
      have l3 : b' < (wr.alloc (.cells #[.int .i64 (f k), .int .i64 (g k)] 34)).heap.size := by simp; omega
      go_upto_region 6 with fail
      go_region_held3 (fun w' => w'.cell? ⟨wr.heap.size, 0, none⟩ = some (.int .i64 (f k)) ∧ w'.cell? ⟨wr.heap.size, 1, none⟩ = some (.int .i64 (g k)) ∧ w'.cell? ⟨b', off' + k * 2, none⟩ = some (.int .i64 (f' k)) ∧ w'.cell? ⟨b', off' + k * 2 + 1, none⟩ = some (.int .i64 (g' k))) (refine ⟨?_, ?_, ?_, ?_⟩ <;> first | assumption | (simp [go_sem]; done)) ((go_at_call 19; refine (R.out _).mono ?_; rintro e wn ⟨rfl, hbn⟩; have s1 : wn.cell? ⟨wr.heap.size, 0, none⟩ = some (.int .i64 (f k)) := (hbn.cell (p := ⟨wr.heap.size, 0, none⟩) (by simp)).trans (by simp [go_sem]); have s2 : wn.cell? ⟨wr.heap.size, 1, none⟩ = some (.int .i64 (g k)) := (hbn.cell (p := ⟨wr.heap.size, 1, none⟩) (by simp)).trans (by simp [go_sem]); have s3 := (hbn.cell (p := ⟨b', off' + k * 2, none⟩) l3).trans z3; have s4 := (hbn.cell (p := ⟨b', off' + k * 2 + 1, none⟩) l3).trans z4))
      all_goals
        cases v
        · go_wp2_with fail
          go_ret
          refine ⟨by rw [show leqN n f g f' g' = false from allN_no hlt HE.out]; rfl, ?_⟩
          have hbel := HB.out
          exact (by repeat' first | with_reducible exact Below.refl _ _ | with_reducible assumption | with_reducible refine below_drewN ?_ _ | with_reducible refine balloc ?_ _ | with_reducible refine Below.drew ?_ | with_reducible refine Below.setCell ?_ (by first | (simp; done) | (simp; omega) | omega) _ | with_reducible refine bstep ?_ (by assumption))
        · go_wp2_with fail
          go_roundw
          case rel =>
            have hbel := HB.out
            exact ⟨k + 1, by omega, by go_num, fun j hj => (by rcases Nat.lt_succ_iff_lt_or_eq.1 hj with h | h; exact HP.out j h; rw [h]; exact HE.out), (by repeat' first | with_reducible exact Below.refl _ _ | with_reducible assumption | with_reducible refine below_drewN ?_ _ | with_reducible refine balloc ?_ _ | with_reducible refine Below.drew ?_ | with_reducible refine Below.setCell ?_ (by first | (simp; done) | (simp; omega) | omega) _ | with_reducible refine bstep ?_ (by assumption))⟩
          case measure => simp [intOf]; omega
    · clear hpre hbel hc hc'
      go_wp2_with fail
      go_ret
      exact ⟨by rw [show leqN n f g f' g' = true from allN_yes fun j hj => HP.out j (by omega)]; rfl, HB.out⟩

def boxLeqB (n : Nat) (f g : Nat → Int) (n' : Nat) (f' g' : Nat → Int) : Bool := alikeB n f g n' f' g' && leqN n f g f' g'

set_option maxHeartbeats 800000 in
theorem iBoxLeq_any (a a' : Option Addr) (n cap n' cap' : Nat) (f g f' g' : Nat → Int) (w : World) (h : PRow w a n f g) (h' : PRow w a' n' f' g') :
    Calls Try.prog 9 #[.slice a n cap, .slice a' n' cap'] w fun e w' => e = .returned (.bool (boxLeqB n f g n' f' g')) ∧ Below w.heap.size w w' := by
  have AL := hide (boxesAlike_any a a' n cap n' cap' f g f' g' w h h')
  unfold boxLeqB
  cases hA : alikeB n f g n' f' g'
  · rw [hA] at AL
    simp only [Bool.and_true, Bool.and_false, Bool.true_and, Bool.false_and]
    clear h h'
    go_enter Try.func9, Try.ntmps9
    go_wp2_with fail
    refine AL.out.mono ?_
    rintro e w1 ⟨rfl, hb1⟩
    go_wp2_with fail
    go_ret
    exact ⟨rfl, (by repeat' first | with_reducible exact Below.refl _ _ | with_reducible assumption | with_reducible refine below_drewN ?_ _ | with_reducible refine balloc ?_ _ | with_reducible refine Below.drew ?_ | with_reducible refine Below.setCell ?_ (by first | (simp; done) | (simp; omega) | omega) _ | with_reducible refine bstep ?_ (by assumption))⟩
  · rw [hA] at AL
    rw [Bool.true_and]
    simp only [alikeB, Bool.and_eq_true, decide_eq_true_eq] at hA
    obtain ⟨⟨h1, h2⟩, rfl⟩ := hA
    have hn := boxB_num h1
    rcases h.lies with q | ⟨b, off, rfl, lt, hc⟩
    · omega
    · rcases h'.lies with q | ⟨b', off', rfl, lt', hc'⟩
      · omega
      · exact iBoxLeq_some b off n cap b' off' cap' f g f' g' w hn.2 lt lt' hc hc' AL
end Go.Proofs.Ytobnlchlmhnnlaa

/- Bounds of the program: how far a number is from a range, at least and at most; the sums; LowOf, HighOf, BoxHas. -/
namespace Go.Proofs.Ytobnlchlmhnnlaa
open Go.RowKit
set_option maxRecDepth 8000
set_option linter.unusedSimpArgs false
set_option linter.unusedVariables false

def leastV (lo hi x : Int) : Int := max (max (lo - x) (x - hi)) 0
def mostV (lo hi x : Int) : Int := max (hi - x) (x - lo)
def sumSq (d : Nat → Int) : Nat → Int
  | 0 => 0
  | k + 1 => sumSq d k + d k * d k

theorem sq_bounds {x : Int} (h0 : 0 ≤ x) (h1 : x ≤ 4194304) : 0 ≤ x * x ∧ x * x ≤ 17592186044416 := by
  have a := Int.mul_nonneg h0 h0
  have b : x * x ≤ 4194304 * 4194304 := Int.mul_le_mul h1 h1 h0 (by omega)
  omega

theorem sumSq_bounds (d : Nat → Int) (n : Nat) (h : ∀ i, i < n → 0 ≤ d i ∧ d i ≤ 4194304) : ∀ k, k ≤ n → 0 ≤ sumSq d k ∧ sumSq d k ≤ k * 17592186044416 := by
  intro k
  induction k with
  | zero => intro _; simp [sumSq]
  | succ k ih =>
    intro hk
    have hi := ih (by omega)
    have hb := sq_bounds (h k (by omega)).1 (h k (by omega)).2
    simp only [sumSq]
    omega

theorem sumSq_congr {d e : Nat → Int} {n : Nat} (h : ∀ i, i < n → d i = e i) : sumSq d n = sumSq e n := by
  induction n with
  | zero => rfl
  | succ n ih => simp only [sumSq]; rw [ih (fun i hi => h i (by omega)), h n (by omega)]

theorem least_bounds {lo hi x : Int} (hr : rightB lo hi = true) (hx : compB x = true) : 0 ≤ leastV lo hi x ∧ leastV lo hi x ≤ 4194304 := by
  simp only [rightB, compB, Bool.and_eq_true, decide_eq_true_eq] at hr hx
  unfold leastV; omega

theorem most_bounds {lo hi x : Int} (hr : rightB lo hi = true) (hx : compB x = true) : 0 ≤ mostV lo hi x ∧ mostV lo hi x ≤ 4194304 := by
  simp only [rightB, compB, Bool.and_eq_true, decide_eq_true_eq] at hr hx
  unfold mostV; omega

set_option maxHeartbeats 1600000 in
theorem least_any (b off n cap b' off' cap' : Nat) (k : Nat) (lo hi x : Int) (w : World) (hlt : k < n) (h8 : n ≤ 8) (hb : b < w.heap.size) (hb' : b' < w.heap.size)
    (hr : rightB lo hi = true) (hx : compB x = true)
    (z1 : w.cell? ⟨b, off + k * 2, none⟩ = some (.int .i64 lo)) (z2 : w.cell? ⟨b, off + k * 2 + 1, none⟩ = some (.int .i64 hi)) (z3 : w.cell? ⟨b', off' + k, none⟩ = some (.int .i64 x)) :
    Calls Try.prog 24 #[.agg #[.slice (some ⟨b, off, none⟩) n cap, .slice (some ⟨b', off', none⟩) n cap'], .int .i64 (k : Int)] w fun e w' => e = .returned (.int .i64 (leastV lo hi x)) ∧ Below w.heap.size w w' := by
  simp only [rightB, compB, Bool.and_eq_true, decide_eq_true_eq] at hr hx
  obtain ⟨v, hv⟩ : ∃ v, leastV lo hi x = v := ⟨_, rfl⟩
  have hD : (lo - x < x - hi ∧ ¬ x - hi < 0 ∧ v = x - hi) ∨ (¬ lo - x < x - hi ∧ ¬ lo - x < 0 ∧ v = lo - x) ∨ (lo - x < x - hi ∧ x - hi < 0 ∧ v = 0) ∨ (¬ lo - x < x - hi ∧ lo - x < 0 ∧ v = 0) := by
    unfold leastV at hv; omega
  rw [hv]
  clear hv
  have hlt' : (k : Int) < (n : Int) := by omega
  have hal := balloc (Below.refl w.heap.size w) (.cells #[.slice (some ⟨b, off, none⟩) n cap, .slice (some ⟨b', off', none⟩) n cap'] 41)
  have y1 := (hal.cell (p := ⟨b, off + k * 2, none⟩) hb).trans z1
  have y2 := (hal.cell (p := ⟨b, off + k * 2 + 1, none⟩) hb).trans z2
  have y3 := (hal.cell (p := ⟨b', off' + k, none⟩) hb').trans z3
  have n1 : b ≠ w.heap.size + 1 := by omega
  have n2 : b' ≠ w.heap.size + 1 := by omega
  clear hal
  go_enter Try.func24, Try.ntmps24
  go_upto_region 1 with fail
  go_cut [5, 6] (fun s s6 wx => ∃ q, s = .pointer (some ⟨q, 0, none⟩) ∧ s6 = .int .i64 x ∧ wx.cell? ⟨q, 0, none⟩ = some (.int .i64 lo) ∧ wx.cell? ⟨q, 1, none⟩ = some (.int .i64 hi) ∧ Below w.heap.size w wx)
  case first =>
    go_region_held3 (fun w' => w'.cell? ⟨w.heap.size, 0, none⟩ = some (.slice (some ⟨b, off, none⟩) n cap) ∧ w'.cell? ⟨w.heap.size, 1, none⟩ = some (.slice (some ⟨b', off', none⟩) n cap') ∧ w'.cell? ⟨b, off + k * 2, none⟩ = some (.int .i64 lo) ∧ w'.cell? ⟨b, off + k * 2 + 1, none⟩ = some (.int .i64 hi) ∧ w'.cell? ⟨b', off' + k, none⟩ = some (.int .i64 x)) (refine ⟨?_, ?_, ?_, ?_, ?_⟩ <;> first | assumption | exact y1 | exact y2 | exact y3 | (simp [go_sem]; done) | (simp [go_sem, *]; done) | (go_keep; done)) (fail)
    all_goals
      go_wp2_with fail
      go_meet
      refine ⟨_, rfl, rfl, ?_, ?_, ?_⟩
    all_goals first | (simp [go_sem]; done) | exact (by repeat' first | with_reducible exact Below.refl _ _ | with_reducible assumption | with_reducible refine below_drewN ?_ _ | with_reducible refine balloc ?_ _ | with_reducible refine Below.drew ?_ | with_reducible refine Below.setCell ?_ (by first | (simp; done) | (simp; omega) | omega) _ | with_reducible refine bstep ?_ (by assumption))
  case rest =>
    obtain ⟨q, rfl, rfl, c0, c1, hB⟩ := hcut
    rcases hD with ⟨d1, d2, hd⟩ | ⟨d1, d2, hd⟩ | ⟨d1, d2, hd⟩ | ⟨d1, d2, hd⟩
    all_goals
      subst hd
      go_wp2_with fail
      go_ret
      exact ⟨rfl, hB⟩

set_option maxHeartbeats 1600000 in
theorem most_any (b off n cap b' off' cap' : Nat) (k : Nat) (lo hi x : Int) (w : World) (hlt : k < n) (h8 : n ≤ 8) (hb : b < w.heap.size) (hb' : b' < w.heap.size)
    (hr : rightB lo hi = true) (hx : compB x = true)
    (z1 : w.cell? ⟨b, off + k * 2, none⟩ = some (.int .i64 lo)) (z2 : w.cell? ⟨b, off + k * 2 + 1, none⟩ = some (.int .i64 hi)) (z3 : w.cell? ⟨b', off' + k, none⟩ = some (.int .i64 x)) :
    Calls Try.prog 25 #[.agg #[.slice (some ⟨b, off, none⟩) n cap, .slice (some ⟨b', off', none⟩) n cap'], .int .i64 (k : Int)] w fun e w' => e = .returned (.int .i64 (mostV lo hi x)) ∧ Below w.heap.size w w' := by
  simp only [rightB, compB, Bool.and_eq_true, decide_eq_true_eq] at hr hx
  obtain ⟨v, hv⟩ : ∃ v, mostV lo hi x = v := ⟨_, rfl⟩
  have hD : (hi - x < x - lo ∧ v = x - lo) ∨ (¬ hi - x < x - lo ∧ v = hi - x) := by
    unfold mostV at hv; omega
  rw [hv]
  clear hv
  have hlt' : (k : Int) < (n : Int) := by omega
  have hal := balloc (Below.refl w.heap.size w) (.cells #[.slice (some ⟨b, off, none⟩) n cap, .slice (some ⟨b', off', none⟩) n cap'] 41)
  have y1 := (hal.cell (p := ⟨b, off + k * 2, none⟩) hb).trans z1
  have y2 := (hal.cell (p := ⟨b, off + k * 2 + 1, none⟩) hb).trans z2
  have y3 := (hal.cell (p := ⟨b', off' + k, none⟩) hb').trans z3
  have n1 : b ≠ w.heap.size + 1 := by omega
  have n2 : b' ≠ w.heap.size + 1 := by omega
  clear hal
  go_enter Try.func25, Try.ntmps25
  go_upto_region 1 with fail
  go_cut [5, 6] (fun s s6 wx => ∃ q, s = .pointer (some ⟨q, 0, none⟩) ∧ s6 = .int .i64 x ∧ wx.cell? ⟨q, 0, none⟩ = some (.int .i64 lo) ∧ wx.cell? ⟨q, 1, none⟩ = some (.int .i64 hi) ∧ Below w.heap.size w wx)
  case first =>
    go_region_held3 (fun w' => w'.cell? ⟨w.heap.size, 0, none⟩ = some (.slice (some ⟨b, off, none⟩) n cap) ∧ w'.cell? ⟨w.heap.size, 1, none⟩ = some (.slice (some ⟨b', off', none⟩) n cap') ∧ w'.cell? ⟨b, off + k * 2, none⟩ = some (.int .i64 lo) ∧ w'.cell? ⟨b, off + k * 2 + 1, none⟩ = some (.int .i64 hi) ∧ w'.cell? ⟨b', off' + k, none⟩ = some (.int .i64 x)) (refine ⟨?_, ?_, ?_, ?_, ?_⟩ <;> first | assumption | exact y1 | exact y2 | exact y3 | (simp [go_sem]; done) | (simp [go_sem, *]; done) | (go_keep; done)) (fail)
    all_goals
      go_wp2_with fail
      go_meet
      refine ⟨_, rfl, rfl, ?_, ?_, ?_⟩
    all_goals first | (simp [go_sem]; done) | exact (by repeat' first | with_reducible exact Below.refl _ _ | with_reducible assumption | with_reducible refine below_drewN ?_ _ | with_reducible refine balloc ?_ _ | with_reducible refine Below.drew ?_ | with_reducible refine Below.setCell ?_ (by first | (simp; done) | (simp; omega) | omega) _ | with_reducible refine bstep ?_ (by assumption))
  case rest =>
    obtain ⟨q, rfl, rfl, c0, c1, hB⟩ := hcut
    rcases hD with ⟨d1, hd⟩ | ⟨d1, hd⟩
    all_goals
      subst hd
      go_wp2_with fail
      go_ret
      exact ⟨rfl, hB⟩

end Go.Proofs.Ytobnlchlmhnnlaa

/- Bounds of the program: the sums; LowOf, HighOf, BoxHas. -/
namespace Go.Proofs.Ytobnlchlmhnnlaa
open Go.RowKit
set_option maxRecDepth 8000
set_option linter.unusedSimpArgs false
set_option linter.unusedVariables false

/-- Whether it is a box, and a vector of as many numbers. -/
def formB (n : Nat) (f g : Nat → Int) (m : Nat) (xs : List Int) : Bool := boxB n f g && vecOkB xs && decide (n = m)

theorem vecOkB_at {xs : List Int} (h : vecOkB xs = true) {k : Nat} (hk : k < xs.length) : compB (nth xs k) = true := by
  simp only [vecOkB, Bool.and_eq_true, List.all_eq_true] at h
  have := h.2 (nth xs k) (by unfold nth; simp [hk])
  exact this

theorem boxB_num' {n : Nat} {f g : Nat → Int} (h : boxB n f g = true) : 1 ≤ n ∧ n ≤ 8 := by
  simp only [boxB, Bool.and_eq_true, decide_eq_true_eq] at h; exact h.1

theorem boxB_at' {n k : Nat} {f g : Nat → Int} (h : boxB n f g = true) (hk : k < n) : rightB (f k) (g k) = true := by
  simp only [boxB, Bool.and_eq_true] at h; exact allN_at h.2 hk

def leastN (n : Nat) (f g : Nat → Int) (xs : List Int) : Int := sumSq (fun i => leastV (f i) (g i) (nth xs i)) n
def mostN (n : Nat) (f g : Nat → Int) (xs : List Int) : Int := sumSq (fun i => mostV (f i) (g i) (nth xs i)) n

set_option maxHeartbeats 800000 in
theorem boxFits_any (a a' : Option Addr) (n cap n' cap' : Nat) (f g : Nat → Int) (xs : List Int) (w : World) (h : PRow w a n f g) (h' : Row w a' n' xs) (hn' : n' ≤ 1048576) :
    Calls Try.prog 35 #[.slice a n cap, .slice a' n' cap'] w fun e w' => e = .returned (.bool (formB n f g n' xs)) ∧ Below w.heap.size w w' := by
  have A := hide (fun w1 (hb : Below w.heap.size w w1) => iBoxOk_any a n cap f g w1 (h.below hb))
  have B := hide (fun w1 (hb : Below w.heap.size w w1) => iVecOk_any a' n' cap' xs w1 (h'.below hb) hn')
  clear h h'
  unfold formB
  cases h1 : boxB n f g
  · rw [h1] at A
    simp only [Bool.and_true, Bool.and_false, Bool.true_and, Bool.false_and]
    go_enter Try.func35, Try.ntmps35
    go_wp2_with fail
    refine (A.out _ (by repeat' first | with_reducible exact Below.refl _ _ | with_reducible assumption | with_reducible refine below_drewN ?_ _ | with_reducible refine balloc ?_ _ | with_reducible refine Below.drew ?_ | with_reducible refine Below.setCell ?_ (by first | (simp; done) | (simp; omega) | omega) _ | with_reducible refine bstep ?_ (by assumption))).mono ?_
    rintro e w1 ⟨rfl, hb1⟩
    go_wp2_with fail
    go_ret
    exact ⟨rfl, (by repeat' first | with_reducible exact Below.refl _ _ | with_reducible assumption | with_reducible refine below_drewN ?_ _ | with_reducible refine balloc ?_ _ | with_reducible refine Below.drew ?_ | with_reducible refine Below.setCell ?_ (by first | (simp; done) | (simp; omega) | omega) _ | with_reducible refine bstep ?_ (by assumption))⟩
  · rw [h1] at A
    cases h2 : vecOkB xs
    · rw [h2] at B
      simp only [Bool.and_true, Bool.and_false, Bool.true_and, Bool.false_and]
      go_enter Try.func35, Try.ntmps35
      go_wp2_with fail
      refine (A.out _ (by repeat' first | with_reducible exact Below.refl _ _ | with_reducible assumption | with_reducible refine below_drewN ?_ _ | with_reducible refine balloc ?_ _ | with_reducible refine Below.drew ?_ | with_reducible refine Below.setCell ?_ (by first | (simp; done) | (simp; omega) | omega) _ | with_reducible refine bstep ?_ (by assumption))).mono ?_
      rintro e w1 ⟨rfl, hb1⟩
      go_wp2_with fail
      refine (B.out _ hb1).mono ?_
      rintro e w2 ⟨rfl, hb2⟩
      go_wp2_with fail
      go_ret
      exact ⟨rfl, (by repeat' first | with_reducible exact Below.refl _ _ | with_reducible assumption | with_reducible refine below_drewN ?_ _ | with_reducible refine balloc ?_ _ | with_reducible refine Below.drew ?_ | with_reducible refine Below.setCell ?_ (by first | (simp; done) | (simp; omega) | omega) _ | with_reducible refine bstep ?_ (by assumption))⟩
    · rw [h2] at B
      have hd : ((n : Int) == (n' : Int)) = decide (n = n') := by
        by_cases he : n = n'
        · subst he; simp
        · rw [decide_eq_false he]; simp; omega
      simp only [Bool.and_true, Bool.and_false, Bool.true_and, Bool.false_and]
      generalize decide (n = n') = u at hd
      go_enter Try.func35, Try.ntmps35
      go_wp2_with fail
      refine (A.out _ (by repeat' first | with_reducible exact Below.refl _ _ | with_reducible assumption | with_reducible refine below_drewN ?_ _ | with_reducible refine balloc ?_ _ | with_reducible refine Below.drew ?_ | with_reducible refine Below.setCell ?_ (by first | (simp; done) | (simp; omega) | omega) _ | with_reducible refine bstep ?_ (by assumption))).mono ?_
      rintro e w1 ⟨rfl, hb1⟩
      go_wp2_with fail
      refine (B.out _ hb1).mono ?_
      rintro e w2 ⟨rfl, hb2⟩
      go_wp2_with fail
      go_ret
      exact ⟨by first | rfl | (rw [hd]; done) | (simp [hd]; done), (by repeat' first | with_reducible exact Below.refl _ _ | with_reducible assumption | with_reducible refine below_drewN ?_ _ | with_reducible refine balloc ?_ _ | with_reducible refine Below.drew ?_ | with_reducible refine Below.setCell ?_ (by first | (simp; done) | (simp; omega) | omega) _ | with_reducible refine bstep ?_ (by assumption))⟩

set_option maxHeartbeats 800000 in
theorem sightOf_any (a a' : Option Addr) (n cap n' cap' : Nat) (f g : Nat → Int) (xs : List Int) (w : World) (h : PRow w a n f g) (h' : Row w a' n' xs) (hn' : n' ≤ 1048576) :
    Calls Try.prog 22 #[.slice a n cap, .slice a' n' cap'] w fun e w' =>
      e = .returned (.tuple #[if formB n f g n' xs then .agg #[.slice a n cap, .slice a' n' cap'] else .agg #[.slice none 0 0, .slice none 0 0], .bool (formB n f g n' xs)]) ∧ Below w.heap.size w w' := by
  have A := hide (fun w1 (hb : Below w.heap.size w w1) => boxFits_any a a' n cap n' cap' f g xs w1 (h.below hb) (h'.below hb) hn')
  clear h h'
  cases h1 : formB n f g n' xs
  · rw [h1] at A
    simp only [Bool.false_eq_true, if_false]
    go_enter Try.func22, Try.ntmps22
    go_wp2_with fail
    refine (A.out _ (by repeat' first | with_reducible exact Below.refl _ _ | with_reducible assumption | with_reducible refine below_drewN ?_ _ | with_reducible refine balloc ?_ _ | with_reducible refine Below.drew ?_ | with_reducible refine Below.setCell ?_ (by first | (simp; done) | (simp; omega) | omega) _ | with_reducible refine bstep ?_ (by assumption))).mono ?_
    rintro e w1 ⟨rfl, hb1⟩
    have g0 : w.heap.size < w1.heap.size := by have := hb1.size; simp at this; omega
    have c0 : w1.cell? ⟨w.heap.size, 0, none⟩ = some (.slice none 0 0) := (hb1.cell (p := ⟨w.heap.size, 0, none⟩) (by simp)).trans (by simp [go_sem])
    have c1 : w1.cell? ⟨w.heap.size, 1, none⟩ = some (.slice none 0 0) := (hb1.cell (p := ⟨w.heap.size, 1, none⟩) (by simp)).trans (by simp [go_sem])
    have d0 : w1.frozen? ⟨w.heap.size, 0, none⟩ = false := (hb1.frozen (p := ⟨w.heap.size, 0, none⟩) (by simp)).trans (by simp [go_sem])
    have d1 : w1.frozen? ⟨w.heap.size, 1, none⟩ = false := (hb1.frozen (p := ⟨w.heap.size, 1, none⟩) (by simp)).trans (by simp [go_sem])
    go_wp2_with fail
    refine bodyPost_ret (v := .tuple #[.agg #[.slice none 0 0, .slice none 0 0], .bool false]) ?_ rfl ⟨rfl, (by repeat' first | with_reducible exact Below.refl _ _ | with_reducible assumption | with_reducible refine below_drewN ?_ _ | with_reducible refine balloc ?_ _ | with_reducible refine Below.drew ?_ | with_reducible refine Below.setCell ?_ (by first | (simp; done) | (simp; omega) | omega) _ | with_reducible refine bstep ?_ (by assumption))⟩
    simp [results, Try.results22, go_sem, *]
  · rw [h1] at A
    simp only [if_true]
    go_enter Try.func22, Try.ntmps22
    go_wp2_with fail
    refine (A.out _ (by repeat' first | with_reducible exact Below.refl _ _ | with_reducible assumption | with_reducible refine below_drewN ?_ _ | with_reducible refine balloc ?_ _ | with_reducible refine Below.drew ?_ | with_reducible refine Below.setCell ?_ (by first | (simp; done) | (simp; omega) | omega) _ | with_reducible refine bstep ?_ (by assumption))).mono ?_
    rintro e w1 ⟨rfl, hb1⟩
    have g0 : w.heap.size < w1.heap.size := by have := hb1.size; simp at this; omega
    have c0 : w1.cell? ⟨w.heap.size, 0, none⟩ = some (.slice none 0 0) := (hb1.cell (p := ⟨w.heap.size, 0, none⟩) (by simp)).trans (by simp [go_sem])
    have c1 : w1.cell? ⟨w.heap.size, 1, none⟩ = some (.slice none 0 0) := (hb1.cell (p := ⟨w.heap.size, 1, none⟩) (by simp)).trans (by simp [go_sem])
    have d0 : w1.frozen? ⟨w.heap.size, 0, none⟩ = false := (hb1.frozen (p := ⟨w.heap.size, 0, none⟩) (by simp)).trans (by simp [go_sem])
    have d1 : w1.frozen? ⟨w.heap.size, 1, none⟩ = false := (hb1.frozen (p := ⟨w.heap.size, 1, none⟩) (by simp)).trans (by simp [go_sem])
    go_wp2_with fail
    refine bodyPost_ret (v := .tuple #[.agg #[.slice a n cap, .slice a' n' cap'], .bool true]) ?_ rfl ⟨rfl, (by repeat' first | with_reducible exact Below.refl _ _ | with_reducible assumption | with_reducible refine below_drewN ?_ _ | with_reducible refine balloc ?_ _ | with_reducible refine Below.drew ?_ | with_reducible refine Below.setCell ?_ (by first | (simp; done) | (simp; omega) | omega) _ | with_reducible refine bstep ?_ (by assumption))⟩
    simp [results, Try.results22, go_sem, *]

set_option maxHeartbeats 1600000 in
theorem squares_least (b off n cap b' off' cap' : Nat) (f g : Nat → Int) (xs : List Int) (w : World) (h8 : n ≤ 8) (hb : b < w.heap.size) (hb' : b' < w.heap.size)
    (hr : ∀ i, i < n → rightB (f i) (g i) = true) (hx : ∀ i, i < n → compB (nth xs i) = true)
    (hc : ∀ i, i < n → w.cell? ⟨b, off + i * 2, none⟩ = some (.int .i64 (f i)) ∧ w.cell? ⟨b, off + i * 2 + 1, none⟩ = some (.int .i64 (g i)))
    (hc' : ∀ i, i < n → w.cell? ⟨b', off' + i, none⟩ = some (.int .i64 (nth xs i))) :
    Calls Try.prog 23 #[.int .i64 (n : Int), .func (.func 24) #[.agg #[.slice (some ⟨b, off, none⟩) n cap, .slice (some ⟨b', off', none⟩) n cap']] #[]] w fun e w' => e = .returned (.int .i64 (leastN n f g xs)) ∧ Below w.heap.size w w' := by
  have SB := hide (sumSq_bounds (fun i => leastV (f i) (g i) (nth xs i)) n (fun i hi => least_bounds (hr i hi) (hx i hi)))
  have HM := hide (fun (k : Nat) (hk : k < n) (w1 : World) (hB : Below w.heap.size w w1) => least_any b off n cap b' off' cap' k (f k) (g k) (nth xs k) w1 hk h8 (Nat.lt_of_lt_of_le hb hB.size) (Nat.lt_of_lt_of_le hb' hB.size) (hr k hk) (hx k hk)
    ((hB.cell (p := ⟨b, off + k * 2, none⟩) hb).trans (hc k hk).1) ((hB.cell (p := ⟨b, off + k * 2 + 1, none⟩) hb).trans (hc k hk).2) ((hB.cell (p := ⟨b', off' + k, none⟩) hb').trans (hc' k hk)))
  have HD := hide (fun (k : Nat) (hk : k < n) => least_bounds (hr k hk) (hx k hk))
  clear hc hc' hr hx
  go_enter Try.func23, Try.ntmps23
  go_wp2_with fail
  go_loopw [5, 9] (fun s i wr => ∃ k : Nat, k ≤ n ∧ i = .int .i64 k ∧ s = .int .i64 (sumSq (fun i => leastV (f i) (g i) (nth xs i)) k) ∧ Below w.heap.size w wr) (fun _ i _ => n - (intOf i).toNat)
  case atStart => exact ⟨0, Nat.zero_le _, rfl, rfl, (by repeat' first | with_reducible exact Below.refl _ _ | with_reducible assumption | with_reducible refine below_drewN ?_ _ | with_reducible refine balloc ?_ _ | with_reducible refine Below.drew ?_ | with_reducible refine Below.setCell ?_ (by first | (simp; done) | (simp; omega) | omega) _ | with_reducible refine bstep ?_ (by assumption))⟩
  case round =>
    obtain ⟨k, hk, rfl, rfl, hbel⟩ := hrel
    by_cases hlt : k < n
    · have b1 := SB.out k hk
      have b2 := sq_bounds (HD.out k hlt).1 (HD.out k hlt).2
      have b3 : ((k : Nat) : Int) * 17592186044416 ≤ 8 * 17592186044416 := by omega
      have hs : sumSq (fun i => leastV (f i) (g i) (nth xs i)) (k + 1) = sumSq (fun i => leastV (f i) (g i) (nth xs i)) k + leastV (f k) (g k) (nth xs k) * leastV (f k) (g k) (nth xs k) := rfl
      have HM' := hide (HM.out k hlt wr hbel)
      have HB := hide hbel
      generalize sumSq (fun i => leastV (f i) (g i) (nth xs i)) k = s0 at b1 hs ⊢
      generalize leastV (f k) (g k) (nth xs k) = d at b2 HM' hs
      clear hbel
      go_wp2_with fail
      refine HM'.out.mono ?_
      rintro e wn ⟨rfl, hbn⟩
      go_wp2_with fail
      go_roundw
      case rel =>
        have hbel := HB.out
        exact ⟨k + 1, by omega, by go_num, by rw [hs], (by repeat' first | with_reducible exact Below.refl _ _ | with_reducible assumption | with_reducible refine below_drewN ?_ _ | with_reducible refine balloc ?_ _ | with_reducible refine Below.drew ?_ | with_reducible refine Below.setCell ?_ (by first | (simp; done) | (simp; omega) | omega) _ | with_reducible refine bstep ?_ (by assumption))⟩
      case measure => simp [intOf]; omega
    · obtain rfl : k = n := by omega
      have HB := hide hbel
      clear hbel
      go_wp2_with fail
      go_ret
      exact ⟨rfl, HB.out⟩

set_option maxHeartbeats 800000 in
theorem iLowOf_any (a a' : Option Addr) (n cap n' cap' : Nat) (f g : Nat → Int) (xs : List Int) (w : World) (h : PRow w a n f g) (h' : Row w a' n' xs) (hn' : n' ≤ 1048576) :
    Calls Try.prog 12 #[.slice a n cap, .slice a' n' cap'] w fun e w' => e = .returned (.int .i64 (if formB n f g n' xs then leastN n f g xs else -1)) ∧ Below w.heap.size w w' := by
  have SG := hide (sightOf_any a a' n cap n' cap' f g xs w h h' hn')
  cases hF : formB n f g n' xs
  · rw [hF] at SG
    simp only [Bool.false_eq_true, if_false] at SG ⊢
    clear h h'
    go_enter Try.func12, Try.ntmps12
    go_wp2_with fail
    refine SG.out.mono ?_
    rintro e w1 ⟨rfl, hb1⟩
    go_wp2_with fail
    go_ret
    exact ⟨rfl, (by repeat' first | with_reducible exact Below.refl _ _ | with_reducible assumption | with_reducible refine below_drewN ?_ _ | with_reducible refine balloc ?_ _ | with_reducible refine Below.drew ?_ | with_reducible refine Below.setCell ?_ (by first | (simp; done) | (simp; omega) | omega) _ | with_reducible refine bstep ?_ (by assumption))⟩
  · rw [hF] at SG
    simp only [if_true] at SG ⊢
    simp only [formB, Bool.and_eq_true, decide_eq_true_eq] at hF
    obtain ⟨⟨h1, h2⟩, rfl⟩ := hF
    have hn := boxB_num' h1
    rcases h.lies with q | ⟨b, off, rfl, lt, hc⟩
    · omega
    · rcases h'.lies with q | ⟨b', off', rfl, lt', hc'⟩
      · omega
      · have hl := h'.len
        have SQ := hide (fun (w1 : World) (hB : Below w.heap.size w w1) => squares_least b off n cap b' off' cap' f g xs w1 hn.2 (Nat.lt_of_lt_of_le lt hB.size) (Nat.lt_of_lt_of_le lt' hB.size) (fun i hi => boxB_at' h1 hi) (fun i hi => vecOkB_at h2 (by omega))
          (fun i hi => ⟨(hB.cell (p := ⟨b, off + i * 2, none⟩) lt).trans (hc i hi).1, (hB.cell (p := ⟨b, off + i * 2 + 1, none⟩) lt).trans (hc i hi).2⟩) (fun i hi => (hB.cell (p := ⟨b', off' + i, none⟩) lt').trans (hc' i hi)))
        generalize leastN n f g xs = v at SQ ⊢
        clear h h' hc hc' h1 h2
        go_enter Try.func12, Try.ntmps12
        go_wp2_with fail
        refine SG.out.mono ?_
        rintro e w1 ⟨rfl, hb1⟩
        go_wp2_with fail
        refine (SQ.out _ (by repeat' first | with_reducible exact Below.refl _ _ | with_reducible assumption | with_reducible refine below_drewN ?_ _ | with_reducible refine balloc ?_ _ | with_reducible refine Below.drew ?_ | with_reducible refine Below.setCell ?_ (by first | (simp; done) | (simp; omega) | omega) _ | with_reducible refine bstep ?_ (by assumption))).mono ?_
        rintro e w2 ⟨rfl, hb2⟩
        go_wp2_with fail
        go_ret
        exact ⟨rfl, (by repeat' first | with_reducible exact Below.refl _ _ | with_reducible assumption | with_reducible refine below_drewN ?_ _ | with_reducible refine balloc ?_ _ | with_reducible refine Below.drew ?_ | with_reducible refine Below.setCell ?_ (by first | (simp; done) | (simp; omega) | omega) _ | with_reducible refine bstep ?_ (by assumption))⟩

set_option maxHeartbeats 1600000 in
theorem squares_most (b off n cap b' off' cap' : Nat) (f g : Nat → Int) (xs : List Int) (w : World) (h8 : n ≤ 8) (hb : b < w.heap.size) (hb' : b' < w.heap.size)
    (hr : ∀ i, i < n → rightB (f i) (g i) = true) (hx : ∀ i, i < n → compB (nth xs i) = true)
    (hc : ∀ i, i < n → w.cell? ⟨b, off + i * 2, none⟩ = some (.int .i64 (f i)) ∧ w.cell? ⟨b, off + i * 2 + 1, none⟩ = some (.int .i64 (g i)))
    (hc' : ∀ i, i < n → w.cell? ⟨b', off' + i, none⟩ = some (.int .i64 (nth xs i))) :
    Calls Try.prog 23 #[.int .i64 (n : Int), .func (.func 25) #[.agg #[.slice (some ⟨b, off, none⟩) n cap, .slice (some ⟨b', off', none⟩) n cap']] #[]] w fun e w' => e = .returned (.int .i64 (mostN n f g xs)) ∧ Below w.heap.size w w' := by
  have SB := hide (sumSq_bounds (fun i => mostV (f i) (g i) (nth xs i)) n (fun i hi => most_bounds (hr i hi) (hx i hi)))
  have HM := hide (fun (k : Nat) (hk : k < n) (w1 : World) (hB : Below w.heap.size w w1) => most_any b off n cap b' off' cap' k (f k) (g k) (nth xs k) w1 hk h8 (Nat.lt_of_lt_of_le hb hB.size) (Nat.lt_of_lt_of_le hb' hB.size) (hr k hk) (hx k hk)
    ((hB.cell (p := ⟨b, off + k * 2, none⟩) hb).trans (hc k hk).1) ((hB.cell (p := ⟨b, off + k * 2 + 1, none⟩) hb).trans (hc k hk).2) ((hB.cell (p := ⟨b', off' + k, none⟩) hb').trans (hc' k hk)))
  have HD := hide (fun (k : Nat) (hk : k < n) => most_bounds (hr k hk) (hx k hk))
  clear hc hc' hr hx
  go_enter Try.func23, Try.ntmps23
  go_wp2_with fail
  go_loopw [5, 9] (fun s i wr => ∃ k : Nat, k ≤ n ∧ i = .int .i64 k ∧ s = .int .i64 (sumSq (fun i => mostV (f i) (g i) (nth xs i)) k) ∧ Below w.heap.size w wr) (fun _ i _ => n - (intOf i).toNat)
  case atStart => exact ⟨0, Nat.zero_le _, rfl, rfl, (by repeat' first | with_reducible exact Below.refl _ _ | with_reducible assumption | with_reducible refine below_drewN ?_ _ | with_reducible refine balloc ?_ _ | with_reducible refine Below.drew ?_ | with_reducible refine Below.setCell ?_ (by first | (simp; done) | (simp; omega) | omega) _ | with_reducible refine bstep ?_ (by assumption))⟩
  case round =>
    obtain ⟨k, hk, rfl, rfl, hbel⟩ := hrel
    by_cases hlt : k < n
    · have b1 := SB.out k hk
      have b2 := sq_bounds (HD.out k hlt).1 (HD.out k hlt).2
      have b3 : ((k : Nat) : Int) * 17592186044416 ≤ 8 * 17592186044416 := by omega
      have hs : sumSq (fun i => mostV (f i) (g i) (nth xs i)) (k + 1) = sumSq (fun i => mostV (f i) (g i) (nth xs i)) k + mostV (f k) (g k) (nth xs k) * mostV (f k) (g k) (nth xs k) := rfl
      have HM' := hide (HM.out k hlt wr hbel)
      have HB := hide hbel
      generalize sumSq (fun i => mostV (f i) (g i) (nth xs i)) k = s0 at b1 hs ⊢
      generalize mostV (f k) (g k) (nth xs k) = d at b2 HM' hs
      clear hbel
      go_wp2_with fail
      refine HM'.out.mono ?_
      rintro e wn ⟨rfl, hbn⟩
      go_wp2_with fail
      go_roundw
      case rel =>
        have hbel := HB.out
        exact ⟨k + 1, by omega, by go_num, by rw [hs], (by repeat' first | with_reducible exact Below.refl _ _ | with_reducible assumption | with_reducible refine below_drewN ?_ _ | with_reducible refine balloc ?_ _ | with_reducible refine Below.drew ?_ | with_reducible refine Below.setCell ?_ (by first | (simp; done) | (simp; omega) | omega) _ | with_reducible refine bstep ?_ (by assumption))⟩
      case measure => simp [intOf]; omega
    · obtain rfl : k = n := by omega
      have HB := hide hbel
      clear hbel
      go_wp2_with fail
      go_ret
      exact ⟨rfl, HB.out⟩

set_option maxHeartbeats 800000 in
theorem iHighOf_any (a a' : Option Addr) (n cap n' cap' : Nat) (f g : Nat → Int) (xs : List Int) (w : World) (h : PRow w a n f g) (h' : Row w a' n' xs) (hn' : n' ≤ 1048576) :
    Calls Try.prog 13 #[.slice a n cap, .slice a' n' cap'] w fun e w' => e = .returned (.int .i64 (if formB n f g n' xs then mostN n f g xs else -1)) ∧ Below w.heap.size w w' := by
  have SG := hide (sightOf_any a a' n cap n' cap' f g xs w h h' hn')
  cases hF : formB n f g n' xs
  · rw [hF] at SG
    simp only [Bool.false_eq_true, if_false] at SG ⊢
    clear h h'
    go_enter Try.func13, Try.ntmps13
    go_wp2_with fail
    refine SG.out.mono ?_
    rintro e w1 ⟨rfl, hb1⟩
    go_wp2_with fail
    go_ret
    exact ⟨rfl, (by repeat' first | with_reducible exact Below.refl _ _ | with_reducible assumption | with_reducible refine below_drewN ?_ _ | with_reducible refine balloc ?_ _ | with_reducible refine Below.drew ?_ | with_reducible refine Below.setCell ?_ (by first | (simp; done) | (simp; omega) | omega) _ | with_reducible refine bstep ?_ (by assumption))⟩
  · rw [hF] at SG
    simp only [if_true] at SG ⊢
    simp only [formB, Bool.and_eq_true, decide_eq_true_eq] at hF
    obtain ⟨⟨h1, h2⟩, rfl⟩ := hF
    have hn := boxB_num' h1
    rcases h.lies with q | ⟨b, off, rfl, lt, hc⟩
    · omega
    · rcases h'.lies with q | ⟨b', off', rfl, lt', hc'⟩
      · omega
      · have hl := h'.len
        have SQ := hide (fun (w1 : World) (hB : Below w.heap.size w w1) => squares_most b off n cap b' off' cap' f g xs w1 hn.2 (Nat.lt_of_lt_of_le lt hB.size) (Nat.lt_of_lt_of_le lt' hB.size) (fun i hi => boxB_at' h1 hi) (fun i hi => vecOkB_at h2 (by omega))
          (fun i hi => ⟨(hB.cell (p := ⟨b, off + i * 2, none⟩) lt).trans (hc i hi).1, (hB.cell (p := ⟨b, off + i * 2 + 1, none⟩) lt).trans (hc i hi).2⟩) (fun i hi => (hB.cell (p := ⟨b', off' + i, none⟩) lt').trans (hc' i hi)))
        generalize mostN n f g xs = v at SQ ⊢
        clear h h' hc hc' h1 h2
        go_enter Try.func13, Try.ntmps13
        go_wp2_with fail
        refine SG.out.mono ?_
        rintro e w1 ⟨rfl, hb1⟩
        go_wp2_with fail
        refine (SQ.out _ (by repeat' first | with_reducible exact Below.refl _ _ | with_reducible assumption | with_reducible refine below_drewN ?_ _ | with_reducible refine balloc ?_ _ | with_reducible refine Below.drew ?_ | with_reducible refine Below.setCell ?_ (by first | (simp; done) | (simp; omega) | omega) _ | with_reducible refine bstep ?_ (by assumption))).mono ?_
        rintro e w2 ⟨rfl, hb2⟩
        go_wp2_with fail
        go_ret
        exact ⟨rfl, (by repeat' first | with_reducible exact Below.refl _ _ | with_reducible assumption | with_reducible refine below_drewN ?_ _ | with_reducible refine balloc ?_ _ | with_reducible refine Below.drew ?_ | with_reducible refine Below.setCell ?_ (by first | (simp; done) | (simp; omega) | omega) _ | with_reducible refine bstep ?_ (by assumption))⟩

end Go.Proofs.Ytobnlchlmhnnlaa