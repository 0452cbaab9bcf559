/- Contracts of the small number functions: compOk, l1In, l1Comp, and of ranges. -/
import Derived.Test.YthiklcldbjmgfaaProg
import Derived.WalkKit
import Derived.WalkSpells
import Derived.WalkLawsBesides
import Derived.BigQuiet
import Derived.Deep.QuietTactic
namespace Go.Proofs.Ythiklcldbjmgfaa
open Go.RowKit
set_option maxRecDepth 8000

def compB (x : Int) : Bool := decide (-1048576 ≤ x ∧ x ≤ 1048576)
def inB (n lo hi : Int) : Bool := decide (lo ≤ n ∧ n ≤ hi)

theorem bcell {W w1 : World} (hb : Below W.heap.size W w1) : (∀ b o, b < W.heap.size → w1.cell? ⟨b, o, none⟩ = W.cell? ⟨b, o, none⟩) ∧ (∀ b o, b < W.heap.size → w1.frozen? ⟨b, o, none⟩ = W.frozen? ⟨b, o, none⟩) :=
  ⟨fun b o h => hb.cell (p := ⟨b, o, none⟩) h, fun b o h => hb.frozen (p := ⟨b, o, none⟩) h⟩

theorem wrapIn (x : Int) (h1 : -9223372036854775808 ≤ x) (h2 : x ≤ 9223372036854775807) : IntKind.i64.wrap x = x := by rw [IntKind.wrap_i64]; omega

theorem hide {p : Prop} (h : p) : Hid p := h

theorem balloc {w a : World} (h : Below w.heap.size w a) (o : Obj) : Below w.heap.size w (a.alloc o) := h.alloc h.size o

theorem bstep {w a b : World} (h : Below w.heap.size w a) (k : Below a.heap.size a b) : Below w.heap.size w b := h.trans (k.mono h.size)

set_option maxHeartbeats 400000 in
theorem compOk_any (x : Int) (w : World) :
    Calls Try.prog 59 #[.int .i64 x] w fun e w' => e = .returned (.bool (compB x)) ∧ w' = w := by
  by_cases h1 : -1048576 ≤ x
  · by_cases h2 : x ≤ 1048576
    · have hb : compB x = true := by simp [compB, h1, h2]
      rw [hb]; clear hb
      go_enter Try.func59, Try.ntmps59
      go_wp2
      go_ret
      exact ⟨rfl, rfl⟩
    · have hb : compB x = false := by simp [compB, h2]
      rw [hb]; clear hb
      go_enter Try.func59, Try.ntmps59
      go_wp2
      go_ret
      exact ⟨rfl, rfl⟩
  · have hb : compB x = false := by simp [compB, h1]
    rw [hb]; clear hb
    go_enter Try.func59, Try.ntmps59
    go_wp2
    go_ret
    exact ⟨rfl, rfl⟩
end Go.Proofs.Ythiklcldbjmgfaa

/- Contracts of the model's small number functions. -/
namespace Go.Proofs.Ythiklcldbjmgfaa
open Go.RowKit
set_option maxRecDepth 8000
set_option linter.unusedSimpArgs false

set_option maxHeartbeats 400000 in
theorem l1In_any (n lo hi : Int) (w : World) :
    Calls Try.prog 39 #[.int .i64 n, .int .i64 lo, .int .i64 hi] w fun e w' => e = .returned (.bool (inB n lo hi)) ∧ w' = w := by
  by_cases h1 : lo ≤ n <;> by_cases h2 : n ≤ hi
  all_goals
    simp only [inB, h1, h2, and_true, and_false, decide_true, decide_false]
    go_enter Try.func39, Try.ntmps39
    go_wp2
    go_ret
    exact ⟨rfl, rfl⟩

set_option maxHeartbeats 400000 in
theorem l1Comp_any (n : Int) (w : World) :
    Calls Try.prog 55 #[.int .i64 n] w fun e w' => e = .returned (.bool (compB n)) ∧ w' = w := by
  go_enter Try.func55, Try.ntmps55
  go_wp2_with (go_at_call 39; refine (l1In_any _ _ _ _).mono ?_; rintro e w' ⟨rfl, rfl⟩)
  go_ret
  exact ⟨rfl, rfl⟩

end Go.Proofs.Ythiklcldbjmgfaa

/- Contracts of ranges: whatever the numbers, each function answers as the plain function beside it, and nothing that was there turns. -/
namespace Go.Proofs.Ythiklcldbjmgfaa
open Go.RowKit
set_option maxRecDepth 8000
set_option linter.unusedSimpArgs false

def rightB (lo hi : Int) : Bool := compB lo && compB hi && decide (lo ≤ hi)
def hasB (lo hi x : Int) : Bool := rightB lo hi && inB x lo hi
def leqB (al ah bl bh : Int) : Bool := rightB al ah && rightB bl bh && decide (bl ≤ al) && decide (ah ≤ bh)

set_option maxHeartbeats 400000 in
theorem right_any (lo hi : Int) (w : World) :
    Calls Try.prog 46 #[.agg #[.int .i64 lo, .int .i64 hi]] w fun e w' => e = .returned (.bool (rightB lo hi)) ∧ Below w.heap.size w w' := by
  cases h1 : compB lo <;> cases h2 : compB hi <;> by_cases h3 : lo ≤ hi
  all_goals
    simp only [rightB, h1, h2, h3, decide_true, decide_false, Bool.and_true, Bool.and_false, Bool.true_and, Bool.false_and]
    go_enter Try.func46, Try.ntmps46
    go_wp2_with (go_at_call 59; refine (compOk_any _ _).mono ?_; rintro e w' ⟨rfl, rfl⟩)
    go_ret
    exact ⟨by first | rfl | (simp [h3]; done), (by repeat' first | with_reducible exact Below.refl _ _ | with_reducible assumption | with_reducible refine below_drewN ?_ _ | with_reducible refine balloc ?_ _ | with_reducible refine Below.drew ?_ | with_reducible refine Below.setCell ?_ (by first | (simp; done) | (simp; omega) | omega) _ | with_reducible refine bstep ?_ (by assumption))⟩



set_option maxHeartbeats 400000 in
theorem sRangeOk_any (lo hi : Int) (w : World) :
    Calls Try.prog 38 #[.agg #[.int .i64 lo, .int .i64 hi]] w fun e w' => e = .returned (.bool (rightB lo hi)) ∧ Below w.heap.size w w' := by
  cases h1 : compB lo <;> cases h2 : compB hi <;> by_cases h3 : lo ≤ hi
  all_goals
    simp only [rightB, h1, h2, h3, decide_true, decide_false, Bool.and_true, Bool.and_false, Bool.true_and, Bool.false_and]
    go_enter Try.func38, Try.ntmps38
    go_wp2_with (go_at_call 55; refine (l1Comp_any _ _).mono ?_; rintro e w' ⟨rfl, rfl⟩)
    go_ret
    exact ⟨rfl, (by repeat' first | with_reducible exact Below.refl _ _ | with_reducible assumption | with_reducible refine below_drewN ?_ _ | with_reducible refine balloc ?_ _ | with_reducible refine Below.drew ?_ | with_reducible refine Below.setCell ?_ (by first | (simp; done) | (simp; omega) | omega) _ | with_reducible refine bstep ?_ (by assumption))⟩

set_option maxHeartbeats 400000 in
theorem spans_any (lo hi x : Int) (w : World) :
    Calls Try.prog 67 #[.agg #[.int .i64 lo, .int .i64 hi], .int .i64 x] w fun e w' => e = .returned (.bool (inB x lo hi)) ∧ Below w.heap.size w w' := by
  by_cases h1 : lo ≤ x <;> by_cases h2 : x ≤ hi
  all_goals
    simp only [inB, h1, h2, and_true, and_false, decide_true, decide_false]
    go_enter Try.func67, Try.ntmps67
    go_wp2
    go_ret
    exact ⟨rfl, (by repeat' first | with_reducible exact Below.refl _ _ | with_reducible assumption | with_reducible refine below_drewN ?_ _ | with_reducible refine balloc ?_ _ | with_reducible refine Below.drew ?_ | with_reducible refine Below.setCell ?_ (by first | (simp; done) | (simp; omega) | omega) _ | with_reducible refine bstep ?_ (by assumption))⟩



set_option maxHeartbeats 400000 in
theorem sRangeHas_any (lo hi x : Int) (w : World) :
    Calls Try.prog 69 #[.agg #[.int .i64 lo, .int .i64 hi], .int .i64 x] w fun e w' => e = .returned (.bool (hasB lo hi x)) ∧ Below w.heap.size w w' := by
  cases h1 : rightB lo hi
  all_goals
    simp only [hasB, h1, Bool.and_true, Bool.and_false, Bool.true_and, Bool.false_and]
    go_enter Try.func69, Try.ntmps69
    go_wp2_with (first | (go_at_call 38; refine (sRangeOk_any _ _ _).mono ?_; rintro e wn ⟨rfl, hb⟩; have hz := hb.size; (try simp at hz); have g0 : w.heap.size < wn.heap.size := (by omega); have c00 : wn.cell? ⟨w.heap.size, 0, none⟩ = some (.int .i64 (lo)) := (hb.cell (p := ⟨w.heap.size, 0, none⟩) (by first | assumption | (simp; done) | (simp; omega) | (show _ < _; omega))).trans (by first | assumption | (simp [go_sem]; done) | (rw [World.cell?_alloc_past _ _ _ (by first | assumption | omega)]; first | assumption | (simp [go_sem]; done)) | (simp [go_sem, *]; done)); have c01 : wn.cell? ⟨w.heap.size, 1, none⟩ = some (.int .i64 (hi)) := (hb.cell (p := ⟨w.heap.size, 1, none⟩) (by first | assumption | (simp; done) | (simp; omega) | (show _ < _; omega))).trans (by first | assumption | (simp [go_sem]; done) | (rw [World.cell?_alloc_past _ _ _ (by first | assumption | omega)]; first | assumption | (simp [go_sem]; done)) | (simp [go_sem, *]; done))) | (go_at_call 39; refine (l1In_any _ _ _ _).mono ?_; rintro e w' ⟨rfl, rfl⟩))
    go_ret
    exact ⟨rfl, (by repeat' first | with_reducible exact Below.refl _ _ | with_reducible assumption | with_reducible refine below_drewN ?_ _ | with_reducible refine balloc ?_ _ | with_reducible refine Below.drew ?_ | with_reducible refine Below.setCell ?_ (by first | (simp; done) | (simp; omega) | omega) _ | with_reducible refine bstep ?_ (by assumption))⟩
end Go.Proofs.Ythiklcldbjmgfaa

/- Cells, as arithmetic: where a cell begins, and which cell has a number. -/
namespace Go.Proofs.Ythiklcldbjmgfaa
open Go.RowKit
set_option maxRecDepth 8000

def tierB (t : Int) : Bool := decide (1 ≤ t ∧ t ≤ 3)
def bitsN (t : Int) : Int := if t = 1 then 1 else if t = 2 then 4 else if t = 3 then 8 else 0
def cellsN (t : Int) : Int := if t = 1 then 2 else if t = 2 then 16 else if t = 3 then 256 else 0
def fromN (lo hi N i : Int) : Int := lo + (hi - lo + 1) * i / N
def codeN (lo hi N x : Int) : Int := ((x - lo + 1) * N - 1) / (hi - lo + 1)
def codeB (lo hi t x : Int) : Int := if hasB lo hi x && tierB t then codeN lo hi (cellsN t) x else -1
/-- Whether there is such a cell, and it has something. -/
def cellB (lo hi t c : Int) : Bool := rightB lo hi && tierB t && (decide (c = -1) || (decide (0 ≤ c) && decide (c < cellsN t) && decide (fromN lo hi (cellsN t) c ≤ fromN lo hi (cellsN t) (c + 1) - 1)))
def cellLo (lo hi t c : Int) : Int := if cellB lo hi t c then (if c = -1 then -1048576 else fromN lo hi (cellsN t) c) else 0
def cellHi (lo hi t c : Int) : Int := if cellB lo hi t c then (if c = -1 then 1048576 else fromN lo hi (cellsN t) (c + 1) - 1) else 0
def finerB (lo hi c f t : Int) : Bool := cellB lo hi f c && !decide (c = -1) && tierB t && decide (f ≤ t)

theorem from_le (lo hi N i x : Int) (hN : 0 < N) (hS : lo ≤ hi) : fromN lo hi N i ≤ x ↔ i ≤ codeN lo hi N x := by
  unfold fromN codeN
  rw [Int.le_ediv_iff_mul_le (by omega)]
  constructor
  · intro h
    have h1 : (hi - lo + 1) * i / N < x - lo + 1 := by omega
    have h2 := (Int.ediv_lt_iff_lt_mul hN).1 h1
    have h3 : i * (hi - lo + 1) = (hi - lo + 1) * i := Int.mul_comm _ _
    omega
  · intro h
    have h3 : i * (hi - lo + 1) = (hi - lo + 1) * i := Int.mul_comm _ _
    have h2 : (hi - lo + 1) * i < (x - lo + 1) * N := by omega
    have h1 := (Int.ediv_lt_iff_lt_mul hN).2 h2
    omega

theorem code_nonneg (lo hi N x : Int) (hN : 0 < N) (hx : lo ≤ x) (hS : lo ≤ hi) : 0 ≤ codeN lo hi N x := by
  have := (from_le lo hi N 0 x hN hS).1 (by simp [fromN]; exact hx)
  exact this

theorem code_lt (lo hi N x : Int) (hN : 0 < N) (hx : x ≤ hi) (hS : lo ≤ hi) : codeN lo hi N x < N := by
  have h : ¬ (N ≤ codeN lo hi N x) := by
    rw [← from_le lo hi N N x hN hS]
    unfold fromN
    rw [Int.mul_ediv_cancel _ (by omega)]
    omega
  omega

theorem from_bounds (lo hi N i : Int) (hN : 0 < N) (h0 : 0 ≤ i) (h1 : i ≤ N) (hS : lo ≤ hi) : lo ≤ fromN lo hi N i ∧ fromN lo hi N i ≤ hi + 1 := by
  unfold fromN
  have a : 0 ≤ (hi - lo + 1) * i := Int.mul_nonneg (by omega) h0
  have b : (hi - lo + 1) * i ≤ (hi - lo + 1) * N := Int.mul_le_mul_of_nonneg_left h1 (by omega)
  have c : 0 ≤ (hi - lo + 1) * i / N := Int.ediv_nonneg a (by omega)
  have d : (hi - lo + 1) * i / N ≤ (hi - lo + 1) * N / N := Int.ediv_le_ediv hN b
  rw [Int.mul_ediv_cancel _ (by omega)] at d
  omega

theorem mul_bounds {s i : Int} (a : 0 ≤ s) (b : s ≤ 2097153) (c : 0 ≤ i) (d : i ≤ 256) : 0 ≤ s * i ∧ s * i ≤ 536871168 := by
  have h1 : 0 ≤ s * i := Int.mul_nonneg a c
  have h2 : s * i ≤ s * 256 := Int.mul_le_mul_of_nonneg_left d a
  omega
end Go.Proofs.Ythiklcldbjmgfaa

/- Cells: how many, of the program and of the model. -/
namespace Go.Proofs.Ythiklcldbjmgfaa
open Go.RowKit
set_option maxRecDepth 8000
set_option linter.unusedSimpArgs false

theorem tier_cases {t : Int} (h : tierB t = true) : t = 1 ∨ t = 2 ∨ t = 3 := by simp only [tierB, decide_eq_true_eq] at h; omega

theorem tier_no {t : Int} (h : tierB t = false) : (t == 1) = false ∧ (t == 2) = false ∧ (t == 3) = false := by
  simp only [tierB, decide_eq_false_iff_not] at h
  refine ⟨?_, ?_, ?_⟩ <;> (simp; omega)

set_option maxHeartbeats 400000 in
theorem bitsOf_any (t : Int) (w : World) :
    Calls Try.prog 73 #[.int .i64 t] w fun e w' => e = .returned (.tuple #[.int .u64 (bitsN t), .bool (tierB t)]) ∧ w' = w := by
  cases h : tierB t
  · obtain ⟨h1, h2, h3⟩ := tier_no h
    have hb : bitsN t = 0 := by simp at h1 h2 h3; simp [bitsN, h1, h2, h3]
    rw [hb]; clear hb
    go_enter Try.func73, Try.ntmps73
    go_wp2
    exact bodyPost_ret (v := .tuple #[.int .u64 0, .bool false]) (by simp [results, Try.results73, go_sem]) rfl ⟨rfl, rfl⟩
  · rcases tier_cases h with rfl | rfl | rfl
    all_goals
      go_enter Try.func73, Try.ntmps73
      go_wp2
      exact bodyPost_ret (by simp [results, Try.results73, go_sem]; rfl) rfl ⟨rfl, rfl⟩

set_option maxHeartbeats 400000 in
theorem l3Tier_any (t : Int) (w : World) :
    Calls Try.prog 70 #[.int .i64 t] w fun e w' => e = .returned (.bool (tierB t)) ∧ w' = w := by
  go_enter Try.func70, Try.ntmps70
  go_wp2_with (go_at_call 39; refine (l1In_any _ _ _ _).mono ?_; rintro e w' ⟨rfl, rfl⟩)
  go_ret
  exact ⟨rfl, rfl⟩



set_option maxHeartbeats 400000 in
theorem sCellsOf_any (t : Int) (w : World) :
    Calls Try.prog 71 #[.int .i64 t] w fun e w' => e = .returned (.int .i64 (cellsN t)) ∧ Below w.heap.size w w' := by
  have B := l3Tier_any t w
  cases h : tierB t
  · obtain ⟨h1, h2, h3⟩ := tier_no h
    have hb : cellsN t = 0 := by simp at h1 h2 h3; simp [cellsN, h1, h2, h3]
    rw [hb]; clear hb
    rw [h] at B
    go_enter Try.func71, Try.ntmps71
    go_wp2_with fail
    refine B.mono ?_
    rintro e w' ⟨rfl, rfl⟩
    go_wp2
    go_ret
    exact ⟨rfl, (by repeat' first | with_reducible exact Below.refl _ _ | with_reducible assumption | with_reducible refine below_drewN ?_ _ | with_reducible refine balloc ?_ _ | with_reducible refine Below.drew ?_ | with_reducible refine Below.setCell ?_ (by first | (simp; done) | (simp; omega) | omega) _ | with_reducible refine bstep ?_ (by assumption))⟩
  · rw [h] at B
    rcases tier_cases h with rfl | rfl | rfl
    all_goals
      simp only [show cellsN 1 = 2 from rfl, show cellsN 2 = 16 from rfl, show cellsN 3 = 256 from rfl]
      go_enter Try.func71, Try.ntmps71
      go_wp2_with fail
      refine B.mono ?_
      rintro e w' ⟨rfl, rfl⟩
      go_wp2
      go_ret
      exact ⟨rfl, (by repeat' first | with_reducible exact Below.refl _ _ | with_reducible assumption | with_reducible refine below_drewN ?_ _ | with_reducible refine balloc ?_ _ | with_reducible refine Below.drew ?_ | with_reducible refine Below.setCell ?_ (by first | (simp; done) | (simp; omega) | omega) _ | with_reducible refine bstep ?_ (by assumption))⟩
end Go.Proofs.Ythiklcldbjmgfaa

/- Contracts of the laws' small functions over ranges: toRange, eqRange. -/
namespace Go.Proofs.Ythiklcldbjmgfaa
open Go.RowKit
set_option maxRecDepth 8000
set_option linter.unusedSimpArgs false

set_option maxHeartbeats 400000 in
theorem toRange_any (lo hi : Int) (w : World) :
    Calls Try.prog 15 #[.agg #[.int .i64 lo, .int .i64 hi]] w fun e w' => e = .returned (.agg #[.int .i64 lo, .int .i64 hi]) ∧ Below w.heap.size w w' := by
  go_enter Try.func15, Try.ntmps15
  go_wp2
  exact bodyPost_ret (v := .agg #[.int .i64 lo, .int .i64 hi]) (by simp [results, Try.results15, go_sem]) rfl ⟨rfl, (by repeat' first | with_reducible exact Below.refl _ _ | with_reducible assumption | with_reducible refine below_drewN ?_ _ | with_reducible refine balloc ?_ _ | with_reducible refine Below.drew ?_ | with_reducible refine Below.setCell ?_ (by first | (simp; done) | (simp; omega) | omega) _ | with_reducible refine bstep ?_ (by assumption))⟩

set_option maxHeartbeats 400000 in
theorem eqRange_any (al ah bl bh : Int) (w : World) :
    Calls Try.prog 22 #[.agg #[.int .i64 al, .int .i64 ah], .agg #[.int .i64 bl, .int .i64 bh]] w fun e w' => e = .returned (.bool (decide (al = bl) && decide (ah = bh))) ∧ Below w.heap.size w w' := by
  by_cases h1 : al = bl <;> by_cases h2 : ah = bh
  all_goals
    have g1 : (al != bl) = !(decide (al = bl)) := rfl
    have g2 : (ah != bh) = !(decide (ah = bh)) := rfl
    simp only [h1, h2, decide_true, decide_false, Bool.and_true, Bool.and_false, Bool.true_and, Bool.false_and, Bool.not_true, Bool.not_false] at g1 g2 ⊢
    go_enter Try.func22, Try.ntmps22
    go_wp2
    go_ret
    exact ⟨rfl, (by repeat' first | with_reducible exact Below.refl _ _ | with_reducible assumption | with_reducible refine below_drewN ?_ _ | with_reducible refine balloc ?_ _ | with_reducible refine Below.drew ?_ | with_reducible refine Below.setCell ?_ (by first | (simp; done) | (simp; omega) | omega) _ | with_reducible refine bstep ?_ (by assumption))⟩

end Go.Proofs.Ythiklcldbjmgfaa
