/- Cells: where a cell begins, of the program and of the model. -/
import Derived.Test.YthiklcldbjmgfaaZ1
import Derived.Deep.RegionHeld3
import Derived.Deep.DeepCutAuto
import Derived.Test.YthiklcldbjmgfaaZ2
namespace Go.Proofs.Ythiklcldbjmgfaa
open Go.RowKit
set_option maxRecDepth 8000
set_option linter.unusedSimpArgs false
set_option linter.unusedVariables false


theorem right_nums {lo hi : Int} (h : rightB lo hi = true) : -1048576 ≤ lo ∧ lo ≤ 1048576 ∧ -1048576 ≤ hi ∧ hi ≤ 1048576 ∧ lo ≤ hi := by
  simp only [rightB, compB, Bool.and_eq_true, decide_eq_true_eq] at h
  omega

set_option maxHeartbeats 800000 in
theorem l3From_any (lo hi t i : Int) (w : World) (hr : rightB lo hi = true) (ht : tierB t = true) (h0 : 0 ≤ i) (h1 : i ≤ 256) :
    Calls Try.prog 72 #[.agg #[.int .i64 lo, .int .i64 hi], .int .i64 t, .int .i64 i] w fun e w' => e = .returned (.int .i64 (fromN lo hi (cellsN t) i)) ∧ Below w.heap.size w w' := by
  obtain ⟨a1, a2, a3, a4, a5⟩ := right_nums hr
  have K := hide (sCellsOf_any t)
  obtain ⟨m0, m1⟩ := mul_bounds (s := hi - lo + 1) (i := i) (by omega) (by omega) h0 h1
  have hN : cellsN t = 2 ∨ cellsN t = 16 ∨ cellsN t = 256 := by rcases tier_cases ht with rfl | rfl | rfl <;> decide
  unfold fromN
  generalize cellsN t = N at K hN ⊢
  have q0 : 0 ≤ (hi - lo + 1) * i / N := by rcases hN with rfl | rfl | rfl <;> omega
  have q1 : (hi - lo + 1) * i / N ≤ 536871168 := by rcases hN with rfl | rfl | rfl <;> omega
  have hNz : ¬ N = 0 := by omega
  clear hr ht
  go_enter Try.func72, Try.ntmps72
  go_upto_region 1 with fail
  go_region_held3 (fun w' => w'.cell? ⟨w.heap.size, 0, none⟩ = some (.int .i64 lo) ∧ w'.cell? ⟨w.heap.size, 1, none⟩ = some (.int .i64 hi)) (refine ⟨?_, ?_⟩ <;> first | assumption | (simp [go_sem]; done) | (go_keep; done)) ((go_at_call 71; refine (K.out _).mono ?_; rintro e wn ⟨rfl, hb⟩; have hz := hb.size; (try simp at hz); have c0 : wn.cell? ⟨w.heap.size, 0, none⟩ = some (.int .i64 lo) := (hb.cell (p := ⟨w.heap.size, 0, none⟩) (by simp)).trans (by simp [go_sem]); have c1 : wn.cell? ⟨w.heap.size, 1, none⟩ = some (.int .i64 hi) := (hb.cell (p := ⟨w.heap.size, 1, none⟩) (by simp)).trans (by simp [go_sem])))
  all_goals
    rw [wrapIn (hi - lo) (by omega) (by omega), wrapIn (hi - lo + 1) (by omega) (by omega), wrapIn ((hi - lo + 1) * i) (by omega) (by omega), Int.tdiv_eq_ediv_of_nonneg m0, wrapIn ((hi - lo + 1) * i / N) (by omega) (by omega), wrapIn (lo + (hi - lo + 1) * i / N) (by omega) (by omega)]
    go_wp2_with fail
    go_ret
    exact ⟨rfl, (by repeat' first | with_reducible exact Below.refl _ _ | with_reducible assumption | with_reducible refine below_drewN ?_ _ | with_reducible refine balloc ?_ _ | with_reducible refine Below.drew ?_ | with_reducible refine Below.setCell ?_ (by first | (simp; done) | (simp; omega) | omega) _ | with_reducible refine bstep ?_ (by assumption))⟩

set_option maxHeartbeats 800000 in
theorem sCodeOf_ok (lo hi t x : Int) (w : World) (hh : hasB lo hi x = true) (ht : tierB t = true) :
    Calls Try.prog 64 #[.agg #[.int .i64 lo, .int .i64 hi], .int .i64 t, .int .i64 x] w fun e w' => e = .returned (.int .i64 (codeN lo hi (cellsN t) x)) ∧ Below w.heap.size w w' := by
  have hr : rightB lo hi = true := by simp only [hasB, Bool.and_eq_true] at hh; exact hh.1
  have hx : lo ≤ x ∧ x ≤ hi := by simp only [hasB, inB, Bool.and_eq_true, decide_eq_true_eq] at hh; exact hh.2
  obtain ⟨a1, a2, a3, a4, a5⟩ := right_nums hr
  have FR := hide (fun i w h0 h1 => l3From_any lo hi t i w hr ht h0 h1)
  have HN := hide (sCellsOf_any t)
  have HT := hide (l3Tier_any t)
  have HH := hide (sRangeHas_any lo hi x)
  rw [ht] at HT
  rw [hh] at HH
  have hN : cellsN t = 2 ∨ cellsN t = 16 ∨ cellsN t = 256 := by rcases tier_cases ht with rfl | rfl | rfl <;> decide
  have F := hide (fun i => from_le lo hi (cellsN t) i x (by omega) a5)
  have c0 := code_nonneg lo hi (cellsN t) x (by omega) hx.1 a5
  have c1 := code_lt lo hi (cellsN t) x (by omega) hx.2 a5
  generalize cellsN t = N at FR HN hN F c0 c1 ⊢
  generalize codeN lo hi N x = c at F c0 c1 ⊢
  clear hr ht hh
  go_enter Try.func64, Try.ntmps64
  go_wp2_with fail
  refine (HH.out _).mono ?_
  rintro e w1 ⟨rfl, hb⟩
  have hz := hb.size
  (try simp at hz)
  have g0 : w.heap.size < w1.heap.size := (by omega)
  have c00 : w1.cell? ⟨w.heap.size, 0, none⟩ = some (.int .i64 (lo)) := (hb.cell (p := ⟨w.heap.size, 0, none⟩) (by first | assumption | (simp; done) | (simp; omega) | (show _ < _; omega))).trans (by first | assumption | (simp [go_sem]; done) | (rw [World.cell?_alloc_past _ _ _ (by first | assumption | omega)]; first | assumption | (simp [go_sem]; done)) | (simp [go_sem, *]; done))
  have c01 : w1.cell? ⟨w.heap.size, 1, none⟩ = some (.int .i64 (hi)) := (hb.cell (p := ⟨w.heap.size, 1, none⟩) (by first | assumption | (simp; done) | (simp; omega) | (show _ < _; omega))).trans (by first | assumption | (simp [go_sem]; done) | (rw [World.cell?_alloc_past _ _ _ (by first | assumption | omega)]; first | assumption | (simp [go_sem]; done)) | (simp [go_sem, *]; done))
  have b_w1 := hb
  clear hb
  go_wp2_with fail
  refine (HT.out _).mono ?_
  rintro e w1 ⟨rfl, rfl⟩
  go_wp2_with fail
  refine (HN.out _).mono ?_
  rintro e w2 ⟨rfl, hb⟩
  have hz := hb.size
  (try simp at hz)
  have g0 : w.heap.size < w2.heap.size := (by omega)
  have c00 : w2.cell? ⟨w.heap.size, 0, none⟩ = some (.int .i64 (lo)) := (hb.cell (p := ⟨w.heap.size, 0, none⟩) (by first | assumption | (simp; done) | (simp; omega) | (show _ < _; omega))).trans (by first | assumption | (simp [go_sem]; done) | (rw [World.cell?_alloc_past _ _ _ (by first | assumption | omega)]; first | assumption | (simp [go_sem]; done)) | (simp [go_sem, *]; done))
  have c01 : w2.cell? ⟨w.heap.size, 1, none⟩ = some (.int .i64 (hi)) := (hb.cell (p := ⟨w.heap.size, 1, none⟩) (by first | assumption | (simp; done) | (simp; omega) | (show _ < _; omega))).trans (by first | assumption | (simp [go_sem]; done) | (rw [World.cell?_alloc_past _ _ _ (by first | assumption | omega)]; first | assumption | (simp [go_sem]; done)) | (simp [go_sem, *]; done))
  have b_w2 := hb
  clear hb
  go_wp2_with fail
  go_loopw [7] (fun i wr => ∃ k : Int, i = .int .i64 k ∧ c ≤ k ∧ k < N ∧ w.heap.size < wr.heap.size ∧ wr.cell? ⟨w.heap.size, 0, none⟩ = some (.int .i64 lo) ∧ wr.cell? ⟨w.heap.size, 1, none⟩ = some (.int .i64 hi) ∧ Below w.heap.size w wr) (fun i _ => (intOf i).toNat)
  case atStart => exact ⟨N - 1, by go_num, by omega, by omega, g0, c00, c01, (by repeat' first | with_reducible exact Below.refl _ _ | with_reducible assumption | with_reducible refine below_drewN ?_ _ | with_reducible refine balloc ?_ _ | with_reducible refine Below.drew ?_ | with_reducible refine Below.setCell ?_ (by first | (simp; done) | (simp; omega) | omega) _ | with_reducible refine bstep ?_ (by assumption))⟩
  case round =>
    obtain ⟨k, rfl, k0, k1, g0, z0, z1, hB⟩ := hrel
    by_cases hlt : c < k
    · have hf : x < fromN lo hi N k := by have := (F.out k); omega
      go_wp2_with fail
      refine (FR.out k _ (by omega) (by omega)).mono ?_
      rintro e wn ⟨rfl, hb⟩
      have q0 : wn.cell? ⟨w.heap.size, 0, none⟩ = some (.int .i64 lo) := (hb.cell (p := ⟨w.heap.size, 0, none⟩) g0).trans z0
      have q1 : wn.cell? ⟨w.heap.size, 1, none⟩ = some (.int .i64 hi) := (hb.cell (p := ⟨w.heap.size, 1, none⟩) g0).trans z1
      have hz := hb.size
      go_wp2_with fail
      go_roundw
      case rel => exact ⟨k - 1, by go_num, by omega, by omega, by omega, q0, q1, (by repeat' first | with_reducible exact Below.refl _ _ | with_reducible assumption | with_reducible refine below_drewN ?_ _ | with_reducible refine balloc ?_ _ | with_reducible refine Below.drew ?_ | with_reducible refine Below.setCell ?_ (by first | (simp; done) | (simp; omega) | omega) _ | with_reducible refine bstep ?_ (by assumption))⟩
      case measure => simp [intOf]; omega
    · obtain rfl : k = c := by omega
      have hf : ¬ x < fromN lo hi N k := by have := (F.out k); omega
      go_wp2_with fail
      refine (FR.out k _ (by omega) (by omega)).mono ?_
      rintro e wn ⟨rfl, hb⟩
      go_wp2_with fail
      go_ret
      exact ⟨rfl, (by repeat' first | with_reducible exact Below.refl _ _ | with_reducible assumption | with_reducible refine below_drewN ?_ _ | with_reducible refine balloc ?_ _ | with_reducible refine Below.drew ?_ | with_reducible refine Below.setCell ?_ (by first | (simp; done) | (simp; omega) | omega) _ | with_reducible refine bstep ?_ (by assumption))⟩

set_option maxHeartbeats 800000 in
theorem sCodeOf_any (lo hi t x : Int) (w : World) :
    Calls Try.prog 64 #[.agg #[.int .i64 lo, .int .i64 hi], .int .i64 t, .int .i64 x] w fun e w' => e = .returned (.int .i64 (codeB lo hi t x)) ∧ Below w.heap.size w w' := by
  unfold codeB
  cases hh : hasB lo hi x
  · simp only [Bool.and_true, Bool.and_false, Bool.true_and, Bool.false_and, if_false]
    have HH := hide (sRangeHas_any lo hi x)
    rw [hh] at HH
    go_enter Try.func64, Try.ntmps64
    go_wp2_with fail
    refine (HH.out _).mono ?_
    rintro e w1 ⟨rfl, hb⟩
    have hz := hb.size
    (try simp at hz)
    have g0 : w.heap.size < w1.heap.size := (by omega)
    have c00 : w1.cell? ⟨w.heap.size, 0, none⟩ = some (.int .i64 (lo)) := (hb.cell (p := ⟨w.heap.size, 0, none⟩) (by first | assumption | (simp; done) | (simp; omega) | (show _ < _; omega))).trans (by first | assumption | (simp [go_sem]; done) | (rw [World.cell?_alloc_past _ _ _ (by first | assumption | omega)]; first | assumption | (simp [go_sem]; done)) | (simp [go_sem, *]; done))
    have c01 : w1.cell? ⟨w.heap.size, 1, none⟩ = some (.int .i64 (hi)) := (hb.cell (p := ⟨w.heap.size, 1, none⟩) (by first | assumption | (simp; done) | (simp; omega) | (show _ < _; omega))).trans (by first | assumption | (simp [go_sem]; done) | (rw [World.cell?_alloc_past _ _ _ (by first | assumption | omega)]; first | assumption | (simp [go_sem]; done)) | (simp [go_sem, *]; done))
    have b_w1 := hb
    clear hb
    go_wp2_with fail
    go_ret
    exact ⟨rfl, (by repeat' first | with_reducible exact Below.refl _ _ | with_reducible assumption | with_reducible refine below_drewN ?_ _ | with_reducible refine balloc ?_ _ | with_reducible refine Below.drew ?_ | with_reducible refine Below.setCell ?_ (by first | (simp; done) | (simp; omega) | omega) _ | with_reducible refine bstep ?_ (by assumption))⟩
  · cases ht : tierB t
    · simp only [Bool.and_true, Bool.and_false, Bool.true_and, Bool.false_and, if_false]
      have HH := hide (sRangeHas_any lo hi x)
      rw [hh] at HH
      have HT := hide (l3Tier_any t)
      rw [ht] at HT
      go_enter Try.func64, Try.ntmps64
      go_wp2_with fail
      refine (HH.out _).mono ?_
      rintro e w1 ⟨rfl, hb⟩
      have hz := hb.size
      (try simp at hz)
      have g0 : w.heap.size < w1.heap.size := (by omega)
      have c00 : w1.cell? ⟨w.heap.size, 0, none⟩ = some (.int .i64 (lo)) := (hb.cell (p := ⟨w.heap.size, 0, none⟩) (by first | assumption | (simp; done) | (simp; omega) | (show _ < _; omega))).trans (by first | assumption | (simp [go_sem]; done) | (rw [World.cell?_alloc_past _ _ _ (by first | assumption | omega)]; first | assumption | (simp [go_sem]; done)) | (simp [go_sem, *]; done))
      have c01 : w1.cell? ⟨w.heap.size, 1, none⟩ = some (.int .i64 (hi)) := (hb.cell (p := ⟨w.heap.size, 1, none⟩) (by first | assumption | (simp; done) | (simp; omega) | (show _ < _; omega))).trans (by first | assumption | (simp [go_sem]; done) | (rw [World.cell?_alloc_past _ _ _ (by first | assumption | omega)]; first | assumption | (simp [go_sem]; done)) | (simp [go_sem, *]; done))
      have b_w1 := hb
      clear hb
      go_wp2_with fail
      refine (HT.out _).mono ?_
      rintro e w1 ⟨rfl, rfl⟩
      go_wp2_with fail
      go_ret
      exact ⟨rfl, (by repeat' first | with_reducible exact Below.refl _ _ | with_reducible assumption | with_reducible refine below_drewN ?_ _ | with_reducible refine balloc ?_ _ | with_reducible refine Below.drew ?_ | with_reducible refine Below.setCell ?_ (by first | (simp; done) | (simp; omega) | omega) _ | with_reducible refine bstep ?_ (by assumption))⟩
    · simp only [Bool.and_true, Bool.and_false, Bool.true_and, Bool.false_and, if_true]
      exact sCodeOf_ok lo hi t x w hh ht
end Go.Proofs.Ythiklcldbjmgfaa

/- Cells of the program: the grid, where its cells begin, and the code of a number, found by halving. -/
namespace Go.Proofs.Ythiklcldbjmgfaa
open Go.RowKit
set_option maxRecDepth 8000
set_option linter.unusedSimpArgs false
set_option linter.unusedVariables false

def gridV (lo hi t : Int) : Value := .agg #[.int .i64 lo, .int .i64 hi, .int .u64 (bitsN t)]

set_option maxHeartbeats 800000 in
theorem begin_any (lo hi t i : Int) (w : World) (hr : rightB lo hi = true) (ht : tierB t = true) (h0 : 0 ≤ i) (h1 : i ≤ 256) :
    Calls Try.prog 74 #[gridV lo hi t, .int .i64 i] w fun e w' => e = .returned (.int .i64 (fromN lo hi (cellsN t) i)) ∧ Below w.heap.size w w' := by
  obtain ⟨a1, a2, a3, a4, a5⟩ := right_nums hr
  obtain ⟨m0, m1⟩ := mul_bounds (s := hi - lo + 1) (i := i) (by omega) (by omega) h0 h1
  rcases tier_cases ht with rfl | rfl | rfl
  all_goals
    unfold gridV fromN
    simp only [show cellsN 1 = 2 from rfl, show cellsN 2 = 16 from rfl, show cellsN 3 = 256 from rfl, show bitsN 1 = 1 from rfl, show bitsN 2 = 4 from rfl, show bitsN 3 = 8 from rfl]
    clear hr ht
    go_enter Try.func74, Try.ntmps74
    go_wp2
    go_ret
    exact ⟨rfl, (by repeat' first | with_reducible exact Below.refl _ _ | with_reducible assumption | with_reducible refine below_drewN ?_ _ | with_reducible refine balloc ?_ _ | with_reducible refine Below.drew ?_ | with_reducible refine Below.setCell ?_ (by first | (simp; done) | (simp; omega) | omega) _ | with_reducible refine bstep ?_ (by assumption))⟩

/-- Block b holds three cells. -/
structure Three (w : World) (b : Nat) (x y z : Value) : Prop where
  lt : b < w.heap.size
  c0 : w.cell? ⟨b, 0, none⟩ = some x
  c1 : w.cell? ⟨b, 1, none⟩ = some y
  c2 : w.cell? ⟨b, 2, none⟩ = some z

theorem Three.below {w w' : World} {b : Nat} {x y z : Value} (h : Three w b x y z) (hb : Below w.heap.size w w') : Three w' b x y z :=
  ⟨Nat.lt_of_lt_of_le h.lt hb.size, (hb.cell (p := ⟨b, 0, none⟩) h.lt).trans h.c0, (hb.cell (p := ⟨b, 1, none⟩) h.lt).trans h.c1, (hb.cell (p := ⟨b, 2, none⟩) h.lt).trans h.c2⟩

theorem Three.new (w : World) (x y z : Value) (T : TypeId) : Three (w.alloc (.cells #[x, y, z] T)) w.heap.size x y z := ⟨by simp, by simp, by simp, by simp⟩

theorem Three.alloc {w : World} {b : Nat} {x y z : Value} (h : Three w b x y z) (o : Obj) : Three (w.alloc o) b x y z := h.below ((Below.refl _ _).alloc (Nat.le_refl _) o)

/-- The halves of 2, 16 or 256 that the search goes down by. -/
def HalfOk (h : Int) : Prop := h = 128 ∨ h = 64 ∨ h = 32 ∨ h = 16 ∨ h = 8 ∨ h = 4 ∨ h = 2 ∨ h = 1

theorem HalfOk.step {h k c : Int} (a : HalfOk h) (b : k ≤ c) (d : c < k + 2 * h) (e : k + 2 * h ≤ 256) (k' : Int) (hk : (k + h ≤ c ∧ k' = k + h) ∨ (c < k + h ∧ k' = k)) :
    (h / 2 = 0 ∧ k' = c) ∨ (HalfOk (h / 2) ∧ k' ≤ c ∧ c < k' + 2 * (h / 2) ∧ k' + 2 * (h / 2) ≤ 256) := by
  unfold HalfOk at *
  omega

set_option maxHeartbeats 1600000 in
theorem gcodeOf_any (lo hi t x : Int) (w : World) (hr : rightB lo hi = true) (ht : tierB t = true) (hx0 : lo ≤ x) (hx1 : x ≤ hi) :
    Calls Try.prog 68 #[gridV lo hi t, .int .i64 x] w fun e w' => e = .returned (.int .i64 (codeN lo hi (cellsN t) x)) ∧ Below w.heap.size w w' := by
  obtain ⟨a1, a2, a3, a4, a5⟩ := right_nums hr
  have FR := hide (fun i w h0 h1 => begin_any lo hi t i w hr ht h0 h1)
  have hN : cellsN t = 2 ∧ bitsN t = 1 ∨ cellsN t = 16 ∧ bitsN t = 4 ∨ cellsN t = 256 ∧ bitsN t = 8 := by rcases tier_cases ht with rfl | rfl | rfl <;> decide
  have F := hide (fun i => from_le lo hi (cellsN t) i x (by omega) a5)
  have c0 := code_nonneg lo hi (cellsN t) x (by omega) hx0 a5
  have c1 := code_lt lo hi (cellsN t) x (by omega) hx1 a5
  unfold gridV at FR ⊢
  generalize cellsN t = N at FR hN F c0 c1 ⊢
  generalize codeN lo hi N x = c at F c0 c1 ⊢
  generalize bitsN t = B at FR hN ⊢
  clear hr ht
  obtain ⟨B0, hBB⟩ : ∃ B0, B0 = B := ⟨_, rfl⟩
  rcases hN with ⟨rfl, rfl⟩ | ⟨rfl, rfl⟩ | ⟨rfl, rfl⟩
  all_goals
    go_enter Try.func68, Try.ntmps68
    go_wp2_with fail
    go_loopw [5, 6] (fun i j wr => ∃ k h : Int, i = .int .i64 k ∧ j = .int .i64 h ∧ 0 ≤ k ∧ ((h = 0 ∧ k = c) ∨ (HalfOk h ∧ k ≤ c ∧ c < k + 2 * h ∧ k + 2 * h ≤ 256)) ∧ Three wr w.heap.size (.int .i64 lo) (.int .i64 hi) (.int .u64 B0) ∧ Below w.heap.size w wr) (fun _ i _ => (intOf i).toNat)
    case atStart => exact ⟨0, _, rfl, rfl, by omega, .inr ⟨by unfold HalfOk; omega, by omega, by omega, by omega⟩, by subst hBB; exact Three.new _ _ _ _ _, (by repeat' first | with_reducible exact Below.refl _ _ | with_reducible assumption | with_reducible refine below_drewN ?_ _ | with_reducible refine balloc ?_ _ | with_reducible refine Below.drew ?_ | with_reducible refine Below.setCell ?_ (by first | (simp; done) | (simp; omega) | omega) _ | with_reducible refine bstep ?_ (by assumption))⟩
    case round =>
      obtain ⟨k, h, rfl, rfl, k0, hkh, T3, hB⟩ := hrel
      have HT := hide T3
      obtain ⟨t0, t1, t2, t3⟩ := T3
      rcases hkh with ⟨rfl, rfl⟩ | ⟨hO, k1, k2, k3⟩
      · go_wp2_with fail
        go_ret
        exact ⟨rfl, (by repeat' first | with_reducible exact Below.refl _ _ | with_reducible assumption | with_reducible refine below_drewN ?_ _ | with_reducible refine balloc ?_ _ | with_reducible refine Below.drew ?_ | with_reducible refine Below.setCell ?_ (by first | (simp; done) | (simp; omega) | omega) _ | with_reducible refine bstep ?_ (by assumption))⟩
      · have HO := hide hO
        have h01 : 0 < h := by unfold HalfOk at hO; omega
        have h128 : h ≤ 128 := by unfold HalfOk at hO; omega
        clear hO
        subst hBB
        go_wp2_with fail
        refine (FR.out (k + h) _ (by omega) (by omega)).mono ?_
        rintro e wn ⟨rfl, hb⟩
        have HT := hide (HT.out.below hb)
        have hf := F.out (k + h)
        by_cases hle : k + h ≤ c
        · have hf1 : fromN lo hi _ (k + h) ≤ x := hf.2 hle
          clear hf
          go_wp2_with fail
          go_roundw
          case rel => exact ⟨k + h, h / 2, by go_num, by go_num, by omega, HO.out.step k1 k2 k3 _ (.inl ⟨hle, rfl⟩), HT.out, (by repeat' first | with_reducible exact Below.refl _ _ | with_reducible assumption | with_reducible refine below_drewN ?_ _ | with_reducible refine balloc ?_ _ | with_reducible refine Below.drew ?_ | with_reducible refine Below.setCell ?_ (by first | (simp; done) | (simp; omega) | omega) _ | with_reducible refine bstep ?_ (by assumption))⟩
          case measure => simp [intOf]; omega
        · have hf1 : ¬ fromN lo hi _ (k + h) ≤ x := fun q => hle (hf.1 q)
          clear hf
          go_wp2_with fail
          go_roundw
          case rel => exact ⟨k, h / 2, by go_num, by go_num, by omega, HO.out.step k1 k2 k3 _ (.inr ⟨by omega, rfl⟩), HT.out, (by repeat' first | with_reducible exact Below.refl _ _ | with_reducible assumption | with_reducible refine below_drewN ?_ _ | with_reducible refine balloc ?_ _ | with_reducible refine Below.drew ?_ | with_reducible refine Below.setCell ?_ (by first | (simp; done) | (simp; omega) | omega) _ | with_reducible refine bstep ?_ (by assumption))⟩
          case measure => simp [intOf]; omega
end Go.Proofs.Ythiklcldbjmgfaa

/- Cells of the program: the grid of a range, CodeOf; of the model: all numbers. The walks of FnExactCellsOf, FnExactCodeOf. -/
namespace Go.Proofs.Ythiklcldbjmgfaa
open Go.RowKit
set_option maxRecDepth 8000
set_option linter.unusedSimpArgs false
set_option linter.unusedVariables false

def gridB (lo hi t : Int) : Bool := tierB t && rightB lo hi

set_option maxHeartbeats 800000 in
theorem gridOf_any (lo hi t : Int) (w : World) :
    Calls Try.prog 65 #[.agg #[.int .i64 lo, .int .i64 hi], .int .i64 t] w fun e w' => e = .returned (.tuple #[if gridB lo hi t then gridV lo hi t else .agg #[.int .i64 0, .int .i64 0, .int .u64 0], .bool (gridB lo hi t)]) ∧ Below w.heap.size w w' := by
  have HB := hide (bitsOf_any t)
  have HR := hide (right_any lo hi)
  unfold gridB gridV
  cases ht : tierB t
  · rw [ht] at HB
    simp only [Bool.and_true, Bool.and_false, Bool.true_and, Bool.false_and, if_false]
    generalize bitsN t = B at HB ⊢
    go_enter Try.func65, Try.ntmps65
    go_wp2_with fail
    refine (HB.out _).mono ?_
    rintro e w1 ⟨rfl, rfl⟩
    go_wp2_with fail
    refine bodyPost_ret (v := .tuple #[.agg #[.int .i64 0, .int .i64 0, .int .u64 0], .bool false]) ?_ rfl ⟨rfl, (by repeat' first | with_reducible exact Below.refl _ _ | with_reducible assumption | with_reducible refine below_drewN ?_ _ | with_reducible refine balloc ?_ _ | with_reducible refine Below.drew ?_ | with_reducible refine Below.setCell ?_ (by first | (simp; done) | (simp; omega) | omega) _ | with_reducible refine bstep ?_ (by assumption))⟩
    simp [results, Try.results65, go_sem]
  · rw [ht] at HB
    have hb3 : bitsN t = 1 ∨ bitsN t = 4 ∨ bitsN t = 8 := by rcases tier_cases ht with rfl | rfl | rfl <;> decide
    generalize bitsN t = B at HB hb3 ⊢
    cases hr : rightB lo hi
    · rw [hr] at HR
      simp only [Bool.and_true, Bool.and_false, Bool.true_and, Bool.false_and, if_false]
      go_enter Try.func65, Try.ntmps65
      go_wp2_with fail
      refine (HB.out _).mono ?_
      rintro e w1 ⟨rfl, rfl⟩
      go_wp2_with fail
      refine (HR.out _).mono ?_
      rintro e w1 ⟨rfl, hb⟩
      have hz := hb.size
      (try simp at hz)
      have g0 : w.heap.size < w1.heap.size := (by omega)
      have g1 : w.heap.size + 1 < w1.heap.size := (by omega)
      have c10 : w1.cell? ⟨w.heap.size + 1, 0, none⟩ = some (.int .i64 0) := (hb.cell (p := ⟨w.heap.size + 1, 0, none⟩) (by first | assumption | (simp; done) | (simp; omega) | (show _ < _; omega))).trans (by first | assumption | (simp [go_sem]; done) | (rw [World.cell?_alloc_past _ _ _ (by first | assumption | omega)]; first | assumption | (simp [go_sem]; done)) | (simp [go_sem, *]; done))
      have f10 : w1.frozen? ⟨w.heap.size + 1, 0, none⟩ = false := (hb.frozen (p := ⟨w.heap.size + 1, 0, none⟩) (by first | assumption | (simp; done) | (simp; omega) | (show _ < _; omega))).trans (by first | assumption | (simp [go_sem]; done) | (rw [World.frozen?_alloc_past _ _ _ (by first | assumption | omega)]; first | assumption | (simp [go_sem]; done)) | (simp [go_sem, *]; done))
      have c11 : w1.cell? ⟨w.heap.size + 1, 1, none⟩ = some (.int .i64 0) := (hb.cell (p := ⟨w.heap.size + 1, 1, none⟩) (by first | assumption | (simp; done) | (simp; omega) | (show _ < _; omega))).trans (by first | assumption | (simp [go_sem]; done) | (rw [World.cell?_alloc_past _ _ _ (by first | assumption | omega)]; first | assumption | (simp [go_sem]; done)) | (simp [go_sem, *]; done))
      have f11 : w1.frozen? ⟨w.heap.size + 1, 1, none⟩ = false := (hb.frozen (p := ⟨w.heap.size + 1, 1, none⟩) (by first | assumption | (simp; done) | (simp; omega) | (show _ < _; omega))).trans (by first | assumption | (simp [go_sem]; done) | (rw [World.frozen?_alloc_past _ _ _ (by first | assumption | omega)]; first | assumption | (simp [go_sem]; done)) | (simp [go_sem, *]; done))
      have c12 : w1.cell? ⟨w.heap.size + 1, 2, none⟩ = some (.int .u64 0) := (hb.cell (p := ⟨w.heap.size + 1, 2, none⟩) (by first | assumption | (simp; done) | (simp; omega) | (show _ < _; omega))).trans (by first | assumption | (simp [go_sem]; done) | (rw [World.cell?_alloc_past _ _ _ (by first | assumption | omega)]; first | assumption | (simp [go_sem]; done)) | (simp [go_sem, *]; done))
      have f12 : w1.frozen? ⟨w.heap.size + 1, 2, none⟩ = false := (hb.frozen (p := ⟨w.heap.size + 1, 2, none⟩) (by first | assumption | (simp; done) | (simp; omega) | (show _ < _; omega))).trans (by first | assumption | (simp [go_sem]; done) | (rw [World.frozen?_alloc_past _ _ _ (by first | assumption | omega)]; first | assumption | (simp [go_sem]; done)) | (simp [go_sem, *]; done))
      have b_w1 := hb
      clear hb
      go_wp2_with fail
      refine bodyPost_ret (v := .tuple #[.agg #[.int .i64 0, .int .i64 0, .int .u64 0], .bool false]) ?_ rfl ⟨rfl, (by repeat' first | with_reducible exact Below.refl _ _ | with_reducible assumption | with_reducible refine below_drewN ?_ _ | with_reducible refine balloc ?_ _ | with_reducible refine Below.drew ?_ | with_reducible refine Below.setCell ?_ (by first | (simp; done) | (simp; omega) | omega) _ | with_reducible refine bstep ?_ (by assumption))⟩
      simp [results, Try.results65, go_sem, *]
    · rw [hr] at HR
      simp only [Bool.and_true, Bool.and_false, Bool.true_and, Bool.false_and, if_true]
      go_enter Try.func65, Try.ntmps65
      go_wp2_with fail
      refine (HB.out _).mono ?_
      rintro e w1 ⟨rfl, rfl⟩
      go_wp2_with fail
      refine (HR.out _).mono ?_
      rintro e w1 ⟨rfl, hb⟩
      have hz := hb.size
      (try simp at hz)
      have g0 : w.heap.size < w1.heap.size := (by omega)
      have c00 : w1.cell? ⟨w.heap.size, 0, none⟩ = some (.int .i64 (lo)) := (hb.cell (p := ⟨w.heap.size, 0, none⟩) (by first | assumption | (simp; done) | (simp; omega) | (show _ < _; omega))).trans (by first | assumption | (simp [go_sem]; done) | (rw [World.cell?_alloc_past _ _ _ (by first | assumption | omega)]; first | assumption | (simp [go_sem]; done)) | (simp [go_sem, *]; done))
      have c01 : w1.cell? ⟨w.heap.size, 1, none⟩ = some (.int .i64 (hi)) := (hb.cell (p := ⟨w.heap.size, 1, none⟩) (by first | assumption | (simp; done) | (simp; omega) | (show _ < _; omega))).trans (by first | assumption | (simp [go_sem]; done) | (rw [World.cell?_alloc_past _ _ _ (by first | assumption | omega)]; first | assumption | (simp [go_sem]; done)) | (simp [go_sem, *]; done))
      have g1 : w.heap.size + 1 < w1.heap.size := (by omega)
      have c10 : w1.cell? ⟨w.heap.size + 1, 0, none⟩ = some (.int .i64 0) := (hb.cell (p := ⟨w.heap.size + 1, 0, none⟩) (by first | assumption | (simp; done) | (simp; omega) | (show _ < _; omega))).trans (by first | assumption | (simp [go_sem]; done) | (rw [World.cell?_alloc_past _ _ _ (by first | assumption | omega)]; first | assumption | (simp [go_sem]; done)) | (simp [go_sem, *]; done))
      have f10 : w1.frozen? ⟨w.heap.size + 1, 0, none⟩ = false := (hb.frozen (p := ⟨w.heap.size + 1, 0, none⟩) (by first | assumption | (simp; done) | (simp; omega) | (show _ < _; omega))).trans (by first | assumption | (simp [go_sem]; done) | (rw [World.frozen?_alloc_past _ _ _ (by first | assumption | omega)]; first | assumption | (simp [go_sem]; done)) | (simp [go_sem, *]; done))
      have c11 : w1.cell? ⟨w.heap.size + 1, 1, none⟩ = some (.int .i64 0) := (hb.cell (p := ⟨w.heap.size + 1, 1, none⟩) (by first | assumption | (simp; done) | (simp; omega) | (show _ < _; omega))).trans (by first | assumption | (simp [go_sem]; done) | (rw [World.cell?_alloc_past _ _ _ (by first | assumption | omega)]; first | assumption | (simp [go_sem]; done)) | (simp [go_sem, *]; done))
      have f11 : w1.frozen? ⟨w.heap.size + 1, 1, none⟩ = false := (hb.frozen (p := ⟨w.heap.size + 1, 1, none⟩) (by first | assumption | (simp; done) | (simp; omega) | (show _ < _; omega))).trans (by first | assumption | (simp [go_sem]; done) | (rw [World.frozen?_alloc_past _ _ _ (by first | assumption | omega)]; first | assumption | (simp [go_sem]; done)) | (simp [go_sem, *]; done))
      have c12 : w1.cell? ⟨w.heap.size + 1, 2, none⟩ = some (.int .u64 0) := (hb.cell (p := ⟨w.heap.size + 1, 2, none⟩) (by first | assumption | (simp; done) | (simp; omega) | (show _ < _; omega))).trans (by first | assumption | (simp [go_sem]; done) | (rw [World.cell?_alloc_past _ _ _ (by first | assumption | omega)]; first | assumption | (simp [go_sem]; done)) | (simp [go_sem, *]; done))
      have f12 : w1.frozen? ⟨w.heap.size + 1, 2, none⟩ = false := (hb.frozen (p := ⟨w.heap.size + 1, 2, none⟩) (by first | assumption | (simp; done) | (simp; omega) | (show _ < _; omega))).trans (by first | assumption | (simp [go_sem]; done) | (rw [World.frozen?_alloc_past _ _ _ (by first | assumption | omega)]; first | assumption | (simp [go_sem]; done)) | (simp [go_sem, *]; done))
      have b_w1 := hb
      clear hb
      go_wp2_with fail
      refine bodyPost_ret (v := .tuple #[.agg #[.int .i64 lo, .int .i64 hi, .int .u64 B], .bool true]) ?_ rfl ⟨rfl, (by repeat' first | with_reducible exact Below.refl _ _ | with_reducible assumption | with_reducible refine below_drewN ?_ _ | with_reducible refine balloc ?_ _ | with_reducible refine Below.drew ?_ | with_reducible refine Below.setCell ?_ (by first | (simp; done) | (simp; omega) | omega) _ | with_reducible refine bstep ?_ (by assumption))⟩
      simp [results, Try.results65, go_sem, *]

set_option maxHeartbeats 800000 in
theorem iCodeOf_any (lo hi t x : Int) (w : World) :
    Calls Try.prog 63 #[.agg #[.int .i64 lo, .int .i64 hi], .int .i64 t, .int .i64 x] w fun e w' => e = .returned (.int .i64 (codeB lo hi t x)) ∧ Below w.heap.size w w' := by
  have HG := hide (gridOf_any lo hi t)
  have HS := hide (spans_any lo hi x)
  unfold codeB hasB
  cases hg : gridB lo hi t
  · have hz : (rightB lo hi && inB x lo hi && tierB t) = false := by
      simp only [gridB] at hg
      cases h1 : rightB lo hi <;> cases h2 : tierB t <;> simp_all
    rw [hz]
    rw [hg] at HG
    simp only [if_false, Bool.false_eq_true] at HG ⊢
    go_enter Try.func63, Try.ntmps63
    go_wp2_with fail
    refine (HG.out _).mono ?_
    rintro e w1 ⟨rfl, hb⟩
    have hz := hb.size
    (try simp at hz)
    have g0 : w.heap.size < w1.heap.size := (by omega)
    have b_w1 := hb
    clear hb
    go_wp2_with fail
    go_ret
    exact ⟨rfl, (by repeat' first | with_reducible exact Below.refl _ _ | with_reducible assumption | with_reducible refine below_drewN ?_ _ | with_reducible refine balloc ?_ _ | with_reducible refine Below.drew ?_ | with_reducible refine Below.setCell ?_ (by first | (simp; done) | (simp; omega) | omega) _ | with_reducible refine bstep ?_ (by assumption))⟩
  · have hr : rightB lo hi = true := by simp only [gridB, Bool.and_eq_true] at hg; exact hg.2
    have ht : tierB t = true := by simp only [gridB, Bool.and_eq_true] at hg; exact hg.1
    rw [hg] at HG
    rw [hr, ht]
    cases hs : inB x lo hi
    · rw [hs] at HS
      simp only [Bool.and_true, Bool.and_false, Bool.true_and, Bool.false_and, if_false, if_true, Bool.false_eq_true, gridV] at HG ⊢
      generalize bitsN t = B at HG
      go_enter Try.func63, Try.ntmps63
      go_wp2_with fail
      refine (HG.out _).mono ?_
      rintro e w1 ⟨rfl, hb⟩
      have hz := hb.size
      (try simp at hz)
      have g0 : w.heap.size < w1.heap.size := (by omega)
      have c00 : w1.cell? ⟨w.heap.size, 0, none⟩ = some (.int .i64 (lo)) := (hb.cell (p := ⟨w.heap.size, 0, none⟩) (by first | assumption | (simp; done) | (simp; omega) | (show _ < _; omega))).trans (by first | assumption | (simp [go_sem]; done) | (rw [World.cell?_alloc_past _ _ _ (by first | assumption | omega)]; first | assumption | (simp [go_sem]; done)) | (simp [go_sem, *]; done))
      have c01 : w1.cell? ⟨w.heap.size, 1, none⟩ = some (.int .i64 (hi)) := (hb.cell (p := ⟨w.heap.size, 1, none⟩) (by first | assumption | (simp; done) | (simp; omega) | (show _ < _; omega))).trans (by first | assumption | (simp [go_sem]; done) | (rw [World.cell?_alloc_past _ _ _ (by first | assumption | omega)]; first | assumption | (simp [go_sem]; done)) | (simp [go_sem, *]; done))
      have b_w1 := hb
      clear hb
      go_wp2_with fail
      refine (HS.out _).mono ?_
      rintro e w2 ⟨rfl, hb⟩
      have hz := hb.size
      (try simp at hz)
      have g0 : w.heap.size < w2.heap.size := (by omega)
      have b_w2 := hb
      clear hb
      go_wp2_with fail
      go_ret
      exact ⟨rfl, (by repeat' first | with_reducible exact Below.refl _ _ | with_reducible assumption | with_reducible refine below_drewN ?_ _ | with_reducible refine balloc ?_ _ | with_reducible refine Below.drew ?_ | with_reducible refine Below.setCell ?_ (by first | (simp; done) | (simp; omega) | omega) _ | with_reducible refine bstep ?_ (by assumption))⟩
    · rw [hs] at HS
      have hx : lo ≤ x ∧ x ≤ hi := by simp only [inB, decide_eq_true_eq] at hs; exact hs
      have HC := hide (fun w => gcodeOf_any lo hi t x w hr ht hx.1 hx.2)
      simp only [Bool.and_true, Bool.and_false, Bool.true_and, Bool.false_and, if_false, if_true, gridV] at HG HC ⊢
      generalize codeN lo hi (cellsN t) x = c at HC ⊢
      generalize bitsN t = B at HG HC
      go_enter Try.func63, Try.ntmps63
      go_wp2_with fail
      refine (HG.out _).mono ?_
      rintro e w1 ⟨rfl, hb⟩
      have hz := hb.size
      (try simp at hz)
      have g0 : w.heap.size < w1.heap.size := (by omega)
      have c00 : w1.cell? ⟨w.heap.size, 0, none⟩ = some (.int .i64 (lo)) := (hb.cell (p := ⟨w.heap.size, 0, none⟩) (by first | assumption | (simp; done) | (simp; omega) | (show _ < _; omega))).trans (by first | assumption | (simp [go_sem]; done) | (rw [World.cell?_alloc_past _ _ _ (by first | assumption | omega)]; first | assumption | (simp [go_sem]; done)) | (simp [go_sem, *]; done))
      have c01 : w1.cell? ⟨w.heap.size, 1, none⟩ = some (.int .i64 (hi)) := (hb.cell (p := ⟨w.heap.size, 1, none⟩) (by first | assumption | (simp; done) | (simp; omega) | (show _ < _; omega))).trans (by first | assumption | (simp [go_sem]; done) | (rw [World.cell?_alloc_past _ _ _ (by first | assumption | omega)]; first | assumption | (simp [go_sem]; done)) | (simp [go_sem, *]; done))
      have b_w1 := hb
      clear hb
      go_wp2_with fail
      refine (HS.out _).mono ?_
      rintro e w2 ⟨rfl, hb⟩
      have hz := hb.size
      (try simp at hz)
      have g0 : w.heap.size < w2.heap.size := (by omega)
      have g1 : w1.heap.size < w2.heap.size := (by omega)
      have c10 : w2.cell? ⟨w1.heap.size, 0, none⟩ = some (.int .i64 lo) := (hb.cell (p := ⟨w1.heap.size, 0, none⟩) (by first | assumption | (simp; done) | (simp; omega) | (show _ < _; omega))).trans (by first | assumption | (simp [go_sem]; done) | (rw [World.cell?_alloc_past _ _ _ (by first | assumption | omega)]; first | assumption | (simp [go_sem]; done)) | (simp [go_sem, *]; done))
      have c11 : w2.cell? ⟨w1.heap.size, 1, none⟩ = some (.int .i64 hi) := (hb.cell (p := ⟨w1.heap.size, 1, none⟩) (by first | assumption | (simp; done) | (simp; omega) | (show _ < _; omega))).trans (by first | assumption | (simp [go_sem]; done) | (rw [World.cell?_alloc_past _ _ _ (by first | assumption | omega)]; first | assumption | (simp [go_sem]; done)) | (simp [go_sem, *]; done))
      have c12 : w2.cell? ⟨w1.heap.size, 2, none⟩ = some (.int .u64 B) := (hb.cell (p := ⟨w1.heap.size, 2, none⟩) (by first | assumption | (simp; done) | (simp; omega) | (show _ < _; omega))).trans (by first | assumption | (simp [go_sem]; done) | (rw [World.cell?_alloc_past _ _ _ (by first | assumption | omega)]; first | assumption | (simp [go_sem]; done)) | (simp [go_sem, *]; done))
      have b_w2 := hb
      clear hb
      go_wp2_with fail
      refine (HC.out _).mono ?_
      rintro e w3 ⟨rfl, hb⟩
      have hz := hb.size
      (try simp at hz)
      have g0 : w.heap.size < w3.heap.size := (by omega)
      have b_w3 := hb
      clear hb
      go_wp2_with fail
      go_ret
      exact ⟨rfl, (by repeat' first | with_reducible exact Below.refl _ _ | with_reducible assumption | with_reducible refine below_drewN ?_ _ | with_reducible refine balloc ?_ _ | with_reducible refine Below.drew ?_ | with_reducible refine Below.setCell ?_ (by first | (simp; done) | (simp; omega) | omega) _ | with_reducible refine bstep ?_ (by assumption))⟩





end Go.Proofs.Ythiklcldbjmgfaa
/- Packed rows of the program: a place's codes laid into one, and taken out. -/
namespace Go.Proofs.Ythiklcldbjmgfaa
open Go.RowKit
set_option maxRecDepth 8000
set_option linter.unusedSimpArgs false
set_option linter.unusedVariables false

set_option maxHeartbeats 800000 in
theorem with_out (A B C D n : Int) (k : Nat) (x y : Int) (w : World) (hk : k < 8) :
    Calls Try.prog 52 #[.agg #[.int .u8 A, .int .u32 B, .int .u64 C, .int .u8 D, .int .i64 n], .int .i64 k, .agg #[.int .i64 x, .int .i64 y, .int .i64 (-1)]] w fun e w' => e = .returned (.agg #[.int .u8 A, .int .u32 B, .int .u64 C, .int .u8 (bits .or .u8 D (2 ^ k % 256)), .int .i64 n]) ∧ Below w.heap.size w w' := by
  go_enter Try.func52, Try.ntmps52
  go_wp2_with fail
  go_region
  all_goals
    go_wp2_with fail
    refine bodyPost_ret (v := .agg #[.int .u8 A, .int .u32 B, .int .u64 C, .int .u8 (bits .or .u8 D (2 ^ k % 256)), .int .i64 n]) ?_ rfl ⟨rfl, (by repeat' first | with_reducible exact Below.refl _ _ | with_reducible assumption | with_reducible refine below_drewN ?_ _ | with_reducible refine balloc ?_ _ | with_reducible refine Below.drew ?_ | with_reducible refine Below.setCell ?_ (by first | (simp; done) | (simp; omega) | omega) _ | with_reducible refine bstep ?_ (by assumption))⟩
    simp [results, Try.results52, go_sem]

set_option maxHeartbeats 1600000 in
theorem with_in (A B C D n : Int) (k : Nat) (x y z : Int) (w : World) (hk : k < 8) (hz : ¬ z = -1) :
    Calls Try.prog 52 #[.agg #[.int .u8 A, .int .u32 B, .int .u64 C, .int .u8 D, .int .i64 n], .int .i64 k, .agg #[.int .i64 x, .int .i64 y, .int .i64 z]] w fun e w' => e = .returned (.agg #[.int .u8 (bits .or .u8 A (x % 256 * 2 ^ k % 256)), .int .u32 (bits .or .u32 B (y % 4294967296 * 2 ^ (4 * k) % 4294967296)), .int .u64 (bits .or .u64 C (z % 18446744073709551616 * 2 ^ (8 * k) % 18446744073709551616)), .int .u8 D, .int .i64 n]) ∧ Below w.heap.size w w' := by
  have hz' : (z == -1) = false := by simpa using hz
  go_enter Try.func52, Try.ntmps52
  go_wp2_with fail
  go_region
  go_wp2_with fail
  go_region
  go_wp2_with fail
  go_region
  all_goals
    go_wp2_with fail
    refine bodyPost_ret (v := .agg #[.int .u8 (bits .or .u8 A (x % 256 * 2 ^ k % 256)), .int .u32 (bits .or .u32 B (y % 4294967296 * 2 ^ (4 * k) % 4294967296)), .int .u64 (bits .or .u64 C (z % 18446744073709551616 * 2 ^ (8 * k) % 18446744073709551616)), .int .u8 D, .int .i64 n]) ?_ rfl ⟨rfl, (by repeat' first | with_reducible exact Below.refl _ _ | with_reducible assumption | with_reducible refine below_drewN ?_ _ | with_reducible refine balloc ?_ _ | with_reducible refine Below.drew ?_ | with_reducible refine Below.setCell ?_ (by first | (simp; done) | (simp; omega) | omega) _ | with_reducible refine bstep ?_ (by assumption))⟩
    simp [results, Try.results52, go_sem, IntKind.wrap_u64]



theorem bits_and_lt (k : IntKind) (hk : k = .u8 ∨ k = .u32) (x y : Int) : 0 ≤ bits .and k x y ∧ bits .and k x y < 4294967296 := by
  unfold bits
  rcases hk with rfl | rfl
  · simp only [IntKind.wrap_u8]; omega
  · simp only [IntKind.wrap_u32]; omega



/-- What codesOf holds: its range, and the box of its answer. -/
structure CO (w : World) (b : Nat) (lo hi : Int) : Prop where
  lt : b + 1 < w.heap.size
  c0 : w.cell? ⟨b, 0, none⟩ = some (.int .i64 lo)
  c1 : w.cell? ⟨b, 1, none⟩ = some (.int .i64 hi)
  z0 : ∃ u, w.cell? ⟨b + 1, 0, none⟩ = some u
  z1 : ∃ u, w.cell? ⟨b + 1, 1, none⟩ = some u
  z2 : ∃ u, w.cell? ⟨b + 1, 2, none⟩ = some u
  f0 : w.frozen? ⟨b + 1, 0, none⟩ = false
  f1 : w.frozen? ⟨b + 1, 1, none⟩ = false
  f2 : w.frozen? ⟨b + 1, 2, none⟩ = false

theorem CO.below {w w' : World} {b : Nat} {lo hi : Int} (h : CO w b lo hi) (hb : Below w.heap.size w w') : CO w' b lo hi :=
  ⟨Nat.lt_of_lt_of_le h.lt hb.size, (hb.cell (p := ⟨b, 0, none⟩) (by have := h.lt; show b < _; omega)).trans h.c0, (hb.cell (p := ⟨b, 1, none⟩) (by have := h.lt; show b < _; omega)).trans h.c1,
    h.z0.imp fun u hu => (hb.cell (p := ⟨b + 1, 0, none⟩) h.lt).trans hu, h.z1.imp fun u hu => (hb.cell (p := ⟨b + 1, 1, none⟩) h.lt).trans hu, h.z2.imp fun u hu => (hb.cell (p := ⟨b + 1, 2, none⟩) h.lt).trans hu,
    (hb.frozen (p := ⟨b + 1, 0, none⟩) h.lt).trans h.f0, (hb.frozen (p := ⟨b + 1, 1, none⟩) h.lt).trans h.f1, (hb.frozen (p := ⟨b + 1, 2, none⟩) h.lt).trans h.f2⟩

theorem CO.set {w : World} {b : Nat} {lo hi : Int} (h : CO w b lo hi) (u v x : Value) : CO (((w.setCell ⟨b + 1, 0, none⟩ u).setCell ⟨b + 1, 1, none⟩ v).setCell ⟨b + 1, 2, none⟩ x) b lo hi := by
  obtain ⟨h0, h1, h2, ⟨u0, h3⟩, ⟨u1, h4⟩, ⟨u2, h5⟩, h6, h7, h8⟩ := h
  exact ⟨by simpa [World.setCell] using h0, by simp [go_sem, h1], by simp [go_sem, h2], ⟨u, by simp [go_sem, h3, h4, h5]⟩, ⟨v, by simp [go_sem, h3, h4, h5]⟩, ⟨x, by simp [go_sem, h3, h4, h5]⟩, by simp [go_sem, h6], by simp [go_sem, h7], by simp [go_sem, h8]⟩

set_option maxHeartbeats 1600000 in
set_option maxRecDepth 4000 in
theorem codesOf_any (lo hi x : Int) (w : World) :
    Calls Try.prog 51 #[.agg #[.int .i64 lo, .int .i64 hi], .int .i64 x] w fun e w' => e = .returned (.agg #[.int .i64 (codeB lo hi 1 x), .int .i64 (codeB lo hi 2 x), .int .i64 (codeB lo hi 3 x)]) ∧ Below w.heap.size w w' := by
  have H1 := hide (iCodeOf_any lo hi 1 x)
  have H2 := hide (iCodeOf_any lo hi 2 x)
  have H3 := hide (iCodeOf_any lo hi 3 x)
  generalize codeB lo hi 1 x = a at H1 ⊢
  generalize codeB lo hi 2 x = b at H2 ⊢
  generalize codeB lo hi 3 x = c at H3 ⊢
  have bw : Below w.heap.size w ((w.alloc (.cells #[.int .i64 lo, .int .i64 hi] 48)).alloc (.cells #[.int .i64 0, .int .i64 0, .int .i64 0] 86)).drew := Below.drew (balloc (balloc (Below.refl _ _) _) _)
  have S0 : Hid (CO ((w.alloc (.cells #[.int .i64 lo, .int .i64 hi] 48)).alloc (.cells #[.int .i64 0, .int .i64 0, .int .i64 0] 86)).drew w.heap.size lo hi) := hide ⟨by simp, by simp [go_sem], by simp [go_sem], ⟨_, by simp [go_sem]; rfl⟩, ⟨_, by simp [go_sem]; rfl⟩, ⟨_, by simp [go_sem]; rfl⟩, by simp [go_sem], by simp [go_sem], by simp [go_sem]⟩
  go_enter Try.func51, Try.ntmps51
  go_wp2_with fail
  refine wp_region_held_drew (S := fun wx => CO wx w.heap.size lo hi) (by kernel_rfl) (S0.out) (fun hH0 => ?_)
  refine wpAnyH_take (i := 0) (oi := { dst := some 5, op := _, type := _, pos := _, after := _, guard := _ }) (v := ?_) rfl (by kernel_rfl) (by kernel_rfl) (by kernel_rfl) (fun _ _ _ h => h) (Or.inl ⟨by rfl, ?_⟩) (hH0) ?_
  rotate_left
  · (intro wx hSw; obtain ⟨_, q0, q1, _, _, _, _, _, _⟩ := hSw; go_simp <;> with_reducible rfl)
  simp only [Act.put, List.setIfInBounds_toArray, List.set_cons_zero, List.set_cons_succ]
  refine wpAnyH_take (i := 1) (oi := { dst := some 6, op := _, type := _, pos := _, after := _, guard := _ }) (v := ?_) rfl (by kernel_rfl) (by kernel_rfl) (by kernel_rfl) (fun _ _ _ h => h) (Or.inl ⟨by rfl, ?_⟩) (hH0) ?_
  rotate_left
  · (intro wx hSw; obtain ⟨_, q0, q1, _, _, _, _, _, _⟩ := hSw; go_simp <;> with_reducible rfl)
  simp only [Act.put, List.setIfInBounds_toArray, List.set_cons_zero, List.set_cons_succ]
  refine wpAnyH_take (i := 3) (oi := { dst := some 8, op := _, type := _, pos := _, after := _, guard := _ }) (v := ?_) rfl (by kernel_rfl) (by kernel_rfl) (by kernel_rfl) (fun _ _ _ h => h) (Or.inl ⟨by rfl, ?_⟩) (hH0) ?_
  rotate_left
  · (intro wx hSw; obtain ⟨_, q0, q1, _, _, _, _, _, _⟩ := hSw; go_simp <;> with_reducible rfl)
  simp only [Act.put, List.setIfInBounds_toArray, List.set_cons_zero, List.set_cons_succ]
  refine wpAnyH_take (i := 4) (oi := { dst := some 9, op := _, type := _, pos := _, after := _, guard := _ }) (v := ?_) rfl (by kernel_rfl) (by kernel_rfl) (by kernel_rfl) (fun _ _ _ h => h) (Or.inl ⟨by rfl, ?_⟩) (hH0) ?_
  rotate_left
  · (intro wx hSw; obtain ⟨_, q0, q1, _, _, _, _, _, _⟩ := hSw; go_simp <;> with_reducible rfl)
  simp only [Act.put, List.setIfInBounds_toArray, List.set_cons_zero, List.set_cons_succ]
  refine wpAnyH_take (i := 6) (oi := { dst := some 11, op := _, type := _, pos := _, after := _, guard := _ }) (v := ?_) rfl (by kernel_rfl) (by kernel_rfl) (by kernel_rfl) (fun _ _ _ h => h) (Or.inl ⟨by rfl, ?_⟩) (hH0) ?_
  rotate_left
  · (intro wx hSw; obtain ⟨_, q0, q1, _, _, _, _, _, _⟩ := hSw; go_simp <;> with_reducible rfl)
  simp only [Act.put, List.setIfInBounds_toArray, List.set_cons_zero, List.set_cons_succ]
  refine wpAnyH_take (i := 7) (oi := { dst := some 12, op := _, type := _, pos := _, after := _, guard := _ }) (v := ?_) rfl (by kernel_rfl) (by kernel_rfl) (by kernel_rfl) (fun _ _ _ h => h) (Or.inl ⟨by rfl, ?_⟩) (hH0) ?_
  rotate_left
  · (intro wx hSw; obtain ⟨_, q0, q1, _, _, _, _, _, _⟩ := hSw; go_simp <;> with_reducible rfl)
  simp only [Act.put, List.setIfInBounds_toArray, List.set_cons_zero, List.set_cons_succ]
  refine wpAnyH_ready (rs := [2]) (by kernel_rfl) (by simp) ?_
  refine AllReadyH.cons (o := { dst := some 7, op := _, type := _, pos := _, after := _, guard := _ }) rfl (fun K hK => ?_) AllReadyH.nil
  go_simp
  refine (H1.out _).mono ?_
  rintro e w_c7_1 ⟨rfl, hb_c7_1⟩
  dsimp only
  refine hK.out _ _ (CO.below hH0 hb_c7_1) (fun hH1 => ?_)
  clear hK K
  refine wpAnyH_ready (rs := [5]) (by kernel_rfl) (by simp) ?_
  refine AllReadyH.cons (o := { dst := some 10, op := _, type := _, pos := _, after := _, guard := _ }) rfl (fun K hK => ?_) AllReadyH.nil
  go_simp
  refine (H2.out _).mono ?_
  rintro e w_c10_2 ⟨rfl, hb_c10_2⟩
  dsimp only
  refine hK.out _ _ (CO.below hH1 hb_c10_2) (fun hH2 => ?_)
  clear hK K
  refine wpAnyH_ready (rs := [8]) (by kernel_rfl) (by simp) ?_
  refine AllReadyH.cons (o := { dst := some 13, op := _, type := _, pos := _, after := _, guard := _ }) rfl (fun K hK => ?_) AllReadyH.nil
  go_simp
  refine (H3.out _).mono ?_
  rintro e w_c13_3 ⟨rfl, hb_c13_3⟩
  dsimp only
  refine hK.out _ _ (CO.below hH2 hb_c13_3) (fun hH3 => ?_)
  clear hK K
  refine wpAnyH_take (i := 9) (oi := { dst := some 14, op := _, type := _, pos := _, after := _, guard := _ }) (v := ?_) rfl (by kernel_rfl) (by kernel_rfl) (by kernel_rfl) (fun _ _ _ h => h) (Or.inl ⟨by rfl, ?_⟩) (hH3) ?_
  rotate_left
  · (intro wx hSw; obtain ⟨_, q0, q1, _, _, _, _, _, _⟩ := hSw; go_simp <;> with_reducible rfl)
  simp only [Act.put, List.setIfInBounds_toArray, List.set_cons_zero, List.set_cons_succ]
  -- behind it: go_wp2_with fail, then go_meet (a cut) or go_ret; the condition at the end: hH3
  refine wpAnyH_ready (rs := [10]) (by kernel_rfl) (by simp) ?_
  refine AllReadyH.cons (o := { dst := none, op := _, type := _, pos := _, after := _, guard := _ }) rfl (fun K hK => ?_) AllReadyH.nil
  obtain ⟨_, q0, q1, ⟨u0, p0⟩, ⟨u1, p1⟩, ⟨u2, p2⟩, p3, p4, p5⟩ := id hH3
  go_simp
  refine hK.out _ _ (CO.set hH3 _ _ _) (fun hH4 => ?_)
  clear hK K
  refine wpAnyH_done (by kernel_rfl) ?_ _
  have s1 := hb_c7_1.size
  have s2 := hb_c10_2.size
  have s3 := hb_c13_3.size
  simp at s1
  go_wp2_with fail
  refine bodyPost_ret (v := .agg #[.int .i64 a, .int .i64 b, .int .i64 c]) ?_ rfl ⟨rfl, ?_⟩
  · simp [results, Try.results51, go_sem, p0, p1, p2]
  · exact (((bstep (bstep (bstep bw hb_c7_1) hb_c10_2) hb_c13_3).setCell (by simp) _).setCell (by simp) _).setCell (by simp) _

end Go.Proofs.Ythiklcldbjmgfaa

/- Packed rows, as arithmetic: digits laid into a number by '|', and taken out by '>>' and '&'. -/
namespace Go.Proofs.Ythiklcldbjmgfaa
open Go.RowKit
set_option maxRecDepth 8000
set_option linter.unusedSimpArgs false
set_option linter.unusedVariables false

def numN (base : Nat) (c : Nat → Nat) : Nat → Nat
  | 0 => 0
  | k + 1 => numN base c k + c k * base ^ k

theorem num_lt {base : Nat} {c : Nat → Nat} {m : Nat} (hb : 0 < base) (h : ∀ i, i < m → c i < base) : ∀ k, k ≤ m → numN base c k < base ^ k := by
  intro k
  induction k with
  | zero => intro _; simp [numN]
  | succ k ih =>
    intro hk
    have h1 := ih (by omega)
    have h2 : c k + 1 ≤ base := h k (by omega)
    have h3 : (c k + 1) * base ^ k ≤ base * base ^ k := Nat.mul_le_mul_right _ h2
    rw [Nat.add_mul, Nat.one_mul] at h3
    rw [Nat.pow_succ, Nat.mul_comm (base ^ k) base]
    simp only [numN]
    omega

theorem num_congr {base : Nat} {c d : Nat → Nat} {m : Nat} (h : ∀ i, i < m → c i = d i) : numN base c m = numN base d m := by
  induction m with
  | zero => rfl
  | succ m ih => simp only [numN]; rw [ih (fun i hi => h i (by omega)), h m (by omega)]

theorem num_digit {base : Nat} {c : Nat → Nat} (hb : 0 < base) : ∀ m, (∀ i, i < m → c i < base) → ∀ k, k < m → numN base c m / base ^ k % base = c k := by
  intro m
  induction m with
  | zero => intro _ k hk; omega
  | succ m ih =>
    intro h k hk
    have hp : 0 < base ^ k := Nat.pow_pos hb
    by_cases e : k = m
    · subst e
      have h1 := num_lt hb h k (by omega)
      simp only [numN]
      rw [Nat.add_mul_div_right _ _ hp, Nat.div_eq_of_lt h1, Nat.zero_add, Nat.mod_eq_of_lt (h k (by omega))]
    · have h1 := ih (fun i hi => h i (by omega)) k (by omega)
      simp only [numN]
      obtain ⟨d, rfl⟩ : ∃ d, m = k + 1 + d := ⟨m - k - 1, by omega⟩
      rw [show c (k + 1 + d) * base ^ (k + 1 + d) = c (k + 1 + d) * base ^ d * base * base ^ k from by rw [Nat.pow_add, Nat.pow_succ]; simp only [Nat.mul_assoc, Nat.mul_left_comm, Nat.mul_comm]]
      rw [Nat.add_mul_div_right _ _ hp, Nat.add_mul_mod_self_right]
      exact h1

theorem num_inj {base : Nat} {c d : Nat → Nat} (hb : 0 < base) {m : Nat} (hc : ∀ i, i < m → c i < base) (hd : ∀ i, i < m → d i < base) (h : numN base c m = numN base d m) : ∀ i, i < m → c i = d i := by
  intro i hi
  rw [← num_digit hb m hc i hi, ← num_digit hb m hd i hi, h]

theorem ofInt_nat (W a : Nat) (h : a < 2 ^ W) : (BitVec.ofInt W (a : Int)).toNat = a := by
  rw [BitVec.toNat_ofInt]
  have : ((a : Int) % ((2 ^ W : Nat) : Int)) = ((a % 2 ^ W : Nat) : Int) := by omega
  rw [this, Int.toNat_natCast, Nat.mod_eq_of_lt h]

theorem or_add (W a b s : Nat) (ha : a < 2 ^ s) (hW : a + b * 2 ^ s < 2 ^ W) : (BitVec.ofInt W (a : Int) ||| BitVec.ofInt W ((b * 2 ^ s : Nat) : Int)).toNat = a + b * 2 ^ s := by
  rw [BitVec.toNat_or, ofInt_nat W a (by omega), ofInt_nat W (b * 2 ^ s) (by omega), Nat.or_comm, Nat.mul_comm b, ← Nat.two_pow_add_eq_or_of_lt ha]
  omega

theorem and_mod (W a s : Nat) (ha : a < 2 ^ W) (hs : s ≤ W) : (BitVec.ofInt W (a : Int) &&& BitVec.ofInt W ((2 ^ s - 1 : Nat) : Int)).toNat = a % 2 ^ s := by
  have h1 : 2 ^ s ≤ 2 ^ W := Nat.pow_le_pow_right (by omega) hs
  have h2 : 0 < 2 ^ s := Nat.pow_pos (by omega)
  rw [BitVec.toNat_and, ofInt_nat W a ha, ofInt_nat W (2 ^ s - 1) (by omega), Nat.and_two_pow_sub_one_eq_mod]

theorem orU8 (a b s : Nat) (ha : a < 2 ^ s) (hW : a + b * 2 ^ s < 256) : bits .or .u8 (a : Int) ((b * 2 ^ s : Nat) : Int) = ((a + b * 2 ^ s : Nat) : Int) := by
  have := or_add 8 a b s ha hW
  show IntKind.u8.wrap (((BitVec.ofInt 8 _ ||| BitVec.ofInt 8 _).toNat : Nat) : Int) = _
  rw [this, IntKind.wrap_u8]
  omega

theorem orU32 (a b s : Nat) (ha : a < 2 ^ s) (hW : a + b * 2 ^ s < 4294967296) : bits .or .u32 (a : Int) ((b * 2 ^ s : Nat) : Int) = ((a + b * 2 ^ s : Nat) : Int) := by
  have := or_add 32 a b s ha hW
  show IntKind.u32.wrap (((BitVec.ofInt 32 _ ||| BitVec.ofInt 32 _).toNat : Nat) : Int) = _
  rw [this, IntKind.wrap_u32]
  omega

theorem orU64 (a b s : Nat) (ha : a < 2 ^ s) (hW : a + b * 2 ^ s < 18446744073709551616) : bits .or .u64 (a : Int) ((b * 2 ^ s : Nat) : Int) = ((a + b * 2 ^ s : Nat) : Int) := by
  have := or_add 64 a b s ha hW
  show IntKind.u64.wrap (((BitVec.ofInt 64 _ ||| BitVec.ofInt 64 _).toNat : Nat) : Int) = _
  rw [this, IntKind.wrap_u64]
  omega

/-- The number's own digit, laid at its place. -/
theorem lay2 (c : Nat → Nat) (k : Nat) (hk : k < 8) (h : ∀ i, i < k + 1 → c i < 2) : bits .or .u8 (numN 2 c k : Int) ((c k : Int) % 256 * 2 ^ k % 256) = (numN 2 c (k + 1) : Int) := by
  have h1 := num_lt (base := 2) (by omega) h k (by omega)
  have h2 := num_lt (base := 2) (by omega) h (k + 1) (by omega)
  have hp : 2 ^ (k + 1) ≤ 256 := by have := Nat.pow_le_pow_right (n := 2) (by omega) (show k + 1 ≤ 8 by omega); simpa using this
  simp only [numN] at h2 ⊢
  have hc := h k (by omega)
  have e : ((c k : Int) % 256 * 2 ^ k % 256) = ((c k * 2 ^ k : Nat) : Int) := by
    rw [show (c k : Int) % 256 = (c k : Int) by omega, show ((2 : Int) ^ k) = ((2 ^ k : Nat) : Int) by simp, ← Int.natCast_mul]
    omega
  rw [e, orU8 _ _ _ h1 (by omega)]

theorem lay16 (c : Nat → Nat) (k : Nat) (hk : k < 8) (h : ∀ i, i < k + 1 → c i < 16) : bits .or .u32 (numN 16 c k : Int) ((c k : Int) % 4294967296 * 2 ^ (4 * k) % 4294967296) = (numN 16 c (k + 1) : Int) := by
  have h1 := num_lt (base := 16) (by omega) h k (by omega)
  have h2 := num_lt (base := 16) (by omega) h (k + 1) (by omega)
  have hp : 16 ^ (k + 1) ≤ 4294967296 := by have := Nat.pow_le_pow_right (n := 16) (by omega) (show k + 1 ≤ 8 by omega); simpa using this
  simp only [numN] at h2 ⊢
  have hc := h k (by omega)
  have e16 : 16 ^ k = 2 ^ (4 * k) := by rw [Nat.pow_mul]
  rw [e16] at h1 h2 ⊢
  have e : ((c k : Int) % 4294967296 * 2 ^ (4 * k) % 4294967296) = ((c k * 2 ^ (4 * k) : Nat) : Int) := by
    rw [show (c k : Int) % 4294967296 = (c k : Int) by omega, show ((2 : Int) ^ (4 * k)) = ((2 ^ (4 * k) : Nat) : Int) by simp, ← Int.natCast_mul]
    omega
  rw [e, orU32 _ _ _ h1 (by omega)]

theorem lay256 (c : Nat → Nat) (k : Nat) (hk : k < 8) (h : ∀ i, i < k + 1 → c i < 256) : bits .or .u64 (numN 256 c k : Int) ((c k : Int) % 18446744073709551616 * 2 ^ (8 * k) % 18446744073709551616) = (numN 256 c (k + 1) : Int) := by
  have h1 := num_lt (base := 256) (by omega) h k (by omega)
  have h2 := num_lt (base := 256) (by omega) h (k + 1) (by omega)
  have hp : 256 ^ (k + 1) ≤ 18446744073709551616 := by have := Nat.pow_le_pow_right (n := 256) (by omega) (show k + 1 ≤ 8 by omega); simpa using this
  simp only [numN] at h2 ⊢
  have hc := h k (by omega)
  have e256 : 256 ^ k = 2 ^ (8 * k) := by rw [Nat.pow_mul]
  rw [e256] at h1 h2 ⊢
  have e : ((c k : Int) % 18446744073709551616 * 2 ^ (8 * k) % 18446744073709551616) = ((c k * 2 ^ (8 * k) : Nat) : Int) := by
    rw [show (c k : Int) % 18446744073709551616 = (c k : Int) by omega, show ((2 : Int) ^ (8 * k)) = ((2 ^ (8 * k) : Nat) : Int) by simp, ← Int.natCast_mul]
    omega
  rw [e, orU64 _ _ _ h1 (by omega)]

theorem shr_nat (a b s : Nat) : ((a : Int) / 2 ^ s) = ((a / 2 ^ s : Nat) : Int) := by
  rw [show ((2 : Int) ^ s) = ((2 ^ s : Nat) : Int) by simp]
  omega

theorem take2 (c : Nat → Nat) (m k : Nat) (hm : m ≤ 8) (hk : k < m) (h : ∀ i, i < m → c i < 2) : bits .and .u8 ((numN 2 c m : Int) / 2 ^ k) 1 = (c k : Int) := by
  have h2 := num_lt (base := 2) (by omega) h m (by omega)
  have hp : 2 ^ m ≤ 256 := by have := Nat.pow_le_pow_right (n := 2) (by omega) hm; simpa using this
  have hd := num_digit (base := 2) (by omega) m h k hk
  have hle : numN 2 c m / 2 ^ k ≤ numN 2 c m := Nat.div_le_self _ _
  rw [shr_nat _ 0]
  have := and_mod 8 (numN 2 c m / 2 ^ k) 1 (by omega) (by omega)
  show IntKind.u8.wrap (((BitVec.ofInt 8 _ &&& BitVec.ofInt 8 _).toNat : Nat) : Int) = _
  simp only [show ((2 ^ 1 - 1 : Nat) : Int) = 1 from rfl] at this
  rw [this, IntKind.wrap_u8]
  have := h k hk
  omega

theorem take16 (c : Nat → Nat) (m k : Nat) (hm : m ≤ 8) (hk : k < m) (h : ∀ i, i < m → c i < 16) : bits .and .u32 ((numN 16 c m : Int) / 2 ^ (4 * k)) 15 = (c k : Int) := by
  have h2 := num_lt (base := 16) (by omega) h m (by omega)
  have hp : 16 ^ m ≤ 4294967296 := by have := Nat.pow_le_pow_right (n := 16) (by omega) hm; simpa using this
  have hd := num_digit (base := 16) (by omega) m h k hk
  rw [show 16 ^ k = 2 ^ (4 * k) by rw [Nat.pow_mul]] at hd
  have hle : numN 16 c m / 2 ^ (4 * k) ≤ numN 16 c m := Nat.div_le_self _ _
  rw [shr_nat _ 0]
  have := and_mod 32 (numN 16 c m / 2 ^ (4 * k)) 4 (by omega) (by omega)
  show IntKind.u32.wrap (((BitVec.ofInt 32 _ &&& BitVec.ofInt 32 _).toNat : Nat) : Int) = _
  simp only [show ((2 ^ 4 - 1 : Nat) : Int) = 15 from rfl] at this
  rw [this, IntKind.wrap_u32]
  have := h k hk
  omega

theorem take256 (c : Nat → Nat) (m k : Nat) (hk : k < m) (h : ∀ i, i < m → c i < 256) : (numN 256 c m : Int) / 2 ^ (8 * k) % 256 = (c k : Int) := by
  have hd := num_digit (base := 256) (by omega) m h k hk
  rw [show 256 ^ k = 2 ^ (8 * k) by rw [Nat.pow_mul]] at hd
  rw [shr_nat _ 0]
  omega
end Go.Proofs.Ythiklcldbjmgfaa

/- Cells of the program and of the model: what a cell has. -/
namespace Go.Proofs.Ythiklcldbjmgfaa
open Go.RowKit
set_option maxRecDepth 8000
set_option linter.unusedSimpArgs false
set_option linter.unusedVariables false

/-- Whether there is a cell c, and it has something. -/
def inCell (lo hi t c : Int) : Bool := decide (0 ≤ c) && decide (c < cellsN t) && decide (fromN lo hi (cellsN t) c ≤ fromN lo hi (cellsN t) (c + 1) - 1)

set_option maxHeartbeats 1600000 in
theorem gcell_1 (lo hi c p q : Int) (f : Int → Int) (w : World) (h0 : 0 ≤ c) (h1 : c < 2) (q1 : -4000000 ≤ q) (q2 : q ≤ 4000000) (hp : f c = p) (hq : f (c + 1) = q)
    (FR : Hid (∀ (i : Int) (w : World), 0 ≤ i → i ≤ 256 → Calls Try.prog 74 #[.agg #[.int .i64 lo, .int .i64 hi, .int .u64 1], .int .i64 i] w fun e w' => e = .returned (.int .i64 (f i)) ∧ Below w.heap.size w w')) :
    Calls Try.prog 66 #[.agg #[.int .i64 lo, .int .i64 hi, .int .u64 1], .int .i64 c] w fun e w' => e = .returned (.tuple #[if p ≤ q - 1 then .agg #[.int .i64 p, .int .i64 (q - 1)] else .agg #[.int .i64 0, .int .i64 0], .bool (decide (p ≤ q - 1))]) ∧ Below w.heap.size w w' := by
  have ww : IntKind.i64.wrap (q - 1) = q - 1 := wrapIn _ (by omega) (by omega)
  have wc : IntKind.i64.wrap (c + 1) = c + 1 := wrapIn _ (by omega) (by omega)
  have wb0 : 0 ≤ IntKind.i64.wrap (c + 1) := by omega
  have wb1 : IntKind.i64.wrap (c + 1) ≤ 256 := by omega
  have hD : (p ≤ q - 1 ∧ ¬ q - 1 < p) ∨ (¬ p ≤ q - 1 ∧ q - 1 < p) := by omega
  go_enter Try.func66, Try.ntmps66
  go_upto_region 3 with fail
  go_cut [6] (fun s wx => ∃ b, s = .pointer (some ⟨b, 0, none⟩) ∧ b < wx.heap.size ∧ wx.cell? ⟨b, 0, none⟩ = some (.int .i64 p) ∧ wx.cell? ⟨b, 1, none⟩ = some (.int .i64 (q - 1)) ∧ Below w.heap.size w wx ∧ b ≠ w.heap.size + 1 ∧ w.heap.size + 1 < wx.heap.size ∧ wx.cell? ⟨w.heap.size + 1, 0, none⟩ = some (.int .i64 0) ∧ wx.cell? ⟨w.heap.size + 1, 1, none⟩ = some (.int .i64 0) ∧ wx.frozen? ⟨w.heap.size + 1, 0, none⟩ = false ∧ wx.frozen? ⟨w.heap.size + 1, 1, none⟩ = false)
  case first =>
    go_region_held3 (fun w' => w.heap.size < w'.heap.size ∧ w'.cell? ⟨w.heap.size, 0, none⟩ = some (.int .i64 lo) ∧ w'.cell? ⟨w.heap.size, 1, none⟩ = some (.int .i64 hi) ∧ w'.cell? ⟨w.heap.size, 2, none⟩ = some (.int .u64 1) ∧ w.heap.size + 1 < w'.heap.size ∧ w'.cell? ⟨w.heap.size + 1, 0, none⟩ = some (.int .i64 0) ∧ w'.cell? ⟨w.heap.size + 1, 1, none⟩ = some (.int .i64 0) ∧ w'.frozen? ⟨w.heap.size + 1, 0, none⟩ = false ∧ w'.frozen? ⟨w.heap.size + 1, 1, none⟩ = false) ((repeat' apply And.intro) <;> first | assumption | (simp [go_sem]; done) | (rw [World.frozen?_alloc_past _ _ _ (by omega)]; assumption) | (simp [go_sem]; omega) | (go_keep; done)) ((go_at_call 74; refine (FR.out _ _ (by omega) (by omega)).mono ?_; rintro e wn ⟨rfl, hb⟩; have hz := hb.size; (try simp at hz); have g0 : w.heap.size < wn.heap.size := (by omega); have c00 : wn.cell? ⟨w.heap.size, 0, none⟩ = some (.int .i64 lo) := (hb.cell (p := ⟨w.heap.size, 0, none⟩) (by first | assumption | (simp; done) | (simp; omega) | (show _ < _; omega))).trans (by first | assumption | (simp [go_sem]; done) | (rw [World.cell?_alloc_past _ _ _ (by first | assumption | omega)]; first | assumption | (simp [go_sem]; done)) | (simp [go_sem, *]; done)); have c01 : wn.cell? ⟨w.heap.size, 1, none⟩ = some (.int .i64 hi) := (hb.cell (p := ⟨w.heap.size, 1, none⟩) (by first | assumption | (simp; done) | (simp; omega) | (show _ < _; omega))).trans (by first | assumption | (simp [go_sem]; done) | (rw [World.cell?_alloc_past _ _ _ (by first | assumption | omega)]; first | assumption | (simp [go_sem]; done)) | (simp [go_sem, *]; done)); have c02 : wn.cell? ⟨w.heap.size, 2, none⟩ = some (.int .u64 1) := (hb.cell (p := ⟨w.heap.size, 2, none⟩) (by first | assumption | (simp; done) | (simp; omega) | (show _ < _; omega))).trans (by first | assumption | (simp [go_sem]; done) | (rw [World.cell?_alloc_past _ _ _ (by first | assumption | omega)]; first | assumption | (simp [go_sem]; done)) | (simp [go_sem, *]; done)); have g1 : w.heap.size + 1 < wn.heap.size := (by omega); have c10 : wn.cell? ⟨w.heap.size + 1, 0, none⟩ = some (.int .i64 (0)) := (hb.cell (p := ⟨w.heap.size + 1, 0, none⟩) (by first | assumption | (simp; done) | (simp; omega) | (show _ < _; omega))).trans (by first | assumption | (simp [go_sem]; done) | (rw [World.cell?_alloc_past _ _ _ (by first | assumption | omega)]; first | assumption | (simp [go_sem]; done)) | (simp [go_sem, *]; done)); have f10 : wn.frozen? ⟨w.heap.size + 1, 0, none⟩ = false := (hb.frozen (p := ⟨w.heap.size + 1, 0, none⟩) (by first | assumption | (simp; done) | (simp; omega) | (show _ < _; omega))).trans (by first | assumption | (simp [go_sem]; done) | (rw [World.frozen?_alloc_past _ _ _ (by first | assumption | omega)]; first | assumption | (simp [go_sem]; done)) | (simp [go_sem, *]; done)); have c11 : wn.cell? ⟨w.heap.size + 1, 1, none⟩ = some (.int .i64 (0)) := (hb.cell (p := ⟨w.heap.size + 1, 1, none⟩) (by first | assumption | (simp; done) | (simp; omega) | (show _ < _; omega))).trans (by first | assumption | (simp [go_sem]; done) | (rw [World.cell?_alloc_past _ _ _ (by first | assumption | omega)]; first | assumption | (simp [go_sem]; done)) | (simp [go_sem, *]; done)); have f11 : wn.frozen? ⟨w.heap.size + 1, 1, none⟩ = false := (hb.frozen (p := ⟨w.heap.size + 1, 1, none⟩) (by first | assumption | (simp; done) | (simp; omega) | (show _ < _; omega))).trans (by first | assumption | (simp [go_sem]; done) | (rw [World.frozen?_alloc_past _ _ _ (by first | assumption | omega)]; first | assumption | (simp [go_sem]; done)) | (simp [go_sem, *]; done)); (try (have q5 := Box.below (t := 5) (by assumption) hb; have q5' := q5; obtain ⟨q50, q51, q52, q53, q54⟩ := q5')); (try (have q6 := Box.below (t := 6) (by assumption) hb; have q6' := q6; obtain ⟨q60, q61, q62, q63, q64⟩ := q6')); (try (with_reducible have q5 := Box.freshDrew 5 48 hb; (try simp only [World.size_alloc, World.size_drew] at q5); have q5' := q5; obtain ⟨q50, q51, q52, q53, q54⟩ := q5')); (try (with_reducible have q6 := Box.fresh 6 48 hb; (try simp only [World.size_alloc, World.size_drew] at q6); have q6' := q6; obtain ⟨q60, q61, q62, q63, q64⟩ := q6'))))
    all_goals
      go_wp2_with fail
      go_meet
      rename_i hH
      refine ⟨_, rfl, ?_, ?_, ?_, ?_, ?_, hH.2.2.2.2⟩
    all_goals first | omega | (simp [go_sem]; done) | (simp [go_sem, *]; done) | (simp [go_sem]; omega) | exact (by repeat' first | with_reducible exact Below.refl _ _ | with_reducible assumption | with_reducible refine below_drewN ?_ _ | with_reducible refine balloc ?_ _ | with_reducible refine Below.drew ?_ | with_reducible refine Below.setCell ?_ (by first | (simp; done) | (simp; omega) | omega) _ | with_reducible refine bstep ?_ (by assumption))
  case rest =>
    obtain ⟨b, rfl, g0, z0, z1, hB, hne, g1, y0, y1, v0, v1⟩ := hcut
    rcases hD with ⟨hle, hlt⟩ | ⟨hle, hlt⟩
    · go_wp2_with fail
      refine bodyPost_ret (v := .tuple #[.agg #[.int .i64 p, .int .i64 (q - 1)], .bool true]) ?_ rfl ⟨by simp [hle], (by repeat' first | with_reducible exact Below.refl _ _ | with_reducible assumption | with_reducible refine below_drewN ?_ _ | with_reducible refine balloc ?_ _ | with_reducible refine Below.drew ?_ | with_reducible refine Below.setCell ?_ (by first | (simp; done) | (simp; omega) | omega) _ | with_reducible refine bstep ?_ (by assumption))⟩
      simp [results, Try.results66, go_sem, *]
    · go_wp2_with fail
      refine bodyPost_ret (v := .tuple #[.agg #[.int .i64 0, .int .i64 0], .bool false]) ?_ rfl ⟨by simp [hle], (by repeat' first | with_reducible exact Below.refl _ _ | with_reducible assumption | with_reducible refine below_drewN ?_ _ | with_reducible refine balloc ?_ _ | with_reducible refine Below.drew ?_ | with_reducible refine Below.setCell ?_ (by first | (simp; done) | (simp; omega) | omega) _ | with_reducible refine bstep ?_ (by assumption))⟩
      simp [results, Try.results66, go_sem, *]

set_option maxHeartbeats 1600000 in
theorem gcell_4 (lo hi c p q : Int) (f : Int → Int) (w : World) (h0 : 0 ≤ c) (h1 : c < 16) (q1 : -4000000 ≤ q) (q2 : q ≤ 4000000) (hp : f c = p) (hq : f (c + 1) = q)
    (FR : Hid (∀ (i : Int) (w : World), 0 ≤ i → i ≤ 256 → Calls Try.prog 74 #[.agg #[.int .i64 lo, .int .i64 hi, .int .u64 4], .int .i64 i] w fun e w' => e = .returned (.int .i64 (f i)) ∧ Below w.heap.size w w')) :
    Calls Try.prog 66 #[.agg #[.int .i64 lo, .int .i64 hi, .int .u64 4], .int .i64 c] w fun e w' => e = .returned (.tuple #[if p ≤ q - 1 then .agg #[.int .i64 p, .int .i64 (q - 1)] else .agg #[.int .i64 0, .int .i64 0], .bool (decide (p ≤ q - 1))]) ∧ Below w.heap.size w w' := by
  have ww : IntKind.i64.wrap (q - 1) = q - 1 := wrapIn _ (by omega) (by omega)
  have wc : IntKind.i64.wrap (c + 1) = c + 1 := wrapIn _ (by omega) (by omega)
  have wb0 : 0 ≤ IntKind.i64.wrap (c + 1) := by omega
  have wb1 : IntKind.i64.wrap (c + 1) ≤ 256 := by omega
  have hD : (p ≤ q - 1 ∧ ¬ q - 1 < p) ∨ (¬ p ≤ q - 1 ∧ q - 1 < p) := by omega
  go_enter Try.func66, Try.ntmps66
  go_upto_region 3 with fail
  go_cut [6] (fun s wx => ∃ b, s = .pointer (some ⟨b, 0, none⟩) ∧ b < wx.heap.size ∧ wx.cell? ⟨b, 0, none⟩ = some (.int .i64 p) ∧ wx.cell? ⟨b, 1, none⟩ = some (.int .i64 (q - 1)) ∧ Below w.heap.size w wx ∧ b ≠ w.heap.size + 1 ∧ w.heap.size + 1 < wx.heap.size ∧ wx.cell? ⟨w.heap.size + 1, 0, none⟩ = some (.int .i64 0) ∧ wx.cell? ⟨w.heap.size + 1, 1, none⟩ = some (.int .i64 0) ∧ wx.frozen? ⟨w.heap.size + 1, 0, none⟩ = false ∧ wx.frozen? ⟨w.heap.size + 1, 1, none⟩ = false)
  case first =>
    go_region_held3 (fun w' => w.heap.size < w'.heap.size ∧ w'.cell? ⟨w.heap.size, 0, none⟩ = some (.int .i64 lo) ∧ w'.cell? ⟨w.heap.size, 1, none⟩ = some (.int .i64 hi) ∧ w'.cell? ⟨w.heap.size, 2, none⟩ = some (.int .u64 4) ∧ w.heap.size + 1 < w'.heap.size ∧ w'.cell? ⟨w.heap.size + 1, 0, none⟩ = some (.int .i64 0) ∧ w'.cell? ⟨w.heap.size + 1, 1, none⟩ = some (.int .i64 0) ∧ w'.frozen? ⟨w.heap.size + 1, 0, none⟩ = false ∧ w'.frozen? ⟨w.heap.size + 1, 1, none⟩ = false) ((repeat' apply And.intro) <;> first | assumption | (simp [go_sem]; done) | (rw [World.frozen?_alloc_past _ _ _ (by omega)]; assumption) | (simp [go_sem]; omega) | (go_keep; done)) ((go_at_call 74; refine (FR.out _ _ (by omega) (by omega)).mono ?_; rintro e wn ⟨rfl, hb⟩; have hz := hb.size; (try simp at hz); have g0 : w.heap.size < wn.heap.size := (by omega); have c00 : wn.cell? ⟨w.heap.size, 0, none⟩ = some (.int .i64 lo) := (hb.cell (p := ⟨w.heap.size, 0, none⟩) (by first | assumption | (simp; done) | (simp; omega) | (show _ < _; omega))).trans (by first | assumption | (simp [go_sem]; done) | (rw [World.cell?_alloc_past _ _ _ (by first | assumption | omega)]; first | assumption | (simp [go_sem]; done)) | (simp [go_sem, *]; done)); have c01 : wn.cell? ⟨w.heap.size, 1, none⟩ = some (.int .i64 hi) := (hb.cell (p := ⟨w.heap.size, 1, none⟩) (by first | assumption | (simp; done) | (simp; omega) | (show _ < _; omega))).trans (by first | assumption | (simp [go_sem]; done) | (rw [World.cell?_alloc_past _ _ _ (by first | assumption | omega)]; first | assumption | (simp [go_sem]; done)) | (simp [go_sem, *]; done)); have c02 : wn.cell? ⟨w.heap.size, 2, none⟩ = some (.int .u64 4) := (hb.cell (p := ⟨w.heap.size, 2, none⟩) (by first | assumption | (simp; done) | (simp; omega) | (show _ < _; omega))).trans (by first | assumption | (simp [go_sem]; done) | (rw [World.cell?_alloc_past _ _ _ (by first | assumption | omega)]; first | assumption | (simp [go_sem]; done)) | (simp [go_sem, *]; done)); have g1 : w.heap.size + 1 < wn.heap.size := (by omega); have c10 : wn.cell? ⟨w.heap.size + 1, 0, none⟩ = some (.int .i64 (0)) := (hb.cell (p := ⟨w.heap.size + 1, 0, none⟩) (by first | assumption | (simp; done) | (simp; omega) | (show _ < _; omega))).trans (by first | assumption | (simp [go_sem]; done) | (rw [World.cell?_alloc_past _ _ _ (by first | assumption | omega)]; first | assumption | (simp [go_sem]; done)) | (simp [go_sem, *]; done)); have f10 : wn.frozen? ⟨w.heap.size + 1, 0, none⟩ = false := (hb.frozen (p := ⟨w.heap.size + 1, 0, none⟩) (by first | assumption | (simp; done) | (simp; omega) | (show _ < _; omega))).trans (by first | assumption | (simp [go_sem]; done) | (rw [World.frozen?_alloc_past _ _ _ (by first | assumption | omega)]; first | assumption | (simp [go_sem]; done)) | (simp [go_sem, *]; done)); have c11 : wn.cell? ⟨w.heap.size + 1, 1, none⟩ = some (.int .i64 (0)) := (hb.cell (p := ⟨w.heap.size + 1, 1, none⟩) (by first | assumption | (simp; done) | (simp; omega) | (show _ < _; omega))).trans (by first | assumption | (simp [go_sem]; done) | (rw [World.cell?_alloc_past _ _ _ (by first | assumption | omega)]; first | assumption | (simp [go_sem]; done)) | (simp [go_sem, *]; done)); have f11 : wn.frozen? ⟨w.heap.size + 1, 1, none⟩ = false := (hb.frozen (p := ⟨w.heap.size + 1, 1, none⟩) (by first | assumption | (simp; done) | (simp; omega) | (show _ < _; omega))).trans (by first | assumption | (simp [go_sem]; done) | (rw [World.frozen?_alloc_past _ _ _ (by first | assumption | omega)]; first | assumption | (simp [go_sem]; done)) | (simp [go_sem, *]; done)); (try (have q5 := Box.below (t := 5) (by assumption) hb; have q5' := q5; obtain ⟨q50, q51, q52, q53, q54⟩ := q5')); (try (have q6 := Box.below (t := 6) (by assumption) hb; have q6' := q6; obtain ⟨q60, q61, q62, q63, q64⟩ := q6')); (try (with_reducible have q5 := Box.freshDrew 5 48 hb; (try simp only [World.size_alloc, World.size_drew] at q5); have q5' := q5; obtain ⟨q50, q51, q52, q53, q54⟩ := q5')); (try (with_reducible have q6 := Box.fresh 6 48 hb; (try simp only [World.size_alloc, World.size_drew] at q6); have q6' := q6; obtain ⟨q60, q61, q62, q63, q64⟩ := q6'))))
    all_goals
      go_wp2_with fail
      go_meet
      rename_i hH
      refine ⟨_, rfl, ?_, ?_, ?_, ?_, ?_, hH.2.2.2.2⟩
    all_goals first | omega | (simp [go_sem]; done) | (simp [go_sem, *]; done) | (simp [go_sem]; omega) | exact (by repeat' first | with_reducible exact Below.refl _ _ | with_reducible assumption | with_reducible refine below_drewN ?_ _ | with_reducible refine balloc ?_ _ | with_reducible refine Below.drew ?_ | with_reducible refine Below.setCell ?_ (by first | (simp; done) | (simp; omega) | omega) _ | with_reducible refine bstep ?_ (by assumption))
  case rest =>
    obtain ⟨b, rfl, g0, z0, z1, hB, hne, g1, y0, y1, v0, v1⟩ := hcut
    rcases hD with ⟨hle, hlt⟩ | ⟨hle, hlt⟩
    · go_wp2_with fail
      refine bodyPost_ret (v := .tuple #[.agg #[.int .i64 p, .int .i64 (q - 1)], .bool true]) ?_ rfl ⟨by simp [hle], (by repeat' first | with_reducible exact Below.refl _ _ | with_reducible assumption | with_reducible refine below_drewN ?_ _ | with_reducible refine balloc ?_ _ | with_reducible refine Below.drew ?_ | with_reducible refine Below.setCell ?_ (by first | (simp; done) | (simp; omega) | omega) _ | with_reducible refine bstep ?_ (by assumption))⟩
      simp [results, Try.results66, go_sem, *]
    · go_wp2_with fail
      refine bodyPost_ret (v := .tuple #[.agg #[.int .i64 0, .int .i64 0], .bool false]) ?_ rfl ⟨by simp [hle], (by repeat' first | with_reducible exact Below.refl _ _ | with_reducible assumption | with_reducible refine below_drewN ?_ _ | with_reducible refine balloc ?_ _ | with_reducible refine Below.drew ?_ | with_reducible refine Below.setCell ?_ (by first | (simp; done) | (simp; omega) | omega) _ | with_reducible refine bstep ?_ (by assumption))⟩
      simp [results, Try.results66, go_sem, *]

set_option maxHeartbeats 1600000 in
theorem gcell_8 (lo hi c p q : Int) (f : Int → Int) (w : World) (h0 : 0 ≤ c) (h1 : c < 256) (q1 : -4000000 ≤ q) (q2 : q ≤ 4000000) (hp : f c = p) (hq : f (c + 1) = q)
    (FR : Hid (∀ (i : Int) (w : World), 0 ≤ i → i ≤ 256 → Calls Try.prog 74 #[.agg #[.int .i64 lo, .int .i64 hi, .int .u64 8], .int .i64 i] w fun e w' => e = .returned (.int .i64 (f i)) ∧ Below w.heap.size w w')) :
    Calls Try.prog 66 #[.agg #[.int .i64 lo, .int .i64 hi, .int .u64 8], .int .i64 c] w fun e w' => e = .returned (.tuple #[if p ≤ q - 1 then .agg #[.int .i64 p, .int .i64 (q - 1)] else .agg #[.int .i64 0, .int .i64 0], .bool (decide (p ≤ q - 1))]) ∧ Below w.heap.size w w' := by
  have ww : IntKind.i64.wrap (q - 1) = q - 1 := wrapIn _ (by omega) (by omega)
  have wc : IntKind.i64.wrap (c + 1) = c + 1 := wrapIn _ (by omega) (by omega)
  have wb0 : 0 ≤ IntKind.i64.wrap (c + 1) := by omega
  have wb1 : IntKind.i64.wrap (c + 1) ≤ 256 := by omega
  have hD : (p ≤ q - 1 ∧ ¬ q - 1 < p) ∨ (¬ p ≤ q - 1 ∧ q - 1 < p) := by omega
  go_enter Try.func66, Try.ntmps66
  go_upto_region 3 with fail
  go_cut [6] (fun s wx => ∃ b, s = .pointer (some ⟨b, 0, none⟩) ∧ b < wx.heap.size ∧ wx.cell? ⟨b, 0, none⟩ = some (.int .i64 p) ∧ wx.cell? ⟨b, 1, none⟩ = some (.int .i64 (q - 1)) ∧ Below w.heap.size w wx ∧ b ≠ w.heap.size + 1 ∧ w.heap.size + 1 < wx.heap.size ∧ wx.cell? ⟨w.heap.size + 1, 0, none⟩ = some (.int .i64 0) ∧ wx.cell? ⟨w.heap.size + 1, 1, none⟩ = some (.int .i64 0) ∧ wx.frozen? ⟨w.heap.size + 1, 0, none⟩ = false ∧ wx.frozen? ⟨w.heap.size + 1, 1, none⟩ = false)
  case first =>
    go_region_held3 (fun w' => w.heap.size < w'.heap.size ∧ w'.cell? ⟨w.heap.size, 0, none⟩ = some (.int .i64 lo) ∧ w'.cell? ⟨w.heap.size, 1, none⟩ = some (.int .i64 hi) ∧ w'.cell? ⟨w.heap.size, 2, none⟩ = some (.int .u64 8) ∧ w.heap.size + 1 < w'.heap.size ∧ w'.cell? ⟨w.heap.size + 1, 0, none⟩ = some (.int .i64 0) ∧ w'.cell? ⟨w.heap.size + 1, 1, none⟩ = some (.int .i64 0) ∧ w'.frozen? ⟨w.heap.size + 1, 0, none⟩ = false ∧ w'.frozen? ⟨w.heap.size + 1, 1, none⟩ = false) ((repeat' apply And.intro) <;> first | assumption | (simp [go_sem]; done) | (rw [World.frozen?_alloc_past _ _ _ (by omega)]; assumption) | (simp [go_sem]; omega) | (go_keep; done)) ((go_at_call 74; refine (FR.out _ _ (by omega) (by omega)).mono ?_; rintro e wn ⟨rfl, hb⟩; have hz := hb.size; (try simp at hz); have g0 : w.heap.size < wn.heap.size := (by omega); have c00 : wn.cell? ⟨w.heap.size, 0, none⟩ = some (.int .i64 lo) := (hb.cell (p := ⟨w.heap.size, 0, none⟩) (by first | assumption | (simp; done) | (simp; omega) | (show _ < _; omega))).trans (by first | assumption | (simp [go_sem]; done) | (rw [World.cell?_alloc_past _ _ _ (by first | assumption | omega)]; first | assumption | (simp [go_sem]; done)) | (simp [go_sem, *]; done)); have c01 : wn.cell? ⟨w.heap.size, 1, none⟩ = some (.int .i64 hi) := (hb.cell (p := ⟨w.heap.size, 1, none⟩) (by first | assumption | (simp; done) | (simp; omega) | (show _ < _; omega))).trans (by first | assumption | (simp [go_sem]; done) | (rw [World.cell?_alloc_past _ _ _ (by first | assumption | omega)]; first | assumption | (simp [go_sem]; done)) | (simp [go_sem, *]; done)); have c02 : wn.cell? ⟨w.heap.size, 2, none⟩ = some (.int .u64 8) := (hb.cell (p := ⟨w.heap.size, 2, none⟩) (by first | assumption | (simp; done) | (simp; omega) | (show _ < _; omega))).trans (by first | assumption | (simp [go_sem]; done) | (rw [World.cell?_alloc_past _ _ _ (by first | assumption | omega)]; first | assumption | (simp [go_sem]; done)) | (simp [go_sem, *]; done)); have g1 : w.heap.size + 1 < wn.heap.size := (by omega); have c10 : wn.cell? ⟨w.heap.size + 1, 0, none⟩ = some (.int .i64 (0)) := (hb.cell (p := ⟨w.heap.size + 1, 0, none⟩) (by first | assumption | (simp; done) | (simp; omega) | (show _ < _; omega))).trans (by first | assumption | (simp [go_sem]; done) | (rw [World.cell?_alloc_past _ _ _ (by first | assumption | omega)]; first | assumption | (simp [go_sem]; done)) | (simp [go_sem, *]; done)); have f10 : wn.frozen? ⟨w.heap.size + 1, 0, none⟩ = false := (hb.frozen (p := ⟨w.heap.size + 1, 0, none⟩) (by first | assumption | (simp; done) | (simp; omega) | (show _ < _; omega))).trans (by first | assumption | (simp [go_sem]; done) | (rw [World.frozen?_alloc_past _ _ _ (by first | assumption | omega)]; first | assumption | (simp [go_sem]; done)) | (simp [go_sem, *]; done)); have c11 : wn.cell? ⟨w.heap.size + 1, 1, none⟩ = some (.int .i64 (0)) := (hb.cell (p := ⟨w.heap.size + 1, 1, none⟩) (by first | assumption | (simp; done) | (simp; omega) | (show _ < _; omega))).trans (by first | assumption | (simp [go_sem]; done) | (rw [World.cell?_alloc_past _ _ _ (by first | assumption | omega)]; first | assumption | (simp [go_sem]; done)) | (simp [go_sem, *]; done)); have f11 : wn.frozen? ⟨w.heap.size + 1, 1, none⟩ = false := (hb.frozen (p := ⟨w.heap.size + 1, 1, none⟩) (by first | assumption | (simp; done) | (simp; omega) | (show _ < _; omega))).trans (by first | assumption | (simp [go_sem]; done) | (rw [World.frozen?_alloc_past _ _ _ (by first | assumption | omega)]; first | assumption | (simp [go_sem]; done)) | (simp [go_sem, *]; done)); (try (have q5 := Box.below (t := 5) (by assumption) hb; have q5' := q5; obtain ⟨q50, q51, q52, q53, q54⟩ := q5')); (try (have q6 := Box.below (t := 6) (by assumption) hb; have q6' := q6; obtain ⟨q60, q61, q62, q63, q64⟩ := q6')); (try (with_reducible have q5 := Box.freshDrew 5 48 hb; (try simp only [World.size_alloc, World.size_drew] at q5); have q5' := q5; obtain ⟨q50, q51, q52, q53, q54⟩ := q5')); (try (with_reducible have q6 := Box.fresh 6 48 hb; (try simp only [World.size_alloc, World.size_drew] at q6); have q6' := q6; obtain ⟨q60, q61, q62, q63, q64⟩ := q6'))))
    all_goals
      go_wp2_with fail
      go_meet
      rename_i hH
      refine ⟨_, rfl, ?_, ?_, ?_, ?_, ?_, hH.2.2.2.2⟩
    all_goals first | omega | (simp [go_sem]; done) | (simp [go_sem, *]; done) | (simp [go_sem]; omega) | exact (by repeat' first | with_reducible exact Below.refl _ _ | with_reducible assumption | with_reducible refine below_drewN ?_ _ | with_reducible refine balloc ?_ _ | with_reducible refine Below.drew ?_ | with_reducible refine Below.setCell ?_ (by first | (simp; done) | (simp; omega) | omega) _ | with_reducible refine bstep ?_ (by assumption))
  case rest =>
    obtain ⟨b, rfl, g0, z0, z1, hB, hne, g1, y0, y1, v0, v1⟩ := hcut
    rcases hD with ⟨hle, hlt⟩ | ⟨hle, hlt⟩
    · go_wp2_with fail
      refine bodyPost_ret (v := .tuple #[.agg #[.int .i64 p, .int .i64 (q - 1)], .bool true]) ?_ rfl ⟨by simp [hle], (by repeat' first | with_reducible exact Below.refl _ _ | with_reducible assumption | with_reducible refine below_drewN ?_ _ | with_reducible refine balloc ?_ _ | with_reducible refine Below.drew ?_ | with_reducible refine Below.setCell ?_ (by first | (simp; done) | (simp; omega) | omega) _ | with_reducible refine bstep ?_ (by assumption))⟩
      simp [results, Try.results66, go_sem, *]
    · go_wp2_with fail
      refine bodyPost_ret (v := .tuple #[.agg #[.int .i64 0, .int .i64 0], .bool false]) ?_ rfl ⟨by simp [hle], (by repeat' first | with_reducible exact Below.refl _ _ | with_reducible assumption | with_reducible refine below_drewN ?_ _ | with_reducible refine balloc ?_ _ | with_reducible refine Below.drew ?_ | with_reducible refine Below.setCell ?_ (by first | (simp; done) | (simp; omega) | omega) _ | with_reducible refine bstep ?_ (by assumption))⟩
      simp [results, Try.results66, go_sem, *]

set_option maxHeartbeats 800000 in
theorem gcell_any (lo hi t c : Int) (w : World) (hr : rightB lo hi = true) (ht : tierB t = true) (hc : (0 ≤ c ∧ c < cellsN t) ∨ c < 0 ∨ cellsN t ≤ c) :
    Calls Try.prog 66 #[gridV lo hi t, .int .i64 c] w fun e w' => e = .returned (.tuple #[if inCell lo hi t c then .agg #[.int .i64 (fromN lo hi (cellsN t) c), .int .i64 (fromN lo hi (cellsN t) (c + 1) - 1)] else .agg #[.int .i64 0, .int .i64 0], .bool (inCell lo hi t c)]) ∧ Below w.heap.size w w' := by
  obtain ⟨a1, a2, a3, a4, a5⟩ := right_nums hr
  have hN : cellsN t = 2 ∧ bitsN t = 1 ∨ cellsN t = 16 ∧ bitsN t = 4 ∨ cellsN t = 256 ∧ bitsN t = 8 := by rcases tier_cases ht with rfl | rfl | rfl <;> decide
  by_cases hin : 0 ≤ c ∧ c < cellsN t
  · obtain ⟨h0, h1⟩ := hin
    have FR := hide (fun i w h0 h1 => begin_any lo hi t i w hr ht h0 h1)
    obtain ⟨b1, b2⟩ := from_bounds lo hi (cellsN t) c (by omega) (by omega) (by omega) a5
    obtain ⟨b3, b4⟩ := from_bounds lo hi (cellsN t) (c + 1) (by omega) (by omega) (by omega) a5
    unfold inCell
    rw [decide_eq_true h0, decide_eq_true h1]
    simp only [Bool.and_true, Bool.and_false, Bool.true_and, Bool.false_and, decide_eq_true_eq]
    unfold gridV at FR ⊢
    rcases hN with ⟨e1, e2⟩ | ⟨e1, e2⟩ | ⟨e1, e2⟩
    all_goals rw [e1, e2] at FR; rw [e1] at h1 b3 b4; rw [e1, e2]
    · exact gcell_1 lo hi c _ _ _ w h0 h1 (by omega) (by omega) rfl rfl FR
    · exact gcell_4 lo hi c _ _ _ w h0 h1 (by omega) (by omega) rfl rfl FR
    · exact gcell_8 lo hi c _ _ _ w h0 h1 (by omega) (by omega) rfl rfl FR
  · have hz : inCell lo hi t c = false := by
      unfold inCell
      by_cases q0 : 0 ≤ c
      · rw [decide_eq_true q0, decide_eq_false (show ¬ c < cellsN t by omega)]; rfl
      · rw [decide_eq_false q0]; rfl
    rw [hz]
    simp only [if_false, Bool.false_eq_true]
    unfold gridV
    generalize cellsN t = N at hN hin ⊢
    generalize bitsN t = B at hN ⊢
    by_cases q0 : c < 0
    · rcases hN with ⟨rfl, rfl⟩ | ⟨rfl, rfl⟩ | ⟨rfl, rfl⟩
      all_goals
        go_enter Try.func66, Try.ntmps66
        go_wp2_with fail
        refine bodyPost_ret (v := .tuple #[.agg #[.int .i64 0, .int .i64 0], .bool false]) ?_ rfl ⟨rfl, (by repeat' first | with_reducible exact Below.refl _ _ | with_reducible assumption | with_reducible refine below_drewN ?_ _ | with_reducible refine balloc ?_ _ | with_reducible refine Below.drew ?_ | with_reducible refine Below.setCell ?_ (by first | (simp; done) | (simp; omega) | omega) _ | with_reducible refine bstep ?_ (by assumption))⟩
        simp [results, Try.results66, go_sem]
    · have q1 : ¬ c < N := by omega
      rcases hN with ⟨rfl, rfl⟩ | ⟨rfl, rfl⟩ | ⟨rfl, rfl⟩
      all_goals
        go_enter Try.func66, Try.ntmps66
        go_wp2_with fail
        refine bodyPost_ret (v := .tuple #[.agg #[.int .i64 0, .int .i64 0], .bool false]) ?_ rfl ⟨rfl, (by repeat' first | with_reducible exact Below.refl _ _ | with_reducible assumption | with_reducible refine below_drewN ?_ _ | with_reducible refine balloc ?_ _ | with_reducible refine Below.drew ?_ | with_reducible refine Below.setCell ?_ (by first | (simp; done) | (simp; omega) | omega) _ | with_reducible refine bstep ?_ (by assumption))⟩
        simp [results, Try.results66, go_sem]
end Go.Proofs.Ythiklcldbjmgfaa
