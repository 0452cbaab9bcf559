/- Cells of the program and of the model: what a cell has. -/
import Derived.Test.YtfbigielooemaaaCE
import Derived.Test.YtfbigielooemaaaWX
namespace Go.Proofs.Ytfbigielooemaaa
open Go.RowKit
set_option linter.unusedSimpArgs false
set_option linter.unusedVariables false

/-- Whether there is a cell c, and it has something. -/
def inCell (lo hi t c : Int) : Bool := decide (0 ≤ c) && decide (c < cellsN t) && decide (fromN lo hi (cellsN t) c ≤ fromN lo hi (cellsN t) (c + 1) - 1)

set_option maxHeartbeats 1600000 in
theorem gcell_1 (lo hi c p q : Int) (f : Int → Int) (w : World) (h0 : 0 ≤ c) (h1 : c < 2) (q1 : -4000000 ≤ q) (q2 : q ≤ 4000000) (hp : f c = p) (hq : f (c + 1) = q)
    (FR : Hid (∀ (i : Int) (w : World), 0 ≤ i → i ≤ 256 → Calls Try.prog 50 #[.agg #[.int .i64 lo, .int .i64 hi, .int .u64 1], .int .i64 i] w fun e w' => e = .returned (.int .i64 (f i)) ∧ Below w.heap.size w w')) :
    Calls Try.prog 40 #[.agg #[.int .i64 lo, .int .i64 hi, .int .u64 1], .int .i64 c] w fun e w' => e = .returned (.tuple #[if p ≤ q - 1 then .agg #[.int .i64 p, .int .i64 (q - 1)] else .agg #[.int .i64 0, .int .i64 0], .bool (decide (p ≤ q - 1))]) ∧ Below w.heap.size w w' := by
  have ww : IntKind.i64.wrap (q - 1) = q - 1 := wrapIn _ (by omega) (by omega)
  have wc : IntKind.i64.wrap (c + 1) = c + 1 := wrapIn _ (by omega) (by omega)
  have wb0 : 0 ≤ IntKind.i64.wrap (c + 1) := by omega
  have wb1 : IntKind.i64.wrap (c + 1) ≤ 256 := by omega
  have hD : (p ≤ q - 1 ∧ ¬ q - 1 < p) ∨ (¬ p ≤ q - 1 ∧ q - 1 < p) := by omega
  go_enter Try.func40, Try.ntmps40
  go_upto_region 3 with fail
  go_cut [6] (fun s wx => ∃ b, s = .pointer (some ⟨b, 0, none⟩) ∧ b < wx.heap.size ∧ wx.cell? ⟨b, 0, none⟩ = some (.int .i64 p) ∧ wx.cell? ⟨b, 1, none⟩ = some (.int .i64 (q - 1)) ∧ Below w.heap.size w wx ∧ b ≠ w.heap.size + 1 ∧ w.heap.size + 1 < wx.heap.size ∧ wx.cell? ⟨w.heap.size + 1, 0, none⟩ = some (.int .i64 0) ∧ wx.cell? ⟨w.heap.size + 1, 1, none⟩ = some (.int .i64 0) ∧ wx.frozen? ⟨w.heap.size + 1, 0, none⟩ = false ∧ wx.frozen? ⟨w.heap.size + 1, 1, none⟩ = false)
  case first =>
    go_region_held3 (fun w' => w.heap.size < w'.heap.size ∧ w'.cell? ⟨w.heap.size, 0, none⟩ = some (.int .i64 lo) ∧ w'.cell? ⟨w.heap.size, 1, none⟩ = some (.int .i64 hi) ∧ w'.cell? ⟨w.heap.size, 2, none⟩ = some (.int .u64 1) ∧ w.heap.size + 1 < w'.heap.size ∧ w'.cell? ⟨w.heap.size + 1, 0, none⟩ = some (.int .i64 0) ∧ w'.cell? ⟨w.heap.size + 1, 1, none⟩ = some (.int .i64 0) ∧ w'.frozen? ⟨w.heap.size + 1, 0, none⟩ = false ∧ w'.frozen? ⟨w.heap.size + 1, 1, none⟩ = false) ((repeat' apply And.intro) <;> first | assumption | (simp [go_sem]; done) | (rw [World.frozen?_alloc_past _ _ _ (by omega)]; assumption) | (simp [go_sem]; omega) | (go_keep; done)) ((go_at_call 50; refine (FR.out _ _ (by omega) (by omega)).mono ?_; rintro e wn ⟨rfl, hb⟩; have hz := hb.size; (try simp at hz); have g0 : w.heap.size < wn.heap.size := (by omega); have c00 : wn.cell? ⟨w.heap.size, 0, none⟩ = some (.int .i64 lo) := (hb.cell (p := ⟨w.heap.size, 0, none⟩) (by first | assumption | (simp; done) | (simp; omega) | (show _ < _; omega))).trans (by first | assumption | (simp [go_sem]; done) | (rw [World.cell?_alloc_past _ _ _ (by first | assumption | omega)]; first | assumption | (simp [go_sem]; done)) | (simp [go_sem, *]; done)); have c01 : wn.cell? ⟨w.heap.size, 1, none⟩ = some (.int .i64 hi) := (hb.cell (p := ⟨w.heap.size, 1, none⟩) (by first | assumption | (simp; done) | (simp; omega) | (show _ < _; omega))).trans (by first | assumption | (simp [go_sem]; done) | (rw [World.cell?_alloc_past _ _ _ (by first | assumption | omega)]; first | assumption | (simp [go_sem]; done)) | (simp [go_sem, *]; done)); have c02 : wn.cell? ⟨w.heap.size, 2, none⟩ = some (.int .u64 1) := (hb.cell (p := ⟨w.heap.size, 2, none⟩) (by first | assumption | (simp; done) | (simp; omega) | (show _ < _; omega))).trans (by first | assumption | (simp [go_sem]; done) | (rw [World.cell?_alloc_past _ _ _ (by first | assumption | omega)]; first | assumption | (simp [go_sem]; done)) | (simp [go_sem, *]; done)); have g1 : w.heap.size + 1 < wn.heap.size := (by omega); have c10 : wn.cell? ⟨w.heap.size + 1, 0, none⟩ = some (.int .i64 (0)) := (hb.cell (p := ⟨w.heap.size + 1, 0, none⟩) (by first | assumption | (simp; done) | (simp; omega) | (show _ < _; omega))).trans (by first | assumption | (simp [go_sem]; done) | (rw [World.cell?_alloc_past _ _ _ (by first | assumption | omega)]; first | assumption | (simp [go_sem]; done)) | (simp [go_sem, *]; done)); have f10 : wn.frozen? ⟨w.heap.size + 1, 0, none⟩ = false := (hb.frozen (p := ⟨w.heap.size + 1, 0, none⟩) (by first | assumption | (simp; done) | (simp; omega) | (show _ < _; omega))).trans (by first | assumption | (simp [go_sem]; done) | (rw [World.frozen?_alloc_past _ _ _ (by first | assumption | omega)]; first | assumption | (simp [go_sem]; done)) | (simp [go_sem, *]; done)); have c11 : wn.cell? ⟨w.heap.size + 1, 1, none⟩ = some (.int .i64 (0)) := (hb.cell (p := ⟨w.heap.size + 1, 1, none⟩) (by first | assumption | (simp; done) | (simp; omega) | (show _ < _; omega))).trans (by first | assumption | (simp [go_sem]; done) | (rw [World.cell?_alloc_past _ _ _ (by first | assumption | omega)]; first | assumption | (simp [go_sem]; done)) | (simp [go_sem, *]; done)); have f11 : wn.frozen? ⟨w.heap.size + 1, 1, none⟩ = false := (hb.frozen (p := ⟨w.heap.size + 1, 1, none⟩) (by first | assumption | (simp; done) | (simp; omega) | (show _ < _; omega))).trans (by first | assumption | (simp [go_sem]; done) | (rw [World.frozen?_alloc_past _ _ _ (by first | assumption | omega)]; first | assumption | (simp [go_sem]; done)) | (simp [go_sem, *]; done)); (try (have q5 := Box.below (t := 5) (by assumption) hb; have q5' := q5; obtain ⟨q50, q51, q52, q53, q54⟩ := q5')); (try (have q6 := Box.below (t := 6) (by assumption) hb; have q6' := q6; obtain ⟨q60, q61, q62, q63, q64⟩ := q6')); (try (with_reducible have q5 := Box.freshDrew 5 44 hb; (try simp only [World.size_alloc, World.size_drew] at q5); have q5' := q5; obtain ⟨q50, q51, q52, q53, q54⟩ := q5')); (try (with_reducible have q6 := Box.fresh 6 44 hb; (try simp only [World.size_alloc, World.size_drew] at q6); have q6' := q6; obtain ⟨q60, q61, q62, q63, q64⟩ := q6'))))
    all_goals
      go_wp2_with fail
      go_meet
      rename_i hH
      refine ⟨_, rfl, ?_, ?_, ?_, ?_, ?_, hH.2.2.2.2⟩
    all_goals first | omega | (simp [go_sem]; done) | (simp [go_sem, *]; done) | (simp [go_sem]; omega) | exact (by repeat' first | with_reducible exact Below.refl _ _ | with_reducible assumption | with_reducible refine below_drewN ?_ _ | with_reducible refine balloc ?_ _ | with_reducible refine Below.drew ?_ | with_reducible refine Below.setCell ?_ (by first | (simp; done) | (simp; omega) | omega) _ | with_reducible refine bstep ?_ (by assumption))
  case rest =>
    obtain ⟨b, rfl, g0, z0, z1, hB, hne, g1, y0, y1, v0, v1⟩ := hcut
    rcases hD with ⟨hle, hlt⟩ | ⟨hle, hlt⟩
    · go_wp2_with fail
      refine bodyPost_ret (v := .tuple #[.agg #[.int .i64 p, .int .i64 (q - 1)], .bool true]) ?_ rfl ⟨by simp [hle], (by repeat' first | with_reducible exact Below.refl _ _ | with_reducible assumption | with_reducible refine below_drewN ?_ _ | with_reducible refine balloc ?_ _ | with_reducible refine Below.drew ?_ | with_reducible refine Below.setCell ?_ (by first | (simp; done) | (simp; omega) | omega) _ | with_reducible refine bstep ?_ (by assumption))⟩
      simp [results, Try.results40, go_sem, *]
    · go_wp2_with fail
      refine bodyPost_ret (v := .tuple #[.agg #[.int .i64 0, .int .i64 0], .bool false]) ?_ rfl ⟨by simp [hle], (by repeat' first | with_reducible exact Below.refl _ _ | with_reducible assumption | with_reducible refine below_drewN ?_ _ | with_reducible refine balloc ?_ _ | with_reducible refine Below.drew ?_ | with_reducible refine Below.setCell ?_ (by first | (simp; done) | (simp; omega) | omega) _ | with_reducible refine bstep ?_ (by assumption))⟩
      simp [results, Try.results40, go_sem, *]

set_option maxHeartbeats 1600000 in
theorem gcell_4 (lo hi c p q : Int) (f : Int → Int) (w : World) (h0 : 0 ≤ c) (h1 : c < 16) (q1 : -4000000 ≤ q) (q2 : q ≤ 4000000) (hp : f c = p) (hq : f (c + 1) = q)
    (FR : Hid (∀ (i : Int) (w : World), 0 ≤ i → i ≤ 256 → Calls Try.prog 50 #[.agg #[.int .i64 lo, .int .i64 hi, .int .u64 4], .int .i64 i] w fun e w' => e = .returned (.int .i64 (f i)) ∧ Below w.heap.size w w')) :
    Calls Try.prog 40 #[.agg #[.int .i64 lo, .int .i64 hi, .int .u64 4], .int .i64 c] w fun e w' => e = .returned (.tuple #[if p ≤ q - 1 then .agg #[.int .i64 p, .int .i64 (q - 1)] else .agg #[.int .i64 0, .int .i64 0], .bool (decide (p ≤ q - 1))]) ∧ Below w.heap.size w w' := by
  have ww : IntKind.i64.wrap (q - 1) = q - 1 := wrapIn _ (by omega) (by omega)
  have wc : IntKind.i64.wrap (c + 1) = c + 1 := wrapIn _ (by omega) (by omega)
  have wb0 : 0 ≤ IntKind.i64.wrap (c + 1) := by omega
  have wb1 : IntKind.i64.wrap (c + 1) ≤ 256 := by omega
  have hD : (p ≤ q - 1 ∧ ¬ q - 1 < p) ∨ (¬ p ≤ q - 1 ∧ q - 1 < p) := by omega
  go_enter Try.func40, Try.ntmps40
  go_upto_region 3 with fail
  go_cut [6] (fun s wx => ∃ b, s = .pointer (some ⟨b, 0, none⟩) ∧ b < wx.heap.size ∧ wx.cell? ⟨b, 0, none⟩ = some (.int .i64 p) ∧ wx.cell? ⟨b, 1, none⟩ = some (.int .i64 (q - 1)) ∧ Below w.heap.size w wx ∧ b ≠ w.heap.size + 1 ∧ w.heap.size + 1 < wx.heap.size ∧ wx.cell? ⟨w.heap.size + 1, 0, none⟩ = some (.int .i64 0) ∧ wx.cell? ⟨w.heap.size + 1, 1, none⟩ = some (.int .i64 0) ∧ wx.frozen? ⟨w.heap.size + 1, 0, none⟩ = false ∧ wx.frozen? ⟨w.heap.size + 1, 1, none⟩ = false)
  case first =>
    go_region_held3 (fun w' => w.heap.size < w'.heap.size ∧ w'.cell? ⟨w.heap.size, 0, none⟩ = some (.int .i64 lo) ∧ w'.cell? ⟨w.heap.size, 1, none⟩ = some (.int .i64 hi) ∧ w'.cell? ⟨w.heap.size, 2, none⟩ = some (.int .u64 4) ∧ w.heap.size + 1 < w'.heap.size ∧ w'.cell? ⟨w.heap.size + 1, 0, none⟩ = some (.int .i64 0) ∧ w'.cell? ⟨w.heap.size + 1, 1, none⟩ = some (.int .i64 0) ∧ w'.frozen? ⟨w.heap.size + 1, 0, none⟩ = false ∧ w'.frozen? ⟨w.heap.size + 1, 1, none⟩ = false) ((repeat' apply And.intro) <;> first | assumption | (simp [go_sem]; done) | (rw [World.frozen?_alloc_past _ _ _ (by omega)]; assumption) | (simp [go_sem]; omega) | (go_keep; done)) ((go_at_call 50; refine (FR.out _ _ (by omega) (by omega)).mono ?_; rintro e wn ⟨rfl, hb⟩; have hz := hb.size; (try simp at hz); have g0 : w.heap.size < wn.heap.size := (by omega); have c00 : wn.cell? ⟨w.heap.size, 0, none⟩ = some (.int .i64 lo) := (hb.cell (p := ⟨w.heap.size, 0, none⟩) (by first | assumption | (simp; done) | (simp; omega) | (show _ < _; omega))).trans (by first | assumption | (simp [go_sem]; done) | (rw [World.cell?_alloc_past _ _ _ (by first | assumption | omega)]; first | assumption | (simp [go_sem]; done)) | (simp [go_sem, *]; done)); have c01 : wn.cell? ⟨w.heap.size, 1, none⟩ = some (.int .i64 hi) := (hb.cell (p := ⟨w.heap.size, 1, none⟩) (by first | assumption | (simp; done) | (simp; omega) | (show _ < _; omega))).trans (by first | assumption | (simp [go_sem]; done) | (rw [World.cell?_alloc_past _ _ _ (by first | assumption | omega)]; first | assumption | (simp [go_sem]; done)) | (simp [go_sem, *]; done)); have c02 : wn.cell? ⟨w.heap.size, 2, none⟩ = some (.int .u64 4) := (hb.cell (p := ⟨w.heap.size, 2, none⟩) (by first | assumption | (simp; done) | (simp; omega) | (show _ < _; omega))).trans (by first | assumption | (simp [go_sem]; done) | (rw [World.cell?_alloc_past _ _ _ (by first | assumption | omega)]; first | assumption | (simp [go_sem]; done)) | (simp [go_sem, *]; done)); have g1 : w.heap.size + 1 < wn.heap.size := (by omega); have c10 : wn.cell? ⟨w.heap.size + 1, 0, none⟩ = some (.int .i64 (0)) := (hb.cell (p := ⟨w.heap.size + 1, 0, none⟩) (by first | assumption | (simp; done) | (simp; omega) | (show _ < _; omega))).trans (by first | assumption | (simp [go_sem]; done) | (rw [World.cell?_alloc_past _ _ _ (by first | assumption | omega)]; first | assumption | (simp [go_sem]; done)) | (simp [go_sem, *]; done)); have f10 : wn.frozen? ⟨w.heap.size + 1, 0, none⟩ = false := (hb.frozen (p := ⟨w.heap.size + 1, 0, none⟩) (by first | assumption | (simp; done) | (simp; omega) | (show _ < _; omega))).trans (by first | assumption | (simp [go_sem]; done) | (rw [World.frozen?_alloc_past _ _ _ (by first | assumption | omega)]; first | assumption | (simp [go_sem]; done)) | (simp [go_sem, *]; done)); have c11 : wn.cell? ⟨w.heap.size + 1, 1, none⟩ = some (.int .i64 (0)) := (hb.cell (p := ⟨w.heap.size + 1, 1, none⟩) (by first | assumption | (simp; done) | (simp; omega) | (show _ < _; omega))).trans (by first | assumption | (simp [go_sem]; done) | (rw [World.cell?_alloc_past _ _ _ (by first | assumption | omega)]; first | assumption | (simp [go_sem]; done)) | (simp [go_sem, *]; done)); have f11 : wn.frozen? ⟨w.heap.size + 1, 1, none⟩ = false := (hb.frozen (p := ⟨w.heap.size + 1, 1, none⟩) (by first | assumption | (simp; done) | (simp; omega) | (show _ < _; omega))).trans (by first | assumption | (simp [go_sem]; done) | (rw [World.frozen?_alloc_past _ _ _ (by first | assumption | omega)]; first | assumption | (simp [go_sem]; done)) | (simp [go_sem, *]; done)); (try (have q5 := Box.below (t := 5) (by assumption) hb; have q5' := q5; obtain ⟨q50, q51, q52, q53, q54⟩ := q5')); (try (have q6 := Box.below (t := 6) (by assumption) hb; have q6' := q6; obtain ⟨q60, q61, q62, q63, q64⟩ := q6')); (try (with_reducible have q5 := Box.freshDrew 5 44 hb; (try simp only [World.size_alloc, World.size_drew] at q5); have q5' := q5; obtain ⟨q50, q51, q52, q53, q54⟩ := q5')); (try (with_reducible have q6 := Box.fresh 6 44 hb; (try simp only [World.size_alloc, World.size_drew] at q6); have q6' := q6; obtain ⟨q60, q61, q62, q63, q64⟩ := q6'))))
    all_goals
      go_wp2_with fail
      go_meet
      rename_i hH
      refine ⟨_, rfl, ?_, ?_, ?_, ?_, ?_, hH.2.2.2.2⟩
    all_goals first | omega | (simp [go_sem]; done) | (simp [go_sem, *]; done) | (simp [go_sem]; omega) | exact (by repeat' first | with_reducible exact Below.refl _ _ | with_reducible assumption | with_reducible refine below_drewN ?_ _ | with_reducible refine balloc ?_ _ | with_reducible refine Below.drew ?_ | with_reducible refine Below.setCell ?_ (by first | (simp; done) | (simp; omega) | omega) _ | with_reducible refine bstep ?_ (by assumption))
  case rest =>
    obtain ⟨b, rfl, g0, z0, z1, hB, hne, g1, y0, y1, v0, v1⟩ := hcut
    rcases hD with ⟨hle, hlt⟩ | ⟨hle, hlt⟩
    · go_wp2_with fail
      refine bodyPost_ret (v := .tuple #[.agg #[.int .i64 p, .int .i64 (q - 1)], .bool true]) ?_ rfl ⟨by simp [hle], (by repeat' first | with_reducible exact Below.refl _ _ | with_reducible assumption | with_reducible refine below_drewN ?_ _ | with_reducible refine balloc ?_ _ | with_reducible refine Below.drew ?_ | with_reducible refine Below.setCell ?_ (by first | (simp; done) | (simp; omega) | omega) _ | with_reducible refine bstep ?_ (by assumption))⟩
      simp [results, Try.results40, go_sem, *]
    · go_wp2_with fail
      refine bodyPost_ret (v := .tuple #[.agg #[.int .i64 0, .int .i64 0], .bool false]) ?_ rfl ⟨by simp [hle], (by repeat' first | with_reducible exact Below.refl _ _ | with_reducible assumption | with_reducible refine below_drewN ?_ _ | with_reducible refine balloc ?_ _ | with_reducible refine Below.drew ?_ | with_reducible refine Below.setCell ?_ (by first | (simp; done) | (simp; omega) | omega) _ | with_reducible refine bstep ?_ (by assumption))⟩
      simp [results, Try.results40, go_sem, *]

set_option maxHeartbeats 1600000 in
theorem gcell_8 (lo hi c p q : Int) (f : Int → Int) (w : World) (h0 : 0 ≤ c) (h1 : c < 256) (q1 : -4000000 ≤ q) (q2 : q ≤ 4000000) (hp : f c = p) (hq : f (c + 1) = q)
    (FR : Hid (∀ (i : Int) (w : World), 0 ≤ i → i ≤ 256 → Calls Try.prog 50 #[.agg #[.int .i64 lo, .int .i64 hi, .int .u64 8], .int .i64 i] w fun e w' => e = .returned (.int .i64 (f i)) ∧ Below w.heap.size w w')) :
    Calls Try.prog 40 #[.agg #[.int .i64 lo, .int .i64 hi, .int .u64 8], .int .i64 c] w fun e w' => e = .returned (.tuple #[if p ≤ q - 1 then .agg #[.int .i64 p, .int .i64 (q - 1)] else .agg #[.int .i64 0, .int .i64 0], .bool (decide (p ≤ q - 1))]) ∧ Below w.heap.size w w' := by
  have ww : IntKind.i64.wrap (q - 1) = q - 1 := wrapIn _ (by omega) (by omega)
  have wc : IntKind.i64.wrap (c + 1) = c + 1 := wrapIn _ (by omega) (by omega)
  have wb0 : 0 ≤ IntKind.i64.wrap (c + 1) := by omega
  have wb1 : IntKind.i64.wrap (c + 1) ≤ 256 := by omega
  have hD : (p ≤ q - 1 ∧ ¬ q - 1 < p) ∨ (¬ p ≤ q - 1 ∧ q - 1 < p) := by omega
  go_enter Try.func40, Try.ntmps40
  go_upto_region 3 with fail
  go_cut [6] (fun s wx => ∃ b, s = .pointer (some ⟨b, 0, none⟩) ∧ b < wx.heap.size ∧ wx.cell? ⟨b, 0, none⟩ = some (.int .i64 p) ∧ wx.cell? ⟨b, 1, none⟩ = some (.int .i64 (q - 1)) ∧ Below w.heap.size w wx ∧ b ≠ w.heap.size + 1 ∧ w.heap.size + 1 < wx.heap.size ∧ wx.cell? ⟨w.heap.size + 1, 0, none⟩ = some (.int .i64 0) ∧ wx.cell? ⟨w.heap.size + 1, 1, none⟩ = some (.int .i64 0) ∧ wx.frozen? ⟨w.heap.size + 1, 0, none⟩ = false ∧ wx.frozen? ⟨w.heap.size + 1, 1, none⟩ = false)
  case first =>
    go_region_held3 (fun w' => w.heap.size < w'.heap.size ∧ w'.cell? ⟨w.heap.size, 0, none⟩ = some (.int .i64 lo) ∧ w'.cell? ⟨w.heap.size, 1, none⟩ = some (.int .i64 hi) ∧ w'.cell? ⟨w.heap.size, 2, none⟩ = some (.int .u64 8) ∧ w.heap.size + 1 < w'.heap.size ∧ w'.cell? ⟨w.heap.size + 1, 0, none⟩ = some (.int .i64 0) ∧ w'.cell? ⟨w.heap.size + 1, 1, none⟩ = some (.int .i64 0) ∧ w'.frozen? ⟨w.heap.size + 1, 0, none⟩ = false ∧ w'.frozen? ⟨w.heap.size + 1, 1, none⟩ = false) ((repeat' apply And.intro) <;> first | assumption | (simp [go_sem]; done) | (rw [World.frozen?_alloc_past _ _ _ (by omega)]; assumption) | (simp [go_sem]; omega) | (go_keep; done)) ((go_at_call 50; refine (FR.out _ _ (by omega) (by omega)).mono ?_; rintro e wn ⟨rfl, hb⟩; have hz := hb.size; (try simp at hz); have g0 : w.heap.size < wn.heap.size := (by omega); have c00 : wn.cell? ⟨w.heap.size, 0, none⟩ = some (.int .i64 lo) := (hb.cell (p := ⟨w.heap.size, 0, none⟩) (by first | assumption | (simp; done) | (simp; omega) | (show _ < _; omega))).trans (by first | assumption | (simp [go_sem]; done) | (rw [World.cell?_alloc_past _ _ _ (by first | assumption | omega)]; first | assumption | (simp [go_sem]; done)) | (simp [go_sem, *]; done)); have c01 : wn.cell? ⟨w.heap.size, 1, none⟩ = some (.int .i64 hi) := (hb.cell (p := ⟨w.heap.size, 1, none⟩) (by first | assumption | (simp; done) | (simp; omega) | (show _ < _; omega))).trans (by first | assumption | (simp [go_sem]; done) | (rw [World.cell?_alloc_past _ _ _ (by first | assumption | omega)]; first | assumption | (simp [go_sem]; done)) | (simp [go_sem, *]; done)); have c02 : wn.cell? ⟨w.heap.size, 2, none⟩ = some (.int .u64 8) := (hb.cell (p := ⟨w.heap.size, 2, none⟩) (by first | assumption | (simp; done) | (simp; omega) | (show _ < _; omega))).trans (by first | assumption | (simp [go_sem]; done) | (rw [World.cell?_alloc_past _ _ _ (by first | assumption | omega)]; first | assumption | (simp [go_sem]; done)) | (simp [go_sem, *]; done)); have g1 : w.heap.size + 1 < wn.heap.size := (by omega); have c10 : wn.cell? ⟨w.heap.size + 1, 0, none⟩ = some (.int .i64 (0)) := (hb.cell (p := ⟨w.heap.size + 1, 0, none⟩) (by first | assumption | (simp; done) | (simp; omega) | (show _ < _; omega))).trans (by first | assumption | (simp [go_sem]; done) | (rw [World.cell?_alloc_past _ _ _ (by first | assumption | omega)]; first | assumption | (simp [go_sem]; done)) | (simp [go_sem, *]; done)); have f10 : wn.frozen? ⟨w.heap.size + 1, 0, none⟩ = false := (hb.frozen (p := ⟨w.heap.size + 1, 0, none⟩) (by first | assumption | (simp; done) | (simp; omega) | (show _ < _; omega))).trans (by first | assumption | (simp [go_sem]; done) | (rw [World.frozen?_alloc_past _ _ _ (by first | assumption | omega)]; first | assumption | (simp [go_sem]; done)) | (simp [go_sem, *]; done)); have c11 : wn.cell? ⟨w.heap.size + 1, 1, none⟩ = some (.int .i64 (0)) := (hb.cell (p := ⟨w.heap.size + 1, 1, none⟩) (by first | assumption | (simp; done) | (simp; omega) | (show _ < _; omega))).trans (by first | assumption | (simp [go_sem]; done) | (rw [World.cell?_alloc_past _ _ _ (by first | assumption | omega)]; first | assumption | (simp [go_sem]; done)) | (simp [go_sem, *]; done)); have f11 : wn.frozen? ⟨w.heap.size + 1, 1, none⟩ = false := (hb.frozen (p := ⟨w.heap.size + 1, 1, none⟩) (by first | assumption | (simp; done) | (simp; omega) | (show _ < _; omega))).trans (by first | assumption | (simp [go_sem]; done) | (rw [World.frozen?_alloc_past _ _ _ (by first | assumption | omega)]; first | assumption | (simp [go_sem]; done)) | (simp [go_sem, *]; done)); (try (have q5 := Box.below (t := 5) (by assumption) hb; have q5' := q5; obtain ⟨q50, q51, q52, q53, q54⟩ := q5')); (try (have q6 := Box.below (t := 6) (by assumption) hb; have q6' := q6; obtain ⟨q60, q61, q62, q63, q64⟩ := q6')); (try (with_reducible have q5 := Box.freshDrew 5 44 hb; (try simp only [World.size_alloc, World.size_drew] at q5); have q5' := q5; obtain ⟨q50, q51, q52, q53, q54⟩ := q5')); (try (with_reducible have q6 := Box.fresh 6 44 hb; (try simp only [World.size_alloc, World.size_drew] at q6); have q6' := q6; obtain ⟨q60, q61, q62, q63, q64⟩ := q6'))))
    all_goals
      go_wp2_with fail
      go_meet
      rename_i hH
      refine ⟨_, rfl, ?_, ?_, ?_, ?_, ?_, hH.2.2.2.2⟩
    all_goals first | omega | (simp [go_sem]; done) | (simp [go_sem, *]; done) | (simp [go_sem]; omega) | exact (by repeat' first | with_reducible exact Below.refl _ _ | with_reducible assumption | with_reducible refine below_drewN ?_ _ | with_reducible refine balloc ?_ _ | with_reducible refine Below.drew ?_ | with_reducible refine Below.setCell ?_ (by first | (simp; done) | (simp; omega) | omega) _ | with_reducible refine bstep ?_ (by assumption))
  case rest =>
    obtain ⟨b, rfl, g0, z0, z1, hB, hne, g1, y0, y1, v0, v1⟩ := hcut
    rcases hD with ⟨hle, hlt⟩ | ⟨hle, hlt⟩
    · go_wp2_with fail
      refine bodyPost_ret (v := .tuple #[.agg #[.int .i64 p, .int .i64 (q - 1)], .bool true]) ?_ rfl ⟨by simp [hle], (by repeat' first | with_reducible exact Below.refl _ _ | with_reducible assumption | with_reducible refine below_drewN ?_ _ | with_reducible refine balloc ?_ _ | with_reducible refine Below.drew ?_ | with_reducible refine Below.setCell ?_ (by first | (simp; done) | (simp; omega) | omega) _ | with_reducible refine bstep ?_ (by assumption))⟩
      simp [results, Try.results40, go_sem, *]
    · go_wp2_with fail
      refine bodyPost_ret (v := .tuple #[.agg #[.int .i64 0, .int .i64 0], .bool false]) ?_ rfl ⟨by simp [hle], (by repeat' first | with_reducible exact Below.refl _ _ | with_reducible assumption | with_reducible refine below_drewN ?_ _ | with_reducible refine balloc ?_ _ | with_reducible refine Below.drew ?_ | with_reducible refine Below.setCell ?_ (by first | (simp; done) | (simp; omega) | omega) _ | with_reducible refine bstep ?_ (by assumption))⟩
      simp [results, Try.results40, go_sem, *]

set_option maxHeartbeats 800000 in
theorem gcell_any (lo hi t c : Int) (w : World) (hr : rightB lo hi = true) (ht : tierB t = true) (hc : (0 ≤ c ∧ c < cellsN t) ∨ c < 0 ∨ cellsN t ≤ c) :
    Calls Try.prog 40 #[gridV lo hi t, .int .i64 c] w fun e w' => e = .returned (.tuple #[if inCell lo hi t c then .agg #[.int .i64 (fromN lo hi (cellsN t) c), .int .i64 (fromN lo hi (cellsN t) (c + 1) - 1)] else .agg #[.int .i64 0, .int .i64 0], .bool (inCell lo hi t c)]) ∧ Below w.heap.size w w' := by
  obtain ⟨a1, a2, a3, a4, a5⟩ := right_nums hr
  have hN : cellsN t = 2 ∧ bitsN t = 1 ∨ cellsN t = 16 ∧ bitsN t = 4 ∨ cellsN t = 256 ∧ bitsN t = 8 := by rcases tier_cases ht with rfl | rfl | rfl <;> decide
  by_cases hin : 0 ≤ c ∧ c < cellsN t
  · obtain ⟨h0, h1⟩ := hin
    have FR := hide (fun i w h0 h1 => begin_any lo hi t i w hr ht h0 h1)
    obtain ⟨b1, b2⟩ := from_bounds lo hi (cellsN t) c (by omega) (by omega) (by omega) a5
    obtain ⟨b3, b4⟩ := from_bounds lo hi (cellsN t) (c + 1) (by omega) (by omega) (by omega) a5
    unfold inCell
    rw [decide_eq_true h0, decide_eq_true h1]
    simp only [Bool.and_true, Bool.and_false, Bool.true_and, Bool.false_and, decide_eq_true_eq]
    unfold gridV at FR ⊢
    rcases hN with ⟨e1, e2⟩ | ⟨e1, e2⟩ | ⟨e1, e2⟩
    all_goals rw [e1, e2] at FR; rw [e1] at h1 b3 b4; rw [e1, e2]
    · exact gcell_1 lo hi c _ _ _ w h0 h1 (by omega) (by omega) rfl rfl FR
    · exact gcell_4 lo hi c _ _ _ w h0 h1 (by omega) (by omega) rfl rfl FR
    · exact gcell_8 lo hi c _ _ _ w h0 h1 (by omega) (by omega) rfl rfl FR
  · have hz : inCell lo hi t c = false := by
      unfold inCell
      by_cases q0 : 0 ≤ c
      · rw [decide_eq_true q0, decide_eq_false (show ¬ c < cellsN t by omega)]; rfl
      · rw [decide_eq_false q0]; rfl
    rw [hz]
    simp only [if_false, Bool.false_eq_true]
    unfold gridV
    generalize cellsN t = N at hN hin ⊢
    generalize bitsN t = B at hN ⊢
    by_cases q0 : c < 0
    · rcases hN with ⟨rfl, rfl⟩ | ⟨rfl, rfl⟩ | ⟨rfl, rfl⟩
      all_goals
        go_enter Try.func40, Try.ntmps40
        go_wp2_with fail
        refine bodyPost_ret (v := .tuple #[.agg #[.int .i64 0, .int .i64 0], .bool false]) ?_ rfl ⟨rfl, (by repeat' first | with_reducible exact Below.refl _ _ | with_reducible assumption | with_reducible refine below_drewN ?_ _ | with_reducible refine balloc ?_ _ | with_reducible refine Below.drew ?_ | with_reducible refine Below.setCell ?_ (by first | (simp; done) | (simp; omega) | omega) _ | with_reducible refine bstep ?_ (by assumption))⟩
        simp [results, Try.results40, go_sem]
    · have q1 : ¬ c < N := by omega
      rcases hN with ⟨rfl, rfl⟩ | ⟨rfl, rfl⟩ | ⟨rfl, rfl⟩
      all_goals
        go_enter Try.func40, Try.ntmps40
        go_wp2_with fail
        refine bodyPost_ret (v := .tuple #[.agg #[.int .i64 0, .int .i64 0], .bool false]) ?_ rfl ⟨rfl, (by repeat' first | with_reducible exact Below.refl _ _ | with_reducible assumption | with_reducible refine below_drewN ?_ _ | with_reducible refine balloc ?_ _ | with_reducible refine Below.drew ?_ | with_reducible refine Below.setCell ?_ (by first | (simp; done) | (simp; omega) | omega) _ | with_reducible refine bstep ?_ (by assumption))⟩
        simp [results, Try.results40, go_sem]
end Go.Proofs.Ytfbigielooemaaa
