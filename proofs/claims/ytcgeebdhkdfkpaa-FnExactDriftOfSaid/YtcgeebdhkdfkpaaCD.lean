/- Cells of the program: the grid, where its cells begin, and the code of a number, found by halving. -/
import Derived.Test.YtcgeebdhkdfkpaaCC
namespace Go.Proofs.Ytcgeebdhkdfkpaa
open Go.RowKit
set_option maxRecDepth 8000
set_option linter.unusedSimpArgs false
set_option linter.unusedVariables false

def gridV (lo hi t : Int) : Value := .agg #[.int .i64 lo, .int .i64 hi, .int .u64 (bitsN t)]

set_option maxHeartbeats 800000 in
theorem begin_any (lo hi t i : Int) (w : World) (hr : rightB lo hi = true) (ht : tierB t = true) (h0 : 0 ≤ i) (h1 : i ≤ 256) :
    Calls Try.prog 45 #[gridV lo hi t, .int .i64 i] w fun e w' => e = .returned (.int .i64 (fromN lo hi (cellsN t) i)) ∧ Below w.heap.size w w' := by
  obtain ⟨a1, a2, a3, a4, a5⟩ := right_nums hr
  obtain ⟨m0, m1⟩ := mul_bounds (s := hi - lo + 1) (i := i) (by omega) (by omega) h0 h1
  rcases tier_cases ht with rfl | rfl | rfl
  all_goals
    unfold gridV fromN
    simp only [show cellsN 1 = 2 from rfl, show cellsN 2 = 16 from rfl, show cellsN 3 = 256 from rfl, show bitsN 1 = 1 from rfl, show bitsN 2 = 4 from rfl, show bitsN 3 = 8 from rfl]
    clear hr ht
    go_enter Try.func45, Try.ntmps45
    go_wp2
    go_ret
    exact ⟨rfl, (by repeat' first | with_reducible exact Below.refl _ _ | with_reducible assumption | with_reducible refine below_drewN ?_ _ | with_reducible refine balloc ?_ _ | with_reducible refine Below.drew ?_ | with_reducible refine Below.setCell ?_ (by first | (simp; done) | (simp; omega) | omega) _ | with_reducible refine bstep ?_ (by assumption))⟩

/-- Block b holds three cells. -/
structure Three (w : World) (b : Nat) (x y z : Value) : Prop where
  lt : b < w.heap.size
  c0 : w.cell? ⟨b, 0, none⟩ = some x
  c1 : w.cell? ⟨b, 1, none⟩ = some y
  c2 : w.cell? ⟨b, 2, none⟩ = some z

theorem Three.below {w w' : World} {b : Nat} {x y z : Value} (h : Three w b x y z) (hb : Below w.heap.size w w') : Three w' b x y z :=
  ⟨Nat.lt_of_lt_of_le h.lt hb.size, (hb.cell (p := ⟨b, 0, none⟩) h.lt).trans h.c0, (hb.cell (p := ⟨b, 1, none⟩) h.lt).trans h.c1, (hb.cell (p := ⟨b, 2, none⟩) h.lt).trans h.c2⟩

theorem Three.new (w : World) (x y z : Value) (T : TypeId) : Three (w.alloc (.cells #[x, y, z] T)) w.heap.size x y z := ⟨by simp, by simp, by simp, by simp⟩

theorem Three.alloc {w : World} {b : Nat} {x y z : Value} (h : Three w b x y z) (o : Obj) : Three (w.alloc o) b x y z := h.below ((Below.refl _ _).alloc (Nat.le_refl _) o)

/-- The halves of 2, 16 or 256 that the search goes down by. -/
def HalfOk (h : Int) : Prop := h = 128 ∨ h = 64 ∨ h = 32 ∨ h = 16 ∨ h = 8 ∨ h = 4 ∨ h = 2 ∨ h = 1

theorem HalfOk.step {h k c : Int} (a : HalfOk h) (b : k ≤ c) (d : c < k + 2 * h) (e : k + 2 * h ≤ 256) (k' : Int) (hk : (k + h ≤ c ∧ k' = k + h) ∨ (c < k + h ∧ k' = k)) :
    (h / 2 = 0 ∧ k' = c) ∨ (HalfOk (h / 2) ∧ k' ≤ c ∧ c < k' + 2 * (h / 2) ∧ k' + 2 * (h / 2) ≤ 256) := by
  unfold HalfOk at *
  omega

set_option maxHeartbeats 1600000 in
theorem gcodeOf_any (lo hi t x : Int) (w : World) (hr : rightB lo hi = true) (ht : tierB t = true) (hx0 : lo ≤ x) (hx1 : x ≤ hi) :
    Calls Try.prog 43 #[gridV lo hi t, .int .i64 x] w fun e w' => e = .returned (.int .i64 (codeN lo hi (cellsN t) x)) ∧ Below w.heap.size w w' := by
  obtain ⟨a1, a2, a3, a4, a5⟩ := right_nums hr
  have FR := hide (fun i w h0 h1 => begin_any lo hi t i w hr ht h0 h1)
  have hN : cellsN t = 2 ∧ bitsN t = 1 ∨ cellsN t = 16 ∧ bitsN t = 4 ∨ cellsN t = 256 ∧ bitsN t = 8 := by rcases tier_cases ht with rfl | rfl | rfl <;> decide
  have F := hide (fun i => from_le lo hi (cellsN t) i x (by omega) a5)
  have c0 := code_nonneg lo hi (cellsN t) x (by omega) hx0 a5
  have c1 := code_lt lo hi (cellsN t) x (by omega) hx1 a5
  unfold gridV at FR ⊢
  generalize cellsN t = N at FR hN F c0 c1 ⊢
  generalize codeN lo hi N x = c at F c0 c1 ⊢
  generalize bitsN t = B at FR hN ⊢
  clear hr ht
  obtain ⟨B0, hBB⟩ : ∃ B0, B0 = B := ⟨_, rfl⟩
  rcases hN with ⟨rfl, rfl⟩ | ⟨rfl, rfl⟩ | ⟨rfl, rfl⟩
  all_goals
    go_enter Try.func43, Try.ntmps43
    go_wp2_with fail
    go_loopw [5, 6] (fun i j wr => ∃ k h : Int, i = .int .i64 k ∧ j = .int .i64 h ∧ 0 ≤ k ∧ ((h = 0 ∧ k = c) ∨ (HalfOk h ∧ k ≤ c ∧ c < k + 2 * h ∧ k + 2 * h ≤ 256)) ∧ Three wr w.heap.size (.int .i64 lo) (.int .i64 hi) (.int .u64 B0) ∧ Below w.heap.size w wr) (fun _ i _ => (intOf i).toNat)
    case atStart => exact ⟨0, _, rfl, rfl, by omega, .inr ⟨by unfold HalfOk; omega, by omega, by omega, by omega⟩, by subst hBB; exact Three.new _ _ _ _ _, (by repeat' first | with_reducible exact Below.refl _ _ | with_reducible assumption | with_reducible refine below_drewN ?_ _ | with_reducible refine balloc ?_ _ | with_reducible refine Below.drew ?_ | with_reducible refine Below.setCell ?_ (by first | (simp; done) | (simp; omega) | omega) _ | with_reducible refine bstep ?_ (by assumption))⟩
    case round =>
      obtain ⟨k, h, rfl, rfl, k0, hkh, T3, hB⟩ := hrel
      have HT := hide T3
      obtain ⟨t0, t1, t2, t3⟩ := T3
      rcases hkh with ⟨rfl, rfl⟩ | ⟨hO, k1, k2, k3⟩
      · go_wp2_with fail
        go_ret
        exact ⟨rfl, (by repeat' first | with_reducible exact Below.refl _ _ | with_reducible assumption | with_reducible refine below_drewN ?_ _ | with_reducible refine balloc ?_ _ | with_reducible refine Below.drew ?_ | with_reducible refine Below.setCell ?_ (by first | (simp; done) | (simp; omega) | omega) _ | with_reducible refine bstep ?_ (by assumption))⟩
      · have HO := hide hO
        have h01 : 0 < h := by unfold HalfOk at hO; omega
        have h128 : h ≤ 128 := by unfold HalfOk at hO; omega
        clear hO
        subst hBB
        go_wp2_with fail
        refine (FR.out (k + h) _ (by omega) (by omega)).mono ?_
        rintro e wn ⟨rfl, hb⟩
        have HT := hide (HT.out.below hb)
        have hf := F.out (k + h)
        by_cases hle : k + h ≤ c
        · have hf1 : fromN lo hi _ (k + h) ≤ x := hf.2 hle
          clear hf
          go_wp2_with fail
          go_roundw
          case rel => exact ⟨k + h, h / 2, by go_num, by go_num, by omega, HO.out.step k1 k2 k3 _ (.inl ⟨hle, rfl⟩), HT.out, (by repeat' first | with_reducible exact Below.refl _ _ | with_reducible assumption | with_reducible refine below_drewN ?_ _ | with_reducible refine balloc ?_ _ | with_reducible refine Below.drew ?_ | with_reducible refine Below.setCell ?_ (by first | (simp; done) | (simp; omega) | omega) _ | with_reducible refine bstep ?_ (by assumption))⟩
          case measure => simp [intOf]; omega
        · have hf1 : ¬ fromN lo hi _ (k + h) ≤ x := fun q => hle (hf.1 q)
          clear hf
          go_wp2_with fail
          go_roundw
          case rel => exact ⟨k, h / 2, by go_num, by go_num, by omega, HO.out.step k1 k2 k3 _ (.inr ⟨by omega, rfl⟩), HT.out, (by repeat' first | with_reducible exact Below.refl _ _ | with_reducible assumption | with_reducible refine below_drewN ?_ _ | with_reducible refine balloc ?_ _ | with_reducible refine Below.drew ?_ | with_reducible refine Below.setCell ?_ (by first | (simp; done) | (simp; omega) | omega) _ | with_reducible refine bstep ?_ (by assumption))⟩
          case measure => simp [intOf]; omega
end Go.Proofs.Ytcgeebdhkdfkpaa
