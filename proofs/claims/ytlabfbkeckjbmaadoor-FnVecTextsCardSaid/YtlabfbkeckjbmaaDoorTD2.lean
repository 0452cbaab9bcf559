/- Drawn vectors and texts of vectors: DrawVecText, DrawReadVec. -/
import Derived.Test.YtlabfbkeckjbmaaDoorTD1
import Derived.Test.YtlabfbkeckjbmaaDoorDE
import Derived.Test.YtlabfbkeckjbmaaDoorDO
import Derived.Test.YtlabfbkeckjbmaaDoorSC4
namespace Go.Proofs.YtlabfbkeckjbmaaDoor
open Go.RowKit
set_option maxRecDepth 8000
set_option linter.unusedSimpArgs false
set_option linter.unusedVariables false

/-- A drawn list of numbers. -/
def DrawV (w : World) (e : Ending) (w' : World) : Prop :=
  ∃ a2 n2 c2 xs, e = .returned (.slice a2 n2 c2) ∧ Row w' a2 n2 xs ∧ n2 ≤ 200 ∧ Below w.heap.size w w'

set_option maxHeartbeats 2000000 in
theorem drawVecOk_any (a : Option Addr) (n c : Nat) (w : World) (h : Code w a n) :
    Calls Tryd.prog 19 #[.slice a n c] w fun e w' => DrawV w e w' := by
  have O := hide (open_any a n c w h)
  clear h
  go_enter Tryd.func19, Tryd.ntmps19
  go_wp2_with fail
  refine O.out.mono ?_
  rintro e w1 ⟨rfl, hr1, hb1, hs1⟩
  go_wp2_with fail
  refine (below_any _ _ n c a 8 w1 hr1 (by omega) (by omega)).mono ?_
  rintro e w2 ⟨v, rfl, v0, v1, hr2, hb2⟩
  obtain ⟨d, hd⟩ : ∃ d : Nat, 1 + v = (d : Int) := ⟨(1 + v).toNat, by omega⟩
  have s2 := hb2.size
  have rlt : w.heap.size < w2.heap.size := by omega
  have B2 := hb1.trans (hb2.below (Nat.le_refl _) (by omega))
  clear hr1 hb1 hb2 O
  go_wp2_with fail
  refine (vec_any _ _ n c a d w2 hr2 (by omega) (by omega)).mono ?_
  rintro e w5 ⟨v5, f5, rfl, ho5, hr5, hb5⟩
  obtain ⟨g5, c5, rfl, _, _⟩ := ho5.form (by omega)
  go_wp2_with fail
  refine (hurtVec_any _ _ n c a d c5 g5 f5 w2 w5 hr5 (by omega) (by omega) hb5 (by omega) (by omega) ho5).mono ?_
  rintro e w6 ⟨v6, d6, f6, rfl, hd6, ho6, hr6, hb6⟩
  obtain ⟨a6, c6, rfl, r6, _⟩ := row_of_owns ho6
  have FF : Hid (DrawV w (.returned (.slice a6 d6 c6)) w6) := hide ⟨a6, d6, c6, _, rfl, r6, hd6, B2.trans (hb6.below (Nat.le_refl _) (by omega))⟩
  clear ho5 hr5 hb5 ho6 hr6 hb6 B2
  go_wp2_with fail
  go_ret
  exact FF.out

set_option maxHeartbeats 1000000 in
theorem drawVecText_any (a : Option Addr) (n c : Nat) (w : World) (h : Code w a n) :
    Calls Tryd.prog 7 #[.slice a n c] w fun e w' => DrawV w e w' := by
  have O := hide (drawVecOk_any a n c w h)
  clear h
  go_enter Tryd.func7, Tryd.ntmps7
  go_wp2_with fail
  refine O.out.mono ?_
  rintro e w1 ⟨a2, n2, c2, xs, rfl, hr, hn, hb⟩
  go_wp2_with fail
  go_ret
  exact ⟨a2, n2, c2, xs, rfl, hr, hn, hb⟩

/-- A drawn text. -/
def DrawS (w : World) (e : Ending) (w' : World) : Prop := ∃ t : ByteArray, e = .returned (.string t) ∧ t.size ≤ 1000 ∧ Below w.heap.size w w'

theorem vecTB_len {xs : List Int} : (bs (vecTB xs)).size ≤ 176 := by
  rw [bs_size]
  unfold vecTB
  split
  · rename_i h
    obtain ⟨⟨n1, n8⟩, hm⟩ := vecOk_mem h
    have := vecT_len _ xs rfl hm
    omega
  · simp

theorem ten (v : Int) (h0 : 0 ≤ v) (h1 : v ≤ 9) : v = 0 ∨ v = 1 ∨ v = 2 ∨ v = 3 ∨ v = 4 ∨ v = 5 ∨ v = 6 ∨ v = 7 ∨ v = 8 ∨ v = 9 := by omega

set_option maxHeartbeats 4000000 in
set_option maxRecDepth 8000 in
theorem drawReadVec_any (a : Option Addr) (n c : Nat) (w : World) (h : Code w a n) :
    Calls Tryd.prog 9 #[.slice a n c] w fun e w' => DrawS w e w' := by
  have O := hide (open_any a n c w h)
  clear h
  go_enter Tryd.func9, Tryd.ntmps9
  go_wp2_with fail
  refine O.out.mono ?_
  rintro e w1 ⟨rfl, hr1, hb1, hs1⟩
  go_wp2_with fail
  refine (below_any _ _ n c a 5 w1 hr1 (by omega) (by omega)).mono ?_
  rintro e w2 ⟨v, rfl, v0, v1, hr2, hb2⟩
  obtain ⟨d, hd⟩ : ∃ d : Nat, 1 + v = (d : Int) := ⟨(1 + v).toNat, by omega⟩
  have s2 := hb2.size
  have rlt : w.heap.size < w2.heap.size := by omega
  have B2 := hb1.trans (hb2.below (Nat.le_refl _) (by omega))
  clear hr1 hb1 hb2 O
  go_wp2_with fail
  refine (vec_any _ _ n c a d w2 hr2 (by omega) (by omega)).mono ?_
  rintro e w5 ⟨v5, f5, rfl, ho5, hr5, hb5⟩
  obtain ⟨a5, c5, rfl, r5, _⟩ := row_of_owns ho5
  have B5 := B2.trans (hb5.below (Nat.le_refl _) (by omega))
  have R5 := hide hr5
  have s5 := hb5.size
  clear ho5 hr5 hb5 B2
  go_wp2_with fail
  refine (sVecText_any a5 d c5 _ w5 r5 (by omega)).mono ?_
  rintro e w6 ⟨rfl, hb6⟩
  have R6 := hide (R5.out.stays hb6)
  have B6 := hide (bstep B5 hb6)
  have s6 := hb6.size
  have sl := vecTB_len (xs := ints f5 d)
  obtain ⟨S, hS⟩ : ∃ S, bs (vecTB (ints f5 d)) = S := ⟨_, rfl⟩
  rw [hS] at sl
  rw [hS]
  clear hS hb6 B5 R5 r5
  go_wp2_with fail
  refine (below_any _ _ n c a 6 w6 R6.out (by omega) (by omega)).mono ?_
  rintro e w7 ⟨x, rfl, x0, x1, hr7, hb7⟩
  have R7 := hide hr7
  have B7 := hide (B6.out.trans (hb7.below (Nat.le_refl _) (by omega)))
  have s7 := hb7.size
  clear hr7 hb7 R6 B6
  have hD : x = 0 ∨ x = 1 ∨ ((x == 0) = false ∧ (x == 1) = false) := by
    simp only [beq_eq_false_iff_ne]; omega
  rcases hD with rfl | rfl | ⟨q0, q1⟩
  · go_wp2_with fail
    refine (hurtStr_any _ _ n c a S w7 R7.out (by omega) (by omega)).mono ?_
    rintro e w8 ⟨t, rfl, ht, hr8, hb8⟩
    have B8 := hide (B7.out.trans (hb8.below (Nat.le_refl _) (by omega)))
    clear hr8 hb8
    go_wp2_with fail
    go_ret
    exact ⟨_, rfl, by omega, B8.out⟩
  · go_wp2_with fail
    refine (below_any _ _ n c a 10 _ (R7.out.alloc _) (by omega) (by omega)).mono ?_
    rintro e w8 ⟨y, rfl, y0, y1, hr8, hb8⟩
    have B8 := hide ((balloc B7.out (_)).trans (hb8.below (Nat.le_refl _) (by simp; omega)))
    have ne : ¬ w7.heap.size = w.heap.size := by omega
    clear hr8
    rcases ten y y0 (by omega) with rfl | rfl | rfl | rfl | rfl | rfl | rfl | rfl | rfl | rfl
    · have z := hb8.cell (p := ⟨w7.heap.size, 0, none⟩) (by simp) ne
      simp at z
      clear hb8
      go_wp2_with fail
      go_ret
      exact ⟨_, rfl, by decide, B8.out⟩
    · have z := hb8.cell (p := ⟨w7.heap.size, 1, none⟩) (by simp) ne
      simp at z
      clear hb8
      go_wp2_with fail
      go_ret
      exact ⟨_, rfl, by decide, B8.out⟩
    · have z := hb8.cell (p := ⟨w7.heap.size, 2, none⟩) (by simp) ne
      simp at z
      clear hb8
      go_wp2_with fail
      go_ret
      exact ⟨_, rfl, by decide, B8.out⟩
    · have z := hb8.cell (p := ⟨w7.heap.size, 3, none⟩) (by simp) ne
      simp at z
      clear hb8
      go_wp2_with fail
      go_ret
      exact ⟨_, rfl, by decide, B8.out⟩
    · have z := hb8.cell (p := ⟨w7.heap.size, 4, none⟩) (by simp) ne
      simp at z
      clear hb8
      go_wp2_with fail
      go_ret
      exact ⟨_, rfl, by decide, B8.out⟩
    · have z := hb8.cell (p := ⟨w7.heap.size, 5, none⟩) (by simp) ne
      simp at z
      clear hb8
      go_wp2_with fail
      go_ret
      exact ⟨_, rfl, by decide, B8.out⟩
    · have z := hb8.cell (p := ⟨w7.heap.size, 6, none⟩) (by simp) ne
      simp at z
      clear hb8
      go_wp2_with fail
      go_ret
      exact ⟨_, rfl, by decide, B8.out⟩
    · have z := hb8.cell (p := ⟨w7.heap.size, 7, none⟩) (by simp) ne
      simp at z
      clear hb8
      go_wp2_with fail
      go_ret
      exact ⟨_, rfl, by decide, B8.out⟩
    · have z := hb8.cell (p := ⟨w7.heap.size, 8, none⟩) (by simp) ne
      simp at z
      clear hb8
      go_wp2_with fail
      go_ret
      exact ⟨_, rfl, by decide, B8.out⟩
    · have z := hb8.cell (p := ⟨w7.heap.size, 9, none⟩) (by simp) ne
      simp at z
      clear hb8
      go_wp2_with fail
      go_ret
      exact ⟨_, rfl, by decide, B8.out⟩
  · go_wp2_with fail
    go_ret
    exact ⟨_, rfl, by omega, B7.out⟩
end Go.Proofs.YtlabfbkeckjbmaaDoor
