/- Drawn hits and texts of hits: DrawHitText, DrawReadHit. -/
import Derived.Test.YtecheolhmohhjaaDoorTH0
namespace Go.Proofs.YtecheolhmohhjaaDoor
open Go.RowKit
set_option maxRecDepth 8000
set_option linter.unusedSimpArgs false
set_option linter.unusedVariables false

/-- A drawn hit. -/
def DrawH (w : World) (e : Ending) (w' : World) : Prop := ∃ x y z : Int, e = .returned (.agg #[.int .i64 x, .int .i64 y, .int .i64 z]) ∧ Below w.heap.size w w'

set_option maxHeartbeats 2000000 in
theorem drawHitText_any (a : Option Addr) (n c : Nat) (w : World) (h : Code w a n) :
    Calls Tryd.prog 5 #[.slice a n c] w fun e w' => DrawH w e w' := by
  have hb0 : Below w.heap.size w (w.alloc (.cells #[.int .i64 0, .int .i64 0, .int .i64 0] 25)) := balloc (Below.refl _ _) _
  have O := hide (open_any a n c _ (h.below hb0))
  have Z0 := hide (f3_new w 0 0 0 25)
  have B0 := hide hb0
  clear h hb0
  go_enter Tryd.func5, Tryd.ntmps5
  go_wp2_with fail
  refine O.out.mono ?_
  rintro e w1 ⟨rfl, hr1, hb1, hs1⟩
  have Z1 := hide (Z0.out.of_block (hb1.block _ (World.rowIs.lt Z0.out)))
  have B1 := hide (bstep B0.out hb1)
  have R1 := hide hr1
  clear hr1 hb1 O Z0
  simp only [World.size_alloc] at R1 hs1 ⊢
  go_wp2_with fail
  refine (hit_any _ _ n c a w1 R1.out (by omega)).mono ?_
  rintro e w2 ⟨x, y, z, rfl, hr2, hb2⟩
  have Z2 := hide (Z1.out.of_block (hb2.block _ (World.rowIs.lt Z1.out) (by omega)))
  have B2 := hide (B1.out.trans (hb2.below (B := w.heap.size) (by omega) (by omega)))
  clear hr2 hb2 R1 Z1 B1 B0
  have lr := World.rowIs.lt Z2.out
  have d0 := World.rowIs.cell Z2.out (show 0 < 3 by omega)
  have d1 := World.rowIs.cell Z2.out (show 1 < 3 by omega)
  have d2 := World.rowIs.cell Z2.out (show 2 < 3 by omega)
  have k0 := World.rowIs.frozen Z2.out 0
  have k1 := World.rowIs.frozen Z2.out 1
  have k2 := World.rowIs.frozen Z2.out 2
  go_wp2_with fail
  obtain ⟨s0, s1, s2⟩ := three_set Z2.out (.int .i64 x) (.int .i64 y) (.int .i64 z)
  exact bodyPost_ret (v := .agg #[.int .i64 x, .int .i64 y, .int .i64 z]) (by simp [results, Tryd.results5, go_sem, s0, s1, s2]) rfl ⟨x, y, z, rfl, ((B2.out.setCell (Nat.le_refl _) _).setCell (Nat.le_refl _) _).setCell (Nat.le_refl _) _⟩

/-- A drawn text. -/
def DrawT (w : World) (e : Ending) (w' : World) : Prop := ∃ t : ByteArray, e = .returned (.string t) ∧ t.size ≤ 1000 ∧ Below w.heap.size w w'

theorem hitTB_len (x y z : Int) : (bs (hitTB x y z)).size ≤ 60 := by
  rw [bs_size]
  unfold hitTB
  cases h : hitB x y z
  · simp
  · obtain ⟨_, a1, a2, a3, a4, a5⟩ := hit_parts h
    have i1 := itoa17 (x := x) (by omega) (by omega)
    have i2 := itoa17 (x := y) (by omega) (by omega)
    have i3 := itoa17 (x := z) (by omega) (by omega)
    rw [if_pos rfl]
    unfold hitT
    split
    · simp; omega
    · simp; omega

theorem nine (v : Int) (h0 : 0 ≤ v) (h1 : v ≤ 8) : v = 0 ∨ v = 1 ∨ v = 2 ∨ v = 3 ∨ v = 4 ∨ v = 5 ∨ v = 6 ∨ v = 7 ∨ v = 8 := by omega

set_option maxHeartbeats 4000000 in
set_option maxRecDepth 8000 in
theorem drawReadHit_any (a : Option Addr) (n c : Nat) (w : World) (h : Code w a n) :
    Calls Tryd.prog 7 #[.slice a n c] w fun e w' => DrawT w e w' := by
  have O := hide (open_any a n c w h)
  clear h
  go_enter Tryd.func7, Tryd.ntmps7
  go_wp2_with fail
  refine O.out.mono ?_
  rintro e w1 ⟨rfl, hr1, hb1, hs1⟩
  go_wp2_with fail
  refine (hit_any _ _ n c a w1 hr1 (by omega)).mono ?_
  rintro e w5 ⟨x, y, z, rfl, hr5, hb5⟩
  have R5 := hide hr5
  have B5 := hide (hb1.trans (hb5.below (Nat.le_refl _) (by omega)))
  have s5 := hb5.size
  clear hr5 hb5 hr1 hb1 O
  go_wp2_with fail
  refine (sHitText_any x y z w5).mono ?_
  rintro e w6 ⟨rfl, hb6⟩
  have R6 := hide (R5.out.stays hb6)
  have B6 := hide (bstep B5.out hb6)
  have s6 := hb6.size
  have sl := hitTB_len x y z
  obtain ⟨S, hS⟩ : ∃ S, bs (hitTB x y z) = S := ⟨_, rfl⟩
  rw [hS] at sl
  rw [hS]
  clear hS hb6 B5 R5
  go_wp2_with fail
  refine (below_any _ _ n c a 5 w6 R6.out (by omega) (by omega)).mono ?_
  rintro e w7 ⟨v, rfl, v0, v1, hr7, hb7⟩
  have R7 := hide hr7
  have B7 := hide (B6.out.trans (hb7.below (Nat.le_refl _) (by omega)))
  have s7 := hb7.size
  clear hr7 hb7 R6 B6
  have hD : v = 0 ∨ v = 1 ∨ ((v == 0) = false ∧ (v == 1) = false) := by
    simp only [beq_eq_false_iff_ne]; omega
  rcases hD with rfl | rfl | ⟨q0, q1⟩
  · go_wp2_with fail
    refine (hurtStr_any _ _ n c a S w7 R7.out (by omega) (by omega)).mono ?_
    rintro e w8 ⟨t, rfl, ht, hr8, hb8⟩
    have B8 := hide (B7.out.trans (hb8.below (Nat.le_refl _) (by omega)))
    clear hr8 hb8
    go_wp2_with fail
    go_ret
    exact ⟨_, rfl, by omega, B8.out⟩
  · go_wp2_with fail
    refine (below_any _ _ n c a 9 _ (R7.out.alloc _) (by omega) (by omega)).mono ?_
    rintro e w8 ⟨y, rfl, y0, y1, hr8, hb8⟩
    have B8 := hide ((balloc B7.out (_)).trans (hb8.below (Nat.le_refl _) (by simp; omega)))
    have ne : ¬ w7.heap.size = w.heap.size := by omega
    clear hr8
    rcases nine y y0 (by omega) with rfl | rfl | rfl | rfl | rfl | rfl | rfl | rfl | rfl
    · have z := hb8.cell (p := ⟨w7.heap.size, 0, none⟩) (by simp) ne
      simp at z
      clear hb8
      go_wp2_with fail
      go_ret
      exact ⟨_, rfl, by decide, B8.out⟩
    · have z := hb8.cell (p := ⟨w7.heap.size, 1, none⟩) (by simp) ne
      simp at z
      clear hb8
      go_wp2_with fail
      go_ret
      exact ⟨_, rfl, by decide, B8.out⟩
    · have z := hb8.cell (p := ⟨w7.heap.size, 2, none⟩) (by simp) ne
      simp at z
      clear hb8
      go_wp2_with fail
      go_ret
      exact ⟨_, rfl, by decide, B8.out⟩
    · have z := hb8.cell (p := ⟨w7.heap.size, 3, none⟩) (by simp) ne
      simp at z
      clear hb8
      go_wp2_with fail
      go_ret
      exact ⟨_, rfl, by decide, B8.out⟩
    · have z := hb8.cell (p := ⟨w7.heap.size, 4, none⟩) (by simp) ne
      simp at z
      clear hb8
      go_wp2_with fail
      go_ret
      exact ⟨_, rfl, by decide, B8.out⟩
    · have z := hb8.cell (p := ⟨w7.heap.size, 5, none⟩) (by simp) ne
      simp at z
      clear hb8
      go_wp2_with fail
      go_ret
      exact ⟨_, rfl, by decide, B8.out⟩
    · have z := hb8.cell (p := ⟨w7.heap.size, 6, none⟩) (by simp) ne
      simp at z
      clear hb8
      go_wp2_with fail
      go_ret
      exact ⟨_, rfl, by decide, B8.out⟩
    · have z := hb8.cell (p := ⟨w7.heap.size, 7, none⟩) (by simp) ne
      simp at z
      clear hb8
      go_wp2_with fail
      go_ret
      exact ⟨_, rfl, by decide, B8.out⟩
    · have z := hb8.cell (p := ⟨w7.heap.size, 8, none⟩) (by simp) ne
      simp at z
      clear hb8
      go_wp2_with fail
      go_ret
      exact ⟨_, rfl, by decide, B8.out⟩
  · go_wp2_with fail
    go_ret
    exact ⟨_, rfl, by omega, B7.out⟩
end Go.Proofs.YtecheolhmohhjaaDoor
