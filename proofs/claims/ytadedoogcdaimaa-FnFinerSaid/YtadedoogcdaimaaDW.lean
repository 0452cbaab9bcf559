/- Drawn cells: DrawCellOf, DrawFiner. -/
import Derived.Test.YtadedoogcdaimaaDV
import Derived.Test.YtadedoogcdaimaaCC
import Derived.Deep.RegionHeld3
namespace Go.Proofs.Ytadedoogcdaimaa
open Go.RowKit
set_option linter.unusedSimpArgs false
set_option linter.unusedVariables false

theorem cells_any (t : Int) : cellsN t = 0 ∨ cellsN t = 2 ∨ cellsN t = 16 ∨ cellsN t = 256 := by
  unfold cellsN
  by_cases h1 : t = 1
  · simp [h1]
  · by_cases h2 : t = 2
    · simp [h2]
    · by_cases h3 : t = 3 <;> simp [h1, h2, h3]

set_option maxHeartbeats 4000000 in
theorem drawCellOf_any (a : Option Addr) (n c : Nat) (w : World) (h : Code w a n) :
    Calls Try.prog 10 #[.slice a n c] w fun e w' => CoPost w e w' := by
  have D := hide (fun w1 (hb : Below w.heap.size w w1) => drawRangeHas_any a n c w1 (h.below hb))
  have O := hide (fun w1 (hb : Below w.heap.size w w1) => open_any a n c w1 (h.below hb))
  clear h
  go_enter Try.func10, Try.ntmps10
  go_wp2_with fail
  refine (D.out _ (by repeat' first | with_reducible exact Below.refl _ _ | with_reducible assumption | with_reducible refine below_drewN ?_ _ | with_reducible refine balloc ?_ _ | with_reducible refine Below.drew ?_ | with_reducible refine Below.setCell ?_ (by first | (simp; done) | (simp; omega) | omega) _ | with_reducible refine bstep ?_ (by assumption))).mono ?_
  rintro e w1 ⟨lo, hi, x, rfl, hb1⟩
  have X0 := hide (((Bx.new w (.int .i64 0) (.int .i64 0) 25).below hb1).alloc (.cells #[.int .i64 lo, .int .i64 hi] 25))
  have XA := hide (Bx.new w1 (.int .i64 lo) (.int .i64 hi) 25)
  have Bw : Below w.heap.size w w1 := (by repeat' first | with_reducible exact Below.refl _ _ | with_reducible assumption | with_reducible refine below_drewN ?_ _ | with_reducible refine balloc ?_ _ | with_reducible refine Below.drew ?_ | with_reducible refine Below.setCell ?_ (by first | (simp; done) | (simp; omega) | omega) _ | with_reducible refine bstep ?_ (by assumption))
  have s1 : w.heap.size < w1.heap.size := by have := hb1.size; simp at this; omega
  clear hb1 D
  go_wp2_with fail
  refine (O.out _ (by repeat' first | with_reducible exact Below.refl _ _ | with_reducible assumption | with_reducible refine below_drewN ?_ _ | with_reducible refine balloc ?_ _ | with_reducible refine Below.drew ?_ | with_reducible refine Below.setCell ?_ (by first | (simp; done) | (simp; omega) | omega) _ | with_reducible refine bstep ?_ (by assumption))).mono ?_
  rintro e w2 ⟨rfl, hr2, hb2, hs2⟩
  have X0 := hide (X0.out.below hb2)
  have XA := hide (XA.out.below hb2)
  have Bw : Below w.heap.size w w2 := (by repeat' first | with_reducible exact Below.refl _ _ | with_reducible assumption | with_reducible refine below_drewN ?_ _ | with_reducible refine balloc ?_ _ | with_reducible refine Below.drew ?_ | with_reducible refine Below.setCell ?_ (by first | (simp; done) | (simp; omega) | omega) _ | with_reducible refine bstep ?_ (by assumption))
  simp only [World.size_alloc] at hs2 hr2 ⊢
  clear hb2 O
  go_wp2_with fail
  refine (tier_any _ _ n c a w2 hr2).mono ?_
  rintro e w3 ⟨t, rfl, hr3, hb3⟩
  have X0 := hide (X0.out.but hb3 (by omega))
  have XA := hide (XA.out.but hb3 (by omega))
  have Bw := Bw.trans (hb3.below (by omega) (by omega))
  have s3 := hb3.size
  clear hr2 hb3
  go_wp2_with fail
  refine (below_any _ _ n c a 3 w3 hr3 (by omega) (by omega)).mono ?_
  rintro e w4 ⟨k, rfl, k0, k1, hr4, hb4⟩
  have X0 := hide (X0.out.but hb4 (by omega))
  have XA := hide (XA.out.but hb4 (by omega))
  have Bw := Bw.trans (hb4.below (by omega) (by omega))
  have s4 := hb4.size
  clear hr3 hb4
  obtain ⟨xa1, xa2, xa3, xa4, xa5⟩ := XA.out
  obtain ⟨x01, x02, x03, x04, x05⟩ := X0.out
  have YB := hide (fun (W : World) (hW : Below w4.drew.heap.size w4.drew W) => And.intro ((Bx.mk (w := w4.drew) x01 x02 x03 x04 x05).below hW) ((Bx.mk (w := w4.drew) xa1 xa2 xa3 xa4 xa5).below hW))
  have YH := hide (fun (W : World) (hW : But (w1.heap.size + 1) w4.drew W) => And.intro ((Bx.mk (w := w4.drew) x01 x02 x03 x04 x05).but hW (by omega)) ((Bx.mk (w := w4.drew) xa1 xa2 xa3 xa4 xa5).but hW (by omega)))
  have HR := hide (hr4.stays (Below.drew (Below.refl w4.heap.size w4)))
  clear X0 XA hr4
  by_cases e0 : k = 0
  · subst e0
    have hN := cells_any t
    have KN := hide (sCellsOf_any t)
    generalize cellsN t = N at hN KN
    have ne0 : w1.heap.size ≠ w.heap.size := by omega
    go_upto_region 6 with fail
    have v1 : IntKind.i64.wrap (-1) = -1 := wrapIn _ (by omega) (by omega)
    have v2 : IntKind.i64.wrap 1 = 1 := wrapIn _ (by omega) (by omega)
    have v3 : IntKind.i64.wrap 15 = 15 := wrapIn _ (by omega) (by omega)
    have v4 : IntKind.i64.wrap 255 = 255 := wrapIn _ (by omega) (by omega)
    rcases hN with rfl | rfl | rfl | rfl
    all_goals
      go_region_held3 (fun w' => w'.cell? ⟨w1.heap.size, 0, none⟩ = some (.int .i64 lo) ∧ w'.cell? ⟨w1.heap.size, 1, none⟩ = some (.int .i64 hi)) (refine ⟨?_, ?_⟩ <;> first | assumption | exact xa2 | exact xa3 | (simp [go_sem, *]; done) | (go_keep; done)) (first | (go_at_call 21; refine (KN.out _).mono ?_; rintro e w5 ⟨rfl, hb5⟩; obtain ⟨⟨y01, y02, y03, y04, y05⟩, ⟨ya1, ya2, ya3, ya4, ya5⟩⟩ := YB.out _ hb5; have R5 := HR.out.stays hb5; have s5 := hb5.size; simp only [World.size_drew] at s5) | (go_at_call 20; refine (off_any _ _ n c a (-1) _ _ R5 (by omega) (by omega) (by omega) (by omega)).mono ?_; rintro e w6 ⟨v, rfl, hr6, hb6⟩; obtain ⟨z01, z02, z03, z04, z05⟩ := (Bx.mk y01 y02 y03 y04 y05).but hb6 (by omega); obtain ⟨za1, za2, za3, za4, za5⟩ := (Bx.mk ya1 ya2 ya3 ya4 ya5).but hb6 (by omega)))
      all_goals
        go_wp2_with fail
        have Bw6 := (Bw.drew.trans (hb5.mono (by simp; omega))).trans (hb6.below (B := w.heap.size) (by omega) (by omega))
        refine bodyPost_ret (v := .tuple #[.agg #[.int .i64 lo, .int .i64 hi], .int .i64 t, .int .i64 v]) ?_ rfl ⟨lo, hi, t, v, rfl, ?_⟩
        · simp [results, Try.results10, go_sem, z02, z03]
        · exact (by repeat' first | with_reducible exact Below.refl _ _ | with_reducible assumption | with_reducible refine below_drewN ?_ _ | with_reducible refine balloc ?_ _ | with_reducible refine Below.drew ?_ | with_reducible refine Below.setCell ?_ (by first | (simp; done) | (simp; omega) | omega) _ | with_reducible refine bstep ?_ (by assumption))
  · by_cases e1 : k = 1
    · subst e1
      have BL := hide (below_any _ _ n c a 17 w4.drew HR.out (by omega) (by omega))
      have ne0 : w1.heap.size ≠ w.heap.size := by omega
      go_upto_region 8 with fail
      go_region_held3 (fun w' => w'.cell? ⟨w1.heap.size, 0, none⟩ = some (.int .i64 lo) ∧ w'.cell? ⟨w1.heap.size, 1, none⟩ = some (.int .i64 hi)) (refine ⟨?_, ?_⟩ <;> first | assumption | exact xa2 | exact xa3 | (simp [go_sem, *]; done) | (go_keep; done)) ((go_at_call 19; refine BL.out.mono ?_; rintro e w5 ⟨v, rfl, v0, v1, hr5, hb5⟩; obtain ⟨⟨y01, y02, y03, y04, y05⟩, ⟨ya1, ya2, ya3, ya4, ya5⟩⟩ := YH.out _ hb5))
      all_goals
        go_wp2_with fail
        have Bw5 := Bw.drew.trans (hb5.below (B := w.heap.size) (by omega) (by simp; omega))
        refine bodyPost_ret (v := .tuple #[.agg #[.int .i64 lo, .int .i64 hi], .int .i64 t, .int .i64 (IntKind.i64.wrap (v - 1))]) ?_ rfl ⟨lo, hi, t, _, rfl, ?_⟩
        · simp [results, Try.results10, go_sem, y02, y03]
        · exact (by repeat' first | with_reducible exact Below.refl _ _ | with_reducible assumption | with_reducible refine below_drewN ?_ _ | with_reducible refine balloc ?_ _ | with_reducible refine Below.drew ?_ | with_reducible refine Below.setCell ?_ (by first | (simp; done) | (simp; omega) | omega) _ | with_reducible refine bstep ?_ (by assumption))
    · have e0' : (k == 0) = false := by simp; omega
      have e1' : (k == 1) = false := by simp; omega
      have CS := hide (sCodeOf_any lo hi t x)
      have ne0 : w1.heap.size ≠ w.heap.size := by omega
      generalize codeB lo hi t x = cc at CS
      go_upto_region 9 with fail
      go_region_held3 (fun w' => w'.cell? ⟨w1.heap.size, 0, none⟩ = some (.int .i64 lo) ∧ w'.cell? ⟨w1.heap.size, 1, none⟩ = some (.int .i64 hi)) (refine ⟨?_, ?_⟩ <;> first | assumption | exact xa2 | exact xa3 | (simp [go_sem, *]; done) | (go_keep; done)) ((go_at_call 16; refine (CS.out _).mono ?_; rintro e w5 ⟨rfl, hb5⟩; obtain ⟨⟨y01, y02, y03, y04, y05⟩, ⟨ya1, ya2, ya3, ya4, ya5⟩⟩ := YB.out _ hb5))
      all_goals
        go_wp2_with fail
        have Bw5 := Bw.drew.trans (hb5.mono (by simp; omega))
        refine bodyPost_ret (v := .tuple #[.agg #[.int .i64 lo, .int .i64 hi], .int .i64 t, .int .i64 cc]) ?_ rfl ⟨lo, hi, t, _, rfl, ?_⟩
        · simp [results, Try.results10, go_sem, y02, y03]
        · exact (by repeat' first | with_reducible exact Below.refl _ _ | with_reducible assumption | with_reducible refine below_drewN ?_ _ | with_reducible refine balloc ?_ _ | with_reducible refine Below.drew ?_ | with_reducible refine Below.setCell ?_ (by first | (simp; done) | (simp; omega) | omega) _ | with_reducible refine bstep ?_ (by assumption))

def FiPost (w : World) (e : Ending) (w' : World) : Prop :=
  ∃ lo hi c f t : Int, e = .returned (.tuple #[.agg #[.int .i64 lo, .int .i64 hi], .int .i64 c, .int .i64 f, .int .i64 t]) ∧ Below w.heap.size w w'

set_option maxHeartbeats 2000000 in
theorem drawFiner_any (a : Option Addr) (n c : Nat) (w : World) (h : Code w a n) :
    Calls Try.prog 5 #[.slice a n c] w fun e w' => FiPost w e w' := by
  have D := hide (fun w1 (hb : Below w.heap.size w w1) => drawCellOf_any a n c w1 (h.below hb))
  have O := hide (fun w1 (hb : Below w.heap.size w w1) => open_any a n c w1 (h.below hb))
  clear h
  go_enter Try.func5, Try.ntmps5
  go_wp2_with fail
  refine (O.out _ (by repeat' first | with_reducible exact Below.refl _ _ | with_reducible assumption | with_reducible refine below_drewN ?_ _ | with_reducible refine balloc ?_ _ | with_reducible refine Below.drew ?_ | with_reducible refine Below.setCell ?_ (by first | (simp; done) | (simp; omega) | omega) _ | with_reducible refine bstep ?_ (by assumption))).mono ?_
  rintro e w1 ⟨rfl, hr1, hb1, hs1⟩
  have X0 := hide ((Bx.new w (.int .i64 0) (.int .i64 0) 25).below hb1)
  have Bw : Below w.heap.size w w1 := (by repeat' first | with_reducible exact Below.refl _ _ | with_reducible assumption | with_reducible refine below_drewN ?_ _ | with_reducible refine balloc ?_ _ | with_reducible refine Below.drew ?_ | with_reducible refine Below.setCell ?_ (by first | (simp; done) | (simp; omega) | omega) _ | with_reducible refine bstep ?_ (by assumption))
  simp only [World.size_alloc] at hs1 hr1 ⊢
  clear hb1 O
  go_wp2_with fail
  refine (D.out _ (by repeat' first | with_reducible exact Below.refl _ _ | with_reducible assumption | with_reducible refine below_drewN ?_ _ | with_reducible refine balloc ?_ _ | with_reducible refine Below.drew ?_ | with_reducible refine Below.setCell ?_ (by first | (simp; done) | (simp; omega) | omega) _ | with_reducible refine bstep ?_ (by assumption))).mono ?_
  rintro e w2 ⟨lo, hi, f, cc, rfl, hb2⟩
  have X0 := hide ((X0.out.below hb2).alloc (.cells #[.int .i64 lo, .int .i64 hi] 25))
  have XA := hide (Bx.new w2 (.int .i64 lo) (.int .i64 hi) 25)
  have HR := hide ((hr1.stays hb2).alloc (.cells #[.int .i64 lo, .int .i64 hi] 25))
  have Bw : Below w.heap.size w w2 := (by repeat' first | with_reducible exact Below.refl _ _ | with_reducible assumption | with_reducible refine below_drewN ?_ _ | with_reducible refine balloc ?_ _ | with_reducible refine Below.drew ?_ | with_reducible refine Below.setCell ?_ (by first | (simp; done) | (simp; omega) | omega) _ | with_reducible refine bstep ?_ (by assumption))
  have s2 := hb2.size
  clear hb2 hr1 D
  obtain ⟨xa1, xa2, xa3, xa4, xa5⟩ := XA.out
  obtain ⟨x01, x02, x03, x04, x05⟩ := X0.out
  have YH := hide (fun (W : World) (hW : But (w.heap.size + 1) (w2.alloc (.cells #[.int .i64 lo, .int .i64 hi] 25)).drew W) => And.intro ((Bx.mk (w := (w2.alloc (.cells #[.int .i64 lo, .int .i64 hi] 25)).drew) x01 x02 x03 x04 x05).but hW (by omega)) ((Bx.mk (w := (w2.alloc (.cells #[.int .i64 lo, .int .i64 hi] 25)).drew) xa1 xa2 xa3 xa4 xa5).but hW (by omega)))
  have CH := hide (tier_any _ _ n c a _ (HR.out.stays (Below.drew (Below.refl _ _))))
  clear X0 XA
  have ne0 : w2.heap.size ≠ w.heap.size := by omega
  go_upto_region 3 with fail
  go_region_held3 (fun w' => w'.cell? ⟨w2.heap.size, 0, none⟩ = some (.int .i64 lo) ∧ w'.cell? ⟨w2.heap.size, 1, none⟩ = some (.int .i64 hi)) (refine ⟨?_, ?_⟩ <;> first | assumption | exact xa2 | exact xa3 | (simp [go_sem, *]; done) | (go_keep; done)) ((go_at_call 11; refine CH.out.mono ?_; rintro e w5 ⟨t, rfl, hr5, hb5⟩; obtain ⟨⟨y01, y02, y03, y04, y05⟩, ⟨ya1, ya2, ya3, ya4, ya5⟩⟩ := YH.out _ hb5))
  all_goals
    go_wp2_with fail
    have Bw5 := (balloc Bw (.cells #[.int .i64 lo, .int .i64 hi] 25)).drew.trans (hb5.below (B := w.heap.size) (by omega) (by simp; omega))
    refine bodyPost_ret (v := .tuple #[.agg #[.int .i64 lo, .int .i64 hi], .int .i64 cc, .int .i64 f, .int .i64 t]) ?_ rfl ⟨lo, hi, cc, f, t, rfl, ?_⟩
    · simp [results, Try.results5, go_sem, y02, y03]
    · exact (by repeat' first | with_reducible exact Below.refl _ _ | with_reducible assumption | with_reducible refine below_drewN ?_ _ | with_reducible refine balloc ?_ _ | with_reducible refine Below.drew ?_ | with_reducible refine Below.setCell ?_ (by first | (simp; done) | (simp; omega) | omega) _ | with_reducible refine bstep ?_ (by assumption))
end Go.Proofs.Ytadedoogcdaimaa
