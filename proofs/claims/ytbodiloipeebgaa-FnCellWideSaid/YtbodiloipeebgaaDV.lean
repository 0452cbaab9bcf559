/- Drawn tiers, cells and numbers: tier, DrawCodeOf. -/
import Derived.Test.YtbodiloipeebgaaDU
namespace Go.Proofs.Ytbodiloipeebgaa
open Go.RowKit
set_option linter.unusedSimpArgs false
set_option linter.unusedVariables false

set_option maxHeartbeats 1000000 in
theorem tier_any (B rb n c : Nat) (a : Option Addr) (w : World) (h : Rd B w rb a n c) :
    Calls Try.prog 25 #[.pointer (some ⟨rb, 0, none⟩)] w fun e w' => RdPostA B w rb a n c e w' := by
  have O := hide (once_any B rb n c a 24 w h (by omega) (by omega))
  have OF := hide (fun w (h : Rd B w rb a n c) => off_any B rb n c a 1 3 w h (by omega) (by omega) (by omega) (by omega))
  have BL := hide (fun w (h : Rd B w rb a n c) => below_any B rb n c a 3 w h (by omega) (by omega))
  clear h
  go_enter Try.func25, Try.ntmps25
  go_wp2_with fail
  refine O.out.mono ?_
  rintro e w1 ⟨v, rfl, hr1, hb1⟩
  cases v
  · go_wp2_with fail
    refine (BL.out _ hr1).mono ?_
    rintro e w2 ⟨x, rfl, x0, x1, hr2, hb2⟩
    go_wp2_with fail
    go_ret
    exact ⟨_, rfl, hr2, hb1.trans hb2⟩
  · go_wp2_with fail
    refine (OF.out _ hr1).mono ?_
    rintro e w2 ⟨x, rfl, hr2, hb2⟩
    go_wp2_with fail
    go_ret
    exact ⟨x, rfl, hr2, hb1.trans hb2⟩

def CoPost (w : World) (e : Ending) (w' : World) : Prop :=
  ∃ lo hi t x : Int, e = .returned (.tuple #[.agg #[.int .i64 lo, .int .i64 hi], .int .i64 t, .int .i64 x]) ∧ Below w.heap.size w w'

set_option maxHeartbeats 2000000 in
theorem drawCodeOf_any (a : Option Addr) (n c : Nat) (w : World) (h : Code w a n) :
    Calls Try.prog 10 #[.slice a n c] w fun e w' => CoPost w e w' := by
  have D := hide (fun w1 (hb : Below w.heap.size w w1) => drawRangeHas_any a n c w1 (h.below hb))
  have O := hide (fun w1 (hb : Below w.heap.size w w1) => open_any a n c w1 (h.below hb))
  clear h
  go_enter Try.func10, Try.ntmps10
  go_wp2_with fail
  refine (D.out _ (by repeat' first | with_reducible exact Below.refl _ _ | with_reducible assumption | with_reducible refine below_drewN ?_ _ | with_reducible refine balloc ?_ _ | with_reducible refine Below.drew ?_ | with_reducible refine Below.setCell ?_ (by first | (simp; done) | (simp; omega) | omega) _ | with_reducible refine bstep ?_ (by assumption))).mono ?_
  rintro e w1 ⟨lo, hi, x, rfl, hb1⟩
  have X0 := hide (((Bx.new w (.int .i64 0) (.int .i64 0) 25).below hb1).alloc (.cells #[.int .i64 lo, .int .i64 hi] 25))
  have XA := hide (Bx.new w1 (.int .i64 lo) (.int .i64 hi) 25)
  have Bw : Below w.heap.size w w1 := (by repeat' first | with_reducible exact Below.refl _ _ | with_reducible assumption | with_reducible refine below_drewN ?_ _ | with_reducible refine balloc ?_ _ | with_reducible refine Below.drew ?_ | with_reducible refine Below.setCell ?_ (by first | (simp; done) | (simp; omega) | omega) _ | with_reducible refine bstep ?_ (by assumption))
  have s1 : w.heap.size < w1.heap.size := by have := hb1.size; simp at this; omega
  clear hb1 D
  go_wp2_with fail
  refine (O.out _ (by repeat' first | with_reducible exact Below.refl _ _ | with_reducible assumption | with_reducible refine below_drewN ?_ _ | with_reducible refine balloc ?_ _ | with_reducible refine Below.drew ?_ | with_reducible refine Below.setCell ?_ (by first | (simp; done) | (simp; omega) | omega) _ | with_reducible refine bstep ?_ (by assumption))).mono ?_
  rintro e w2 ⟨rfl, hr2, hb2, hs2⟩
  have X0 := hide (X0.out.below hb2)
  have XA := hide (XA.out.below hb2)
  have Bw : Below w.heap.size w w2 := (by repeat' first | with_reducible exact Below.refl _ _ | with_reducible assumption | with_reducible refine below_drewN ?_ _ | with_reducible refine balloc ?_ _ | with_reducible refine Below.drew ?_ | with_reducible refine Below.setCell ?_ (by first | (simp; done) | (simp; omega) | omega) _ | with_reducible refine bstep ?_ (by assumption))
  simp only [World.size_alloc] at hs2 hr2 ⊢
  clear hb2 O
  obtain ⟨xa1, xa2, xa3, xa4, xa5⟩ := XA.out
  obtain ⟨x01, x02, x03, x04, x05⟩ := X0.out
  have YH := hide (fun (W : World) (hW : But (w1.heap.size + 1) w2.drew W) => And.intro ((Bx.mk (w := w2.drew) x01 x02 x03 x04 x05).but hW (by omega)) ((Bx.mk (w := w2.drew) xa1 xa2 xa3 xa4 xa5).but hW (by omega)))
  have CH := hide (tier_any _ _ n c a w2.drew (hr2.stays (Below.drew (Below.refl _ _))))
  clear X0 XA
  go_wp2_with fail
  go_region_with (go_at_call 25; refine CH.out.mono ?_; rintro e w4 ⟨t, rfl, hr4, hb4⟩; obtain ⟨⟨y01, y02, y03, y04, y05⟩, ⟨ya1, ya2, ya3, ya4, ya5⟩⟩ := YH.out _ hb4)
  all_goals
    go_wp2_with fail
    have Bw4 := Bw.drew.trans (hb4.below (B := w.heap.size) (by omega) (by simp; omega))
    refine bodyPost_ret (v := .tuple #[.agg #[.int .i64 lo, .int .i64 hi], .int .i64 t, .int .i64 x]) ?_ rfl ⟨lo, hi, t, x, rfl, ?_⟩
    · simp [results, Try.results10, go_sem, y02, y03]
    · exact (by repeat' first | with_reducible exact Below.refl _ _ | with_reducible assumption | with_reducible refine below_drewN ?_ _ | with_reducible refine balloc ?_ _ | with_reducible refine Below.drew ?_ | with_reducible refine Below.setCell ?_ (by first | (simp; done) | (simp; omega) | omega) _ | with_reducible refine bstep ?_ (by assumption))
end Go.Proofs.Ytbodiloipeebgaa
