/- Drawn ranges and numbers: DrawRangeHas. -/
import Derived.Test.YtadedoogcdaimaaDS
import Derived.Test.YtadedoogcdaimaaDX
import Derived.Deep.RegionWith
namespace Go.Proofs.Ytadedoogcdaimaa
open Go.RowKit
set_option linter.unusedSimpArgs false
set_option linter.unusedVariables false

def RhPost (w : World) (e : Ending) (w' : World) : Prop :=
  ∃ lo hi x : Int, e = .returned (.tuple #[.agg #[.int .i64 lo, .int .i64 hi], .int .i64 x]) ∧ Below w.heap.size w w'

set_option maxHeartbeats 4000000 in
theorem drawRangeHas_any (a : Option Addr) (n c : Nat) (w : World) (h : Code w a n) :
    Calls Try.prog 18 #[.slice a n c] w fun e w' => RhPost w e w' := by
  have O := hide (fun w1 (hb : Below w.heap.size w w1) => open_any a n c w1 (h.below hb))
  clear h
  go_enter Try.func18, Try.ntmps18
  go_wp2_with fail
  refine (O.out _ (by repeat' first | with_reducible exact Below.refl _ _ | with_reducible assumption | with_reducible refine below_drewN ?_ _ | with_reducible refine balloc ?_ _ | with_reducible refine Below.drew ?_ | with_reducible refine Below.setCell ?_ (by first | (simp; done) | (simp; omega) | omega) _ | with_reducible refine bstep ?_ (by assumption))).mono ?_
  rintro e w1 ⟨rfl, hr1, hb1, hs1⟩
  simp only [World.size_alloc] at hs1 hr1 ⊢
  have X0 := hide ((Bx.new w (.int .i64 0) (.int .i64 0) 25).below hb1)
  have Bw : Below w.heap.size w w1 := (by repeat' first | with_reducible exact Below.refl _ _ | with_reducible assumption | with_reducible refine below_drewN ?_ _ | with_reducible refine balloc ?_ _ | with_reducible refine Below.drew ?_ | with_reducible refine Below.setCell ?_ (by first | (simp; done) | (simp; omega) | omega) _ | with_reducible refine bstep ?_ (by assumption))
  clear hb1 O
  go_wp2_with fail
  refine (span_any _ _ n c a w1 hr1).mono ?_
  rintro e w2 ⟨lo, hi, rfl, a0, a1, a2, a3, hr2, hb2⟩
  have X0 := hide (X0.out.but hb2 (by omega))
  have Bw := Bw.trans (hb2.below (by omega) (by omega))
  have s2 := hb2.size
  clear hr1 hb2
  go_wp2_with fail
  refine (once_any _ _ n c a 3 _ (hr2.alloc _) (by omega) (by omega)).mono ?_
  rintro e w3 ⟨v, rfl, hr3, hb3⟩
  have XA := hide ((Bx.new w2 (.int .i64 lo) (.int .i64 hi) 25).but hb3 (by omega))
  have X0 := hide ((X0.out.alloc (.cells #[.int .i64 lo, .int .i64 hi] 25)).but hb3 (by omega))
  have Bw := (balloc Bw (.cells #[.int .i64 lo, .int .i64 hi] 25)).trans (hb3.below (by omega) (by simp; omega))
  have s3 := hb3.size
  simp only [World.size_alloc] at s3
  clear hr2 hb3
  cases v
  · by_cases hgt : hi < lo
    · have hgd : decide (hi < lo) = true := decide_eq_true hgt
      obtain ⟨xa1, xa2, xa3, xa4, xa5⟩ := XA.out
      obtain ⟨x01, x02, x03, x04, x05⟩ := X0.out
      have YH := hide (fun (W : World) (hW : But (w.heap.size + 1) w3.drew W) => And.intro ((Bx.mk (w := w3.drew) x01 x02 x03 x04 x05).but hW (by omega)) ((Bx.mk (w := w3.drew) xa1 xa2 xa3 xa4 xa5).but hW (by omega)))
      have CH := hide (comp_any _ _ n c a w3.drew (hr3.stays (Below.drew (Below.refl _ _))))
      clear X0 XA
      go_wp2_with fail
      go_region_with (go_at_call 32; refine CH.out.mono ?_; rintro e w4 ⟨x, rfl, q0, q1, hr4, hb4⟩; obtain ⟨⟨y01, y02, y03, y04, y05⟩, ⟨ya1, ya2, ya3, ya4, ya5⟩⟩ := YH.out _ hb4)
      all_goals
        go_wp2_with fail
        have Bw4 := Bw.drew.trans (hb4.below (B := w.heap.size) (by omega) (by simp; omega))
        refine bodyPost_ret (v := .tuple #[.agg #[.int .i64 lo, .int .i64 hi], .int .i64 x]) ?_ rfl ⟨lo, hi, x, rfl, ?_⟩
        · simp [results, Try.results18, go_sem, y02, y03]
        · exact (by repeat' first | with_reducible exact Below.refl _ _ | with_reducible assumption | with_reducible refine below_drewN ?_ _ | with_reducible refine balloc ?_ _ | with_reducible refine Below.drew ?_ | with_reducible refine Below.setCell ?_ (by first | (simp; done) | (simp; omega) | omega) _ | with_reducible refine bstep ?_ (by assumption))
    · have hgd : decide (hi < lo) = false := decide_eq_false hgt
      obtain ⟨xa1, xa2, xa3, xa4, xa5⟩ := XA.out
      obtain ⟨x01, x02, x03, x04, x05⟩ := X0.out
      have YH := hide (fun (W : World) (hW : But (w.heap.size + 1) w3.drew W) => And.intro ((Bx.mk (w := w3.drew) x01 x02 x03 x04 x05).but hW (by omega)) ((Bx.mk (w := w3.drew) xa1 xa2 xa3 xa4 xa5).but hW (by omega)))
      have CH := hide (off_any _ _ n c a lo hi w3.drew (hr3.stays (Below.drew (Below.refl _ _))) (by omega) (by omega) (by omega) (by omega))
      clear X0 XA
      go_wp2_with fail
      go_region_with (go_at_call 20; refine CH.out.mono ?_; rintro e w4 ⟨x, rfl, hr4, hb4⟩; obtain ⟨⟨y01, y02, y03, y04, y05⟩, ⟨ya1, ya2, ya3, ya4, ya5⟩⟩ := YH.out _ hb4)
      all_goals
        go_wp2_with fail
        have Bw4 := Bw.drew.trans (hb4.below (B := w.heap.size) (by omega) (by simp; omega))
        refine bodyPost_ret (v := .tuple #[.agg #[.int .i64 lo, .int .i64 hi], .int .i64 x]) ?_ rfl ⟨lo, hi, x, rfl, ?_⟩
        · simp [results, Try.results18, go_sem, y02, y03]
        · exact (by repeat' first | with_reducible exact Below.refl _ _ | with_reducible assumption | with_reducible refine below_drewN ?_ _ | with_reducible refine balloc ?_ _ | with_reducible refine Below.drew ?_ | with_reducible refine Below.setCell ?_ (by first | (simp; done) | (simp; omega) | omega) _ | with_reducible refine bstep ?_ (by assumption))
  · skip
    obtain ⟨xa1, xa2, xa3, xa4, xa5⟩ := XA.out
    obtain ⟨x01, x02, x03, x04, x05⟩ := X0.out
    have YH := hide (fun (W : World) (hW : But (w.heap.size + 1) w3.drew W) => And.intro ((Bx.mk (w := w3.drew) x01 x02 x03 x04 x05).but hW (by omega)) ((Bx.mk (w := w3.drew) xa1 xa2 xa3 xa4 xa5).but hW (by omega)))
    have CH := hide (comp_any _ _ n c a w3.drew (hr3.stays (Below.drew (Below.refl _ _))))
    clear X0 XA
    go_wp2_with fail
    go_region_with (go_at_call 32; refine CH.out.mono ?_; rintro e w4 ⟨x, rfl, q0, q1, hr4, hb4⟩; obtain ⟨⟨y01, y02, y03, y04, y05⟩, ⟨ya1, ya2, ya3, ya4, ya5⟩⟩ := YH.out _ hb4)
    all_goals
      go_wp2_with fail
      have Bw4 := Bw.drew.trans (hb4.below (B := w.heap.size) (by omega) (by simp; omega))
      refine bodyPost_ret (v := .tuple #[.agg #[.int .i64 lo, .int .i64 hi], .int .i64 x]) ?_ rfl ⟨lo, hi, x, rfl, ?_⟩
      · simp [results, Try.results18, go_sem, y02, y03]
      · exact (by repeat' first | with_reducible exact Below.refl _ _ | with_reducible assumption | with_reducible refine below_drewN ?_ _ | with_reducible refine balloc ?_ _ | with_reducible refine Below.drew ?_ | with_reducible refine Below.setCell ?_ (by first | (simp; done) | (simp; omega) | omega) _ | with_reducible refine bstep ?_ (by assumption))
end Go.Proofs.Ytadedoogcdaimaa
