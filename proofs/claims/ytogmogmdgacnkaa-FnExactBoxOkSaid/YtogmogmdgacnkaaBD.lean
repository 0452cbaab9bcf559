/- The walk of FnExactBoxOk. -/
import Derived.Test.YtogmogmdgacnkaaBC
namespace Go.Proofs.Ytogmogmdgacnkaa
open Go.RowKit
set_option linter.unusedSimpArgs false
set_option linter.unusedVariables false

set_option maxHeartbeats 800000 in
theorem exactBoxOk_walk (a : Option Addr) (n cap : Nat) (f g : Nat → Int) (w : World) (h : IsPairs w a n f g) :
    Calls Try.prog 3 #[.slice a n cap] w fun e w' => e = .returned (.bool true) ∧ Below w.heap.size w w' := by
  obtain ⟨hp, hl⟩ := h
  have SZ := hide (szRangeS_any a n cap 1048576 w (by omega) (by omega) hl)
  by_cases hn : n ≤ 1048576
  · rw [if_neg (show ¬ (1048576 : Int) - (n : Int) < 0 by omega)] at SZ
    have HP := hide hp
    clear hp
    have TR := hide (fun w1 (hb : Below w.heap.size w w1) => toRangeS_any a n cap f g w1 (HP.out.below hb) hn)
    have SB := hide (fun b w1 (h : OwnP w1 b n f g) => sBoxOk_any (some ⟨b, 0, none⟩) n n f g w1 h.prow hn)
    have IB := hide (fun b w1 (h : OwnP w1 b n f g) => iBoxOk_any (some ⟨b, 0, none⟩) n n f g w1 h.prow)
    have EQ := hide (fun b b' w1 (h : OwnP w1 b n f g) (h' : OwnP w1 b' n f g) => eqRangeS_self (some ⟨b, 0, none⟩) (some ⟨b', 0, none⟩) n n n f g w1 h.prow h'.prow hn)
    have hvv : (boxB n f g != boxB n f g) = false := by simp
    generalize boxB n f g = v at SB IB hvv
    have hnl : ¬ (1048576 : Int) - (n : Int) < 0 := by omega
    go_enter Try.func3, Try.ntmps3
    go_wp2_with fail
    refine SZ.out.mono ?_
    rintro e w0 ⟨rfl, hw0⟩
    obtain rfl := hw0.symm
    go_wp2_with fail
    refine (TR.out _ (by repeat' first | with_reducible exact Below.refl _ _ | with_reducible assumption | with_reducible refine below_drewN ?_ _ | with_reducible refine balloc ?_ _ | with_reducible refine Below.drew ?_ | with_reducible refine Below.setCell ?_ (by first | (simp; done) | (simp; omega) | omega) _ | with_reducible refine bstep ?_ (by assumption))).mono ?_
    rintro e w1 ⟨b1, rfl, l1, o1, hb1⟩
    go_wp2_with fail
    refine (SB.out _ _ o1).mono ?_
    rintro e w2 ⟨rfl, hb2⟩
    have B2 : Below w.heap.size w w2 := (by repeat' first | with_reducible exact Below.refl _ _ | with_reducible assumption | with_reducible refine below_drewN ?_ _ | with_reducible refine balloc ?_ _ | with_reducible refine Below.drew ?_ | with_reducible refine Below.setCell ?_ (by first | (simp; done) | (simp; omega) | omega) _ | with_reducible refine bstep ?_ (by assumption))
    clear hb1 hb2 o1 l1
    go_wp2_with fail
    refine (TR.out _ B2).mono ?_
    rintro e w3 ⟨b3, rfl, l3, o3, hb3⟩
    go_wp2_with fail
    refine (IB.out _ _ o3).mono ?_
    rintro e w4 ⟨rfl, hb4⟩
    have o4 := o3.below hb4
    have B4 : Below w.heap.size w w4 := (by repeat' first | with_reducible exact Below.refl _ _ | with_reducible assumption | with_reducible refine below_drewN ?_ _ | with_reducible refine balloc ?_ _ | with_reducible refine Below.drew ?_ | with_reducible refine Below.setCell ?_ (by first | (simp; done) | (simp; omega) | omega) _ | with_reducible refine bstep ?_ (by assumption))
    clear hb3 hb4 o3 l3 B2
    go_wp2_with fail
    refine (TR.out _ B4).mono ?_
    rintro e w5 ⟨b5, rfl, l5, o5, hb5⟩
    have o4 := o4.below hb5
    go_wp2_with fail
    refine (EQ.out _ _ _ o4 o5).mono ?_
    rintro e w6 ⟨rfl, hb6⟩
    go_wp2_with fail
    go_ret
    exact ⟨rfl, (by repeat' first | with_reducible exact Below.refl _ _ | with_reducible assumption | with_reducible refine below_drewN ?_ _ | with_reducible refine balloc ?_ _ | with_reducible refine Below.drew ?_ | with_reducible refine Below.setCell ?_ (by first | (simp; done) | (simp; omega) | omega) _ | with_reducible refine bstep ?_ (by assumption))⟩
  · rw [if_pos (show (1048576 : Int) - (n : Int) < 0 by omega)] at SZ
    go_enter Try.func3, Try.ntmps3
    go_wp2_with fail
    refine SZ.out.mono ?_
    rintro e w0 ⟨rfl, hw0⟩
    obtain rfl := hw0.symm
    go_wp2_with fail
    go_ret
    exact ⟨rfl, (by repeat' first | with_reducible exact Below.refl _ _ | with_reducible assumption | with_reducible refine below_drewN ?_ _ | with_reducible refine balloc ?_ _ | with_reducible refine Below.drew ?_ | with_reducible refine Below.setCell ?_ (by first | (simp; done) | (simp; omega) | omega) _ | with_reducible refine bstep ?_ (by assumption))⟩
end Go.Proofs.Ytogmogmdgacnkaa
