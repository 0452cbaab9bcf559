/- The walks of FnExactLowOf, FnExactHighOf, FnExactBoxHas. -/
import Derived.Test.YthpinidgmoamhaaBK
import Derived.Test.YthpinidgmoamhaaBC
import Derived.Test.YthpinidgmoamhaaVA
import Derived.Test.YthpinidgmoamhaaVD
namespace Go.Proofs.Ythpinidgmoamhaa
open Go.RowKit
set_option linter.unusedSimpArgs false
set_option linter.unusedVariables false





set_option maxHeartbeats 1600000 in
theorem exactBoxHas_walk (a : Option Addr) (n cap : Nat) (f g : Nat → Int) (a' : Option Addr) (n' cap' : Nat) (zs : List Int) (w : World) (h : IsPairs w a n f g) (h' : IsRow .i64 w a' n' cap' zs) :
    Calls Try.prog 3 #[.slice a n cap, .slice a' n' cap'] w fun e w' => e = .returned (.bool true) ∧ Below w.heap.size w w' := by
  obtain ⟨hp, hl⟩ := h
  have hq := h'.row
  have hcap : n' ≤ 9223372036854775807 := by
    rcases h' with ⟨_, h0, _, _⟩ | ⟨_, _, h1, h2, _⟩
    · omega
    · unfold maxLen at h2; omega
  generalize zs.take n' = xs at hq
  clear h'
  have SZ := hide (szRangeS_any a n cap 1048576 w (by omega) (by omega) hl)
  by_cases hm : n' ≤ 1048576
  · have hml : ¬ (1048576 : Int) < (n' : Int) := by omega
    by_cases hn : n ≤ 1048576
    · rw [if_neg (show ¬ (1048576 : Int) - (n : Int) < 0 by omega)] at SZ
      have hnl : ¬ (1048576 : Int) - (n : Int) < 0 := by omega
      have hln := hq.len
      have TR := hide (fun w1 (hb : Below w.heap.size w w1) => toRangeS_any a n cap f g w1 (hp.below hb) hn)
      have TI := hide (fun w1 (hb : Below w.heap.size w w1) => toInts_any a' n' cap' xs w1 (hq.below hb) hm)
      have rw' : ∀ (w1 : World) (b : Nat), Own w1 b xs → Row w1 (some ⟨b, 0, none⟩) n' xs := fun w1 b h => by have := h.row; rwa [hln] at this
      have SB := hide (fun b b' w1 (h : OwnP w1 b n f g) (h' : Own w1 b' xs) => sBoxHas_any (some ⟨b, 0, none⟩) (some ⟨b', 0, none⟩) n n n' n' f g xs w1 h.prow (rw' _ _ h') hn hm)
      have IB := hide (fun b b' w1 (h : OwnP w1 b n f g) (h' : Own w1 b' xs) => iBoxHas_any (some ⟨b, 0, none⟩) (some ⟨b', 0, none⟩) n n n' n' f g xs w1 h.prow (rw' _ _ h') hm)
      have EQ := hide (fun b b' w1 (h : OwnP w1 b n f g) (h' : OwnP w1 b' n f g) => eqRangeS_self (some ⟨b, 0, none⟩) (some ⟨b', 0, none⟩) n n n f g w1 h.prow h'.prow hn)
      have EI := hide (fun b b' w1 (h : Own w1 b xs) (h' : Own w1 b' xs) => eqInts_any (some ⟨b, 0, none⟩) (some ⟨b', 0, none⟩) n' n' n' n' xs xs w1 (rw' _ _ h) (rw' _ _ h') hm)
      rw [decide_eq_true rfl] at EI
      have hvv : (boxHasB n f g n' xs != boxHasB n f g n' xs) = false := by simp
      generalize boxHasB n f g n' xs = v at SB IB hvv
      clear hp hq rw'
      go_enter Try.func3, Try.ntmps3
      go_wp2_with fail
      refine SZ.out.mono ?_
      rintro e w0 ⟨rfl, hw0⟩
      obtain rfl := hw0.symm
      clear SZ
      go_wp2_with fail
      refine (TR.out _ (by repeat' first | with_reducible exact Below.refl _ _ | with_reducible assumption | with_reducible refine below_drewN ?_ _ | with_reducible refine balloc ?_ _ | with_reducible refine Below.drew ?_ | with_reducible refine Below.setCell ?_ (by first | (simp; done) | (simp; omega) | omega) _ | with_reducible refine bstep ?_ (by assumption))).mono ?_
      rintro e w1 ⟨b1, rfl, l1, o1, hb1⟩
      go_wp2_with fail
      refine (TI.out _ hb1).mono ?_
      rintro e w2 ⟨b2, rfl, l2, o2, hb2⟩
      have o1 := o1.below hb2
      go_wp2_with fail
      refine (SB.out _ _ _ o1 o2).mono ?_
      rintro e w3 ⟨rfl, hb3⟩
      have B3 : Below w.heap.size w w3 := (by repeat' first | with_reducible exact Below.refl _ _ | with_reducible assumption | with_reducible refine below_drewN ?_ _ | with_reducible refine balloc ?_ _ | with_reducible refine Below.drew ?_ | with_reducible refine Below.setCell ?_ (by first | (simp; done) | (simp; omega) | omega) _ | with_reducible refine bstep ?_ (by assumption))
      clear hb1 hb2 hb3 o1 o2 l1 l2 SB
      go_wp2_with fail
      refine (TR.out _ B3).mono ?_
      rintro e w4 ⟨b4, rfl, l4, o4, hb4⟩
      have B4 : Below w.heap.size w w4 := (by repeat' first | with_reducible exact Below.refl _ _ | with_reducible assumption | with_reducible refine below_drewN ?_ _ | with_reducible refine balloc ?_ _ | with_reducible refine Below.drew ?_ | with_reducible refine Below.setCell ?_ (by first | (simp; done) | (simp; omega) | omega) _ | with_reducible refine bstep ?_ (by assumption))
      clear hb4
      go_wp2_with fail
      refine (TI.out _ B4).mono ?_
      rintro e w5 ⟨b5, rfl, l5, o5, hb5⟩
      have o4 := o4.below hb5
      go_wp2_with fail
      refine (IB.out _ _ _ o4 o5).mono ?_
      rintro e w6 ⟨rfl, hb6⟩
      have o4 := o4.below hb6
      have o5 := o5.below hb6
      have B6 : Below w.heap.size w w6 := (by repeat' first | with_reducible exact Below.refl _ _ | with_reducible assumption | with_reducible refine below_drewN ?_ _ | with_reducible refine balloc ?_ _ | with_reducible refine Below.drew ?_ | with_reducible refine Below.setCell ?_ (by first | (simp; done) | (simp; omega) | omega) _ | with_reducible refine bstep ?_ (by assumption))
      clear hb5 hb6 B4 B3 IB l4 l5
      go_wp2_with fail
      refine (TR.out _ B6).mono ?_
      rintro e w7 ⟨b7, rfl, l7, o7, hb7⟩
      have o4 := o4.below hb7
      have o5 := o5.below hb7
      go_wp2_with fail
      refine (EQ.out _ _ _ o4 o7).mono ?_
      rintro e w8 ⟨rfl, hb8⟩
      have o5 := o5.below hb8
      have B8 : Below w.heap.size w w8 := (by repeat' first | with_reducible exact Below.refl _ _ | with_reducible assumption | with_reducible refine below_drewN ?_ _ | with_reducible refine balloc ?_ _ | with_reducible refine Below.drew ?_ | with_reducible refine Below.setCell ?_ (by first | (simp; done) | (simp; omega) | omega) _ | with_reducible refine bstep ?_ (by assumption))
      clear hb7 hb8 o4 o7 l7 B6 EQ
      go_wp2_with fail
      refine (TI.out _ B8).mono ?_
      rintro e w9 ⟨b9, rfl, l9, o9, hb9⟩
      have o5 := o5.below hb9
      go_wp2_with fail
      refine (EI.out _ _ _ o5 o9).mono ?_
      rintro e w10 ⟨rfl, hb10⟩
      go_wp2_with fail
      go_ret
      exact ⟨rfl, (by repeat' first | with_reducible exact Below.refl _ _ | with_reducible assumption | with_reducible refine below_drewN ?_ _ | with_reducible refine balloc ?_ _ | with_reducible refine Below.drew ?_ | with_reducible refine Below.setCell ?_ (by first | (simp; done) | (simp; omega) | omega) _ | with_reducible refine bstep ?_ (by assumption))⟩
    · rw [if_pos (show (1048576 : Int) - (n : Int) < 0 by omega)] at SZ
      go_enter Try.func3, Try.ntmps3
      go_wp2_with fail
      refine SZ.out.mono ?_
      rintro e w0 ⟨rfl, hw0⟩
      obtain rfl := hw0.symm
      go_wp2_with fail
      go_ret
      exact ⟨rfl, (by repeat' first | with_reducible exact Below.refl _ _ | with_reducible assumption | with_reducible refine below_drewN ?_ _ | with_reducible refine balloc ?_ _ | with_reducible refine Below.drew ?_ | with_reducible refine Below.setCell ?_ (by first | (simp; done) | (simp; omega) | omega) _ | with_reducible refine bstep ?_ (by assumption))⟩
  · have hml : (1048576 : Int) < (n' : Int) := by omega
    go_enter Try.func3, Try.ntmps3
    go_wp2_with fail
    go_ret
    exact ⟨rfl, (by repeat' first | with_reducible exact Below.refl _ _ | with_reducible assumption | with_reducible refine below_drewN ?_ _ | with_reducible refine balloc ?_ _ | with_reducible refine Below.drew ?_ | with_reducible refine Below.setCell ?_ (by first | (simp; done) | (simp; omega) | omega) _ | with_reducible refine bstep ?_ (by assumption))⟩

end Go.Proofs.Ythpinidgmoamhaa
