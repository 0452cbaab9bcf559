/- BoxJoin of the model, all arguments; the walk of FnExactBoxJoin. -/
import Derived.Test.YtogmogmdgacnkaaBO
import Derived.Test.YtogmogmdgacnkaaBF
namespace Go.Proofs.Ytogmogmdgacnkaa
open Go.RowKit
set_option linter.unusedSimpArgs false
set_option linter.unusedVariables false

set_option maxHeartbeats 800000 in
theorem sBoxJoin_no (a a' : Option Addr) (n cap n' cap' : Nat) (f g f' g' : Nat → Int) (w : World) (h : PRow w a n f g) (h' : PRow w a' n' f' g') (hn : n ≤ 1048576) (hn' : n' ≤ 1048576) (hA : alikeB n f g n' f' g' = false) :
    Calls Try.prog 13 #[.slice a n cap, .slice a' n' cap'] w fun e w' => e = .returned (.tuple #[.slice none 0 0, .bool false]) ∧ Below w.heap.size w w' := by
  have A := hide (sBoxOk_any a n cap f g w h hn)
  have B := hide (fun w1 (hb : Below w.heap.size w w1) => sBoxOk_any a' n' cap' f' g' w1 (h'.below hb) hn')
  clear h h'
  unfold alikeB at hA
  cases h1 : boxB n f g
  · rw [h1] at A
    go_enter Try.func13, Try.ntmps13
    go_wp2_with fail
    refine A.out.mono ?_
    rintro e w1 ⟨rfl, hb1⟩
    go_wp2_with fail
    refine bodyPost_ret (v := .tuple #[.slice none 0 0, .bool false]) ?_ rfl ⟨rfl, (by repeat' first | with_reducible exact Below.refl _ _ | with_reducible assumption | with_reducible refine below_drewN ?_ _ | with_reducible refine balloc ?_ _ | with_reducible refine Below.drew ?_ | with_reducible refine Below.setCell ?_ (by first | (simp; done) | (simp; omega) | omega) _ | with_reducible refine bstep ?_ (by assumption))⟩
    simp [results, Try.results13, go_sem]
  · rw [h1] at A hA
    cases h2 : boxB n' f' g'
    · rw [h2] at B
      clear hA
      go_enter Try.func13, Try.ntmps13
      go_wp2_with fail
      refine A.out.mono ?_
      rintro e w1 ⟨rfl, hb1⟩
      go_wp2_with fail
      refine (B.out _ hb1).mono ?_
      rintro e w2 ⟨rfl, hb2⟩
      go_wp2_with fail
      refine bodyPost_ret (v := .tuple #[.slice none 0 0, .bool false]) ?_ rfl ⟨rfl, (by repeat' first | with_reducible exact Below.refl _ _ | with_reducible assumption | with_reducible refine below_drewN ?_ _ | with_reducible refine balloc ?_ _ | with_reducible refine Below.drew ?_ | with_reducible refine Below.setCell ?_ (by first | (simp; done) | (simp; omega) | omega) _ | with_reducible refine bstep ?_ (by assumption))⟩
      simp [results, Try.results13, go_sem]
    · rw [h2] at B hA
      have he' : ((n : Int) != (n' : Int)) = true := by
        simp at hA
        rw [bne_iff_ne]; omega
      clear hA
      go_enter Try.func13, Try.ntmps13
      go_wp2_with fail
      refine A.out.mono ?_
      rintro e w1 ⟨rfl, hb1⟩
      go_wp2_with fail
      refine (B.out _ hb1).mono ?_
      rintro e w2 ⟨rfl, hb2⟩
      go_wp2_with fail
      refine bodyPost_ret (v := .tuple #[.slice none 0 0, .bool false]) ?_ rfl ⟨rfl, (by repeat' first | with_reducible exact Below.refl _ _ | with_reducible assumption | with_reducible refine below_drewN ?_ _ | with_reducible refine balloc ?_ _ | with_reducible refine Below.drew ?_ | with_reducible refine Below.setCell ?_ (by first | (simp; done) | (simp; omega) | omega) _ | with_reducible refine bstep ?_ (by assumption))⟩
      simp [results, Try.results13, go_sem]

theorem sBoxJoin_yes (a a' : Option Addr) (n cap n' cap' : Nat) (f g f' g' : Nat → Int) (w : World) (h : PRow w a n f g) (h' : PRow w a' n' f' g') (hA : alikeB n f g n' f' g' = true) :
    Calls Try.prog 13 #[.slice a n cap, .slice a' n' cap'] w fun e w' => SJoin w n (joinF f f') (joinG g g') e w' := by
  simp only [alikeB, Bool.and_eq_true, decide_eq_true_eq] at hA
  obtain ⟨⟨h1, h2⟩, rfl⟩ := hA
  have hn := boxB_num h1
  have A := hide (sBoxOk_any a n cap f g w h (by omega))
  have B := hide (fun w1 (hb : Below w.heap.size w w1) => sBoxOk_any a' n cap' f' g' w1 (h'.below hb) (by omega))
  rw [h1] at A
  rw [h2] at B
  rcases h.lies with q | ⟨b, off, rfl, lt, hc⟩
  · omega
  · rcases h'.lies with q | ⟨b', off', rfl, lt', hc'⟩
    · omega
    · exact sBoxJoin_some b off n cap b' off' cap' f g f' g' w hn.2 lt lt' (fun i hi => boxB_at h1 hi) (fun i hi => boxB_at h2 hi) hc hc' A B

set_option maxHeartbeats 4000000 in
set_option maxRecDepth 4000 in
theorem exactBoxJoin_in (a : Option Addr) (n cap : Nat) (f g : Nat → Int) (a' : Option Addr) (n' cap' : Nat) (f' g' : Nat → Int) (w : World) (hp : PRow w a n f g) (hp' : PRow w a' n' f' g') (hl : n ≤ 9223372036854775807) (hl' : n' ≤ 9223372036854775807) (hn : n ≤ 1048576) (hn' : n + n' ≤ 1048576) (ok : Bool) (hok : alikeB n f g n' f' g' = ok) :
    Calls Try.prog 5 #[.slice a n cap, .slice a' n' cap'] w fun e w' => e = .returned (.bool true) ∧ Below w.heap.size w w' := by
  have SZ := hide (szRangeS_any a n cap 1048576 w (by omega) (by omega) hl)
  rw [if_neg (show ¬ (1048576 : Int) - (n : Int) < 0 by omega)] at SZ
  have SZ' := hide (szRangeS_any a' n' cap' (1048576 - (n : Int)) w (by omega) (by omega) hl')
  rw [if_neg (show ¬ (1048576 : Int) - (n : Int) - (n' : Int) < 0 by omega)] at SZ'
  have hnl : ¬ (1048576 : Int) - (n : Int) < 0 := by omega
  have hnl' : ¬ (1048576 : Int) - (n : Int) - (n' : Int) < 0 := by omega
  have TR := hide (fun w1 (hb : Below w.heap.size w w1) => toRangeS_any a n cap f g w1 (hp.below hb) hn)
  have TR' := hide (fun w1 (hb : Below w.heap.size w w1) => toRangeS_any a' n' cap' f' g' w1 (hp'.below hb) (by omega))
  have EQ := hide (fun b b' w1 (h : OwnP w1 b n f g) (h' : OwnP w1 b' n f g) => eqRangeS_self (some ⟨b, 0, none⟩) (some ⟨b', 0, none⟩) n n n f g w1 h.prow h'.prow hn)
  have EQ' := hide (fun b b' w1 (h : OwnP w1 b n' f' g') (h' : OwnP w1 b' n' f' g') => eqRangeS_self (some ⟨b, 0, none⟩) (some ⟨b', 0, none⟩) n' n' n' f' g' w1 h.prow h'.prow (by omega))
  have MX := hide (fun b w1 (h : OwnP w1 b n f g) => markRangeS_own b n n 1 f g w1 h hn (by omega) (by omega))
  have MY := hide (fun b w1 (h : OwnP w1 b n' f' g') => markRangeS_own b n' n' (1 + 2 * (n : Int)) f' g' w1 h (by omega) (by omega) (by omega))
  clear hp hp'
  cases ok
  · have SB := hide (fun b b' w1 (h : OwnP w1 b n f g) (h' : OwnP w1 b' n' f' g') => sBoxJoin_no (some ⟨b, 0, none⟩) (some ⟨b', 0, none⟩) n n n' n' f g f' g' w1 h.prow h'.prow hn (by omega) hok)
    have IB := hide (fun b b' w1 (h : OwnP w1 b n f g) (h' : OwnP w1 b' n' f' g') => iBoxJoin_no (some ⟨b, 0, none⟩) (some ⟨b', 0, none⟩) n n n' n' f g f' g' w1 h.prow h'.prow hok)
    have EG := hide (fun w1 => eqRangeS_none none none 0 0 0 w1 (by omega))
    have MG := hide (fun w1 => markRangeS_nil none 0 0 1 w1 (by omega))
    have HG := hide (fun w1 => heldRangeS_nil none 0 0 1 w1 (by omega))
    clear hok
    go_enter Try.func5, Try.ntmps5
    go_wp2_with fail
    refine SZ.out.mono ?_
    rintro e w0 ⟨rfl, hw0⟩
    obtain rfl := hw0.symm
    go_wp2_with fail
    refine SZ'.out.mono ?_
    rintro e w0 ⟨rfl, hw0⟩
    obtain rfl := hw0.symm
    clear SZ SZ'
    go_wp2_with fail
    refine (TR.out _ (by repeat' first | with_reducible exact Below.refl _ _ | with_reducible assumption | with_reducible refine below_drewN ?_ _ | with_reducible refine balloc ?_ _ | with_reducible refine Below.drew ?_ | with_reducible refine Below.setCell ?_ (by first | (simp; done) | (simp; omega) | omega) _ | with_reducible refine bstep ?_ (by assumption))).mono ?_
    rintro e w1 ⟨b1, rfl, l1, o1, hb1⟩
    go_wp2_with fail
    refine (TR'.out _ hb1).mono ?_
    rintro e w2 ⟨b2, rfl, l2, o2, hb2⟩
    have o1 := o1.below hb2
    go_wp2_with fail
    refine (SB.out _ _ _ o1 o2).mono ?_
    rintro e w3 ⟨rfl, hb3⟩
    have B3 : Below w.heap.size w w3 := (by repeat' first | with_reducible exact Below.refl _ _ | with_reducible assumption | with_reducible refine below_drewN ?_ _ | with_reducible refine balloc ?_ _ | with_reducible refine Below.drew ?_ | with_reducible refine Below.setCell ?_ (by first | (simp; done) | (simp; omega) | omega) _ | with_reducible refine bstep ?_ (by assumption))
    have s3 := B3.size
    clear hb1 hb2 hb3 o1 o2 l1 l2 SB
    go_wp2_with fail
    refine (TR.out _ B3).mono ?_
    rintro e w4 ⟨b4, rfl, l4, o4, hb4⟩
    have K4 : Below w3.heap.size w3 w4 := hb4
    have B4 : Below w.heap.size w w4 := bstep B3 hb4
    clear hb4
    go_wp2_with fail
    refine (TR'.out _ B4).mono ?_
    rintro e w5 ⟨b5, rfl, l5, o5, hb5⟩
    have l4' := o4.lt
    have o4 := o4.below hb5
    have K5 : Below w3.heap.size w3 w5 := bstep K4 hb5
    go_wp2_with fail
    refine (IB.out _ _ _ o4 o5).mono ?_
    rintro e w6 ⟨rfl, hb6⟩
    have l5' := o5.lt
    have o4 := o4.below hb6
    have o5 := o5.below hb6
    have K6 : Below w3.heap.size w3 w6 := bstep K5 hb6
    have z5 := hb5.size
    have z6 := hb6.size
    have z4 := K4.size
    clear hb5 hb6 B4 K4 K5
    go_wp2_with fail
    refine (EG.out _).mono ?_
    rintro e w7 ⟨rfl, hb7⟩
    have o4 := o4.below hb7
    have o5 := o5.below hb7
    have K7 : Below w3.heap.size w3 w7 := bstep K6 hb7
    clear hb7 K6
    go_wp2_with fail
    refine (TR.out _ (B3.trans (K7.mono s3))).mono ?_
    rintro e w8 ⟨b8, rfl, l8, o8, hb8⟩
    have o4 := o4.below hb8
    have o5 := o5.below hb8
    go_wp2_with fail
    refine (EQ.out _ _ _ o4 o8).mono ?_
    rintro e w9 ⟨rfl, hb9⟩
    have o4 := o4.below hb9
    have o5 := o5.below hb9
    have K9 : Below w3.heap.size w3 w9 := bstep (bstep K7 hb8) hb9
    clear hb8 hb9 o8 l8 K7
    go_wp2_with fail
    refine (TR'.out _ (B3.trans (K9.mono s3))).mono ?_
    rintro e w10 ⟨b10, rfl, l10, o10, hb10⟩
    have o4 := o4.below hb10
    have o5 := o5.below hb10
    go_wp2_with fail
    refine (EQ'.out _ _ _ o5 o10).mono ?_
    rintro e w11 ⟨rfl, hb11⟩
    have o4 := o4.below hb11
    have o5 := o5.below hb11
    have K11 : Below w3.heap.size w3 w11 := bstep (bstep K9 hb10) hb11
    clear hb10 hb11 o10 l10 K9
    go_wp2_with fail
    refine (MX.out _ _ o4).mono ?_
    rintro e w12 ⟨rfl, o4', t12⟩
    have o5 := o5.but t12 (by omega)
    have K12 : Below w3.heap.size w3 w12 := K11.trans (t12.below (by omega) K11.size)
    clear t12 o4 o4' K11
    go_wp2_with fail
    refine (MY.out _ _ o5).mono ?_
    rintro e w13 ⟨rfl, o5', t13⟩
    have K13 : Below w3.heap.size w3 w13 := K12.trans (t13.below (by omega) K12.size)
    clear t13 o5 o5' K12
    have hkk : ¬ (1 + 2 * (n : Int) + 2 * (n' : Int)) < 0 := by omega
    go_wp2_with fail
    refine (EG.out _).mono ?_
    rintro e w14 ⟨rfl, hb14⟩
    have K14 : Below w3.heap.size w3 w14 := bstep K13 hb14
    clear hb14 K13
    go_wp2_with fail
    refine (MG.out _).mono ?_
    rintro e w15 ⟨rfl, hw15⟩
    obtain rfl := hw15
    have K15 := K14
    clear K14
    go_wp2_with fail
    refine (HG.out _).mono ?_
    rintro e w16 ⟨rfl, hw16⟩
    obtain rfl := hw16
    go_wp2_with fail
    refine (TR.out _ (B3.trans (K15.mono s3))).mono ?_
    rintro e w17 ⟨b17, rfl, l17, o17, hb17⟩
    have K17 := bstep K15 hb17
    clear hb17 K15
    go_wp2_with fail
    refine (TR'.out _ (B3.trans (K17.mono s3))).mono ?_
    rintro e w18 ⟨b18, rfl, l18, o18, hb18⟩
    have o17 := o17.below hb18
    have K18 := bstep K17 hb18
    clear hb18 K17
    go_wp2_with fail
    refine (IB.out _ _ _ o17 o18).mono ?_
    rintro e w19 ⟨rfl, hb19⟩
    have K19 := bstep K18 hb19
    clear hb19 K18 o17 o18 l17 l18
    go_wp2_with fail
    refine (EG.out _).mono ?_
    rintro e w20 ⟨rfl, hb20⟩
    have K20 := bstep K19 hb20
    clear hb20 K19
    go_wp2_with fail
    refine (HG.out _).mono ?_
    rintro e w21 ⟨rfl, hw21⟩
    obtain rfl := hw21
    go_wp2_with fail
    go_ret
    exact ⟨rfl, B3.trans (K20.mono s3)⟩
  · have SB := hide (fun b b' w1 (h : OwnP w1 b n f g) (h' : OwnP w1 b' n' f' g') => sBoxJoin_yes (some ⟨b, 0, none⟩) (some ⟨b', 0, none⟩) n n n' n' f g f' g' w1 h.prow h'.prow hok)
    have IB := hide (fun b b' w1 (h : OwnP w1 b n f g) (h' : OwnP w1 b' n' f' g') => iBoxJoin_yes (some ⟨b, 0, none⟩) (some ⟨b', 0, none⟩) n n n' n' f g f' g' w1 h.prow h'.prow hok)
    generalize joinF f f' = F at SB IB
    generalize joinG g g' = G at SB IB
    have EG := hide (fun b a2 c2 w1 (h : OwnP w1 b n F G) (h' : PRow w1 a2 n F G) => eqRangeS_self (some ⟨b, 0, none⟩) a2 n n c2 F G w1 h.prow h' hn)
    have MG := hide (fun b w1 (h : OwnP w1 b n F G) => markRangeS_own b n n 1 F G w1 h hn (by omega) (by omega))
    have HG := hide (fun b w1 (h : OwnP w1 b n (mlo 1) (mhi 1)) => heldRangeS_own b n n 1 w1 h hn (by omega) (by omega))
    clear hok
    go_enter Try.func5, Try.ntmps5
    go_wp2_with fail
    refine SZ.out.mono ?_
    rintro e w0 ⟨rfl, hw0⟩
    obtain rfl := hw0.symm
    go_wp2_with fail
    refine SZ'.out.mono ?_
    rintro e w0 ⟨rfl, hw0⟩
    obtain rfl := hw0.symm
    clear SZ SZ'
    go_wp2_with fail
    refine (TR.out _ (by repeat' first | with_reducible exact Below.refl _ _ | with_reducible assumption | with_reducible refine below_drewN ?_ _ | with_reducible refine balloc ?_ _ | with_reducible refine Below.drew ?_ | with_reducible refine Below.setCell ?_ (by first | (simp; done) | (simp; omega) | omega) _ | with_reducible refine bstep ?_ (by assumption))).mono ?_
    rintro e w1 ⟨b1, rfl, l1, o1, hb1⟩
    go_wp2_with fail
    refine (TR'.out _ hb1).mono ?_
    rintro e w2 ⟨b2, rfl, l2, o2, hb2⟩
    have o1 := o1.below hb2
    go_wp2_with fail
    refine (SB.out _ _ _ o1 o2).mono ?_
    rintro e w3 ⟨a3, c3, rfl, p3, hb3⟩
    have B3 : Below w.heap.size w w3 := (by repeat' first | with_reducible exact Below.refl _ _ | with_reducible assumption | with_reducible refine below_drewN ?_ _ | with_reducible refine balloc ?_ _ | with_reducible refine Below.drew ?_ | with_reducible refine Below.setCell ?_ (by first | (simp; done) | (simp; omega) | omega) _ | with_reducible refine bstep ?_ (by assumption))
    have s3 := B3.size
    clear hb1 hb2 hb3 o1 o2 l1 l2 SB
    go_wp2_with fail
    refine (TR.out _ B3).mono ?_
    rintro e w4 ⟨b4, rfl, l4, o4, hb4⟩
    have K4 : Below w3.heap.size w3 w4 := hb4
    have B4 : Below w.heap.size w w4 := bstep B3 hb4
    clear hb4
    go_wp2_with fail
    refine (TR'.out _ B4).mono ?_
    rintro e w5 ⟨b5, rfl, l5, o5, hb5⟩
    have l4' := o4.lt
    have o4 := o4.below hb5
    have K5 : Below w3.heap.size w3 w5 := bstep K4 hb5
    go_wp2_with fail
    refine (IB.out _ _ _ o4 o5).mono ?_
    rintro e w6 ⟨b6, rfl, l6, o6, hb6⟩
    have l5' := o5.lt
    have o4 := o4.below hb6
    have o5 := o5.below hb6
    have K6 : Below w3.heap.size w3 w6 := bstep K5 hb6
    have z5 := hb5.size
    have z6 := hb6.size
    have z4 := K4.size
    clear hb5 hb6 B4 K4 K5
    go_wp2_with fail
    refine (EG.out _ _ _ _ o6 (p3.below K6)).mono ?_
    rintro e w7 ⟨rfl, hb7⟩
    have o4 := o4.below hb7
    have o5 := o5.below hb7
    have o6 := o6.below hb7
    have K7 : Below w3.heap.size w3 w7 := bstep K6 hb7
    clear hb7 K6
    go_wp2_with fail
    refine (TR.out _ (B3.trans (K7.mono s3))).mono ?_
    rintro e w8 ⟨b8, rfl, l8, o8, hb8⟩
    have o4 := o4.below hb8
    have o5 := o5.below hb8
    have o6 := o6.below hb8
    go_wp2_with fail
    refine (EQ.out _ _ _ o4 o8).mono ?_
    rintro e w9 ⟨rfl, hb9⟩
    have o4 := o4.below hb9
    have o5 := o5.below hb9
    have o6 := o6.below hb9
    have K9 : Below w3.heap.size w3 w9 := bstep (bstep K7 hb8) hb9
    clear hb8 hb9 o8 l8 K7
    go_wp2_with fail
    refine (TR'.out _ (B3.trans (K9.mono s3))).mono ?_
    rintro e w10 ⟨b10, rfl, l10, o10, hb10⟩
    have o4 := o4.below hb10
    have o5 := o5.below hb10
    have o6 := o6.below hb10
    go_wp2_with fail
    refine (EQ'.out _ _ _ o5 o10).mono ?_
    rintro e w11 ⟨rfl, hb11⟩
    have o4 := o4.below hb11
    have o5 := o5.below hb11
    have o6 := o6.below hb11
    have K11 : Below w3.heap.size w3 w11 := bstep (bstep K9 hb10) hb11
    clear hb10 hb11 o10 l10 K9
    go_wp2_with fail
    refine (MX.out _ _ o4).mono ?_
    rintro e w12 ⟨rfl, o4', t12⟩
    have o5 := o5.but t12 (by omega)
    have o6 := o6.but t12 (by omega)
    have K12 : Below w3.heap.size w3 w12 := K11.trans (t12.below (by omega) K11.size)
    clear t12 o4 o4' K11
    go_wp2_with fail
    refine (MY.out _ _ o5).mono ?_
    rintro e w13 ⟨rfl, o5', t13⟩
    have o6 := o6.but t13 (by omega)
    have K13 : Below w3.heap.size w3 w13 := K12.trans (t13.below (by omega) K12.size)
    clear t13 o5 o5' K12
    have hkk : ¬ (1 + 2 * (n : Int) + 2 * (n' : Int)) < 0 := by omega
    go_wp2_with fail
    refine (EG.out _ _ _ _ o6 (p3.below K13)).mono ?_
    rintro e w14 ⟨rfl, hb14⟩
    have o6 := o6.below hb14
    have K14 : Below w3.heap.size w3 w14 := bstep K13 hb14
    clear hb14 K13
    go_wp2_with fail
    refine (MG.out _ _ o6).mono ?_
    rintro e w15 ⟨rfl, m6, t15⟩
    have K15 : Below w3.heap.size w3 w15 := K14.trans (t15.below (by omega) K14.size)
    clear t15 o6 K14
    have hm0 : ¬ (1 + 2 * (n : Int)) < 0 := by omega
    have hmm : ((1 + 2 * (n : Int)) != (1 + 2 * (n : Int))) = false := by simp
    go_wp2_with fail
    refine (HG.out _ _ m6).mono ?_
    rintro e w16 ⟨rfl, hw16⟩
    obtain rfl := hw16
    go_wp2_with fail
    refine (TR.out _ (B3.trans (K15.mono s3))).mono ?_
    rintro e w17 ⟨b17, rfl, l17, o17, hb17⟩
    have m6 := m6.below hb17
    have K17 := bstep K15 hb17
    clear hb17 K15
    go_wp2_with fail
    refine (TR'.out _ (B3.trans (K17.mono s3))).mono ?_
    rintro e w18 ⟨b18, rfl, l18, o18, hb18⟩
    have m6 := m6.below hb18
    have o17 := o17.below hb18
    have K18 := bstep K17 hb18
    clear hb18 K17
    go_wp2_with fail
    refine (IB.out _ _ _ o17 o18).mono ?_
    rintro e w19 ⟨b19, rfl, l19, o19, hb19⟩
    have m6 := m6.below hb19
    have K19 := bstep K18 hb19
    clear hb19 K18 o17 o18 l17 l18
    go_wp2_with fail
    refine (EG.out _ _ _ _ o19 (p3.below K19)).mono ?_
    rintro e w20 ⟨rfl, hb20⟩
    have m6 := m6.below hb20
    have K20 := bstep K19 hb20
    clear hb20 K19
    go_wp2_with fail
    refine (HG.out _ _ m6).mono ?_
    rintro e w21 ⟨rfl, hw21⟩
    obtain rfl := hw21
    go_wp2_with fail
    go_ret
    exact ⟨rfl, B3.trans (K20.mono s3)⟩

set_option maxHeartbeats 800000 in
theorem exactBoxJoin_walk (a : Option Addr) (n cap : Nat) (f g : Nat → Int) (a' : Option Addr) (n' cap' : Nat) (f' g' : Nat → Int) (w : World) (h : IsPairs w a n f g) (h' : IsPairs w a' n' f' g') :
    Calls Try.prog 5 #[.slice a n cap, .slice a' n' cap'] w fun e w' => e = .returned (.bool true) ∧ Below w.heap.size w w' := by
  obtain ⟨hp, hl⟩ := h
  obtain ⟨hp', hl'⟩ := h'
  by_cases hn : n ≤ 1048576
  · by_cases hn' : n + n' ≤ 1048576
    · exact exactBoxJoin_in a n cap f g a' n' cap' f' g' w hp hp' hl hl' hn hn' _ rfl
    · have SZ := hide (szRangeS_any a n cap 1048576 w (by omega) (by omega) hl)
      rw [if_neg (show ¬ (1048576 : Int) - (n : Int) < 0 by omega)] at SZ
      have SZ' := hide (szRangeS_any a' n' cap' (1048576 - (n : Int)) w (by omega) (by omega) hl')
      rw [if_pos (show (1048576 : Int) - (n : Int) - (n' : Int) < 0 by omega)] at SZ'
      have hnl : ¬ (1048576 : Int) - (n : Int) < 0 := by omega
      go_enter Try.func5, Try.ntmps5
      go_wp2_with fail
      refine SZ.out.mono ?_
      rintro e w0 ⟨rfl, hw0⟩
      obtain rfl := hw0.symm
      go_wp2_with fail
      refine SZ'.out.mono ?_
      rintro e w0 ⟨rfl, hw0⟩
      obtain rfl := hw0.symm
      go_wp2_with fail
      go_ret
      exact ⟨rfl, (by repeat' first | with_reducible exact Below.refl _ _ | with_reducible assumption | with_reducible refine below_drewN ?_ _ | with_reducible refine balloc ?_ _ | with_reducible refine Below.drew ?_ | with_reducible refine Below.setCell ?_ (by first | (simp; done) | (simp; omega) | omega) _ | with_reducible refine bstep ?_ (by assumption))⟩
  · have SZ := hide (szRangeS_any a n cap 1048576 w (by omega) (by omega) hl)
    rw [if_pos (show (1048576 : Int) - (n : Int) < 0 by omega)] at SZ
    go_enter Try.func5, Try.ntmps5
    go_wp2_with fail
    refine SZ.out.mono ?_
    rintro e w0 ⟨rfl, hw0⟩
    obtain rfl := hw0.symm
    go_wp2_with fail
    go_ret
    exact ⟨rfl, (by repeat' first | with_reducible exact Below.refl _ _ | with_reducible assumption | with_reducible refine below_drewN ?_ _ | with_reducible refine balloc ?_ _ | with_reducible refine Below.drew ?_ | with_reducible refine Below.setCell ?_ (by first | (simp; done) | (simp; omega) | omega) _ | with_reducible refine bstep ?_ (by assumption))⟩
end Go.Proofs.Ytogmogmdgacnkaa
