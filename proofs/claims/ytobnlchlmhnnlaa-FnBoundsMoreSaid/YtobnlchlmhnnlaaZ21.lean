/- The walk of FnBoundsMore. -/
import Derived.Test.YtobnlchlmhnnlaaZ19
import Derived.Test.YtobnlchlmhnnlaaZ16
import Derived.Test.YtobnlchlmhnnlaaZ15
import Derived.Test.YtobnlchlmhnnlaaZ20
import Derived.Test.YtobnlchlmhnnlaaZ11
import Derived.Test.YtobnlchlmhnnlaaZ12
import Derived.Test.YtobnlchlmhnnlaaZ18
import Derived.Test.YtobnlchlmhnnlaaZ17
import Derived.Deep.RegionHeld3
namespace Go.Proofs.Ytobnlchlmhnnlaa
open Go.RowKit
set_option maxRecDepth 8000
set_option linter.unusedSimpArgs false
set_option linter.unusedVariables false

set_option maxHeartbeats 8000000 in
set_option maxRecDepth 4000 in
theorem boundsMore_walk (a : Option Addr) (n cap : Nat) (zs : List Int) (w : World) (h : IsRow .u8 w a n cap zs) :
    Calls Try.prog 3 #[.slice a n cap] w fun e w' => e = .returned (.bool true) ∧ Below w.heap.size w w' := by
  have BG := hide (big_any a n cap w)
  by_cases hn : n ≤ 1048576
  · rw [decide_eq_false (show ¬ 1048576 < n by omega)] at BG
    have HC := hide (h.code hn)
    have DR := hide (drawBoxJoin_any a n cap w HC.out)
    clear h
    go_enter Try.func3, Try.ntmps3
    go_wp2_with fail
    refine BG.out.mono ?_
    rintro e w' ⟨rfl, hw⟩
    obtain rfl := hw.symm
    clear BG hw
    go_wp2_with fail
    refine DR.out.mono ?_
    rintro e w1 ⟨a1, n1, c1, f, g, a2, n2, c2, f', g', rfl, h1, h2, r1, r2, hb1⟩
    clear DR
    have R1 := hide r1
    have R2 := hide r2
    have HC1 := hide (fun w' (hb' : Below w1.heap.size w1 w') => HC.out.below (bstep hb1 hb'))
    have LI := hide (fun w' (hb' : Below w1.heap.size w1 w') => iBoxLeq_any a1 a2 n1 c1 n2 c2 f g f' g' w' (R1.out.below hb') (R2.out.below hb'))
    have LS := hide (fun w' (hb' : Below w1.heap.size w1 w') => sBoxLeq_any a1 a2 n1 c1 n2 c2 f g f' g' w' (R1.out.below hb') (R2.out.below hb') (by omega) (by omega))
    obtain ⟨lv, hlv⟩ : ∃ lv, boxLeqB n1 f g n2 f' g' = lv := ⟨_, rfl⟩
    have HLV := hide hlv
    rw [hlv] at LI LS
    have e1 : (lv != lv) = false := by cases lv <;> rfl
    have e2 : (lv == lv) = true := by cases lv <;> rfl
    clear r1 r2 hlv HC
    cases hA : alikeB n1 f g n2 f' g'
    · have JI := hide (fun w' (hb' : Below w1.heap.size w1 w') => iBoxJoin_no a1 a2 n1 c1 n2 c2 f g f' g' w' (R1.out.below hb') (R2.out.below hb') hA)
      have JS := hide (fun w' (hb' : Below w1.heap.size w1 w') => sBoxJoin_no a1 a2 n1 c1 n2 c2 f g f' g' w' (R1.out.below hb') (R2.out.below hb') (by omega) (by omega) hA)
      have SR := hide (fun w' => sameRanges_none none none 0 0 0 w' (by omega))
      clear hA
      go_wp2_with fail
      refine (JI.out _ (by repeat' first | with_reducible exact Below.refl _ _ | with_reducible assumption | with_reducible refine below_drewN ?_ _ | with_reducible refine balloc ?_ _ | with_reducible refine Below.drew ?_ | with_reducible refine Below.setCell ?_ (by first | (simp; done) | (simp; omega) | omega) _ | with_reducible refine bstep ?_ (by assumption))).mono ?_
      rintro e w2 ⟨rfl, hb2⟩
      go_wp2_with fail
      refine (JS.out _ hb2).mono ?_
      rintro e w3 ⟨rfl, hb3⟩
      have k3 := bstep hb2 hb3
      go_wp2_with fail
      refine (SR.out _).mono ?_
      rintro e w4 ⟨rfl, hb4⟩
      have k4 := bstep k3 hb4
      go_wp2_with fail
      refine (LI.out _ k4).mono ?_
      rintro e w5 ⟨rfl, hb5⟩
      have k5 := bstep k4 hb5
      go_wp2_with fail
      refine (LS.out _ k5).mono ?_
      rintro e w6 ⟨rfl, hb6⟩
      have k6 := bstep k5 hb6
      go_wp2_with fail
      refine (SR.out _).mono ?_
      rintro e w7 ⟨rfl, hb7⟩
      have k7 := bstep k6 hb7
      go_wp2_with fail
      refine (LI.out _ k7).mono ?_
      rintro e w8 ⟨rfl, hb8⟩
      have k8 := bstep k7 hb8
      go_wp2_with fail
      refine (LS.out _ k8).mono ?_
      rintro e w9 ⟨rfl, hb9⟩
      have k9 := bstep hb1 (bstep k8 hb9)
      go_wp2_with fail
      go_ret
      exact ⟨rfl, k9⟩
    · have JI := hide (fun w' (hb' : Below w1.heap.size w1 w') => iBoxJoin_yes a1 a2 n1 c1 n2 c2 f g f' g' w' (R1.out.below hb') (R2.out.below hb') hA)
      have JS := hide (fun w' (hb' : Below w1.heap.size w1 w') => sBoxJoin_yes a1 a2 n1 c1 n2 c2 f g f' g' w' (R1.out.below hb') (R2.out.below hb') hA)
      have FACT := hide (fun ys (hl : ys.length = n1) hy => join_facts (ys := ys) hA hl hy)
      have hbx : Hid (boxB n2 f' g' = true ∧ n1 = n2 ∧ n1 ≤ 1048576) := hide (by
        simp only [alikeB, Bool.and_eq_true, decide_eq_true_eq] at hA
        have := boxB_num hA.1.1
        exact ⟨hA.1.2, hA.2, by omega⟩)
      clear hA
      go_wp2_with fail
      refine (JI.out _ (by repeat' first | with_reducible exact Below.refl _ _ | with_reducible assumption | with_reducible refine below_drewN ?_ _ | with_reducible refine balloc ?_ _ | with_reducible refine Below.drew ?_ | with_reducible refine Below.setCell ?_ (by first | (simp; done) | (simp; omega) | omega) _ | with_reducible refine bstep ?_ (by assumption))).mono ?_
      rintro e w2 ⟨q, rfl, hq1, hq, hb2⟩
      clear JI hq1
      go_wp2_with fail
      refine (JS.out _ hb2).mono ?_
      rintro e w3 ⟨a3, c3, rfl, r3, hb3⟩
      have k3 := bstep hb2 hb3
      have RJ := hide (hq.prow.below hb3)
      have RW := hide r3
      clear hq r3 JS hb2 hb3
      have SW := hide (sameRanges_any (some ⟨q, 0, none⟩) a3 n1 n1 n1 c3 _ _ _ _ w3 RJ.out RW.out hbx.out.2.2)
      simp only [sameB_self, decide_true, Bool.and_true] at SW
      go_wp2_with fail
      refine SW.out.mono ?_
      rintro e w4 ⟨rfl, hb4⟩
      have k4 := bstep k3 hb4
      have RJ4 := hide (RJ.out.below hb4)
      clear SW RW RJ k3 hb4
      go_wp2_with fail
      refine (LI.out _ k4).mono ?_
      rintro e w5 ⟨rfl, hb5⟩
      have k5 := bstep k4 hb5
      have RJ5 := hide (RJ4.out.below hb5)
      clear RJ4 k4 hb5
      go_wp2_with fail
      refine (LS.out _ k5).mono ?_
      rintro e w6 ⟨rfl, hb6⟩
      have k6 := bstep k5 hb6
      have RJ6 := hide (RJ5.out.below hb6)
      have R26 := hide (R2.out.below k6)
      have IN := hide (inside_any a2 n2 c2 f' g' a n cap w6 R26.out hbx.out.1 (HC1.out _ k6))
      clear RJ5 k5 hb6 LS HC1 R26
      go_wp2_with fail
      refine IN.out.mono ?_
      rintro e w7 ⟨a7, c7, ys, rfl, r7, hy7, hb7⟩
      have k7 := bstep k6 hb7
      have RJ7 := hide (RJ6.out.below hb7)
      have RV := hide r7
      obtain ⟨f1, f2, f3, f4, f5, f6, f7, f8⟩ := FACT.out ys (by have := r7.len; have := hbx.out.2.1; omega) (fun j hj => hy7 j (by have := hbx.out.2.1; omega))
      have eN := hbx.out.2.1
      subst eN
      have A1 := hide (fun w' (hb' : Below w7.heap.size w7 w') => iBoxLeq_any a1 (some ⟨q, 0, none⟩) n1 c1 n1 n1 f g _ _ w' (R1.out.below (bstep k7 hb')) (RJ7.out.below hb'))
      have A2 := hide (fun w' (hb' : Below w7.heap.size w7 w') => iBoxLeq_any a2 (some ⟨q, 0, none⟩) n1 c2 n1 n1 f' g' _ _ w' (R2.out.below (bstep k7 hb')) (RJ7.out.below hb'))
      have L1 := hide (fun w' (hb' : Below w7.heap.size w7 w') => iLowOf_any (some ⟨q, 0, none⟩) a7 n1 n1 n1 c7 _ _ ys w' (RJ7.out.below hb') (RV.out.below hb') hbx.out.2.2)
      have L2 := hide (fun w' (hb' : Below w7.heap.size w7 w') => iLowOf_any a1 a7 n1 c1 n1 c7 f g ys w' (R1.out.below (bstep k7 hb')) (RV.out.below hb') hbx.out.2.2)
      have H1 := hide (fun w' (hb' : Below w7.heap.size w7 w') => iHighOf_any (some ⟨q, 0, none⟩) a7 n1 n1 n1 c7 _ _ ys w' (RJ7.out.below hb') (RV.out.below hb') hbx.out.2.2)
      have H2 := hide (fun w' (hb' : Below w7.heap.size w7 w') => iHighOf_any a1 a7 n1 c1 n1 c7 f g ys w' (R1.out.below (bstep k7 hb')) (RV.out.below hb') hbx.out.2.2)
      have SB := hide (fun w' (hb' : Below w7.heap.size w7 w') => sameRanges_any (some ⟨q, 0, none⟩) a2 n1 n1 n1 c2 _ _ f' g' w' (RJ7.out.below hb') (R2.out.below (bstep k7 hb')) hbx.out.2.2)
      rw [f1] at A1
      rw [f2] at A2
      rw [f3, f5] at L1
      rw [f4] at L2 H2
      rw [f3] at H1
      rw [← f8, HLV.out] at SB
      simp only [if_true, decide_true, Bool.true_and] at A1 A2 L1 L2 H1 H2 SB
      obtain ⟨la, hla⟩ : ∃ la, leastN n1 f g ys = la := ⟨_, rfl⟩
      obtain ⟨ha, hha⟩ : ∃ ha, mostN n1 f g ys = ha := ⟨_, rfl⟩
      obtain ⟨hj, hhj⟩ : ∃ hj, mostN n1 (joinF f f') (joinG g g') ys = hj := ⟨_, rfl⟩
      rw [hla] at f6 L2
      rw [hha] at f7 H2
      rw [hhj] at f7 H1
      have d1 : decide ((0 : Int) ≤ la) = true := decide_eq_true f6
      have d2 : decide (ha ≤ hj) = true := decide_eq_true f7
      clear f1 f2 f3 f4 f5 f8 hla hha hhj FACT IN r7 hy7 RJ6 RJ7 k6 hbx HLV RV
      go_wp2_with fail
      refine (A1.out _ (by repeat' first | with_reducible exact Below.refl _ _ | with_reducible assumption | with_reducible refine below_drewN ?_ _ | with_reducible refine balloc ?_ _ | with_reducible refine Below.drew ?_ | with_reducible refine Below.setCell ?_ (by first | (simp; done) | (simp; omega) | omega) _ | with_reducible refine bstep ?_ (by assumption))).mono ?_
      rintro e w8 ⟨rfl, hb8⟩
      go_wp2_with fail
      refine (A2.out _ hb8).mono ?_
      rintro e w9 ⟨rfl, hb9⟩
      have k9 := bstep hb8 hb9
      clear hb8 hb9
      go_wp2_with fail
      refine (L1.out _ k9).mono ?_
      rintro e w10 ⟨rfl, hb10⟩
      have k10 := bstep k9 hb10
      clear k9 hb10
      go_wp2_with fail
      refine (L2.out _ k10).mono ?_
      rintro e w11 ⟨rfl, hb11⟩
      have k11 := bstep k10 hb11
      clear k10 hb11
      go_wp2_with fail
      refine (H1.out _ k11).mono ?_
      rintro e w12 ⟨rfl, hb12⟩
      have k12 := bstep k11 hb12
      clear k11 hb12
      go_wp2_with fail
      refine (H2.out _ k12).mono ?_
      rintro e w13 ⟨rfl, hb13⟩
      have k13 := bstep k12 hb13
      clear k12 hb13
      go_wp2_with fail
      refine (L1.out _ k13).mono ?_
      rintro e w14 ⟨rfl, hb14⟩
      have k14 := bstep k13 hb14
      clear k13 hb14
      go_wp2_with fail
      refine (LI.out _ (bstep k7 k14)).mono ?_
      rintro e w15 ⟨rfl, hb15⟩
      have k15 := bstep k14 hb15
      clear k14 hb15
      go_wp2_with fail
      refine (SB.out _ k15).mono ?_
      rintro e w16 ⟨rfl, hb16⟩
      have k16 := bstep hb1 (bstep k7 (bstep k15 hb16))
      go_wp2_with fail
      go_ret
      exact ⟨rfl, k16⟩
  · rw [decide_eq_true (show 1048576 < n by omega)] at BG
    clear h
    go_enter Try.func3, Try.ntmps3
    go_wp2_with fail
    refine BG.out.mono ?_
    rintro e w' ⟨rfl, hw⟩
    obtain rfl := hw.symm
    go_wp2_with fail
    go_ret
    exact ⟨rfl, (by repeat' first | with_reducible exact Below.refl _ _ | with_reducible assumption | with_reducible refine below_drewN ?_ _ | with_reducible refine balloc ?_ _ | with_reducible refine Below.drew ?_ | with_reducible refine Below.setCell ?_ (by first | (simp; done) | (simp; omega) | omega) _ | with_reducible refine bstep ?_ (by assumption))⟩
end Go.Proofs.Ytobnlchlmhnnlaa
