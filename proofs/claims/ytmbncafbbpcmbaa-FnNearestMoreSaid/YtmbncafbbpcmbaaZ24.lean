/- The walk of the law FnNearestMore. -/
import Derived.Test.YtmbncafbbpcmbaaZ21
import Derived.Test.YtmbncafbbpcmbaaZ18
import Derived.Test.YtmbncafbbpcmbaaZ23
import Derived.Test.YtmbncafbbpcmbaaZ7
import Derived.OpenShut
namespace Go.Proofs.Ytmbncafbbpcmbaa
open Go.RowKit
set_option maxRecDepth 8000
set_option linter.unusedSimpArgs false
set_option linter.unusedVariables false

theorem PRow.less {w : World} {a : Option Addr} {n k : Nat} {f g : Nat → Int} (h : PRow w a n f g) (hk : k ≤ n) : PRow w a k f g := by
  rcases h.lies with h0 | ⟨b, off, e, lt, hc⟩
  · exact ⟨.inl (by omega)⟩
  · exact ⟨.inr ⟨b, off, e, lt, fun i hi => hc i (by omega)⟩⟩
theorem nearM_m (dim : Int) (n : Nat) (L : IL) (qs : List Int) (k mask : Int) : nearM dim n L qs k mask ≤ n := by
  unfold nearM
  split
  · exact Nat.le_trans (Nat.min_le_right _ _) (cntP_le _ _ _)
  · omega

set_option maxHeartbeats 8000000 in
theorem nearestMore_walk (a : Option Addr) (n cap : Nat) (zs : List Int) (w : World) (h : IsRow .u8 w a n cap zs) :
    Calls Try.prog 3 #[.slice a n cap] w fun e w' => e = .returned (.bool true) ∧ Below w.heap.size w w' := by
  have BG := hide (big_any a n cap w)
  by_cases hn : n ≤ 1048576
  · rw [decide_eq_false (show ¬ 1048576 < n by omega)] at BG
    have DR := hide (drawNearest_any a n cap w (h.code hn))
    clear h
    go_enter Try.func3, Try.ntmps3
    go_wp2_with fail
    refine BG.out.mono ?_
    rintro e w' ⟨rfl, hw⟩
    obtain rfl := hw.symm
    clear BG hw
    go_wp2_with fail
    refine DR.out.mono ?_
    rintro e w1 ⟨dim, g, m, cp, L, qa, qc, qs, k, mask, rfl, hni, rq, hql⟩
    have hm := hni.few
    have hv : ∀ i, i < m → (L i).vec.length ≤ 1048576 := fun i hi => Nat.le_trans (hni.len i hi) (by omega)
    have hql2 : qs.length ≤ 1048576 := by omega
    have IN := hide (fun w1 (h : IHi w1 w.heap.size g m L) (rq : Row w1 qa qs.length qs) => iNearest_any dim (some ⟨g, 0, none⟩) m cp L qa qs.length qc qs k mask w1 h.irow (by omega) hv rq hql2)
    have SN := hide (fun w1 (h : IHi w1 w.heap.size g m L) (rq : Row w1 qa qs.length qs) => sNearest_any dim (some ⟨g, 0, none⟩) m cp L qa qs.length qc qs k mask w1 h.irow (by omega) hv rq hql2)
    have I2 := hide (fun w1 (h : IHi w1 w.heap.size g m L) (rq : Row w1 qa qs.length qs) => iNearest_any dim (some ⟨g, 0, none⟩) m cp L qa qs.length qc qs (k + 1) mask w1 h.irow (by omega) hv rq hql2)
    have IC := hide (fun (hf : formB dim m L qs = true) (hk : 1 ≤ k ∧ k < 20) w1 (h : IHi w1 w.heap.size g m L) (rq : Row w1 qa qs.length qs) => show Calls Try.prog 7 #[.int .i64 dim, .slice (some ⟨g, 0, none⟩) m cp, .slice qa qs.length qc, .int .i64 (k + 1), .int .i64 mask] w1 fun e w' => OutC w1 (min (k.toNat + 1) (cntP (mtB mask) L m)) (nearA m L qs mask) e w' from by
      have e : k + 1 = ((k.toNat + 1 : Nat) : Int) := by omega
      rw [e]
      exact iNearest_yesC dim (some ⟨g, 0, none⟩) m cp L qa qs.length qc qs (k.toNat + 1) mask w1 h.irow hv rq hql2 hf (by omega) (by omega))
    have hN1 := nearM_m dim m L qs k mask
    have NY := hide (fun (hf : formB dim m L qs = true) (hk : 1 ≤ k ∧ k < 20) => show nearM dim m L qs k mask = min k.toNat (cntP (mtB mask) L m) from by
      unfold nearM
      rw [hf, show inB k 1 20 = true from decide_eq_true (by omega)]
      rfl)
    have NN := hide (fun (hf : formB dim m L qs = false) (j : Int) => show nearM dim m L qs j mask = 0 from by unfold nearM; rw [hf]; rfl)
    obtain ⟨N, hNe⟩ : ∃ N, nearM dim m L qs k mask = N := ⟨_, rfl⟩
    obtain ⟨A, hAe⟩ : ∃ A, nearA m L qs mask = A := ⟨_, rfl⟩
    have EQ := hide (fun a1 k1 a2 k2 w1 (h : PRow w1 a1 N (fun i => (A i).1) (fun i => (A i).2)) (h' : PRow w1 a2 N (fun i => (A i).1) (fun i => (A i).2)) => sameNears_self a1 a2 N k1 k2 A w1 h h' (by omega))
    unfold OutN at IN SN I2
    unfold OutC at IC
    simp only [hNe, hAe] at IN SN hN1 NY
    simp only [hAe] at I2 IC
    have NN1 := hide (fun (hf : formB dim m L qs = false) => show N = 0 from by rw [← hNe]; exact NN.out hf k)
    have B1 := hide hni.low
    have I1 := hide hni.hi
    have R1 := hide rq
    clear hni rq DR hv hNe hAe
    go_wp2_with fail
    refine (IN.out _ I1.out R1.out).mono ?_
    rintro e w2 ⟨a2, c2, rfl, o2, b2⟩
    have I3 := hide (I1.out.below b2)
    have R3 := hide (R1.out.below b2)
    have O3 := hide o2.prow
    have B3 := hide (bstep B1.out b2)
    clear o2 b2 I1 R1 B1
    go_wp2_with fail
    refine (SN.out _ I3.out R3.out).mono ?_
    rintro e w3 ⟨a3, c3, rfl, o3, b3⟩
    have I4 := hide (I3.out.below b3)
    have R4 := hide (R3.out.below b3)
    have O4 := hide (O3.out.below b3)
    have P4 := hide o3.prow
    have B4 := hide (bstep B3.out b3)
    clear o3 b3 I3 R3 O3 B3
    go_wp2_with fail
    refine (EQ.out _ _ _ _ _ O4.out P4.out).mono ?_
    rintro e w4 ⟨rfl, b4⟩
    have I5 := hide (I4.out.below b4)
    have R5 := hide (R4.out.below b4)
    have O5 := hide (O4.out.below b4)
    have B5 := hide (bstep B4.out b4)
    clear b4 I4 R4 O4 P4 B4
    have FAIL := hide (fun w1 h rq => SN.out w1 h rq)
    by_cases hk : 1 ≤ k ∧ k < 20
    · have n1 : ¬ k < 1 := by omega
      have n2 : ¬ (20 : Int) ≤ k := by omega
      cases hf : formB dim m L qs
      · have e0 := NN1.out hf
        subst e0
        have e2 := NN.out hf (k + 1)
        rw [e2] at I2
        clear e2 NN NN1 NY IC hf hk
        go_wp2_with fail
        refine (I2.out _ I5.out R5.out).mono ?_
        rintro e w6 ⟨a6, c6, rfl, o6, b6⟩
        have B6 := hide (bstep B5.out b6)
        clear o6 b6
        cases a6
        all_goals
          go_wp2_with fail
          refine (EQ.out _ _ _ _ _ ⟨.inl rfl⟩ ⟨.inl rfl⟩).mono ?_
          rintro e w7 ⟨rfl, b7⟩
          have B7 := hide (bstep B6.out b7)
          clear b7
          go_wp2_with fail
          go_ret
          exact ⟨rfl, B7.out⟩
      · have e1 := NY.out hf hk
        have IC2 := hide (IC.out hf hk)
        obtain ⟨M, hM⟩ : ∃ M, min (k.toNat + 1) (cntP (mtB mask) L m) = M := ⟨_, rfl⟩
        rw [hM] at IC2
        have l1 : N ≤ M := by omega
        have l2 : M ≤ N + 1 := by omega
        have l3 : (N : Int) ≤ (M : Int) := by omega
        have l4 : (M : Int) ≤ (N : Int) + 1 := by omega
        clear e1 hM NN NN1 NY IC I2 hf hk
        go_wp2_with fail
        refine (IC2.out _ I5.out R5.out).mono ?_
        rintro e w6 ⟨b, rfl, hb, hr, b6⟩
        have O6 := hide (O5.out.below b6)
        have P6 := hide (hr.prow.less l1)
        have B6 := hide (bstep B5.out b6)
        clear hr b6
        go_wp2_with fail
        refine (EQ.out _ _ _ _ _ P6.out O6.out).mono ?_
        rintro e w7 ⟨rfl, b7⟩
        have B7 := hide (bstep B6.out b7)
        clear b7
        go_wp2_with fail
        go_ret
        exact ⟨rfl, B7.out⟩
    · by_cases h0 : k < 1
      · go_wp2_with fail
        refine (FAIL.out _ I5.out R5.out).mono ?_
        rintro e w6 ⟨a6, c6, rfl, o6, b6⟩
        have O6 := hide (O5.out.below b6)
        have P6 := hide o6.prow
        have B6 := hide (bstep B5.out b6)
        clear o6 b6
        go_wp2_with fail
        refine (EQ.out _ _ _ _ _ O6.out P6.out).mono ?_
        rintro e w7 ⟨rfl, b7⟩
        have B7 := hide (bstep B6.out b7)
        clear b7
        go_wp2_with fail
        go_ret
        exact ⟨rfl, B7.out⟩
      · have h1 : (20 : Int) ≤ k := by omega
        go_wp2_with fail
        refine (FAIL.out _ I5.out R5.out).mono ?_
        rintro e w6 ⟨a6, c6, rfl, o6, b6⟩
        have O6 := hide (O5.out.below b6)
        have P6 := hide o6.prow
        have B6 := hide (bstep B5.out b6)
        clear o6 b6
        go_wp2_with fail
        refine (EQ.out _ _ _ _ _ O6.out P6.out).mono ?_
        rintro e w7 ⟨rfl, b7⟩
        have B7 := hide (bstep B6.out b7)
        clear b7
        go_wp2_with fail
        go_ret
        exact ⟨rfl, B7.out⟩
  · rw [decide_eq_true (show 1048576 < n by omega)] at BG
    go_enter Try.func3, Try.ntmps3
    go_wp2_with fail
    refine BG.out.mono ?_
    rintro e w' ⟨rfl, rfl⟩
    go_wp2
    go_ret
    exact ⟨rfl, (by repeat' first | with_reducible exact Below.refl _ _ | with_reducible assumption | with_reducible refine below_drewN ?_ _ | with_reducible refine balloc ?_ _ | with_reducible refine Below.drew ?_ | with_reducible refine Below.setCell ?_ (by first | (simp; done) | (simp; omega) | omega) _ | with_reducible refine bstep ?_ (by assumption))⟩
end Go.Proofs.Ytmbncafbbpcmbaa
