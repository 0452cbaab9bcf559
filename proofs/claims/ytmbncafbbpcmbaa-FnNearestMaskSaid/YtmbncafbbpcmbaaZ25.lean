/- The walk of the law FnNearestMask. -/
import Derived.Test.YtmbncafbbpcmbaaZ22
import Derived.Test.YtmbncafbbpcmbaaZ19
import Derived.Test.YtmbncafbbpcmbaaZ24
import Derived.Test.YtmbncafbbpcmbaaZ18
import Derived.Test.YtmbncafbbpcmbaaZ7
import Derived.OpenShut
namespace Go.Proofs.Ytmbncafbbpcmbaa
open Go.RowKit
set_option maxRecDepth 8000
set_option linter.unusedSimpArgs false
set_option linter.unusedVariables false

theorem isortL_congr {A B : NL} : ∀ n, (∀ i, i < n → A i = B i) → isortL n A = isortL n B
  | 0, _ => rfl
  | n + 1, h => by
    show insL n (isortL n A) (A n) = insL n (isortL n B) (B n)
    rw [isortL_congr n (fun i hi => h i (by omega)), h n (by omega)]
theorem mtB0 (x : It) : mtB 0 x = true := by
  have h : bits .and .i64 x.tags 0 = 0 := by simp [bits]; rfl
  unfold mtB
  rw [h]
  rfl
theorem fil0 {p : It → Bool} {L : IL} (hp : ∀ x, p x = true) : ∀ n, cntP p L n = n ∧ ∀ i, i < n → fil p L n i = L i
  | 0 => ⟨rfl, fun i hi => absurd hi (by omega)⟩
  | n + 1 => by
    obtain ⟨h1, h2⟩ := fil0 hp n
    rw [cntP_yes (hp _), fil_yes (hp _), h1]
    refine ⟨rfl, fun i hi => ?_⟩
    by_cases e : i = n
    · subst e; exact IL.put_at _ _ _
    · rw [IL.put_off _ _ e]; exact h2 i (by omega)
/-- What is nearest of those that match alone. -/
theorem near_mask {dim : Int} {n : Nat} {L : IL} {qs : List Int} {k mask : Int} (h : itemsB dim n L = true) : nearM dim (cntP (mtB mask) L n) (fil (mtB mask) L n) qs k 0 = nearM dim n L qs k mask ∧ nearA (cntP (mtB mask) L n) (fil (mtB mask) L n) qs 0 = nearA n L qs mask := by
  have hf := itemsB_fil h (mtB mask)
  have e0 := fil0 (L := fil (mtB mask) L n) mtB0 (cntP (mtB mask) L n)
  constructor
  · unfold nearM formB
    rw [hf, h, e0.1]
  · unfold nearA
    rw [e0.1]
    refine isortL_congr _ fun i hi => ?_
    unfold nrL
    rw [e0.2 i hi]
theorem fil_lenq {p : It → Bool} {L : IL} {n b : Nat} (h : ∀ i, i < n → (L i).vec.length ≤ b) : ∀ i, i < cntP p L n → (fil p L n i).vec.length ≤ b := by
  intro i hi
  obtain ⟨j, hj, e⟩ := fil_mem p L n i hi
  rw [e]; exact h j hj
theorem nearM_le (dim : Int) (n : Nat) (L : IL) (qs : List Int) (k mask : Int) : nearM dim n L qs k mask ≤ n := by
  unfold nearM
  split
  · exact Nat.le_trans (Nat.min_le_right _ _) (cntP_le _ _ _)
  · omega

set_option maxHeartbeats 8000000 in
theorem nearestMask_walk (a : Option Addr) (n cap : Nat) (zs : List Int) (w : World) (h : IsRow .u8 w a n cap zs) :
    Calls Try.prog 4 #[.slice a n cap] w fun e w' => e = .returned (.bool true) ∧ Below w.heap.size w w' := by
  have BG := hide (big_any a n cap w)
  by_cases hn : n ≤ 1048576
  · rw [decide_eq_false (show ¬ 1048576 < n by omega)] at BG
    have DR := hide (drawNearest_any a n cap w (h.code hn))
    clear h
    go_enter Try.func4, Try.ntmps4
    go_wp2_with fail
    refine BG.out.mono ?_
    rintro e w' ⟨rfl, hw⟩
    obtain rfl := hw.symm
    clear BG hw
    go_wp2_with fail
    refine DR.out.mono ?_
    rintro e w1 ⟨dim, g, m, cp, L, qa, qc, qs, k, mask, rfl, hni, rq, hql⟩
    have hm := hni.few
    have hv : ∀ i, i < m → (L i).vec.length ≤ 1048576 := fun i hi => Nat.le_trans (hni.len i hi) (by omega)
    have hql2 : qs.length ≤ 1048576 := by omega
    have IN := hide (fun w1 (h : IHi w1 w.heap.size g m L) (rq : Row w1 qa qs.length qs) => iNearest_any dim (some ⟨g, 0, none⟩) m cp L qa qs.length qc qs k mask w1 h.irow (by omega) hv rq hql2)
    have SN := hide (fun w1 (h : IHi w1 w.heap.size g m L) (rq : Row w1 qa qs.length qs) => sNearest_any dim (some ⟨g, 0, none⟩) m cp L qa qs.length qc qs k mask w1 h.irow (by omega) hv rq hql2)
    have SO := hide (fun w1 (h : IHi w1 w.heap.size g m L) => sItemsOk_any dim (some ⟨g, 0, none⟩) m cp L w1 h.irow (by omega) hv)
    have IM := hide (fun w1 (h : IHi w1 w.heap.size g m L) => iMatching_any (some ⟨g, 0, none⟩) m cp L mask w1 h.irow (by omega) hv)
    have cm := cntP_le (mtB mask) L m
    have IN0 := hide (fun g2 c2 w1 (h : IRow w1 (some ⟨g2, 0, none⟩) (cntP (mtB mask) L m) (fil (mtB mask) L m)) (rq : Row w1 qa qs.length qs) => iNearest_any dim (some ⟨g2, 0, none⟩) (cntP (mtB mask) L m) c2 (fil (mtB mask) L m) qa qs.length qc qs k 0 w1 h (by omega) (fil_lenq hv) rq hql2)
    have MK := hide (fun (h : itemsB dim m L = true) => near_mask (qs := qs) (k := k) (mask := mask) h)
    have hN := nearM_le dim m L qs k mask
    have EQ := hide (fun a1 k1 a2 k2 w1 (h : Wr w1 a1 (nearM dim m L qs k mask) (nearA m L qs mask) w.heap.size) (h' : Wr w1 a2 (nearM dim m L qs k mask) (nearA m L qs mask) w.heap.size) => sameNears_self a1 a2 (nearM dim m L qs k mask) k1 k2 (nearA m L qs mask) w1 h.prow h'.prow (by omega))
    have WM := hide (fun (w1 : World) (a1 : Option Addr) (B : Nat) (hB : w.heap.size ≤ B) (h : Wr w1 a1 (nearM dim m L qs k mask) (nearA m L qs mask) B) => show Wr w1 a1 (nearM dim m L qs k mask) (nearA m L qs mask) w.heap.size from by
      rcases h with h0 | ⟨b, e, hb, hr⟩
      · exact .inl h0
      · exact .inr ⟨b, e, by omega, hr⟩)
    have B1 := hide hni.low
    have I1 := hide hni.hi
    have R1 := hide rq
    clear hni rq DR hv
    unfold OutN at IN SN IN0
    unfold PickR at IM
    obtain ⟨N, hNe⟩ : ∃ N, nearM dim m L qs k mask = N := ⟨_, rfl⟩
    obtain ⟨A, hAe⟩ : ∃ A, nearA m L qs mask = A := ⟨_, rfl⟩
    obtain ⟨C, hCe⟩ : ∃ C, cntP (mtB mask) L m = C := ⟨_, rfl⟩
    obtain ⟨F, hFe⟩ : ∃ F, fil (mtB mask) L m = F := ⟨_, rfl⟩
    simp only [hNe, hAe, hCe, hFe] at IN SN IN0 IM MK EQ WM hN cm
    clear hNe hAe hCe hFe
    go_wp2_with fail
    refine (IN.out _ I1.out R1.out).mono ?_
    rintro e w2 ⟨a2, c2, rfl, o2, b2⟩
    have l1 := B1.out.size
    have I2 := hide (I1.out.below b2)
    have R2 := hide (R1.out.below b2)
    have O2 := hide (WM.out _ _ _ l1 o2)
    have B2 := hide (bstep B1.out b2)
    clear o2 b2 I1 R1 B1
    go_wp2_with fail
    refine (SN.out _ I2.out R2.out).mono ?_
    rintro e w3 ⟨a3, c3, rfl, o3, b3⟩
    have l2 := B2.out.size
    have I3 := hide (I2.out.below b3)
    have R3 := hide (R2.out.below b3)
    have O3 := hide (O2.out.below b3)
    have P3 := hide (WM.out _ _ _ l2 o3)
    have B3 := hide (bstep B2.out b3)
    clear o3 b3 I2 R2 O2 B2
    go_wp2_with fail
    refine (EQ.out _ _ _ _ _ O3.out P3.out).mono ?_
    rintro e w4 ⟨rfl, b4⟩
    have I4 := hide (I3.out.below b4)
    have R4 := hide (R3.out.below b4)
    have O4 := hide (O3.out.below b4)
    have B4 := hide (bstep B3.out b4)
    clear b4 I3 R3 O3 P3 B3
    go_wp2_with fail
    refine (SO.out _ I4.out).mono ?_
    rintro e w5 ⟨rfl, b5⟩
    have I5 := hide (I4.out.below b5)
    have R5 := hide (R4.out.below b5)
    have O5 := hide (O4.out.below b5)
    have B5 := hide (bstep B4.out b5)
    clear b5 I4 R4 O4 B4
    cases hib : itemsB dim m L
    · go_wp2_with fail
      refine (SN.out _ I5.out R5.out).mono ?_
      rintro e w6 ⟨a6, c6, rfl, o6, b6⟩
      have l5 := B5.out.size
      have O6 := hide (O5.out.below b6)
      have P6 := hide (WM.out _ _ _ l5 o6)
      have B6 := hide (bstep B5.out b6)
      clear o6 b6 O5 B5
      go_wp2_with fail
      refine (EQ.out _ _ _ _ _ O6.out P6.out).mono ?_
      rintro e w7 ⟨rfl, b7⟩
      have B7 := hide (bstep B6.out b7)
      clear b7
      go_wp2_with fail
      go_ret
      exact ⟨rfl, B7.out⟩
    · have mk := MK.out hib
      rw [mk.1, mk.2] at IN0
      clear mk MK hib
      go_wp2_with fail
      refine (IM.out _ I5.out).mono ?_
      rintro e w6 ⟨g6, c6, V6, s6, rfl, i6, b6⟩
      have R6 := hide (R5.out.below b6)
      have O6 := hide (O5.out.below b6)
      have B6 := hide (bstep B5.out b6)
      clear b6 R5 O5 B5
      go_wp2_with fail
      refine (IN0.out _ _ _ i6.its.irow R6.out).mono ?_
      rintro e w7 ⟨a7, c7, rfl, o7, b7⟩
      have l6 := B6.out.size
      have O7 := hide (O6.out.below b7)
      have P7 := hide (WM.out _ _ _ l6 o7)
      have B7 := hide (bstep B6.out b7)
      clear o7 b7 O6 B6 i6
      go_wp2_with fail
      refine (EQ.out _ _ _ _ _ P7.out O7.out).mono ?_
      rintro e w8 ⟨rfl, b8⟩
      have B8 := hide (bstep B7.out b8)
      clear b8
      go_wp2_with fail
      go_ret
      exact ⟨rfl, B8.out⟩
  · rw [decide_eq_true (show 1048576 < n by omega)] at BG
    go_enter Try.func4, Try.ntmps4
    go_wp2_with fail
    refine BG.out.mono ?_
    rintro e w' ⟨rfl, rfl⟩
    go_wp2
    go_ret
    exact ⟨rfl, (by repeat' first | with_reducible exact Below.refl _ _ | with_reducible assumption | with_reducible refine below_drewN ?_ _ | with_reducible refine balloc ?_ _ | with_reducible refine Below.drew ?_ | with_reducible refine Below.setCell ?_ (by first | (simp; done) | (simp; omega) | omega) _ | with_reducible refine bstep ?_ (by assumption))⟩
end Go.Proofs.Ytmbncafbbpcmbaa
