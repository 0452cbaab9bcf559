/- The k-th nearest, plain; the walk of the law FnKth. -/
import Derived.Test.YtjoimjbadnmkdaaZ21
import Derived.Test.YtjoimjbadnmkdaaZ23
import Derived.Test.YtjoimjbadnmkdaaZ19
import Derived.Test.YtjoimjbadnmkdaaZ18
import Derived.Test.YtjoimjbadnmkdaaZ7
import Derived.OpenShut
namespace Go.Proofs.Ytjoimjbadnmkdaa
open Go.RowKit
set_option maxRecDepth 8000
set_option linter.unusedSimpArgs false
set_option linter.unusedVariables false

theorem lt2_far {x y : Int × Int} (h : lt2 y x = false) : x.2 ≤ y.2 := by
  unfold lt2 lessB at h
  have := of_decide_eq_false h
  omega
theorem cntN_mono (p : Int × Int → Bool) (A : NL) {i j : Nat} (h : i ≤ j) : cntN p A i ≤ cntN p A j := by
  induction j with
  | zero => have : i = 0 := by omega
            subst this; exact Nat.le_refl _
  | succ j ih =>
    by_cases e : i = j + 1
    · subst e; exact Nat.le_refl _
    · have := ih (by omega)
      simp only [cntN]
      split <;> omega
theorem cntN_yesAll {p : Int × Int → Bool} {A : NL} : ∀ m, (∀ i, i < m → p (A i) = true) → cntN p A m = m
  | 0, _ => rfl
  | m + 1, h => by rw [cntN_yes (h m (by omega)), cntN_yesAll m (fun i hi => h i (by omega))]
theorem cntN_noFrom {p : Int × Int → Bool} {A : NL} {m : Nat} : ∀ c, m ≤ c → (∀ i, m ≤ i → i < c → p (A i) = false) → cntN p A c = cntN p A m
  | 0, h, _ => by have : m = 0 := by omega
                  subst this; rfl
  | c + 1, h, hp => by
    by_cases e : m = c + 1
    · subst e; rfl
    · rw [cntN_no (hp c (by omega) (by omega)), cntN_noFrom c (by omega) (fun i h1 h2 => hp i h1 (by omega))]

/-- Within the distance of the k-th nearest one. -/
structure KthD (dim : Int) (n : Nat) (L : IL) (qs : List Int) (k mask d : Int) : Prop where
  bd : d ≤ 1125899906842624
  many : (k : Int) ≤ (radM dim n L qs d mask : Int) ∨ radM dim n L qs d mask = cntP (mtB mask) L n
  less : (radM dim n L qs (d - 1) mask : Int) < k
theorem kthD {dim : Int} {n : Nat} {L : IL} {qs : List Int} {k mask d : Int} (h : kthV (nearM dim n L qs k mask) (nearA n L qs mask) = d) (h0 : 0 ≤ d) : KthD dim n L qs k mask d := by
  unfold kthV at h
  split at h
  · omega
  · rename_i hm
    unfold nearM at hm h
    cases hf : formB dim n L qs && inB k 1 20
    · rw [hf] at hm; exact absurd rfl hm
    · rw [hf, if_pos rfl] at hm h
      rw [Bool.and_eq_true] at hf
      have hk : 1 ≤ k ∧ k ≤ 20 := by
        have := hf.2
        unfold inB at this
        simp at this
        omega
      obtain ⟨c, hc⟩ : ∃ c, cntP (mtB mask) L n = c := ⟨_, rfl⟩
      obtain ⟨m, hme⟩ : ∃ m, min k.toNat (cntP (mtB mask) L n) = m := ⟨_, rfl⟩
      rw [hme] at h hm
      rw [hc] at hme
      unfold nearA at h
      rw [hc] at h
      obtain ⟨hs, _⟩ := isortL_sorted c (nrL qs mask L n)
      have hmc : m ≤ c := by omega
      have up : ∀ i, i < m → (isortL c (nrL qs mask L n) i).2 ≤ d := fun i hi => by
        rw [← h]; exact lt2_far (sorted_le hs (show i ≤ m - 1 by omega) (by omega))
      have dn : ∀ i, m - 1 ≤ i → i < c → d ≤ (isortL c (nrL qs mask L n) i).2 := fun i h1 h2 => by
        rw [← h]; exact lt2_far (sorted_le hs h1 h2)
      have r1 : ∀ r, radM dim n L qs r mask = cntN (inR r) (isortL c (nrL qs mask L n)) c := fun r => by
        unfold radM; rw [hf.1, if_pos rfl, hc, cntN_sort]
      refine ⟨?_, ?_, ?_⟩
      · obtain ⟨j, hj, e⟩ := mem_sort (n := c) (A := nrL qs mask L n) (i := m - 1) (by omega)
        have := near_ok hf.1 (mask := mask) j (by rw [hc]; exact hj)
        rw [e] at this
        unfold nearB inB at this
        rw [h] at this
        simp at this
        omega
      · rw [r1]
        have a1 := cntN_yesAll (p := inR d) m (fun i hi => by unfold inR; exact decide_eq_true (up i hi))
        have a2 := cntN_mono (inR d) (isortL c (nrL qs mask L n)) hmc
        have a3 := cntN_le (inR d) (isortL c (nrL qs mask L n)) c
        rw [hc]
        by_cases e : k.toNat ≤ c
        · left; omega
        · right; omega
      · rw [r1]
        have a1 := cntN_noFrom (p := inR (d - 1)) (A := isortL c (nrL qs mask L n)) (m := m - 1) c (by omega) (fun i h1 h2 => by unfold inR; exact decide_eq_false (by have := dn i h1 h2; omega))
        have a2 := cntN_le (inR (d - 1)) (isortL c (nrL qs mask L n)) (m - 1)
        omega
theorem nearM_20 (dim : Int) (n : Nat) (L : IL) (qs : List Int) (k mask : Int) : nearM dim n L qs k mask ≤ 20 := by
  unfold nearM
  cases hf : formB dim n L qs && inB k 1 20
  · simp
  · rw [if_pos rfl]
    rw [Bool.and_eq_true] at hf
    have := hf.2
    unfold inB at this
    simp at this
    omega
theorem radM_le (dim : Int) (n : Nat) (L : IL) (qs : List Int) (r mask : Int) : radM dim n L qs r mask ≤ n := by
  unfold radM
  split
  · exact Nat.le_trans (cntN_le _ _ _) (cntP_le _ _ _)
  · omega

set_option maxHeartbeats 4000000 in
theorem drawKthOf_any (a : Option Addr) (n c : Nat) (w : World) (h : Code w a n) :
    Calls Try.prog 10 #[.slice a n c] w fun e w' => DrawQ w e w' := by
  have D := hide (drawNearest_any a n c w h)
  clear h
  go_enter Try.func10, Try.ntmps10
  go_wp2_with fail
  refine D.out.mono ?_
  rintro e w1 ⟨dim, g, m, cp, L, qa, qc, qs, k, mask, rfl, hni, rq, hql⟩
  have HN := hide hni
  have HQ := hide rq
  clear hni rq D
  go_wp2_with fail
  refine bodyPost_ret (v := .tuple #[.int .i64 dim, .slice (some ⟨g, 0, none⟩) m cp, .slice qa qs.length qc, .int .i64 k, .int .i64 mask]) ?_ rfl ⟨dim, g, m, cp, L, qa, qc, qs, k, mask, rfl, HN.out, HQ.out, hql⟩
  simp [results, Try.results10, go_sem]

set_option maxHeartbeats 8000000 in
theorem kth_walk (a : Option Addr) (n cap : Nat) (zs : List Int) (w : World) (h : IsRow .u8 w a n cap zs) :
    Calls Try.prog 4 #[.slice a n cap] w fun e w' => e = .returned (.bool true) ∧ Below w.heap.size w w' := by
  have BG := hide (big_any a n cap w)
  by_cases hn : n ≤ 1048576
  · rw [decide_eq_false (show ¬ 1048576 < n by omega)] at BG
    have DR := hide (drawKthOf_any a n cap w (h.code hn))
    clear h
    go_enter Try.func4, Try.ntmps4
    go_wp2_with fail
    refine BG.out.mono ?_
    rintro e w' ⟨rfl, hw⟩
    obtain rfl := hw.symm
    clear BG hw
    go_wp2_with fail
    refine DR.out.mono ?_
    rintro e w1 ⟨dim, g, m, cp, L, qa, qc, qs, k, mask, rfl, hni, rq, hql⟩
    have hm := hni.few
    have hv : ∀ i, i < m → (L i).vec.length ≤ 1048576 := fun i hi => Nat.le_trans (hni.len i hi) (by omega)
    have hql2 : qs.length ≤ 1048576 := by omega
    have h20 := nearM_20 dim m L qs k mask
    have IK := hide (fun w1 (h : IHi w1 w.heap.size g m L) (rq : Row w1 qa qs.length qs) => iKthOf_any dim _ _ k mask _ _ w1 (by omega) (hide (iNearest_any dim (some ⟨g, 0, none⟩) m cp L qa qs.length qc qs k mask w1 h.irow (by omega) hv rq hql2)))
    have SK := hide (fun w1 (h : IHi w1 w.heap.size g m L) (rq : Row w1 qa qs.length qs) => sKthOf_any dim _ _ k mask _ _ w1 (by omega) (hide (sNearest_any dim (some ⟨g, 0, none⟩) m cp L qa qs.length qc qs k mask w1 h.irow (by omega) hv rq hql2)))
    have IRd := hide (fun r w1 (h : IHi w1 w.heap.size g m L) (rq : Row w1 qa qs.length qs) => iInRadius_any dim (some ⟨g, 0, none⟩) m cp L qa qs.length qc qs r mask w1 h.irow (by omega) hv rq hql2)
    have IM := hide (fun w1 (h : IHi w1 w.heap.size g m L) => iMatching_any (some ⟨g, 0, none⟩) m cp L mask w1 h.irow (by omega) hv)
    obtain ⟨d, hd⟩ : ∃ d, kthV (nearM dim m L qs k mask) (nearA m L qs mask) = d := ⟨_, rfl⟩
    simp only [hd] at IK SK
    have KD := hide (fun (h : 0 ≤ d) => kthD hd h)
    have hq1 : (d != d) = false := by simp
    have hq2 : (d == d) = true := by simp
    have RL := hide (fun r => radM_le dim m L qs r mask)
    have B1 := hide hni.low
    have I1 := hide hni.hi
    have R1 := hide rq
    clear hni rq DR hv hd h20
    unfold OutN at IRd
    unfold PickR at IM
    go_wp2_with fail
    refine (IK.out _ I1.out R1.out).mono ?_
    rintro e w2 ⟨rfl, b2⟩
    have I2 := hide (I1.out.below b2)
    have R2 := hide (R1.out.below b2)
    have B2 := hide (bstep B1.out b2)
    clear b2 I1 R1 B1
    go_wp2_with fail
    refine (SK.out _ I2.out R2.out).mono ?_
    rintro e w3 ⟨rfl, b3⟩
    have I3 := hide (I2.out.below b3)
    have R3 := hide (R2.out.below b3)
    have B3 := hide (bstep B2.out b3)
    clear b3 I2 R2 B2
    by_cases h0 : 0 ≤ d
    · obtain ⟨bd, many, less⟩ := KD.out h0
      have n0 : ¬ d < 0 := by omega
      have r1 := RL.out d
      have r2 := RL.out (d - 1)
      have I1d := hide (fun w1 h rq => IRd.out d w1 h rq)
      have I2d := hide (fun w1 h rq => IRd.out (d - 1) w1 h rq)
      obtain ⟨x, hx⟩ : ∃ x, radM dim m L qs d mask = x := ⟨_, rfl⟩
      obtain ⟨y, hy⟩ : ∃ y, radM dim m L qs (d - 1) mask = y := ⟨_, rfl⟩
      obtain ⟨c, hc⟩ : ∃ c, cntP (mtB mask) L m = c := ⟨_, rfl⟩
      obtain ⟨F, hF⟩ : ∃ F, fil (mtB mask) L m = F := ⟨_, rfl⟩
      simp only [hx] at I1d many r1
      simp only [hy] at I2d less r2
      simp only [hc, hF] at IM many
      clear hx hy hc hF KD IRd RL
      have MANY := hide many
      clear many
      go_wp2_with fail
      refine (I1d.out _ I3.out R3.out).mono ?_
      rintro e w4 ⟨a4, c4, rfl, o4, b4⟩
      have I4 := hide (I3.out.below b4)
      have R4 := hide (R3.out.below b4)
      have B4 := hide (bstep B3.out b4)
      clear o4 b4 I3 R3 B3
      go_wp2_with fail
      refine (I2d.out _ I4.out R4.out).mono ?_
      rintro e w5 ⟨a5, c5, rfl, o5, b5⟩
      have I5 := hide (I4.out.below b5)
      have B5 := hide (bstep B4.out b5)
      clear o5 b5 I4 R4 B4
      by_cases hge : k ≤ (x : Int)
      · go_wp2_with fail
        go_ret
        exact ⟨rfl, B5.out⟩
      · have hxc : ((x : Int) == (c : Int)) = true := by
          rcases MANY.out with h | h
          · omega
          · rw [h]; simp
        go_wp2_with fail
        refine (IM.out _ I5.out).mono ?_
        rintro e w6 ⟨g6, c6, V6, s6, rfl, i6, b6⟩
        have B6 := hide (bstep B5.out b6)
        clear b6 i6
        go_wp2_with fail
        go_ret
        exact ⟨rfl, B6.out⟩
    · have n0 : d < 0 := by omega
      go_wp2_with fail
      refine (SK.out _ I3.out R3.out).mono ?_
      rintro e w4 ⟨rfl, b4⟩
      have B4 := hide (bstep B3.out b4)
      clear b4
      go_wp2_with fail
      go_ret
      exact ⟨rfl, B4.out⟩
  · rw [decide_eq_true (show 1048576 < n by omega)] at BG
    go_enter Try.func4, Try.ntmps4
    go_wp2_with fail
    refine BG.out.mono ?_
    rintro e w' ⟨rfl, rfl⟩
    go_wp2
    go_ret
    exact ⟨rfl, (by repeat' first | with_reducible exact Below.refl _ _ | with_reducible assumption | with_reducible refine below_drewN ?_ _ | with_reducible refine balloc ?_ _ | with_reducible refine Below.drew ?_ | with_reducible refine Below.setCell ?_ (by first | (simp; done) | (simp; omega) | omega) _ | with_reducible refine bstep ?_ (by assumption))⟩
end Go.Proofs.Ytjoimjbadnmkdaa
