/- Heaps that keep the K least, plain. -/
import Derived.Test.YtkonckgapicdfaaHN
import Derived.Test.YtkonckgapicdfaaHZ
import Derived.Test.YtkonckgapicdfaaHAA
namespace Go.Proofs.Ytkonckgapicdfaa
open Go.RowKit
set_option maxRecDepth 8000
set_option linter.unusedSimpArgs false
set_option linter.unusedVariables false

def UpInv (n j : Nat) (L : NL) : Prop :=
  (∀ k, 0 < k → k < n → k ≠ j → lt2 (L ((k - 1) / 2)) (L k) = false) ∧ (0 < j → ∀ k, 0 < k → k < n → (k - 1) / 2 = j → lt2 (L ((j - 1) / 2)) (L k) = false)

theorem swp_l (L : NL) (i j : Nat) : swp L i j i = L j := by unfold swp; rw [if_pos rfl]

theorem swp_r (L : NL) {i j : Nat} (h : j ≠ i) : swp L i j j = L i := by unfold swp; rw [if_neg h, if_pos rfl]

theorem swp_o (L : NL) {i j k : Nat} (h1 : k ≠ i) (h2 : k ≠ j) : swp L i j k = L k := by unfold swp; rw [if_neg h1, if_neg h2]

theorem up_heap (n : Nat) : ∀ (t j : Nat) (L : NL), j ≤ t → j < n → UpInv n j L → HeapP n (upL j L) := by
  intro t
  induction t with
  | zero =>
    intro j L ht hj h
    obtain rfl : j = 0 := by omega
    rw [upL_zero]
    exact fun k h0 hk => h.1 k h0 hk (by omega)
  | succ t ih =>
    intro j L ht hj h
    by_cases h0 : j = 0
    · subst h0
      rw [upL_zero]
      exact fun k h0 hk => h.1 k h0 hk (by omega)
    · cases hb : lt2 (L ((j - 1) / 2)) (L j)
      · rw [upL_no hb]
        intro k hk0 hk
        by_cases e : k = j
        · subst e; exact hb
        · exact h.1 k hk0 hk e
      · rw [upL_yes h0 hb]
        obtain ⟨p, hp⟩ : ∃ p, (j - 1) / 2 = p := ⟨_, rfl⟩
        have hpj : p < j := by omega
        rw [hp] at hb ⊢
        have hba := lt2_asymm hb
        refine ih p _ (by omega) (by omega) ⟨fun k hk0 hk hkp => ?_, fun hp0 k hk0 hk hkp => ?_⟩
        · by_cases ekj : k = j
          · subst ekj
            rw [hp, swp_l, swp_r _ (by omega)]
            exact hba
          · rw [swp_o (k := k) _ hkp ekj]
            by_cases eq1 : (k - 1) / 2 = p
            · rw [eq1, swp_l]
              have h1 := h.1 k hk0 hk ekj
              rw [eq1] at h1
              exact le2_trans h1 hba
            · by_cases eq2 : (k - 1) / 2 = j
              · rw [eq2, swp_r _ (by omega)]
                have h2 := h.2 (by omega) k hk0 hk eq2
                rw [hp] at h2
                exact h2
              · rw [swp_o _ eq1 eq2]
                exact h.1 k hk0 hk ekj
        · have g1 := h.1 p hp0 (by omega) (by omega)
          rw [swp_o (k := (p - 1) / 2) _ (by omega) (by omega)]
          by_cases ekj : k = j
          · subst ekj
            rw [swp_r _ (by omega)]
            exact g1
          · rw [swp_o (k := k) _ (by omega) ekj]
            have h1 := h.1 k hk0 hk ekj
            rw [hkp] at h1
            exact le2_trans h1 g1

theorem push_inv {n : Nat} {L : NL} (h : HeapP n L) (x : Int × Int) : UpInv (n + 1) n (L.put n x) := by
  refine ⟨fun k h0 hk hkn => ?_, fun h0 k hk0 hk hkp => ?_⟩
  · rw [put_off _ _ (show (k - 1) / 2 ≠ n by omega), put_off _ _ hkn]
    exact h k h0 (by omega)
  · omega

theorem push_heap {n : Nat} {L : NL} (h : HeapP n L) (x : Int × Int) : HeapP (n + 1) (upL n (L.put n x)) := up_heap (n + 1) n n _ (Nat.le_refl _) (by omega) (push_inv h x)

theorem cnt_push {n : Nat} {L : NL} (x z : Int × Int) : cnt (upL n (L.put n x)) (n + 1) z = cnt L n z + if x = z then 1 else 0 := by
  rw [cnt_upL (n + 1) z n n _ (Nat.le_refl _) (by omega)]
  show cnt (L.put n x) n z + (if L.put n x n = z then 1 else 0) = _
  rw [put_at, cnt_congr n z (M := L) (fun i hi => put_off _ _ (by omega))]

/-- Of sorted ones: to put one among all of them, or among the first few, is the same for these. -/
theorem insL_cut {P : NL} {x : Int × Int} {n : Nat} : ∀ j, n ≤ j → SortedP j P → ∀ i, i < n → insL j P x i = insL n P x i := by
  intro j
  induction j with
  | zero => intro hn _ i hi; omega
  | succ j ih =>
    intro hn hs i hi
    by_cases e : n = j + 1
    · subst e; rfl
    · have hs' : SortedP j P := fun k hk => hs k (by omega)
      rw [← ih (by omega) hs' i hi, insL_succ]
      by_cases hb : lt2 x (P j) = true
      · rw [if_pos hb, put_off _ _ (by omega)]
      · rw [if_neg hb, put_off _ _ (by omega)]
        have hx : lt2 x (P j) = false := by simpa using hb
        cases j with
        | zero => omega
        | succ j =>
          have h1 : lt2 x (P j) = false := le2_trans (hs j (by omega)) hx
          rw [insL_succ, h1, if_neg (by decide), put_off _ _ (by omega)]

theorem isort_last {n : Nat} {H : NL} (h : HeapP (n + 1) H) : isortL (n + 1) H n = H 0 := by
  obtain ⟨hs, hc⟩ := isortL_sorted (n + 1) H
  have h1 : ∃ i, i < n + 1 ∧ isortL (n + 1) H i = H 0 := cnt_pos _ (by rw [hc]; exact cnt_of (i := 0) (by omega) rfl)
  have h2 : ∃ i, i < n + 1 ∧ H i = isortL (n + 1) H n := cnt_pos _ (by rw [← hc]; exact cnt_of (i := n) (by omega) rfl)
  obtain ⟨i1, hi1, e1⟩ := h1
  obtain ⟨i2, hi2, e2⟩ := h2
  have g1 := sorted_last n hs i1 (by omega)
  rw [e1] at g1
  have g2 := h.top n i2 (by omega) hi2
  rw [e2] at g2
  exact le2_anti g2 g1

/-- A heap that keeps the K least of what came: the step. -/
theorem keep_step {K n j : Nat} {H A : NL} {x : Int × Int} (hx : A j = x) (hn : n = min j K) (hh : HeapP n H) (hs : ∀ i, i < n → isortL n H i = isortL j A i) :
    (n < K → HeapP (n + 1) (upL n (H.put n x)) ∧ ∀ i, i < n + 1 → isortL (n + 1) (upL n (H.put n x)) i = isortL (j + 1) A i) ∧
    (¬ n < K → HeapP n (dnL n 0 (swp (upL n (H.put n x)) 0 n)) ∧ ∀ i, i < n → isortL n (dnL n 0 (swp (upL n (H.put n x)) 0 n)) i = isortL (j + 1) A i) := by
  have hp := push_heap hh x
  have hcnt := fun z => cnt_push (n := n) (L := H) x z
  generalize upL n (H.put n x) = H1 at *
  have ha : ∀ i, i < n + 1 → isortL (n + 1) H1 i = insL n (isortL n H) x i := by
    obtain ⟨s1, c1⟩ := isortL_sorted (n + 1) H1
    obtain ⟨s2, c2⟩ := isortL_sorted n H
    obtain ⟨s3, _, c3⟩ := insL_sorted n (isortL n H) x s2
    exact sorted_unique (n + 1) _ _ s1 s3 fun z => by rw [c1, c3, c2, hcnt]
  have hb : ∀ i, i < n + 1 → insL n (isortL n H) x i = insL n (isortL j A) x i := fun i hi => insL_ext n _ _ x (fun k hk => hs k hk) i (by omega)
  have hj : isortL (j + 1) A = insL j (isortL j A) x := by rw [← hx]; rfl
  refine ⟨fun hlt => ⟨hp, fun i hi => ?_⟩, fun hge => ?_⟩
  · obtain rfl : n = j := by omega
    rw [ha i hi, hb i hi, hj]
  · have hd : HeapP n (dnL n 0 (swp H1 0 n)) := dn_heap n n 0 _ (by omega) (pop_inv hp)
    refine ⟨hd, fun i hi => ?_⟩
    have h2 : isortL n (dnL n 0 (swp H1 0 n)) i = isortL (n + 1) H1 i := by
      obtain ⟨s1, c1⟩ := isortL_sorted n (dnL n 0 (swp H1 0 n))
      obtain ⟨s2, c2⟩ := isortL_sorted (n + 1) H1
      refine sorted_unique n _ _ s1 (fun k hk => s2 k (by omega)) (fun z => ?_) i hi
      rw [c1, cnt_dnL n n z (Nat.le_refl _) n 0 _ (by omega)]
      have e1 : cnt (swp H1 0 n) (n + 1) z = cnt H1 (n + 1) z := cnt_swp H1 z (by omega) (by omega)
      have e2 : cnt (swp H1 0 n) (n + 1) z = cnt (swp H1 0 n) n z + if swp H1 0 n n = z then 1 else 0 := rfl
      have e3 : cnt (isortL (n + 1) H1) (n + 1) z = cnt (isortL (n + 1) H1) n z + if isortL (n + 1) H1 n = z then 1 else 0 := rfl
      have e4 : swp H1 0 n n = H1 0 := by
        by_cases h0 : n = 0
        · subst h0; exact swp_l _ _ _
        · exact swp_r _ h0
      rw [e4] at e2
      rw [isort_last hp] at e3
      have := c2 z
      omega
    rw [h2, ha i (by omega), hb i (by omega), hj]
    exact (insL_cut j (by omega) (isortL_sorted j A).1 i hi).symm
end Go.Proofs.Ytkonckgapicdfaa
