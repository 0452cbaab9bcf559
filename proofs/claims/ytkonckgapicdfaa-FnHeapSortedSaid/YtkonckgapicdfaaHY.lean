/- Sorting as plain functions: what a heap gives one by one from behind is what an insertion sort makes. -/
import Derived.Test.YtkonckgapicdfaaHI
namespace Go.Proofs.Ytkonckgapicdfaa
open Go.RowKit
set_option maxRecDepth 8000
set_option linter.unusedSimpArgs false
set_option linter.unusedVariables false

/-- How often x is among the first n. -/
def cnt (L : NL) : Nat → Int × Int → Nat
  | 0, _ => 0
  | n + 1, x => cnt L n x + if L n = x then 1 else 0

theorem cnt_congr {L M : NL} (n : Nat) (x : Int × Int) (h : ∀ i, i < n → L i = M i) : cnt L n x = cnt M n x := by
  induction n with
  | zero => rfl
  | succ n ih => simp only [cnt]; rw [ih (fun i hi => h i (by omega)), h n (by omega)]

theorem cnt_put {L : NL} {i : Nat} (y x : Int × Int) : ∀ n, i < n → cnt (L.put i y) n x + (if L i = x then 1 else 0) = cnt L n x + (if y = x then 1 else 0) := by
  intro n
  induction n with
  | zero => intro h; omega
  | succ n ih =>
    intro h
    simp only [cnt]
    by_cases e : i = n
    · subst e
      rw [cnt_congr (L := L.put i y) (M := L) i x (fun j hj => by unfold NL.put; rw [if_neg (by omega)])]
      have : L.put i y i = y := by unfold NL.put; rw [if_pos rfl]
      rw [this]; omega
    · have := ih (by omega)
      have e2 : L.put i y n = L n := by unfold NL.put; rw [if_neg (by omega)]
      rw [e2]; omega

theorem cnt_swp (L : NL) {i j n : Nat} (x : Int × Int) (hi : i < n) (hj : j < n) : cnt (swp L i j) n x = cnt L n x := by
  rw [← swp_put]
  have h1 := cnt_put (L := L) (i := i) (L j) x n hi
  have h2 := cnt_put (L := L.put i (L j)) (i := j) (L i) x n hj
  have e : L.put i (L j) j = L j := by
    unfold NL.put
    by_cases e : j = i
    · rw [if_pos e]
    · rw [if_neg e]
  rw [e] at h2
  omega

theorem cnt_pos {L : NL} {x : Int × Int} : ∀ n, 0 < cnt L n x → ∃ i, i < n ∧ L i = x := by
  intro n
  induction n with
  | zero => intro h; simp [cnt] at h
  | succ n ih =>
    intro h
    simp only [cnt] at h
    by_cases e : L n = x
    · exact ⟨n, by omega, e⟩
    · rw [if_neg e] at h
      obtain ⟨i, hi, hx⟩ := ih (by omega)
      exact ⟨i, by omega, hx⟩

theorem cnt_of {L : NL} {x : Int × Int} {n i : Nat} (hi : i < n) (hx : L i = x) : 0 < cnt L n x := by
  induction n with
  | zero => omega
  | succ n ih =>
    simp only [cnt]
    by_cases e : i = n
    · subst e; rw [if_pos hx]; omega
    · have := ih (by omega); omega

theorem cnt_upL (n : Nat) (x : Int × Int) : ∀ (t j : Nat) (L : NL), j ≤ t → j < n → cnt (upL j L) n x = cnt L n x := by
  intro t
  induction t with
  | zero =>
    intro j L ht hj
    obtain rfl : j = 0 := by omega
    rw [upL_zero]
  | succ t ih =>
    intro j L ht hj
    by_cases h0 : j = 0
    · subst h0; rw [upL_zero]
    · cases hb : lt2 (L ((j - 1) / 2)) (L j)
      · rw [upL_no hb]
      · rw [upL_yes h0 hb, ih _ _ (by omega) (by omega), cnt_swp L x (by omega) hj]

theorem cnt_dnL (n N : Nat) (x : Int × Int) (hN : n ≤ N) : ∀ (t i : Nat) (L : NL), n - i ≤ t → cnt (dnL n i L) N x = cnt L N x := by
  intro t
  induction t with
  | zero => intro i L ht; rw [dnL_out (by omega)]
  | succ t ih =>
    intro i L ht
    by_cases h : 2 * i + 1 < n
    · have hk := kid_lt L h
      have hg := kid_gt n i L
      cases hb : lt2 (L i) (L (kid n i L))
      · rw [dnL_no hb]
      · rw [dnL_yes h hb, ih _ _ (by omega), cnt_swp L x (by omega) (by omega)]
    · rw [dnL_out h]

theorem lt2_irrefl (x : Int × Int) : lt2 x x = false := by unfold lt2 lessB; simp

theorem lt2_asymm {x y : Int × Int} (h : lt2 x y = true) : lt2 y x = false := by
  unfold lt2 lessB at *
  simp only [decide_eq_true_eq, decide_eq_false_iff_not] at *
  omega

theorem le2_trans {a b c : Int × Int} (h1 : lt2 b a = false) (h2 : lt2 c b = false) : lt2 c a = false := by
  unfold lt2 lessB at *
  simp only [decide_eq_false_iff_not] at *
  omega

theorem le2_anti {a b : Int × Int} (h1 : lt2 b a = false) (h2 : lt2 a b = false) : a = b := by
  unfold lt2 lessB at *
  simp only [decide_eq_false_iff_not] at *
  exact Prod.ext (by omega) (by omega)

def HeapP (n : Nat) (L : NL) : Prop := ∀ j, 0 < j → j < n → lt2 (L ((j - 1) / 2)) (L j) = false

theorem HeapP.top {n : Nat} {L : NL} (h : HeapP n L) : ∀ (t j : Nat), j ≤ t → j < n → lt2 (L 0) (L j) = false := by
  intro t
  induction t with
  | zero =>
    intro j ht hj
    obtain rfl : j = 0 := by omega
    exact lt2_irrefl _
  | succ t ih =>
    intro j ht hj
    by_cases h0 : j = 0
    · subst h0; exact lt2_irrefl _
    · exact le2_trans (h j (by omega) hj) (ih ((j - 1) / 2) (by omega) (by omega))

def DnInv (n i : Nat) (L : NL) : Prop :=
  (∀ j, 0 < j → j < n → (j - 1) / 2 ≠ i → lt2 (L ((j - 1) / 2)) (L j) = false) ∧ (0 < i → ∀ j, 0 < j → j < n → (j - 1) / 2 = i → lt2 (L ((i - 1) / 2)) (L j) = false)

theorem kid_top {n i : Nat} {L : NL} {j : Nat} (h0 : 0 < j) (hj : j < n) (hp : (j - 1) / 2 = i) : lt2 (L (kid n i L)) (L j) = false := by
  unfold kid
  by_cases h : 2 * i + 2 < n ∧ lt2 (L (2 * i + 1)) (L (2 * i + 2)) = true
  · rw [if_pos h]
    rcases (show j = 2 * i + 1 ∨ j = 2 * i + 2 by omega) with rfl | rfl
    · exact lt2_asymm h.2
    · exact lt2_irrefl _
  · rw [if_neg h]
    rcases (show j = 2 * i + 1 ∨ j = 2 * i + 2 by omega) with rfl | rfl
    · exact lt2_irrefl _
    · cases hb : lt2 (L (2 * i + 1)) (L (2 * i + 2))
      · rfl
      · exact absurd ⟨hj, hb⟩ h

theorem dn_heap (n : Nat) : ∀ (t i : Nat) (L : NL), n - i ≤ t → DnInv n i L → HeapP n (dnL n i L) := by
  intro t
  induction t with
  | zero =>
    intro i L ht h
    rw [dnL_out (by omega)]
    exact fun j h0 hj => h.1 j h0 hj (by omega)
  | succ t ih =>
    intro i L ht h
    by_cases h1 : 2 * i + 1 < n
    · have hk := kid_lt L h1
      have hg := kid_gt n i L
      have hkp : (kid n i L - 1) / 2 = i := by unfold kid; split <;> omega
      cases hb : lt2 (L i) (L (kid n i L))
      · rw [dnL_no hb]
        intro j h0 hj
        by_cases hp : (j - 1) / 2 = i
        · rw [hp]; exact le2_trans (kid_top h0 hj hp) hb
        · exact h.1 j h0 hj hp
      · rw [dnL_yes h1 hb]
        generalize hkk : kid n i L = k at *
        refine ih k _ (by omega) ⟨?_, ?_⟩
        · intro j h0 hj hp
          by_cases ejk : j = k
          · subst ejk
            rw [hkp]
            unfold swp
            rw [if_pos rfl, if_neg (by omega), if_pos rfl]
            exact lt2_asymm hb
          · by_cases ep : (j - 1) / 2 = i
            · rw [ep]
              unfold swp
              rw [if_pos rfl, if_neg (by omega), if_neg ejk, ← hkk]
              exact kid_top h0 hj ep
            · by_cases ej : j = i
              · subst ej
                unfold swp
                rw [if_neg (by omega), if_neg hp, if_pos rfl]
                exact h.2 (by omega) k (by omega) hk hkp
              · unfold swp
                rw [if_neg ep, if_neg hp, if_neg ej, if_neg ejk]
                exact h.1 j h0 hj ep
        · intro hk0 j h0 hj hp
          rw [hkp]
          unfold swp
          rw [if_pos rfl, if_neg (by omega), if_neg (by omega)]
          have := h.1 j h0 hj (by omega)
          rwa [hp] at this
    · rw [dnL_out h1]
      exact fun j h0 hj => h.1 j h0 hj (by omega)

def SortedP (n : Nat) (A : NL) : Prop := ∀ i, i + 1 < n → lt2 (A (i + 1)) (A i) = false

theorem sorted_last {A : NL} : ∀ n, SortedP (n + 1) A → ∀ i, i ≤ n → lt2 (A n) (A i) = false := by
  intro n
  induction n with
  | zero =>
    intro _ i hi
    obtain rfl : i = 0 := by omega
    exact lt2_irrefl _
  | succ n ih =>
    intro h i hi
    by_cases e : i = n + 1
    · subst e; exact lt2_irrefl _
    · exact le2_trans (ih (fun j hj => h j (by omega)) i (by omega)) (h n (by omega))

theorem sorted_unique : ∀ (n : Nat) (A B : NL), SortedP n A → SortedP n B → (∀ x, cnt A n x = cnt B n x) → ∀ i, i < n → A i = B i := by
  intro n
  induction n with
  | zero => intro A B _ _ _ i hi; omega
  | succ n ih =>
    intro A B hA hB hc i hi
    have hl : A n = B n := by
      have h1 : 0 < cnt B (n + 1) (A n) := by rw [← hc]; exact cnt_of (by omega : n < n + 1) rfl
      have h2 : 0 < cnt A (n + 1) (B n) := by rw [hc]; exact cnt_of (by omega : n < n + 1) rfl
      obtain ⟨j, hj, ej⟩ := cnt_pos _ h1
      obtain ⟨k, hk, ek⟩ := cnt_pos _ h2
      have q1 := sorted_last n hB j (by omega)
      have q2 := sorted_last n hA k (by omega)
      rw [ej] at q1
      rw [ek] at q2
      exact le2_anti q1 q2
    by_cases e : i = n
    · subst e; exact hl
    · refine ih A B (fun j hj => hA j (by omega)) (fun j hj => hB j (by omega)) (fun x => ?_) i (by omega)
      have := hc x
      simp only [cnt] at this
      rw [hl] at this
      omega

/-- What a heap of n gives, one by one from behind. -/
def hsL : Nat → NL → NL
  | 0, _ => fun _ => (0, 0)
  | k + 1, L => (hsL k (dnL k 0 (swp L 0 k))).put k (L 0)

theorem pop_inv {k : Nat} {L : NL} (h : HeapP (k + 1) L) : DnInv k 0 (swp L 0 k) := by
  refine ⟨fun j h0 hj hp => ?_, fun q => absurd q (by omega)⟩
  unfold swp
  rw [if_neg hp, if_neg (by omega), if_neg (by omega), if_neg (by omega)]
  exact h j h0 (by omega)

theorem hsL_sorted : ∀ (n : Nat) (L : NL), HeapP n L → SortedP n (hsL n L) ∧ ∀ x, cnt (hsL n L) n x = cnt L n x := by
  intro n
  induction n with
  | zero => intro L _; exact ⟨fun i hi => by omega, fun x => rfl⟩
  | succ k ih =>
    intro L h
    obtain ⟨hs, hc⟩ := ih _ (dn_heap k k 0 _ (by omega) (pop_inv h))
    have hcut : ∀ x, cnt (hsL k (dnL k 0 (swp L 0 k))) k x = cnt (swp L 0 k) k x := fun x => by rw [hc, cnt_dnL k k x (Nat.le_refl _) k 0 _ (by omega)]
    have hput : ∀ i, i < k → (hsL k (dnL k 0 (swp L 0 k))).put k (L 0) i = hsL k (dnL k 0 (swp L 0 k)) i := fun i hi => by unfold NL.put; rw [if_neg (by omega)]
    have hat : (hsL k (dnL k 0 (swp L 0 k))).put k (L 0) k = L 0 := by unfold NL.put; rw [if_pos rfl]
    have hlast : swp L 0 k k = L 0 := by
      unfold swp
      by_cases e : k = 0
      · rw [if_pos e, e]
      · rw [if_neg e, if_pos rfl]
    refine ⟨fun i hi => ?_, fun x => ?_⟩
    · show lt2 ((hsL k (dnL k 0 (swp L 0 k))).put k (L 0) (i + 1)) ((hsL k (dnL k 0 (swp L 0 k))).put k (L 0) i) = false
      by_cases e : i + 1 = k
      · rw [e, hat, hput i (by omega)]
        have h1 := cnt_of (L := hsL k (dnL k 0 (swp L 0 k))) (n := k) (i := i) (by omega) rfl
        rw [hcut] at h1
        have h2 : 0 < cnt L (k + 1) (hsL k (dnL k 0 (swp L 0 k)) i) := by
          rw [← cnt_swp L _ (i := 0) (j := k) (by omega) (by omega)]
          simp only [cnt]
          omega
        obtain ⟨j, hj, ej⟩ := cnt_pos _ h2
        rw [← ej]
        exact h.top j j (Nat.le_refl _) hj
      · rw [hput (i + 1) (by omega), hput i (by omega)]
        exact hs i (by omega)
    · show cnt ((hsL k (dnL k 0 (swp L 0 k))).put k (L 0)) k x + (if (hsL k (dnL k 0 (swp L 0 k))).put k (L 0) k = x then 1 else 0) = _
      rw [hat, cnt_congr k x hput, hcut, ← cnt_swp L x (i := 0) (j := k) (n := k + 1) (by omega) (by omega)]
      simp only [cnt]
      rw [hlast]

/-- x is put among the first k, which are sorted: place by place from behind. -/
def insL : Nat → NL → Int × Int → NL
  | 0, M, x => M.put 0 x
  | k + 1, M, x => if lt2 x (M k) = true then insL k (M.put (k + 1) (M k)) x else M.put (k + 1) x

theorem insL_put : ∀ (k : Nat) (M : NL) (x y : Int × Int) (j : Nat), k < j → insL k (M.put j y) x = (insL k M x).put j y := by
  intro k
  induction k with
  | zero =>
    intro M x y j hj
    funext i
    simp only [insL, NL.put]
    by_cases e : i = 0
    · rw [if_pos e, if_neg (by omega), if_pos e]
    · rw [if_neg e, if_neg e]
  | succ k ih =>
    intro M x y j hj
    have e : M.put j y k = M k := by unfold NL.put; rw [if_neg (by omega)]
    simp only [insL, e]
    by_cases hb : lt2 x (M k) = true
    · rw [if_pos hb, if_pos hb]
      have sw : (M.put j y).put (k + 1) (M k) = (M.put (k + 1) (M k)).put j y := by
        funext i
        unfold NL.put
        by_cases e1 : i = k + 1
        · rw [if_pos e1, if_neg (by omega), if_pos e1]
        · rw [if_neg e1, if_neg e1]
      rw [sw, ih _ _ _ _ (by omega)]
    · rw [if_neg hb, if_neg hb]
      funext i
      unfold NL.put
      by_cases e1 : i = k + 1
      · rw [if_pos e1, if_neg (by omega), if_pos e1]
      · rw [if_neg e1, if_neg e1]

theorem insL_succ (k : Nat) (M : NL) (x : Int × Int) : insL (k + 1) M x = if lt2 x (M k) = true then (insL k M x).put (k + 1) (M k) else M.put (k + 1) x := by
  simp only [insL]
  rw [insL_put k M x (M k) (k + 1) (by omega)]

theorem put_at (L : NL) (k : Nat) (y : Int × Int) : L.put k y k = y := by unfold NL.put; rw [if_pos rfl]

theorem put_off (L : NL) {k i : Nat} (y : Int × Int) (h : i ≠ k) : L.put k y i = L i := by unfold NL.put; rw [if_neg h]

theorem insL_sorted : ∀ (k : Nat) (M : NL) (x : Int × Int), SortedP k M → SortedP (k + 1) (insL k M x) ∧ (∀ y, (∀ i, i < k → lt2 y (M i) = false) → lt2 y x = false → ∀ i, i ≤ k → lt2 y (insL k M x i) = false) ∧ ∀ z, cnt (insL k M x) (k + 1) z = cnt M k z + if x = z then 1 else 0 := by
  intro k
  induction k with
  | zero =>
    intro M x _
    refine ⟨fun i hi => by omega, fun y _ hx i hi => ?_, fun z => ?_⟩
    · obtain rfl : i = 0 := by omega
      simp only [insL, put_at]; exact hx
    · simp only [insL, cnt, put_at]
  | succ k ih =>
    intro M x hM
    obtain ⟨s1, s2, s3⟩ := ih M x (fun i hi => hM i (by omega))
    have hl := sorted_last k hM
    rw [insL_succ]
    cases hb : lt2 x (M k)
    · rw [if_neg (by decide)]
      refine ⟨fun i hi => ?_, fun y hy hx i hi => ?_, fun z => ?_⟩
      · by_cases e : i + 1 = k + 1
        · obtain rfl : i = k := by omega
          rw [put_at, put_off _ _ (by omega)]; exact hb
        · rw [put_off _ _ (by omega), put_off _ _ (by omega)]; exact hM i (by omega)
      · by_cases e : i = k + 1
        · subst e; rw [put_at]; exact hx
        · rw [put_off _ _ e]; exact hy i (by omega)
      · show cnt (M.put (k + 1) x) (k + 1) z + (if M.put (k + 1) x (k + 1) = z then 1 else 0) = _
        rw [put_at, cnt_congr (k + 1) z (M := M) (fun i hi => put_off _ _ (by omega))]
    · rw [if_pos rfl]
      refine ⟨fun i hi => ?_, fun y hy hx i hi => ?_, fun z => ?_⟩
      · by_cases e : i + 1 = k + 1
        · obtain rfl : i = k := by omega
          rw [put_at, put_off _ _ (by omega)]
          exact s2 (M i) (fun j hj => hl j (by omega)) (lt2_asymm hb) i (Nat.le_refl _)
        · rw [put_off _ _ (by omega), put_off _ _ (by omega)]; exact s1 i (by omega)
      · by_cases e : i = k + 1
        · subst e; rw [put_at]; exact hy k (by omega)
        · rw [put_off _ _ e]; exact s2 y (fun j hj => hy j (by omega)) hx i (by omega)
      · show cnt ((insL k M x).put (k + 1) (M k)) (k + 1) z + (if (insL k M x).put (k + 1) (M k) (k + 1) = z then 1 else 0) = _
        rw [put_at, cnt_congr (k + 1) z (M := insL k M x) (fun i hi => put_off _ _ (by omega)), s3]
        simp only [cnt]
        omega
def isortL : Nat → NL → NL
  | 0, _ => fun _ => (0, 0)
  | k + 1, L => insL k (isortL k L) (L k)

theorem isortL_sorted : ∀ (n : Nat) (L : NL), SortedP n (isortL n L) ∧ ∀ x, cnt (isortL n L) n x = cnt L n x := by
  intro n
  induction n with
  | zero => intro L; exact ⟨fun i hi => by omega, fun x => rfl⟩
  | succ k ih =>
    intro L
    obtain ⟨s, c⟩ := ih L
    obtain ⟨s1, _, s3⟩ := insL_sorted k (isortL k L) (L k) s
    exact ⟨s1, fun x => by show cnt (insL k (isortL k L) (L k)) (k + 1) x = _; rw [s3, c]; rfl⟩
/-- Both make the same. -/
theorem sorts_alike (n : Nat) (L : NL) (h : HeapP n L) : ∀ i, i < n → hsL n L i = isortL n L i :=
  sorted_unique n _ _ (hsL_sorted n L h).1 (isortL_sorted n L).1 fun x => by rw [(hsL_sorted n L h).2, (isortL_sorted n L).2]
end Go.Proofs.Ytkonckgapicdfaa
