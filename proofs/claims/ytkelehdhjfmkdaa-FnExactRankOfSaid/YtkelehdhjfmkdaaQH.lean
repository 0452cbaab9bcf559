/- Ranks, plain: a place among what is sorted is how many are less. -/
import Derived.Test.YtkelehdhjfmkdaaQE
import Derived.Test.YtkelehdhjfmkdaaIU
namespace Go.Proofs.Ytkelehdhjfmkdaa
open Go.RowKit
set_option linter.unusedSimpArgs false
set_option linter.unusedVariables false

theorem mtB_zero (x : It) : mtB 0 x = true := by
  have h : bits .and .i64 x.tags 0 = 0 := by simp [bits]; rfl
  unfold mtB
  rw [h]
  rfl
theorem cntP_all {p : It → Bool} {L : IL} (h : ∀ x, p x = true) : ∀ k, cntP p L k = k
  | 0 => rfl
  | k + 1 => by rw [cntP_yes (h _), cntP_all h k]
theorem fil_all {p : It → Bool} {L : IL} (h : ∀ x, p x = true) {n k : Nat} (hk : k < n) : fil p L n k = L k := by
  have := fil_at (h (L k)) n hk
  rw [cntP_all h k] at this
  exact this
theorem cnt0 (L : IL) (k : Nat) : cntP (mtB 0) L k = k := cntP_all mtB_zero k
theorem nrL0 {qs : List Int} {L : IL} {n k : Nat} (hk : k < n) : nrL qs 0 L n k = nrOf qs (L k) := by unfold nrL; rw [fil_all mtB_zero hk]

theorem cntN_congr {p : Int × Int → Bool} {A B : NL} {n : Nat} (h : ∀ i, i < n → A i = B i) : cntN p A n = cntN p B n := by
  induction n with
  | zero => rfl
  | succ n ih => simp only [cntN]; rw [ih (fun i hi => h i (by omega)), h n (by omega)]
theorem cntN_succ (p : Int × Int → Bool) (A : NL) (k : Nat) : cntN p A (k + 1) = cntN p A k + if p (A k) then 1 else 0 := by simp only [cntN]; split <;> rfl
theorem cntN_ins (p : Int × Int → Bool) : ∀ (k : Nat) (M : NL) (x : Int × Int), cntN p (insL k M x) (k + 1) = cntN p M k + if p x then 1 else 0 := by
  intro k
  induction k with
  | zero =>
    intro M x
    rw [cntN_succ, show insL 0 M x 0 = x from put_at M 0 x]
    rfl
  | succ k ih =>
    intro M x
    rw [insL_succ]
    by_cases hb : lt2 x (M k) = true
    · rw [if_pos hb, cntN_succ, put_at, cntN_congr (B := insL k M x) (fun i hi => put_off _ _ (by omega)), ih, cntN_succ]
      omega
    · rw [if_neg hb, cntN_succ, put_at, cntN_congr (B := M) (fun i hi => put_off _ _ (by omega))]
theorem cntN_sort (p : Int × Int → Bool) : ∀ (n : Nat) (L : NL), cntN p (isortL n L) n = cntN p L n := by
  intro n
  induction n with
  | zero => intro L; rfl
  | succ n ih =>
    intro L
    show cntN p (insL n (isortL n L) (L n)) (n + 1) = _
    rw [cntN_ins, ih, cntN_succ]

/-- The first one of that id among the first m. -/
def rkF (B : NL) (m : Nat) (id : Int) : Int :=
  match (List.range m).find? fun i => decide ((B i).1 = id) with
  | some i => (i : Int)
  | none => -1
theorem rkF_hit {B : NL} {m k : Nat} {id : Int} (hk : k < m) (h : (B k).1 = id) (hp : ∀ j, j < k → (B j).1 ≠ id) : rkF B m id = (k : Int) := by
  have e : (List.range m).find? (fun i => decide ((B i).1 = id)) = some k := by
    rw [List.find?_range_eq_some]
    exact ⟨by simpa using h, by simpa using hk, fun j hj => by simpa using hp j hj⟩
  unfold rkF
  rw [e]
theorem rkF_miss {B : NL} {m : Nat} {id : Int} (hp : ∀ j, j < m → (B j).1 ≠ id) : rkF B m id = -1 := by
  have e : (List.range m).find? (fun i => decide ((B i).1 = id)) = none := by
    rw [List.find?_eq_none]
    intro j hj
    simpa using hp j (by simpa using hj)
  unfold rkF
  rw [e]

/-- Those that are less than one. -/
def ltO (y : Int × Int) (x : Int × Int) : Bool := lt2 x y
/-- Sorted ones: ahead of a place all are no greater, from it on none is less. -/
theorem sorted_le {n : Nat} {B : NL} (h : SortedP n B) {i j : Nat} (hij : i ≤ j) (hj : j < n) : lt2 (B j) (B i) = false := by
  have hs : SortedP (j + 1) B := fun k hk => h k (by omega)
  exact sorted_last j hs i hij
theorem cntN_at {B : NL} {y : Int × Int} {i : Nat} : ∀ n, i ≤ n → (∀ j, j < i → lt2 (B j) y = true) → (∀ j, i ≤ j → j < n → lt2 (B j) y = false) → cntN (ltO y) B n = i := by
  intro n
  induction n with
  | zero => intro h _ _; simp only [cntN]; omega
  | succ n ih =>
    intro hi h1 h2
    by_cases e : i = n + 1
    · subst e
      have : ∀ k, k ≤ n + 1 → cntN (ltO y) B k = k := by
        intro k
        induction k with
        | zero => intro _; rfl
        | succ k ihk => intro hk; rw [cntN_yes (show ltO y (B k) = true from h1 k (by omega)), ihk (by omega)]
      exact this _ (Nat.le_refl _)
    · rw [cntN_no (show ltO y (B n) = false from h2 n (by omega) (by omega))]
      exact ih (by omega) h1 fun j hj hjn => h2 j hj (by omega)
theorem mem_sort {n : Nat} {A : NL} {i : Nat} (hi : i < n) : ∃ j, j < n ∧ A j = isortL n A i := by
  refine cnt_pos n ?_
  rw [← (isortL_sorted n A).2]
  exact cnt_of hi rfl

/-- The rank: where an id is there, how many are less; else -1. -/
theorem rank_hit {n : Nat} {A : NL} {id : Int} {p : Nat} (hp : p < n) (he : (A p).1 = id) (hu : ∀ j, j < n → (A j).1 = id → j = p) : rkF (isortL n A) n id = (cntN (ltO (A p)) A n : Int) := by
  obtain ⟨hs, hc⟩ := isortL_sorted n A
  have hex : ∃ i, i < n ∧ isortL n A i = A p := by
    refine cnt_pos n ?_
    rw [hc]
    exact cnt_of hp rfl
  have hidx : ∀ i, i < n → (isortL n A i).1 = id → isortL n A i = A p := fun i hi h => by
    obtain ⟨j, hj, e⟩ := mem_sort (A := A) hi
    rw [← e] at h ⊢
    rw [hu j hj h]
  -- the first such place
  have hfirst : ∃ i, i < n ∧ isortL n A i = A p ∧ ∀ j, j < i → isortL n A j ≠ A p := by
    obtain ⟨i, hi, e⟩ := hex
    induction i using Nat.strongRecOn with
    | ind i ih =>
      by_cases h : ∃ j, j < i ∧ isortL n A j = A p
      · obtain ⟨j, hj, ej⟩ := h
        exact ih j hj (by omega) ej
      · exact ⟨i, hi, e, fun j hj ej => h ⟨j, hj, ej⟩⟩
  obtain ⟨i, hi, e, hne⟩ := hfirst
  rw [rkF_hit hi (by rw [e]; exact he) (fun j hj h => hne j hj (hidx j (by omega) h)), ← cntN_sort]
  congr 1
  symm
  refine cntN_at n (by omega) (fun j hj => ?_) (fun j hj hjn => ?_)
  · have h1 := sorted_le hs (show j ≤ i by omega) hi
    rw [e] at h1
    cases h2 : lt2 (isortL n A j) (A p)
    · exact absurd (le2_anti h1 h2) (hne j hj)
    · rfl
  · have h1 := sorted_le hs hj hjn
    rw [e] at h1
    exact h1
theorem rank_miss {n : Nat} {A : NL} {id : Int} (hu : ∀ j, j < n → (A j).1 ≠ id) : rkF (isortL n A) n id = -1 := by
  refine rkF_miss fun i hi h => ?_
  obtain ⟨j, hj, e⟩ := mem_sort (A := A) hi
  rw [← e] at h
  exact hu j hj h
end Go.Proofs.Ytkelehdhjfmkdaa
