/- One more among what is sorted, plain; an append of nothing. -/
import Derived.Test.YthfkpgnpfhkfpaaRE0
namespace Go.Proofs.Ythfkpgnpfhkfpaa
open Go.RowKit
set_option maxRecDepth 8000
set_option linter.unusedSimpArgs false
set_option linter.unusedVariables false

/-- x at place p of A. -/
def allL (p : Nat) (A : NL) (x : Int × Int) : NL := fun i => if i < p then A i else if i = p then x else A (i - 1)

theorem cnt_step (L : NL) (n : Nat) (x : Int × Int) : cnt L (n + 1) x = cnt L n x + if L n = x then 1 else 0 := rfl

theorem allL_lo {p : Nat} {A : NL} {x : Int × Int} {t : Nat} (h : t < p) : allL p A x t = A t := by unfold allL; rw [if_pos h]

theorem allL_at (p : Nat) (A : NL) (x : Int × Int) : allL p A x p = x := by unfold allL; rw [if_neg (by omega), if_pos rfl]

theorem allL_hi {p : Nat} {A : NL} {x : Int × Int} {t : Nat} (h : p ≤ t) : allL p A x (t + 1) = A t := by unfold allL; rw [if_neg (by omega), if_neg (by omega), Nat.add_sub_cancel]

theorem cnt_allL_lo (p : Nat) (A : NL) (x z : Int × Int) (t : Nat) (h : t ≤ p) : cnt (allL p A x) t z = cnt A t z := cnt_congr t z fun i hi => allL_lo (by omega)

theorem cnt_allL (p : Nat) (A : NL) (x z : Int × Int) : ∀ t, p ≤ t → cnt (allL p A x) (t + 1) z = cnt A t z + if x = z then 1 else 0
  | 0, h => by
    obtain rfl : p = 0 := by omega
    rw [cnt_step, allL_at]; rfl
  | t + 1, h => by
    by_cases e : p = t + 1
    · subst e; rw [cnt_step, allL_at, cnt_allL_lo _ _ _ _ _ (Nat.le_refl _)]
    · rw [cnt_step, allL_hi (by omega), cnt_allL p A x z t (by omega), cnt_step A t]; omega

theorem sorted_allL {m p : Nat} {A : NL} {x : Int × Int} (hA : SortedP m A) (hp : p ≤ m) (h1 : ∀ i, i < p → lt2 x (A i) = false) (h2 : p < m → lt2 x (A p) = true) : SortedP (m + 1) (allL p A x) := by
  intro i hi
  unfold allL
  by_cases a1 : i + 1 < p
  · rw [if_pos a1, if_pos (by omega)]; exact hA i (by omega)
  · by_cases a2 : i + 1 = p
    · rw [if_neg (by omega), if_pos a2, if_pos (by omega)]; exact h1 i (by omega)
    · rw [if_neg a1, if_neg a2]
      by_cases a3 : i = p
      · subst a3
        rw [if_neg (by omega), if_pos rfl, Nat.add_sub_cancel]
        exact lt2_asymm (h2 (by omega))
      · rw [if_neg (by omega), if_neg a3, Nat.add_sub_cancel]
        have := hA (i - 1) (by omega)
        rwa [show i - 1 + 1 = i by omega] at this
/-- What a heap keeps when one more comes. -/
theorem keep_all {k m p : Nat} {M : NL} {x : Int × Int} (mk : m ≤ k) (hh : HeapP m M) (hp : p ≤ m) (h1 : ∀ i, i < p → lt2 x (isortL m M i) = false) (h2 : p < m → lt2 x (isortL m M p) = true) :
    ∀ i, i < putN k m → isortL (putN k m) (putL k m (fun i => (M i).1) (fun i => (M i).2) x.1 x.2) i = allL p (isortL m M) x i := by
  intro i hi
  have hk := put_keep (keep0 mk hh) x
  have hn := hk.num
  rw [hk.same i hi]
  refine sorted_unique (m + 1) _ _ (isortL_sorted _ _).1 (sorted_allL (isortL_sorted m M).1 hp h1 h2) (fun z => ?_) i (Nat.lt_of_lt_of_le hi (by rw [hn]; exact Nat.min_le_left _ _))
  rw [(isortL_sorted _ _).2, cnt_one, cnt_allL _ _ _ _ _ hp, (isortL_sorted m M).2]
def shL (A : NL) (p : Nat) : NL := fun i => A (p + i)

theorem nlv_split (A : NL) (x : Int × Int) (m p : Nat) (hp : p ≤ m) : nlv A p ++ [.int .i64 x.1, .int .i64 x.2] ++ nlv (shL A p) (m - p) = nlv (allL p A x) (m + 1) := by
  apply List.ext_getElem?
  intro j
  have l1 : (nlv A p ++ [Value.int .i64 x.1, .int .i64 x.2]).length = p * 2 + 2 := by simp [nlv_len]
  have lo : ∀ (B : NL) (n q : Nat), q < n → (nlv B n)[q * 2]? = some (.int .i64 (B q).1) := fun B n q h => (nlv_at B h).1
  have hi : ∀ (B : NL) (n q : Nat), q < n → (nlv B n)[q * 2 + 1]? = some (.int .i64 (B q).2) := fun B n q h => (nlv_at B h).2
  obtain ⟨q, hq⟩ : ∃ q, j = q * 2 ∨ j = q * 2 + 1 := ⟨j / 2, by omega⟩
  by_cases hj : q < m + 1
  · rcases hq with rfl | rfl
    · rw [lo _ _ _ hj]
      by_cases a : q < p
      · rw [List.getElem?_append_left (by rw [l1]; omega), List.getElem?_append_left (by rw [nlv_len]; omega), lo _ _ _ a]
        unfold allL; rw [if_pos a]
      · by_cases b : q = p
        · subst b
          rw [List.getElem?_append_left (by rw [l1]; omega), List.getElem?_append_right (by rw [nlv_len]; omega), nlv_len, Nat.sub_self]
          unfold allL; rw [if_neg (by omega), if_pos rfl]; rfl
        · rw [List.getElem?_append_right (by rw [l1]; omega), l1, show q * 2 - (p * 2 + 2) = (q - 1 - p) * 2 by omega, lo _ _ _ (by omega)]
          unfold allL shL; rw [if_neg a, if_neg b, show p + (q - 1 - p) = q - 1 by omega]
    · rw [hi _ _ _ hj]
      by_cases a : q < p
      · rw [List.getElem?_append_left (by rw [l1]; omega), List.getElem?_append_left (by rw [nlv_len]; omega), hi _ _ _ a]
        unfold allL; rw [if_pos a]
      · by_cases b : q = p
        · subst b
          rw [List.getElem?_append_left (by rw [l1]; omega), List.getElem?_append_right (by rw [nlv_len]; omega), nlv_len, show q * 2 + 1 - q * 2 = 1 by omega]
          unfold allL; rw [if_neg (by omega), if_pos rfl]; rfl
        · rw [List.getElem?_append_right (by rw [l1]; omega), l1, show q * 2 + 1 - (p * 2 + 2) = (q - 1 - p) * 2 + 1 by omega, hi _ _ _ (by omega)]
          unfold allL shL; rw [if_neg a, if_neg b, show p + (q - 1 - p) = q - 1 by omega]
  · rw [List.getElem?_eq_none (by simp [nlv_len]; omega), List.getElem?_eq_none (by rw [nlv_len]; omega)]

theorem run_app_empty {P : Program} (w : World) (t ty e : TypeId) (i : TypeInfo) (ht : P.underlying t = some (.slice e)) (hi : P.info? e = some i) (g : Addr) (n cap : Nat) (a : Option Addr) (c : Nat) (hn : n ≤ cap) :
    (Builtin.append_ #[t, t] ty #[.slice (some g) n cap, .slice a 0 c]).run P w = .ok (.slice (some g) n cap) w := by
  have hl : ∀ (x : Addr), (loadCells x 0).run P w = .ok #[] w := fun x => by simpa using run_loadCells_list (P := P) w x [] (by simp)
  cases a <;> simp [Builtin.append_, run_underlying ht, sizeOf, typeInfo, hi, Builtin.firstCells, Builtin.lenOf, storeCells, hl, hn]

theorem nlv_one (A : NL) (n : Nat) : ∀ u ∈ nlv A n, u.oneCell' = true := by
  intro u hu
  simp only [nlv, List.mem_map] at hu
  obtain ⟨j, _, rfl⟩ := hu
  unfold pcell
  split <;> rfl
end Go.Proofs.Ythfkpgnpfhkfpaa
