/- VecText of the model. -/
import Derived.Test.YtfjhgagpmhedfaaDoorSC1
import Derived.Test.YtfjhgagpmhedfaaDoorVB
import Derived.Test.YtfjhgagpmhedfaaDoorVA0
namespace Go.Proofs.YtfjhgagpmhedfaaDoor
open Go.RowKit
set_option maxRecDepth 8000
set_option linter.unusedSimpArgs false
set_option linter.unusedVariables false

def vecTB (xs : List Int) : List UInt8 := if vecOkB xs then vecT xs else []

theorem vecT_one (x : Int) : vecT [x] = Lib.itoa x := Lib.join_one _ _

theorem vecT_snoc (xs : List Int) (x : Int) (h : xs ≠ []) : vecT (xs ++ [x]) = vecT xs ++ 44 :: Lib.itoa x := by
  cases xs with
  | nil => exact absurd rfl h
  | cons y r =>
    show Lib.join (Lib.itoa y :: (r ++ [x]).map Lib.itoa) [44] = Lib.join (Lib.itoa y :: r.map Lib.itoa) [44] ++ _
    rw [Lib.join_cons, Lib.join_cons]
    simp [Lib.joinTail]

theorem itoa_len {x : Int} (h : compB x = true) : (Lib.itoa x).length ≤ 21 := by
  have h' : -1048576 ≤ x ∧ x ≤ 1048576 := of_decide_eq_true h
  rcases lt_or_geI x 0 with p | p
  · rw [itoa_min p, List.length_cons]
    have := dec_len20 (n := x.natAbs) (by omega)
    omega
  · rw [itoa_pos p]
    have := dec_len20 (n := x.toNat) (by omega)
    omega

theorem vecT_len : ∀ (k : Nat) (xs : List Int), xs.length = k → (∀ x ∈ xs, compB x = true) → (vecT xs).length ≤ 22 * k
  | 0, xs, h, _ => by
    have : xs = [] := List.length_eq_zero_iff.1 h
    subst this; simp [vecT, Lib.join_nil]
  | k + 1, xs, h, hx => by
    rcases List.eq_nil_or_concat xs with rfl | ⟨ys, y, rfl⟩
    · simp at h
    · rw [List.concat_eq_append] at h hx ⊢
      have hy : ys.length = k := by simpa using h
      have ly := itoa_len (hx y (by simp))
      by_cases e : ys = []
      · subst e
        rw [List.nil_append, vecT_one]; omega
      · have := vecT_len k ys hy (fun x q => hx x (by simp [q]))
        rw [vecT_snoc _ _ e, List.length_append, List.length_cons]; omega

theorem vecOk_mem {xs : List Int} (h : vecOkB xs = true) : (1 ≤ xs.length ∧ xs.length ≤ 8) ∧ ∀ x ∈ xs, compB x = true := by
  unfold vecOkB at h
  rw [Bool.and_eq_true, decide_eq_true_eq, List.all_eq_true] at h
  exact h

theorem vecOkB_at4 {xs : List Int} (h : vecOkB xs = true) {k : Nat} (hk : k < xs.length) : compB (nth xs k) = true := by
  simp only [vecOkB, Bool.and_eq_true, List.all_eq_true] at h
  exact h.2 (nth xs k) (by unfold nth; simp [hk])

theorem take_snocI (xs : List Int) (k : Nat) (h : k < xs.length) : xs.take (k + 1) = xs.take k ++ [nth xs k] := by
  rw [List.take_succ_eq_append_getElem h]
  unfold nth
  rw [List.getD_eq_getElem?_getD, List.getElem?_eq_getElem h]; rfl

end Go.Proofs.YtfjhgagpmhedfaaDoor