/- ReadVec of the program. -/
import Derived.Test.YtgckhnnkphlciaaDoorSF1
import Derived.Test.YtgckhnnkphlciaaDoorSC5
import Derived.Test.YtgckhnnkphlciaaDoorSD2
import Derived.Test.YtgckhnnkphlciaaDoorVL
import Derived.Lib.SplitLaws
import Derived.Lib.IndexLaws
import Derived.Lib.IndexBytes
namespace Go.Proofs.YtgckhnnkphlciaaDoor
open Go.RowKit
set_option maxRecDepth 8000
set_option linter.unusedSimpArgs false
set_option linter.unusedVariables false

theorem libSplit (c : UInt8) : ∀ (k : Nat) (l : List UInt8), Lib.splitK [c] 0 k l = splitK c k l
  | 0, l => rfl
  | k + 1, l => by
    unfold Lib.splitK
    rw [Lib.index_one]
    have ge := Lib.indexByte_ge l c
    by_cases h : Lib.indexByte l c = -1
    · rw [h]
      have hm := cut_miss c l fun j hj => Lib.indexByte_none h j
      show [l] = (if (cutL c l).2.2 then _ else _)
      rw [hm]; rfl
    · obtain ⟨i, hi⟩ : ∃ i : Nat, Lib.indexByte l c = (i : Int) := ⟨(Lib.indexByte l c).toNat, by omega⟩
      obtain ⟨h1, h2⟩ := Lib.indexByte_some hi
      have hh := cut_hit c i l h2 h1
      rw [hi, if_neg (by first | (simp; done) | (simp; omega))]
      show _ = (if (cutL c l).2.2 then (cutL c l).1 :: splitK c k (cutL c l).2.1 else [l])
      rw [hh, if_pos rfl, libSplit c k]
      simp

theorem splitK_len (c : UInt8) (k : Nat) (l : List UInt8) (h : l.length ≤ k) : splitK c k l = splitC c l :=
  splitK_all c k l (by have := split_len c _ l (Nat.lt_succ_self _); omega)
/-- The parts that SplitN tells. -/
def partsN (l : List UInt8) : List (List UInt8) := splitK 44 8 l

theorem parts_min (s : ByteArray) : (Lib.splitB ⟨#[44]⟩ 0 (min 9 (s.size + 1) - 1) s).map (·.data.toList) = partsN s.data.toList := by
  rw [Lib.splitB_data, show (⟨#[44]⟩ : ByteArray).data.toList = [44] from rfl, libSplit]
  unfold partsN
  by_cases h : 8 ≤ s.size
  · rw [show min 9 (s.size + 1) - 1 = 8 by omega]
  · rw [splitK_len 44 (min 9 (s.size + 1) - 1) s.data.toList (by rw [← size_list]; omega), splitK_len 44 8 s.data.toList (by rw [← size_list]; omega)]

theorem dec_len7 {n : Nat} (h : n ≤ 1048576) : (Lib.decDigits n).length ≤ 7 := by
  rw [Lib.decDigits_length]
  rcases Nat.lt_or_ge 7 (Lib.nDigits n) with q | q
  · have : ∀ (k n : Nat), k + 1 < Lib.nDigits n → 10 ^ (k + 1) ≤ n := by
      intro k
      induction k with
      | zero =>
        intro n h
        rcases Nat.lt_or_ge n 10 with p | p
        · rw [Lib.nDigits_small p] at h; omega
        · simpa using p
      | succ k ih =>
        intro n h
        rcases Nat.lt_or_ge n 10 with p | p
        · rw [Lib.nDigits_small p] at h; omega
        · rw [Lib.nDigits_big (by omega)] at h
          have := ih (n / 10) (by omega)
          rw [Nat.pow_succ]
          omega
    have := this 6 n (by omega)
    have c : (10 : Nat) ^ (6 + 1) = 10000000 := by decide
    omega
  · exact q

theorem itoa_len8 {x : Int} (h : compB x = true) : (Lib.itoa x).length ≤ 8 := by
  have h' : -1048576 ≤ x ∧ x ≤ 1048576 := of_decide_eq_true h
  rcases lt_or_geI x 0 with p | p
  · rw [itoa_min p, List.length_cons]
    have := dec_len7 (n := x.natAbs) (by omega)
    omega
  · rw [itoa_pos p]
    have := dec_len7 (n := x.toNat) (by omega)
    omega

theorem vecT_len9 : ∀ (k : Nat) (xs : List Int), xs.length = k → (∀ x ∈ xs, compB x = true) → (vecT xs).length ≤ 9 * k
  | 0, xs, h, _ => by
    have : xs = [] := List.length_eq_zero_iff.1 h
    subst this; simp [vecT, Lib.join_nil]
  | k + 1, xs, h, hx => by
    rcases List.eq_nil_or_concat xs with rfl | ⟨ys, y, rfl⟩
    · simp at h
    · rw [List.concat_eq_append] at h hx ⊢
      have hy : ys.length = k := by simpa using h
      have ly := itoa_len8 (hx y (by simp))
      by_cases e : ys = []
      · subst e
        rw [List.nil_append, vecT_one]; omega
      · have := vecT_len9 k ys hy (fun x q => hx x (by simp [q]))
        rw [vecT_snoc _ _ e, List.length_append, List.length_cons]; omega
/-- The program reads a vector just where the model does, and the same one. -/
theorem read_yes {l : List UInt8} (ha : allNum (partsN l) = true) (hv : vecOkB ((partsN l).map numV) = true) : readVB l = true ∧ valV l = (partsN l).map numV := by
  obtain ⟨⟨n1, n8⟩, hm⟩ := vecOk_mem hv
  rw [List.length_map] at n8
  have hp : partsN l = splitC 44 l := by
    rcases Nat.lt_or_ge 9 (splitC 44 l).length with q | q
    · have := (splitK_more 44 8 l q).1
      unfold partsN at n8
      omega
    · exact splitK_all 44 8 l q
  have hval : valV l = (partsN l).map numV := by unfold valV; rw [hp]
  have hT : vecT (valV l) = l := by
    unfold vecT
    rw [hval, all_map ha, hp]
    exact (join_split 44 _ l (Nat.lt_succ_self _)).1
  have hTB : vecTB (valV l) = l := by unfold vecTB; rw [hval, hv, if_pos rfl, ← hval, hT]
  have hne : l ≠ [] := fun e => by
    subst e
    have : allNum (partsN []) = false := by decide
    rw [this] at ha; cases ha
  have hlen : l.length ≤ 80 := by
    have := vecT_len9 _ (valV l) rfl (by rw [hval]; exact hm)
    rw [hT, hval, List.length_map] at this
    omega
  refine ⟨?_, hval⟩
  unfold readVB
  rw [decide_eq_true hne, decide_eq_true hlen, decide_eq_true hTB]; rfl

theorem read_no {l : List UInt8} (h : readVB l = true) : allNum (partsN l) = true ∧ vecOkB ((partsN l).map numV) = true := by
  unfold readVB at h
  simp only [Bool.and_eq_true, decide_eq_true_eq] at h
  obtain ⟨hne, hlen, hT⟩ := h
  have hv : vecOkB (valV l) = true := by
    cases q : vecOkB (valV l)
    · unfold vecTB at hT
      rw [q] at hT
      exact absurd hT.symm hne
    · rfl
  obtain ⟨⟨n1, n8⟩, hm⟩ := vecOk_mem hv
  have hp : partsN l = splitC 44 l := splitK_all 44 8 l (by unfold valV at n8; rw [List.length_map] at n8; omega)
  have hT' : vecT (valV l) = l := by unfold vecTB at hT; rwa [hv, if_pos rfl] at hT
  have hs : splitC 44 l = (valV l).map Lib.itoa := by
    have := vecT_split (xs := valV l) (by intro e; rw [e] at n1; simp at n1)
    rwa [hT'] at this
  obtain ⟨a, b⟩ := all_itoa (xs := valV l) fun x hx => by
    have : -1048576 ≤ x ∧ x ≤ 1048576 := of_decide_eq_true (hm x hx)
    omega
  rw [hp]
  exact ⟨by rw [hs]; exact a, hv⟩
end Go.Proofs.YtgckhnnkphlciaaDoor
