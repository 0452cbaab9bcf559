/- VecAdd, VecNeg: the answers as rows that are read; plain facts of sums and opposites. -/
import Derived.Test.YtpbehhanccodeaaVP
namespace Go.Proofs.Ytpbehhanccodeaa
open Go.RowKit
set_option maxRecDepth 8000
set_option linter.unusedSimpArgs false
set_option linter.unusedVariables false

def SlicePost (w : World) (L : List Int) (e : Ending) (w' : World) : Prop :=
  ∃ a c, e = .returned (.slice a L.length c) ∧ Row w' a L.length L ∧ Below w.heap.size w w'
def SliceBPost (w : World) (L : List Int) (ok : Bool) (e : Ending) (w' : World) : Prop :=
  ∃ a c, e = .returned (.tuple #[.slice a L.length c, .bool ok]) ∧ Row w' a L.length L ∧ Below w.heap.size w w'

theorem fresh_row {base : Nat} {w : World} {v : Value} {xs : List Int} (h : Fresh base w v xs) : ∃ a c, v = .slice a xs.length c ∧ Row w a xs.length xs := by
  rcases h with ⟨rfl, rfl⟩ | ⟨g, rfl, hb, ho⟩
  · exact ⟨none, 0, rfl, ⟨rfl, .inl rfl⟩⟩
  · exact ⟨_, _, rfl, ho.row⟩

theorem iNeg_row (a : Option Addr) (n cap : Nat) (xs : List Int) (w : World) (h : Row w a n xs) (hn : n ≤ 1048576) :
    Calls Try.prog 11 #[.slice a n cap] w fun e w' => SlicePost w (negL xs) e w' := by
  refine (iVecNeg_any a n cap xs w h hn).mono ?_
  rintro e w' ⟨v, rfl, hf, hb⟩
  obtain ⟨a2, c2, rfl, hr⟩ := fresh_row hf
  exact ⟨a2, c2, rfl, hr, hb⟩







theorem sumF_comm (xs ys : List Int) : sumF xs ys = sumF ys xs := by funext j; unfold sumF; omega

theorem addOkB_comm (xs ys : List Int) : addOkB xs ys = addOkB ys xs := by
  unfold addOkB
  rw [sumF_comm xs ys, Bool.and_comm (vecOkB xs)]
  by_cases h : xs.length = ys.length
  · rw [h]
  · rw [decide_eq_false h, decide_eq_false (fun e => h e.symm)]; simp

theorem addL_comm (xs ys : List Int) : addL xs ys = addL ys xs := by
  unfold addL
  rw [addOkB_comm]
  cases h : addOkB ys xs
  · rfl
  · have hl : ys.length = xs.length := by unfold addOkB at h; simp only [Bool.and_eq_true, decide_eq_true_eq] at h; exact h.1.2
    rw [sumF_comm, hl]

theorem addL_len8 (xs ys : List Int) : (addL xs ys).length ≤ 8 := by
  unfold addL
  cases h : addOkB xs ys
  · simp
  · simp only [if_true, ints_len]
    unfold addOkB at h
    simp only [Bool.and_eq_true] at h
    exact (vecOk_bd h.1.1.1 rfl).2.1

theorem negL_len8 (xs : List Int) : (negL xs).length ≤ 8 := by
  unfold negL
  cases h : vecOkB xs
  · simp
  · simp only [if_true, ints_len]
    exact (vecOk_bd h rfl).2.1

theorem vecOk_ints {f : Nat → Int} {n : Nat} (h1 : 1 ≤ n) (h8 : n ≤ 8) (hf : ∀ j, j < n → -1048576 ≤ f j ∧ f j ≤ 1048576) : vecOkB (ints f n) = true := by
  unfold vecOkB
  rw [ints_len, decide_eq_true ⟨h1, h8⟩, Bool.true_and]
  refine all_nth fun j hj => ?_
  rw [ints_len] at hj
  rw [nth_ints f n j hj]
  simpa [compB] using hf j hj

theorem neg_ok {xs : List Int} (h : vecOkB xs = true) : negL xs = ints (fun j => -(nth xs j)) xs.length ∧ vecOkB (negL xs) = true := by
  obtain ⟨n1, n8, hb⟩ := vecOk_bd h rfl
  have e : negL xs = ints (fun j => -(nth xs j)) xs.length := by unfold negL; rw [h, if_pos rfl]
  refine ⟨e, ?_⟩
  rw [e]
  exact vecOk_ints n1 n8 fun j hj => by have := hb j hj; omega

theorem ints_eq {f : Nat → Int} {xs : List Int} (h : ∀ j, j < xs.length → f j = nth xs j) : ints f xs.length = xs :=
  nth_ext (ints_len f _) fun j hj => by rw [ints_len] at hj; rw [nth_ints f _ j hj]; exact h j hj

theorem neg_neg {xs : List Int} (h : vecOkB xs = true) : negL (negL xs) = xs := by
  obtain ⟨e, ok⟩ := neg_ok h
  have hl : (negL xs).length = xs.length := by rw [e, ints_len]
  obtain ⟨e2, _⟩ := neg_ok ok
  rw [e2, hl]
  refine ints_eq fun j hj => ?_
  rw [e, nth_ints _ _ j hj]
  omega

theorem add_neg {xs : List Int} (h : vecOkB xs = true) : addOkB xs (negL xs) = true ∧ addL xs (negL xs) = ints (fun _ => 0) xs.length := by
  obtain ⟨n1, n8, hb⟩ := vecOk_bd h rfl
  obtain ⟨e, ok⟩ := neg_ok h
  have hl : (negL xs).length = xs.length := by rw [e, ints_len]
  have hz : ints (sumF xs (negL xs)) xs.length = ints (fun _ => 0) xs.length := by
    unfold ints
    refine List.map_congr_left fun j hj => ?_
    have hj := List.mem_range.1 hj
    unfold sumF
    rw [e, nth_ints _ _ j hj]
    omega
  have hok : addOkB xs (negL xs) = true := by
    unfold addOkB
    rw [h, ok, hl, decide_eq_true rfl, hz, vecOk_ints n1 n8 (fun _ _ => by omega)]
    rfl
  exact ⟨hok, by unfold addL; rw [hok, if_pos rfl, hz]⟩
end Go.Proofs.Ytpbehhanccodeaa
