/- Hits that are read out of a text; plain. -/
import Derived.Test.YtecheolhmohhjaaDoorSG1
import Derived.Test.YtecheolhmohhjaaDoorVA0
namespace Go.Proofs.YtecheolhmohhjaaDoor
open Go.RowKit
set_option maxRecDepth 8000
open Go.Lib
set_option linter.unusedSimpArgs false
set_option linter.unusedVariables false

/-- The numbers that a text is read as, before it is held against theirs. -/
def hId (l : List UInt8) : Int := numV (cutL 58 l).1
def hBnd (l : List UInt8) : List UInt8 := (cutL 58 l).2.1
def hLow (l : List UInt8) : Int := numV (cutL 46 (hBnd l)).1
def hUp (l : List UInt8) : List UInt8 := (cutL 46 (hBnd l)).2.1
def hHigh (l : List UInt8) : Int := if (cutL 46 (hBnd l)).2.2 = true ∧ 0 < (hUp l).length then numV ((hUp l).drop 1) else hLow l
def rdHitB (l : List UInt8) : Bool := !l.isEmpty && decide (hitTB (hId l) (hLow l) (hHigh l) = l)
/-- The three words that the program reads. -/
def hWords (l : List UInt8) : List (List UInt8) := [(cutL 58 l).1, (cutL 46 (hBnd l)).1, if (cutL 46 (hBnd l)).1 = hBnd l then (cutL 46 (hBnd l)).1 else (cutL 46 (hUp l)).2.1]

theorem not_in_itoa {x : Int} (h : 0 ≤ x) {c : UInt8} (hc : ¬ (48 ≤ c.toNat ∧ c.toNat ≤ 57)) : c ∉ itoa x := fun q => by
  rw [itoa_pos h] at q
  exact hc (dec_dig (x.toNat + 1) x.toNat (by omega) c q)

theorem numV_itoa {x : Int} (h0 : 0 ≤ x) (h1 : x ≤ 9999999999999999) : numV (itoa x) = x ∧ (numL (itoa x)).isSome = true := by
  unfold numV; rw [numL_itoa (by omega) h1]; exact ⟨rfl, rfl⟩
/-- A hit's text is read as that hit. -/
theorem hit_back {id lo hi : Int} (h : hitB id lo hi = true) :
    hId (hitT id lo hi) = id ∧ hLow (hitT id lo hi) = lo ∧ hHigh (hitT id lo hi) = hi ∧ allNum (hWords (hitT id lo hi)) = true ∧ (hWords (hitT id lo hi)).map numV = [id, lo, hi] := by
  obtain ⟨_, a1, a2, a3, a4, a5⟩ := hit_parts h
  have n1 := numV_itoa (x := id) (by omega) (by omega)
  have n2 := numV_itoa (x := lo) (by omega) (by omega)
  have n3 := numV_itoa (x := hi) (by omega) (by omega)
  have i1 := not_in_itoa (x := id) (by omega) (c := 58) (by decide)
  have i2 := not_in_itoa (x := lo) (by omega) (c := 46) (by decide)
  have e1 : cutL 58 (hitT id lo hi) = (itoa id, itoa lo ++ (if lo = hi then [] else 46 :: 46 :: itoa hi), true) := by
    unfold hitT
    rw [List.append_assoc, List.append_assoc, List.singleton_append]
    exact cut_app 58 _ _ i1
  have e2 : hBnd (hitT id lo hi) = itoa lo ++ (if lo = hi then [] else 46 :: 46 :: itoa hi) := by unfold hBnd; rw [e1]
  by_cases e : lo = hi
  · subst e
    rw [if_pos rfl, List.append_nil] at e2
    have e3 := cut_not 46 _ i2
    refine ⟨?_, ?_, ?_, ?_, ?_⟩
    · unfold hId; rw [e1]; exact n1.1
    · unfold hLow; rw [e2, e3]; exact n2.1
    · unfold hHigh hLow; rw [e2, e3, if_neg (by simp)]; exact n2.1
    · unfold hWords; rw [e1, e2, e3, if_pos rfl]; simp [allNum, n1.2, n2.2]
    · unfold hWords; rw [e1, e2, e3, if_pos rfl]; simp [n1.1, n2.1]
  · rw [if_neg e] at e2
    have e3 := cut_app 46 _ (46 :: itoa hi) i2
    have e4 : hUp (hitT id lo hi) = 46 :: itoa hi := by unfold hUp; rw [e2, e3]
    have e5 : cutL 46 (46 :: itoa hi) = ([], itoa hi, true) := by simp [cutL]
    have e6 : ¬ itoa lo = itoa lo ++ 46 :: 46 :: itoa hi := fun q => by
      have := congrArg List.length q
      simp at this
    refine ⟨?_, ?_, ?_, ?_, ?_⟩
    · unfold hId; rw [e1]; exact n1.1
    · unfold hLow; rw [e2, e3]; exact n2.1
    · unfold hHigh; rw [e4, e2, e3, if_pos ⟨rfl, by simp⟩]; exact n3.1
    · unfold hWords; rw [e4, e1, e2, e3, e5, if_neg e6]; simp [allNum, n1.2, n2.2, n3.2]
    · unfold hWords; rw [e4, e1, e2, e3, e5, if_neg e6]; simp [n1.1, n2.1, n3.1]

theorem hitT_ne (id lo hi : Int) : hitT id lo hi ≠ [] := by unfold hitT; simp

theorem hitTB_is {id lo hi : Int} {l : List UInt8} (h : hitTB id lo hi = l) (hl : l ≠ []) : hitB id lo hi = true ∧ hitT id lo hi = l := by
  unfold hitTB at h
  cases q : hitB id lo hi
  · rw [q, if_neg (by decide)] at h; exact absurd h.symm hl
  · rw [q, if_pos rfl] at h; exact ⟨rfl, h⟩

theorem rdHit_iff {l : List UInt8} : rdHitB l = true ↔ l ≠ [] ∧ hitTB (hId l) (hLow l) (hHigh l) = l := by
  unfold rdHitB
  rw [Bool.and_eq_true, decide_eq_true_eq]
  cases l <;> simp
/-- What the program reads: all three words are numbers, and their hit's text is the text. -/
theorem rdHit_words {l : List UInt8} {x0 x1 x2 : Int} (hx : allNum (hWords l) = true → x0 = nth ((hWords l).map numV) 0 ∧ x1 = nth ((hWords l).map numV) 1 ∧ x2 = nth ((hWords l).map numV) 2) :
    (allNum (hWords l) = true ∧ hitTB x0 x1 x2 = l ↔ rdHitB l = true) ∧ (rdHitB l = true → x0 = hId l ∧ x1 = hLow l ∧ x2 = hHigh l) := by
  have back : rdHitB l = true → allNum (hWords l) = true ∧ (hWords l).map numV = [hId l, hLow l, hHigh l] := fun h => by
    obtain ⟨h1, h2⟩ := rdHit_iff.1 h
    obtain ⟨q1, q2⟩ := hitTB_is h2 h1
    obtain ⟨_, _, _, b4, b5⟩ := hit_back q1
    rw [q2] at b4 b5
    exact ⟨b4, b5⟩
  have vals : rdHitB l = true → x0 = hId l ∧ x1 = hLow l ∧ x2 = hHigh l := fun h => by
    obtain ⟨b1, b2⟩ := back h
    have := hx b1
    rw [b2] at this
    exact this
  refine ⟨⟨fun ⟨ha, ht⟩ => ?_, fun h => ?_⟩, vals⟩
  · have hl : l ≠ [] := fun q => by
      subst q
      have : allNum (hWords []) = false := by decide
      rw [this] at ha; cases ha
    obtain ⟨q1, q2⟩ := hitTB_is ht hl
    obtain ⟨b1, b2, b3, _, _⟩ := hit_back q1
    rw [q2] at b1 b2 b3
    rw [rdHit_iff, b1, b2, b3]
    exact ⟨hl, ht⟩
  · obtain ⟨v0, v1, v2⟩ := vals h
    rw [v0, v1, v2]
    exact ⟨(back h).1, (rdHit_iff.1 h).2⟩
end Go.Proofs.YtecheolhmohhjaaDoor
