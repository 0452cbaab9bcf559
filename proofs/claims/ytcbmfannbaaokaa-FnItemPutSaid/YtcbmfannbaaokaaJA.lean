/- ItemPut, plain: the place of an id among items that rise; what there is behind a put. -/
import Derived.Test.YtcbmfannbaaokaaIW
namespace Go.Proofs.Ytcbmfannbaaokaa
open Go.RowKit
set_option linter.unusedSimpArgs false
set_option linter.unusedVariables false

/-- How many of the first k stand ahead of an id, where they rise. -/
def plc (L : IL) (id : Int) : Nat → Nat
  | 0 => 0
  | k + 1 => if (L k).id < id then k + 1 else plc L id k
theorem plc_is {L : IL} {id : Int} {n : Nat} (hr : ∀ i j, i ≤ j → j < n → (L i).id ≤ (L j).id) : IsPlace n L id (plc L id n) := by
  induction n with
  | zero => exact ⟨Nat.le_refl _, fun i hi => absurd hi (by simp [plc]), fun i _ hi => absurd hi (by omega)⟩
  | succ n ih =>
    obtain ⟨h1, h2, h3⟩ := ih fun i j h1 h2 => hr i j h1 (by omega)
    unfold plc
    by_cases h : (L n).id < id
    · rw [if_pos h]
      exact ⟨Nat.le_refl _, fun i hi => by have := hr i n (by omega) (by omega); omega, fun i h1 h2 => absurd h2 (by omega)⟩
    · rw [if_neg h]
      refine ⟨by omega, h2, fun i hi hin => ?_⟩
      by_cases e : i = n
      · subst e; omega
      · exact h3 i hi (by omega)
theorem IsPlace.uniq {n : Nat} {L : IL} {id : Int} {p q : Nat} (hp : IsPlace n L id p) (hq : IsPlace n L id q) : p = q := by
  rcases Nat.lt_trichotomy p q with h | h | h
  · have h1 := hp.hi p (Nat.le_refl _) (by have := hq.le; omega)
    have h2 := hq.lo p h
    omega
  · exact h
  · have h1 := hq.hi q (Nat.le_refl _) (by have := hp.le; omega)
    have h2 := hp.lo q h
    omega

/-- Whether an item of that id is there. -/
def isAt (n : Nat) (L : IL) (id : Int) : Bool := decide (plc L id n < n ∧ (L (plc L id n)).id = id)
/-- The items behind a put at p: in the place of the p-th, or ahead of it. -/
def putI (L : IL) (p : Nat) (f : Bool) (x : It) : IL := fun j => if j < p then L j else if j = p then x else if f then L j else L (j - 1)
/-- Whether a put is right in form; how many there are behind it; its code; how many are told. -/
def putOk (dim : Int) (n : Nat) (L : IL) (x : It) : Bool := itemsB dim n L && itemB dim x
def putM (n : Nat) (L : IL) (x : It) : Nat := if isAt n L x.id then n else n + 1
def putC (dim : Int) (n : Nat) (L : IL) (x : It) : Int := if putOk dim n L x then (if putM n L x ≤ 60 then 0 else 2) else 1
def putT (dim : Int) (n : Nat) (L : IL) (x : It) : Nat := if putOk dim n L x then (if putM n L x ≤ 60 then putM n L x else 0) else 0
def putA (n : Nat) (L : IL) (x : It) : IL := putI L (plc L x.id n) (isAt n L x.id) x

theorem putI_lt {L : IL} {p : Nat} {f : Bool} {x : It} {j : Nat} (h : j < p) : putI L p f x j = L j := by unfold putI; rw [if_pos h]
theorem putI_at {L : IL} {p : Nat} {f : Bool} {x : It} : putI L p f x p = x := by unfold putI; rw [if_neg (by omega), if_pos rfl]
theorem putI_yes {L : IL} {p : Nat} {x : It} {j : Nat} (h : p < j) : putI L p true x j = L j := by unfold putI; rw [if_neg (by omega), if_neg (by omega), if_pos rfl]
theorem putI_no {L : IL} {p : Nat} {x : It} {j : Nat} (h : p < j) : putI L p false x j = L (j - 1) := by unfold putI; rw [if_neg (by omega), if_neg (by omega)]; rfl

/-- One more, which is the next one of N. -/
theorem GI.next {w w1 w2 w3 : World} {base g cap m : Nat} {N : IL} {V : Nat → Nat} {sv : Nat → Value} (h : GI w base g cap m N V sv) (hB : base ≤ w.heap.size) (hb : Below w.heap.size w w1) (x : It) (hx : N m = x) (v : Value) (gv : Nat) (hv : VSl w1 w.heap.size w1.heap.size v x.vec gv)
    (hb2 : Below w1.heap.size w1 w2) {g' cap' : Nat} (hown : w3.ownsRow base 27 3 (.slice (some ⟨g', 0, none⟩) (m + 1) cap') (m + 1) (icl N sv m ++ [.int .i64 x.id, .int .i64 x.tags, v]))
    (hgrow : w2.grownBy w3 (some g)) (hat : some g = some g' ∨ g' = w2.heap.size) : GI w3 base g' cap' (m + 1) N (putF V m gv) (putF sv m v) :=
  (h.step hB hb x v gv hv hb2 hown hgrow hat).congr fun i hi => by
    by_cases e : i = m
    · subst e; rw [IL.put_at, hx]
    · rw [IL.put_off _ _ e]

theorem sumV_put (L : IL) (p : Nat) (f : Bool) (x : It) (n : Nat) (hp : p ≤ n) : sumV (putI L p f x) (if f then n else n + 1) ≤ sumV L n + x.vec.length := by
  have hlt : ∀ k, k ≤ p → sumV (putI L p f x) k = sumV L k := fun k hk => sumV_congr fun i hi => putI_lt (by omega)
  cases f
  · have h : ∀ k, sumV (putI L p false x) (p + k + 1) = sumV L (p + k) + x.vec.length := by
      intro k
      induction k with
      | zero => show sumV _ p + (putI L p false x p).vec.length = _; rw [hlt p (Nat.le_refl _), putI_at]; rfl
      | succ k ih =>
        show sumV _ (p + k + 1) + (putI L p false x (p + k + 1)).vec.length = sumV L (p + k) + (L (p + k)).vec.length + _
        rw [ih, putI_no (by omega), show p + k + 1 - 1 = p + k by omega]
        omega
    have := h (n - p)
    rw [show p + (n - p) = n by omega] at this
    simp only [Bool.false_eq_true, if_false]
    omega
  · by_cases e : p = n
    · subst e; rw [if_pos rfl, hlt _ (Nat.le_refl _)]; omega
    · have h : ∀ k, sumV (putI L p true x) (p + k + 1) ≤ sumV L (p + k + 1) + x.vec.length := by
        intro k
        induction k with
        | zero => show sumV _ p + (putI L p true x p).vec.length ≤ sumV L p + (L p).vec.length + _; rw [hlt p (Nat.le_refl _), putI_at]; omega
        | succ k ih =>
          show sumV _ (p + k + 1) + (putI L p true x (p + k + 1)).vec.length ≤ sumV L (p + k + 1) + (L (p + k + 1)).vec.length + _
          rw [putI_yes (by omega)]
          omega
      have := h (n - p - 1)
      rw [show p + (n - p - 1) + 1 = n by omega] at this
      rw [if_pos rfl]
      exact this
end Go.Proofs.Ytcbmfannbaaokaa
