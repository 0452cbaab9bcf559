/- ItemDrop, plain: what is left of items that rise without one of them; of the model and of the program. -/
import Derived.Test.YtcbmfannbaaokaaIM
import Derived.Test.YtcbmfannbaaokaaIF
import Derived.Test.YtcbmfannbaaokaaIU
import Derived.Test.YtcbmfannbaaokaaIV
namespace Go.Proofs.Ytcbmfannbaaokaa
open Go.RowKit
set_option linter.unusedSimpArgs false
set_option linter.unusedVariables false

theorem itemsB_n {dim : Int} {n : Nat} {L : IL} (h : itemsB dim n L = true) : n ≤ 60 := by
  unfold itemsB at h
  simp only [Bool.and_eq_true, decide_eq_true_eq] at h
  exact h.1.2
theorem itemsB_ok {dim : Int} {n : Nat} {L : IL} (h : itemsB dim n L = true) {k : Nat} (hk : k < n) : okI dim L k = true := by
  unfold itemsB at h
  simp only [Bool.and_eq_true] at h
  cases e : okI dim L k
  · rw [allN_no hk e] at h; exact absurd h.2 (by simp)
  · rfl
theorem itemsB_next {dim : Int} {n : Nat} {L : IL} (h : itemsB dim n L = true) {k : Nat} (hk : k + 1 < n) : (L k).id < (L (k + 1)).id := by
  have := itemsB_ok h hk
  unfold okI at this
  simp only [Bool.and_eq_true, Bool.or_eq_true, decide_eq_true_eq, Bool.not_eq_true', decide_eq_false_iff_not, Nat.add_sub_cancel] at this
  rcases this.2 with h | h <;> omega
theorem itemsB_rise {dim : Int} {n : Nat} {L : IL} (h : itemsB dim n L = true) {i j : Nat} (hij : i < j) (hj : j < n) : (L i).id < (L j).id := by
  induction j with
  | zero => omega
  | succ j ih =>
    have := itemsB_next h hj
    by_cases e : i = j
    · subst e; exact this
    · have := ih (by omega) (by omega); omega
theorem itemsB_le {dim : Int} {n : Nat} {L : IL} (h : itemsB dim n L = true) (i j : Nat) (hij : i ≤ j) (hj : j < n) : (L i).id ≤ (L j).id := by
  by_cases e : i = j
  · subst e; exact Int.le_refl _
  · exact Int.le_of_lt (itemsB_rise h (by omega) hj)

def neB (id : Int) (x : It) : Bool := x.id != id
/-- All but the p-th. -/
def sansL (L : IL) (p : Nat) : IL := fun j => if j < p then L j else L (j + 1)
theorem sans_fil {L : IL} {id : Int} {n p : Nat} (hp : p < n) (he : (L p).id = id) (hne : ∀ i, i < n → i ≠ p → (L i).id ≠ id) : ∀ k, k ≤ n → (k ≤ p → cntP (neB id) L k = k ∧ ∀ j, j < k → fil (neB id) L k j = L j) ∧ (p < k → cntP (neB id) L k = k - 1 ∧ ∀ j, j < k - 1 → fil (neB id) L k j = sansL L p j) := by
  intro k
  induction k with
  | zero => intro _; exact ⟨fun _ => ⟨rfl, fun j hj => absurd hj (by omega)⟩, fun h => absurd h (by omega)⟩
  | succ k ih =>
    intro hk
    obtain ⟨i1, i2⟩ := ih (by omega)
    by_cases e : k = p
    · subst e
      have hb : neB id (L k) = false := by simp [neB, he]
      obtain ⟨q1, q2⟩ := i1 (Nat.le_refl _)
      refine ⟨fun h => absurd h (by omega), fun _ => ⟨by rw [cntP_no hb, q1]; omega, fun j hj => ?_⟩⟩
      rw [fil_no hb, q2 j (by omega)]
      simp [sansL, show j < k by omega]
    · have hb : neB id (L k) = true := by simpa [neB] using hne k (by omega) e
      by_cases hkp : k < p
      · obtain ⟨q1, q2⟩ := i1 (by omega)
        refine ⟨fun _ => ⟨by rw [cntP_yes hb, q1], fun j hj => ?_⟩, fun h => absurd h (by omega)⟩
        rw [fil_yes hb, q1]
        by_cases ej : j = k
        · subst ej; rw [IL.put_at]
        · rw [IL.put_off _ _ ej, q2 j (by omega)]
      · obtain ⟨q1, q2⟩ := i2 (by omega)
        refine ⟨fun h => absurd h (by omega), fun _ => ⟨by rw [cntP_yes hb, q1]; omega, fun j hj => ?_⟩⟩
        rw [fil_yes hb, q1]
        by_cases ej : j = k - 1
        · subst ej
          rw [IL.put_at]
          simp only [sansL]
          rw [if_neg (by omega), show k - 1 + 1 = k by omega]
        · rw [IL.put_off _ _ ej, q2 j (by omega)]

/-- The place that was found is of the first one that has the id. -/
theorem place_find {dim : Int} {n : Nat} {L : IL} {id : Int} {p : Nat} (hit : itemsB dim n L = true) (hp : IsPlace n L id p) : (findX n L id).2 = decide (p < n ∧ (L p).id = id) := by
  by_cases h : p < n ∧ (L p).id = id
  · rw [decide_eq_true h, findX_hit h.1 h.2 fun j hj => by have := hp.lo j hj; omega]
  · rw [decide_eq_false h, findX_miss fun j hj e => ?_]
    rcases Nat.lt_or_ge j p with hlt | hge
    · have := hp.lo j hlt; omega
    · by_cases hpj : p = j
      · subst hpj; exact h ⟨hj, e⟩
      · have h1 := hp.hi p (Nat.le_refl _) (by omega)
        have h2 := itemsB_rise hit (show p < j by omega) hj
        omega

/-- The answer of ItemDrop, and of whoever tells items and something beside them. -/
def TwoR (w : World) (m : Nat) (N : IL) (u : Value) (e : Ending) (w' : World) : Prop :=
  ∃ a cap g V sv, e = .returned (.tuple #[.slice a m cap, u]) ∧ Its w' w.heap.size w'.heap.size a m N g V sv ∧ Below w.heap.size w w'
theorem twoR_nil {w w' : World} {u : Value} {N : IL} {e : Ending} (he : e = .returned (.tuple #[.slice none 0 0, u])) (hb : Below w.heap.size w w') : TwoR w 0 N u e w' :=
  ⟨none, 0, 0, fun _ => 0, fun _ => .slice none 0 0, he, ⟨.inl rfl, fun i hi => absurd hi (by omega), fun i hi => absurd hi (by omega)⟩, hb⟩

theorem GI.low {w : World} {base base' g cap m : Nat} {M : IL} {V : Nat → Nat} {sv : Nat → Value} (h : GI w base g cap m M V sv) (hb : base' ≤ base) : GI w base' g cap m M V sv := by
  obtain ⟨h1, cur, hg, h2⟩ := h.shape
  exact ⟨⟨icl_len _ _ _, .inr ⟨g, cap, cur, rfl, by omega, hg, h2⟩⟩, fun i hi => (h.vecs.vec i hi).mono hb (Nat.le_refl _), h.vecs.sep⟩
/-- As TwoR, and the row's room is known. -/
def TwoG (w : World) (m : Nat) (N : IL) (u : Value) (e : Ending) (w' : World) : Prop :=
  ∃ v, e = .returned (.tuple #[v, u]) ∧ ((v = .slice none 0 0 ∧ m = 0) ∨ GIs w' w.heap.size v m N) ∧ Below w.heap.size w w'
def TwoGs (w : World) (m : Nat) (N : IL) (u : Value) (e : Ending) (w' : World) : Prop :=
  ∃ v, e = .returned (.tuple #[v, u]) ∧ GIs w' w.heap.size v m N ∧ Below w.heap.size w w'
theorem TwoGs.g {w : World} {m : Nat} {N : IL} {u : Value} {e : Ending} {w' : World} (h : TwoGs w m N u e w') : TwoG w m N u e w' := by
  obtain ⟨v, he, hg, hb⟩ := h
  exact ⟨v, he, .inr hg, hb⟩
theorem twoG_nil {w w' : World} {u : Value} {N : IL} {e : Ending} (he : e = .returned (.tuple #[.slice none 0 0, u])) (hb : Below w.heap.size w w') : TwoG w 0 N u e w' :=
  ⟨_, he, .inl ⟨rfl, rfl⟩, hb⟩
theorem TwoG.two {w : World} {m : Nat} {N : IL} {u : Value} {e : Ending} {w' : World} (h : TwoG w m N u e w') : TwoR w m N u e w' := by
  obtain ⟨v, he, ⟨rfl, rfl⟩ | ⟨g, c, V, sv, rfl, hg⟩, hb⟩ := h
  · exact twoR_nil he hb
  · exact ⟨_, c, g, V, sv, he, hg.its, hb⟩
theorem TwoG.less {w : World} {m : Nat} {N M : IL} {u : Value} {e : Ending} {w' : World} (h : TwoG w m N u e w') (he : ∀ i, i < m → N i = M i) : TwoG w m M u e w' := by
  obtain ⟨v, h1, ⟨rfl, rfl⟩ | ⟨g, c, V, sv, rfl, hg⟩, hb⟩ := h
  · exact ⟨_, h1, .inl ⟨rfl, rfl⟩, hb⟩
  · exact ⟨_, h1, .inr ⟨g, c, V, sv, rfl, hg.congr he⟩, hb⟩

def dropB (dim : Int) (n : Nat) (L : IL) (id : Int) : Bool := itemsB dim n L && (findX n L id).2
def dropN (dim : Int) (n : Nat) (L : IL) (id : Int) : Nat := if dropB dim n L id then cntP (neB id) L n else 0
end Go.Proofs.Ytcbmfannbaaokaa
