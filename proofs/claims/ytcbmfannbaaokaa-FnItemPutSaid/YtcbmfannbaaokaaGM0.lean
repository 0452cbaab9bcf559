/- Items that are put, plain. -/
import Derived.Test.YtcbmfannbaaokaaGL
namespace Go.Proofs.Ytcbmfannbaaokaa
open Go.RowKit
set_option linter.unusedSimpArgs false
set_option linter.unusedVariables false

theorem find_rise {dim : Int} {n : Nat} {L : IL} (h : itemsB dim n L = true) {j : Nat} (hj : j < n) : findX n L (L j).id = (L j, true) :=
  findX_hit hj rfl fun i hi e => by have := itemsB_rise h hi hj; omega
/-- What there is behind a put. -/
structure PutD (dim : Int) (n : Nat) (L : IL) (x : It) : Prop where
  ok : itemsB dim (putM n L x) (putA n L x) = true
  it : findX (putM n L x) (putA n L x) x.id = (x, true)
  others : ∀ j, j < n → (L j).id ≠ x.id → findX (putM n L x) (putA n L x) (L j).id = (L j, true)
  was : (findX n L x.id).2 = isAt n L x.id
theorem putD {dim : Int} {n : Nat} {L : IL} {x : It} (hok : putOk dim n L x = true) (h60 : putM n L x ≤ 60) : PutD dim n L x := by
  unfold putOk at hok
  simp only [Bool.and_eq_true] at hok
  obtain ⟨hit, hx⟩ := hok
  have hp := plc_is (id := x.id) (itemsB_le hit)
  have hwas := place_find hit hp
  have hfe : isAt n L x.id = decide (plc L x.id n < n ∧ (L (plc L x.id n)).id = x.id) := rfl
  obtain ⟨p, hpe⟩ : ∃ p, plc L x.id n = p := ⟨_, rfl⟩
  obtain ⟨f, hff⟩ : ∃ f, isAt n L x.id = f := ⟨_, rfl⟩
  have hA : putA n L x = putI L p f x := by unfold putA; rw [hpe, hff]
  have hM : putM n L x = if f then n else n + 1 := by unfold putM; rw [hff]
  rw [hpe] at hp hwas hfe
  rw [hff] at hfe
  have hpl := hp.le
  have n60 := itemsB_n hit
  have hM1 : p < putM n L x := by
    rw [hM]
    cases f
    · simp; omega
    · have := (of_decide_eq_true hfe.symm).1; simp; omega
  have at1 : putI L p f x p = x := putI_at
  have hid : f = true → (L p).id = x.id := fun e => by rw [e] at hfe; exact (of_decide_eq_true hfe.symm).2
  have hni : f = false → ∀ j, j < n → (L j).id ≠ x.id := fun e j hj ej => by
    rw [e] at hfe
    have hno := of_decide_eq_false hfe.symm
    rcases Nat.lt_or_ge j p with hlt | hge
    · have := hp.lo j hlt; omega
    · by_cases hpj : p = j
      · subst hpj; exact hno ⟨hj, ej⟩
      · have h1 := hp.hi p (Nat.le_refl _) (by omega)
        have h2 := itemsB_rise hit (show p < j by omega) hj
        omega
  have ok : itemsB dim (putM n L x) (putA n L x) = true := by
    refine itemsB_mk (itemsB_dim hit) h60 (fun k hk => ?_) (fun k hk => ?_)
    · rw [hA]
      rw [hM] at hk
      by_cases h1 : k < p
      · rw [putI_lt h1]; exact itemsB_item hit (by omega)
      · by_cases h2 : k = p
        · rw [h2, at1]; exact hx
        · cases f
          · rw [putI_no (by omega)]; exact itemsB_item hit (by simp at hk; omega)
          · rw [putI_yes (by omega)]; exact itemsB_item hit (by simpa using hk)
    · rw [hA]
      rw [hM] at hk
      by_cases h1 : k + 1 < p
      · rw [putI_lt (by omega), putI_lt h1]; exact itemsB_next hit (by omega)
      · by_cases h2 : k + 1 = p
        · rw [putI_lt (by omega), h2, at1]; exact hp.lo k (by omega)
        · by_cases h3 : k = p
          · subst h3
            rw [at1]
            cases f
            · rw [putI_no (by omega), show k + 1 - 1 = k by omega]
              simp at hk
              have h4 := hp.hi k (Nat.le_refl _) (by omega)
              have h5 := hni rfl k (by omega)
              omega
            · rw [putI_yes (by omega)]
              simp at hk
              have h4 := itemsB_next hit (k := k) hk
              have h5 := hid rfl
              omega
          · cases f
            · rw [putI_no (by omega), putI_no (by omega)]
              simp at hk
              have := itemsB_next hit (k := k - 1) (by omega)
              rw [show k - 1 + 1 = k by omega] at this
              rw [show k + 1 - 1 = k by omega]
              exact this
            · rw [putI_yes (by omega), putI_yes (by omega)]
              exact itemsB_next hit (by simpa using hk)
  have find : ∀ j y, j < putM n L x → putA n L x j = y → findX (putM n L x) (putA n L x) y.id = (y, true) := fun j y hj e => by
    have := find_rise ok hj
    rw [e] at this
    exact this
  refine ⟨ok, find p x hM1 (by rw [hA]; exact at1), fun j hj hne => ?_, by rw [hwas, hff, hfe]⟩
  by_cases h1 : j < p
  · exact find j _ (by omega) (by rw [hA]; exact putI_lt h1)
  · by_cases h2 : j = p
    · cases f
      · exact find (j + 1) _ (by rw [hM]; simp; omega) (by rw [hA, putI_no (by omega)]; simp)
      · exact absurd (by rw [h2]; exact hid rfl) hne
    · cases f
      · exact find (j + 1) _ (by rw [hM]; simp; omega) (by rw [hA, putI_no (by omega)]; simp)
      · exact find j _ (by rw [hM]; simpa using hj) (by rw [hA]; exact putI_yes (by omega))
theorem putA_len {n b : Nat} {L : IL} {x : It} (hL : ∀ j, j < n → (L j).vec.length ≤ b) (hx : x.vec.length ≤ b) : ∀ j, j < putM n L x → (putA n L x j).vec.length ≤ b := by
  intro j hj
  have hp := plc_le L x.id n
  unfold putA putI
  unfold putM at hj
  by_cases h1 : j < plc L x.id n
  · rw [if_pos h1]; exact hL j (by omega)
  · rw [if_neg h1]
    by_cases h2 : j = plc L x.id n
    · rw [if_pos h2]; exact hx
    · rw [if_neg h2]
      cases hf : isAt n L x.id
      · rw [hf] at hj
        simp only [Bool.false_eq_true, if_false] at hj ⊢
        exact hL (j - 1) (by omega)
      · rw [hf] at hj
        simp only [if_true] at hj ⊢
        exact hL j hj

end Go.Proofs.Ytcbmfannbaaokaa
