/- Slices of texts that grow; plain. -/
import Derived.Test.YtggjcccdeaadbaaGreatDoorZ2
import Derived.Test.YtggjcccdeaadbaaGreatDoorZ4
import Derived.Deep.AppendLies
namespace Go.Proofs.YtggjcccdeaadbaaGreatDoor
open Go.RowKit
set_option maxRecDepth 8000
set_option linter.unusedSimpArgs false
set_option linter.unusedVariables false

def strsV (p : List (List UInt8)) : List Value := p.map fun l => .string (bs l)

theorem strsV_snoc (p : List (List UInt8)) (x : List UInt8) : strsV (p ++ [x]) = strsV p ++ [.string (bs x)] := by unfold strsV; rw [List.map_append]; rfl

theorem take_map (L : List Int) (k : Nat) (h : k < L.length) : (L.take (k + 1)).map Lib.itoa = (L.take k).map Lib.itoa ++ [Lib.itoa (nth L k)] := by
  rw [List.take_succ_eq_append_getElem h, List.map_append]
  simp [nth, List.getD_eq_getElem?_getD, h]

theorem owns_belowF {w w' : World} {base : Nat} {e : TypeId} {size : Nat} {v : Value} {n : Nat} {xs : List Value} (h : w.ownsRow base e size v n xs) (hb : Below w.heap.size w w') : w'.ownsRow base e size v n xs := by
  refine ⟨h.1, ?_⟩
  rcases h.2 with h0 | ⟨g, cap, cur, hv, hb0, hg, hrest⟩
  · exact .inl h0
  · exact .inr ⟨g, cap, cur, hv, hb0, (hb.block g (Array.getElem?_eq_some_iff.1 hg).1).trans hg, hrest⟩

theorem one_newF (w : World) (v : Value) (t : TypeId) : ∀ (j : Nat) (u : Value), [v][j]? = some u → (w.alloc (.cells #[v] t)).cell? ((⟨w.heap.size, 0, none⟩ : Addr).add j) = some u := by
  intro j u hj
  match j, hj with
  | 0, hj => simp at hj; subst hj; simp [Addr.add]
  | j + 1, hj => simp at hj

theorem join_len60 : ∀ (p : List (List UInt8)), (∀ x ∈ p, x.length ≤ 60) → (Lib.join p [32]).length ≤ 61 * p.length
  | [], _ => by simp [Lib.join]
  | [a], h => by
    have := h a (by simp)
    simp [Lib.join]; omega
  | a :: b :: r, h => by
    have ih := join_len60 (b :: r) (fun x hx => h x (List.mem_cons_of_mem _ hx))
    have := h a (by simp)
    rw [join_two]
    simp only [List.length_append, List.length_cons] at ih ⊢
    omega
end Go.Proofs.YtggjcccdeaadbaaGreatDoor
