/- Lists made by append: the values of a function, as cells that the call owns and as a row that is read. -/
import Derived.Test.YtfjhgagpmhedfaaDoorVA0
namespace Go.Proofs.YtfjhgagpmhedfaaDoor
open Go.RowKit
set_option maxRecDepth 8000
set_option linter.unusedSimpArgs false

/-- The first k values of f. -/
def vals (f : Nat → Int) (k : Nat) : List Value := (List.range k).map fun (j : Nat) => .int .i64 (f j)

theorem vals_succ (f : Nat → Int) (k : Nat) : vals f (k + 1) = vals f k ++ [.int .i64 (f k)] := by simp [vals, List.range_succ]

theorem vals_len (f : Nat → Int) (k : Nat) : (vals f k).length = k := by simp [vals]
def ints (f : Nat → Int) (k : Nat) : List Int := (List.range k).map f

theorem nth_ints (f : Nat → Int) (k j : Nat) (h : j < k) : nth (ints f k) j = f j := by simp [nth, ints, h]

theorem ints_len (f : Nat → Int) (k : Nat) : (ints f k).length = k := by simp [ints]

/-- What the call owns by append, as a row that is read. -/
theorem row_of_owns {w : World} {base : Nat} {v : Value} {n : Nat} {f : Nat → Int} (h : w.ownsRow base 2 1 v n (vals f n)) :
    ∃ a cap, v = .slice a n cap ∧ Row w a n (ints f n) ∧ ∀ b off, a = some ⟨b, off, none⟩ → base ≤ b := by
  have h0 := h
  rcases h.2 with ⟨rfl, rfl⟩ | ⟨g, cap, cur, rfl, hb, hg, hcap, _, hsz, htake⟩
  · exact ⟨none, 0, rfl, ⟨rfl, .inl rfl⟩, fun b off e => by cases e⟩
  · refine ⟨_, cap, rfl, ⟨ints_len f n, .inr ⟨g, 0, rfl, (Array.getElem?_eq_some_iff.1 hg).1, fun i hi => ?_⟩⟩, fun b off e => by cases e; exact hb⟩
    have hc := h0.cells (g := g) rfl i (.int .i64 (f i)) (by simp [vals, hi])
    rw [nth_ints f n i hi, Nat.zero_add]
    by_cases h00 : i = 0
    · subst h00; simpa [Addr.add] using hc
    · simpa [Addr.add, h00] using hc

theorem one_new (w : World) (v : Value) (t : TypeId) : ∀ (j : Nat) (u : Value), [v][j]? = some u → (w.alloc (.cells #[v] t)).cell? ((⟨w.heap.size, 0, none⟩ : Addr).add j) = some u := by
  intro j u hj
  match j, hj with
  | 0, hj => simp at hj; subst hj; simp [Addr.add]
  | j + 1, hj => simp at hj
/-- Behind an append of one element the old memory is as it was. -/
theorem below_app {w wr w2 : World} {o : Obj} {v : Value} {k : Nat} {e : TypeId} {size : Nat} {xs : List Value} (hb : Below w.heap.size w wr) (ho : wr.ownsRow w.heap.size e size v k xs) (hg : (wr.alloc o).grownBy w2 v.ownBlock) : Below w.heap.size w w2 :=
  (balloc hb o).grown hg (by have := hb.size; simp; omega) fun k' hk' => (ho.lt k' hk').1

end Go.Proofs.YtfjhgagpmhedfaaDoor
