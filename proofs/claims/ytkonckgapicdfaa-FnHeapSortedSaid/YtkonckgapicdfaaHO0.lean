/- A row of which the first ones are a list. -/
import Derived.Test.YtkonckgapicdfaaHI
namespace Go.Proofs.Ytkonckgapicdfaa
open Go.RowKit
set_option maxRecDepth 8000
set_option linter.unusedSimpArgs false
set_option linter.unusedVariables false

/-- The list of two rows of numbers. -/
def listL (n : Nat) (f g : Nat → Int) : NL := fun i => if i < n then (f i, g i) else (0, 0)
/-- A row of the call's own whose first m Nears are the list L, whatever lies behind them. -/
def RowL (w : World) (b m : Nat) (L : NL) : Prop :=
  ∃ c : Array Value, w.heap[b]? = some (.cells c 32 (0, 0)) ∧ m * 2 ≤ c.size ∧ ∀ i, i < m → c[i * 2]? = some (.int .i64 (L i).1) ∧ c[i * 2 + 1]? = some (.int .i64 (L i).2)

theorem OwnL.rowl {w : World} {b m : Nat} {L : NL} (h : OwnL w b m L) : RowL w b m L := by
  obtain ⟨c, hc, hs, hv⟩ := h
  refine ⟨c, hc, by omega, fun i hi => ⟨?_, ?_⟩⟩
  · rw [hv (i * 2) (by omega), pcell_lo]
  · rw [hv (i * 2 + 1) (by omega), pcell_hi]

theorem OwnN.rowl {w : World} {b m : Nat} {f g : Nat → Int} (h : OwnN w b m f g) : RowL w b m (fun i => (f i, g i)) := OwnL.rowl (L := fun i => (f i, g i)) h

theorem RowL.lt {w : World} {b m : Nat} {L : NL} (h : RowL w b m L) : b < w.heap.size := by
  obtain ⟨c, hc, _⟩ := h
  exact (Array.getElem?_eq_some_iff.1 hc).1

theorem RowL.c0 {w : World} {b m : Nat} {L : NL} (h : RowL w b m L) {i : Nat} (hi : i < m) : w.cell? ⟨b, i * 2, none⟩ = some (.int .i64 (L i).1) := by
  obtain ⟨c, hc, _, hv⟩ := h
  simp [World.cell?, hc, (hv i hi).1]

theorem RowL.c1 {w : World} {b m : Nat} {L : NL} (h : RowL w b m L) {i : Nat} (hi : i < m) : w.cell? ⟨b, i * 2 + 1, none⟩ = some (.int .i64 (L i).2) := by
  obtain ⟨c, hc, _, hv⟩ := h
  simp [World.cell?, hc, (hv i hi).2]

theorem RowL.froz {w : World} {b m : Nat} {L : NL} (h : RowL w b m L) (o : Nat) : w.frozen? ⟨b, o, none⟩ = false := by
  obtain ⟨c, hc, _⟩ := h
  simp [World.frozen?, hc]

theorem RowL.block {w w' : World} {b m : Nat} {L : NL} (h : RowL w b m L) (hb : w'.heap[b]? = w.heap[b]?) : RowL w' b m L := by
  obtain ⟨c, hc, hr⟩ := h
  exact ⟨c, hb.trans hc, hr⟩

theorem RowL.below {w w' : World} {b m : Nat} {L : NL} (h : RowL w b m L) (hb : Below w.heap.size w w') : RowL w' b m L := h.block (hb.block b h.lt)

theorem RowL.but {g : Nat} {w w' : World} {b m : Nat} {L : NL} (h : RowL w b m L) (hb : But g w w') (hne : b ≠ g) : RowL w' b m L := h.block (hb.block b h.lt hne)

theorem RowL.drew {w : World} {b m : Nat} {L : NL} (h : RowL w b m L) : RowL w.drew b m L := h

theorem RowL.away {w : World} {b m : Nat} {L : NL} (h : RowL w b m L) (p : Addr) (v : Value) (hp : b ≠ p.block) : RowL (w.setCell p v) b m L := h.block (Below.heap_setCell w p v b hp)

theorem RowL.less {w : World} {b m k : Nat} {L : NL} (h : RowL w b m L) (hk : k ≤ m) : RowL w b k L := by
  obtain ⟨c, hc, hs, hv⟩ := h
  exact ⟨c, hc, by omega, fun i hi => hv i (by omega)⟩

theorem RowL.congr {w : World} {b m : Nat} {L M : NL} (h : RowL w b m L) (hLM : ∀ i, i < m → L i = M i) : RowL w b m M := by
  obtain ⟨c, hc, hs, hv⟩ := h
  exact ⟨c, hc, hs, fun i hi => hLM i hi ▸ hv i hi⟩

theorem RowL.prow {w : World} {b m : Nat} {L : NL} (h : RowL w b m L) : PRow w (some ⟨b, 0, none⟩) m (fun i => (L i).1) (fun i => (L i).2) :=
  ⟨.inr ⟨b, 0, rfl, h.lt, fun i hi => by rw [Nat.zero_add]; exact ⟨h.c0 hi, h.c1 hi⟩⟩⟩

theorem heap_set {w : World} {b o : Nat} {c : Array Value} {t : TypeId} {v : Value} (h : w.heap[b]? = some (.cells c t (0, 0))) : (w.setCell ⟨b, o, none⟩ v).heap[b]? = some (.cells (c.setIfInBounds o v) t (0, 0)) := by
  have hlt := (Array.getElem?_eq_some_iff.1 h).1
  simp [World.setCell, h, hlt, Array.getElem_modify, (Array.getElem?_eq_some_iff.1 h).2]

theorem RowL.set {w : World} {b m : Nat} {L : NL} (h : RowL w b m L) (k : Nat) (x y : Int) :
    RowL ((w.setCell ⟨b, k * 2, none⟩ (.int .i64 x)).setCell ⟨b, k * 2 + 1, none⟩ (.int .i64 y)) b m (L.put k (x, y)) := by
  obtain ⟨c, hc, hs, hv⟩ := h
  refine ⟨_, heap_set (heap_set hc), by simpa using hs, fun i hi => ?_⟩
  have h0 := hv i hi
  unfold NL.put
  by_cases e : i = k
  · subst e
    have l0 : i * 2 < c.size := by omega
    have l1 : i * 2 + 1 < c.size := by omega
    simp [Array.getElem?_setIfInBounds, l0, l1]
  · simp [Array.getElem?_setIfInBounds, e, show ¬ k * 2 + 1 = i * 2 by omega, show ¬ k * 2 = i * 2 by omega, show ¬ k * 2 + 1 = i * 2 + 1 by omega, show ¬ k * 2 = i * 2 + 1 by omega, h0.1, h0.2]
end Go.Proofs.Ytkonckgapicdfaa
