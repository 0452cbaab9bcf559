/- l6Sorted and HeapSorted of the model. -/
import Derived.Test.YtpkanhifaklpjaaHO0
import Derived.Test.YtpkanhifaklpjaaHY
import Derived.Deep.RegionHeld3
import Derived.Deep.AppendLies
namespace Go.Proofs.Ytpkanhifaklpjaa
open Go.RowKit
set_option maxRecDepth 8000
set_option linter.unusedSimpArgs false
set_option linter.unusedVariables false

theorem insL_ext : ∀ (k : Nat) (M N : NL) (x : Int × Int), (∀ i, i < k → M i = N i) → ∀ i, i ≤ k → insL k M x i = insL k N x i := by
  intro k
  induction k with
  | zero =>
    intro M N x _ i hi
    obtain rfl : i = 0 := by omega
    simp only [insL, put_at]
  | succ k ih =>
    intro M N x h i hi
    rw [insL_succ, insL_succ, h k (by omega)]
    by_cases hb : lt2 x (N k) = true
    · rw [if_pos hb, if_pos hb]
      by_cases e : i = k + 1
      · subst e; rw [put_at, put_at]
      · rw [put_off _ _ e, put_off _ _ e]; exact ih M N x (fun j hj => h j (by omega)) i (by omega)
    · rw [if_neg hb, if_neg hb]
      by_cases e : i = k + 1
      · subst e; rw [put_at, put_at]
      · rw [put_off _ _ e, put_off _ _ e]; exact h i (by omega)

def nlv (M : NL) (k : Nat) : List Value := (List.range (k * 2)).map (pcell (fun i => (M i).1) (fun i => (M i).2))

theorem nlv_len (M : NL) (k : Nat) : (nlv M k).length = k * 2 := by simp [nlv]

theorem nlv_at (M : NL) {k i : Nat} (h : i < k) : (nlv M k)[i * 2]? = some (.int .i64 (M i).1) ∧ (nlv M k)[i * 2 + 1]? = some (.int .i64 (M i).2) := by
  have h1 : i * 2 < k * 2 := by omega
  have h2 : i * 2 + 1 < k * 2 := by omega
  simp only [nlv, List.getElem?_map, List.getElem?_range h1, List.getElem?_range h2, Option.map_some, pcell_lo, pcell_hi]
  constructor <;> first | rfl | trivial

/-- A row of the call's own that may grow: its first k are the list M. -/
structure RC (w : World) (base g cap k : Nat) (M : NL) : Prop where
  base : base ≤ g
  row : ∃ cur : Array Value, w.heap[g]? = some (.cells cur 28 (0, 0)) ∧ k ≤ cap ∧ cap ≤ maxLen ∧ cur.size = cap * 2 ∧ ∀ i, i < k → cur[i * 2]? = some (.int .i64 (M i).1) ∧ cur[i * 2 + 1]? = some (.int .i64 (M i).2)

theorem RC.rowl {w : World} {base g cap k : Nat} {M : NL} (h : RC w base g cap k M) : RowL w g k M := by
  obtain ⟨cur, hg, hk, _, hs, hc⟩ := h.row
  exact ⟨cur, hg, by omega, hc⟩

theorem RC.set {w : World} {base g cap k : Nat} {M : NL} (h : RC w base g cap k M) (i : Nat) (x y : Int) : RC ((w.setCell ⟨g, i * 2, none⟩ (.int .i64 x)).setCell ⟨g, i * 2 + 1, none⟩ (.int .i64 y)) base g cap k (M.put i (x, y)) := by
  obtain ⟨cur, hg, hk, hm, hs, hc⟩ := h.row
  obtain ⟨c2, hg2, hs2, hc2⟩ := h.rowl.set i x y
  have e := heap_set (o := i * 2 + 1) (v := .int .i64 y) (heap_set (o := i * 2) (v := .int .i64 x) hg)
  rw [e] at hg2
  simp only [Option.some.injEq, Obj.cells.injEq] at hg2
  obtain ⟨rfl, _⟩ := hg2
  exact ⟨h.base, _, e, hk, hm, by simpa using hs, hc2⟩

theorem RC.block {w w' : World} {base g cap k : Nat} {M : NL} (h : RC w base g cap k M) (hb : w'.heap[g]? = w.heap[g]?) : RC w' base g cap k M := by
  obtain ⟨cur, hg, hr⟩ := h.row
  exact ⟨h.base, cur, hb.trans hg, hr⟩

theorem RC.below {w w' : World} {base g cap k : Nat} {M : NL} (h : RC w base g cap k M) (hb : Below w.heap.size w w') : RC w' base g cap k M := h.block (hb.block g h.rowl.lt)

theorem RC.drew {w : World} {base g cap k : Nat} {M : NL} (h : RC w base g cap k M) : RC w.drew base g cap k M := h.block rfl

theorem RC.owns {w : World} {base g cap k : Nat} {M : NL} (h : RC w base g cap k M) : w.ownsRow base 28 2 (.slice (some ⟨g, 0, none⟩) k cap) k (nlv M k) := by
  obtain ⟨cur, hg, hk, hm, hs, hc⟩ := h.row
  refine ⟨nlv_len M k, .inr ⟨g, cap, cur, rfl, h.base, hg, hk, hm, hs, ?_⟩⟩
  apply List.ext_getElem?
  intro j
  by_cases hj : j < k * 2
  · rw [List.getElem?_take_of_lt hj, Array.getElem?_toList]
    rcases (show j % 2 = 0 ∨ j % 2 = 1 by omega) with h2 | h2
    · have q := hc (j / 2) (by omega)
      have q2 := nlv_at M (k := k) (i := j / 2) (by omega)
      rw [show j / 2 * 2 = j by omega] at q q2
      rw [q.1, q2.1]
    · have q := hc (j / 2) (by omega)
      have q2 := nlv_at M (k := k) (i := j / 2) (by omega)
      rw [show j / 2 * 2 + 1 = j by omega] at q q2
      rw [q.2, q2.2]
  · rw [List.getElem?_eq_none (by simp; omega), List.getElem?_eq_none (by rw [nlv_len]; omega)]

theorem RC.grown {w : World} {base g cap k : Nat} {M : NL} {x y : Int} (h : w.ownsRow base 28 2 (.slice (some ⟨g, 0, none⟩) (k + 1) cap) (k + 1) (nlv M k ++ [.int .i64 x, .int .i64 y])) : RC w base g cap (k + 1) (M.put k (x, y)) := by
  rcases h.2 with ⟨h0, _⟩ | ⟨g', cap', cur, hv, hb, hg, hcap, hm, hsz, htake⟩
  · cases h0
  · simp only [Value.slice.injEq, Option.some.injEq, Addr.mk.injEq] at hv
    obtain ⟨⟨rfl, _⟩, _, rfl⟩ := hv
    have hat : ∀ j, j < (k + 1) * 2 → cur[j]? = (nlv M k ++ [.int .i64 x, .int .i64 y])[j]? := by
      intro j hj
      rw [← htake, List.getElem?_take_of_lt hj, Array.getElem?_toList]
    refine ⟨hb, cur, hg, hcap, hm, hsz, fun i hi => ?_⟩
    rw [hat (i * 2) (by omega), hat (i * 2 + 1) (by omega)]
    by_cases e : i = k
    · subst e
      rw [put_at, List.getElem?_append_right (by rw [nlv_len]; omega), List.getElem?_append_right (by rw [nlv_len]; omega), nlv_len]
      simp [show i * 2 + 1 - i * 2 = 1 by omega]
    · rw [put_off _ _ e, List.getElem?_append_left (by rw [nlv_len]; omega), List.getElem?_append_left (by rw [nlv_len]; omega)]
      exact nlv_at M (by omega)

theorem nearInfo2 : ∃ i : TypeInfo, Try.prog.info? 28 = some i ∧ i.zero = some (.agg #[.int .i64 0, .int .i64 0]) ∧ i.size = 2 ∧ i.bytes = 16 := by
  obtain ⟨i, hi, hzz⟩ := Option.map_eq_some_iff.1 Try.infoNear
  simp only [Prod.mk.injEq] at hzz
  exact ⟨i, hi, hzz.1, hzz.2.1, hzz.2.2⟩

theorem two_new2 (w : World) (x y : Value) (t : TypeId) : ∀ (j : Nat) (u : Value), [x, y][j]? = some u → (w.alloc (.cells #[x, y] t)).cell? ((⟨w.heap.size, 0, none⟩ : Addr).add j) = some u := by
  intro j u hj
  match j, hj with
  | 0, hj => simp at hj; subst hj; simp [Addr.add]
  | 1, hj => simp at hj; subst hj; simp [Addr.add]
  | j + 2, hj => simp at hj

/-- Two pairs of cells of two blocks that are read. -/
structure Qe (w : World) (b o b' o' : Nat) (x y : Int × Int) : Prop where
  lt : b < w.heap.size
  lt' : b' < w.heap.size
  c0 : w.cell? ⟨b, o, none⟩ = some (.int .i64 x.1)
  c1 : w.cell? ⟨b, o + 1, none⟩ = some (.int .i64 x.2)
  d0 : w.cell? ⟨b', o', none⟩ = some (.int .i64 y.1)
  d1 : w.cell? ⟨b', o' + 1, none⟩ = some (.int .i64 y.2)

theorem Qe.below {w w' : World} {b o b' o' : Nat} {x y : Int × Int} (h : Qe w b o b' o' x y) (B : Below w.heap.size w w') : Qe w' b o b' o' x y :=
  ⟨Nat.lt_of_lt_of_le h.lt B.size, Nat.lt_of_lt_of_le h.lt' B.size, (B.cell (p := ⟨b, o, none⟩) h.lt).trans h.c0, (B.cell (p := ⟨b, o + 1, none⟩) h.lt).trans h.c1, (B.cell (p := ⟨b', o', none⟩) h.lt').trans h.d0, (B.cell (p := ⟨b', o' + 1, none⟩) h.lt').trans h.d1⟩

theorem Qe.drew {w : World} {b o b' o' : Nat} {x y : Int × Int} (h : Qe w b o b' o' x y) : Qe w.drew b o b' o' x y := ⟨h.lt, h.lt', h.c0, h.c1, h.d0, h.d1⟩

def SSorted (w : World) (n : Nat) (L : NL) (e : Ending) (w' : World) : Prop :=
  ∃ g cap M, e = .returned (.slice (some ⟨g, 0, none⟩) n cap) ∧ RC w' w.heap.size g cap n M ∧ (∀ i, i < n → M i = isortL n L i) ∧ Below w.heap.size w w'

end Go.Proofs.Ytpkanhifaklpjaa