/- What the frame of a law tells of items that came in. -/
import Derived.Test.YthiklcldbjmgfaaZ10
import Derived.Test.YthiklcldbjmgfaaZ8
import Derived.ProofKit
import Derived.ChangeSlices
import Derived.Deep.SlicePairs
namespace Go.Proofs.Ythiklcldbjmgfaa
open Go.RowKit Go.ChangeShapes Go.WideShapes
set_option linter.unusedVariables false

/-- What the frame of a law tells of a slice of items that came in. -/
def IsItems (w : World) (a : Option Addr) (n : Nat) (L : IL) : Prop := IRow w a n L ∧ n ≤ 9223372036854775807 ∧ ∀ i, i < n → (L i).vec.length ≤ 9223372036854775807

theorem addAt {x : Addr} {w : World} {k : Nat} {v : Value} {b off : Nat} (e : x = ⟨b, off, none⟩) (h : w.cell? (x.add k) = some v) : w.cell? ⟨b, off + k, none⟩ = some v := by
  subst e
  by_cases h0 : k = 0
  · subst h0; simpa [Addr.add] using h
  · simpa [Addr.add, h0] using h

theorem ints_of {H : Type} {enc : TypeId × Value → H} {P : Program} {w : World} {base : Nat} {held : Bool} {t e : TypeId} {fuel : Nat} {v : Value} {x : DataW H × List MemPlace}
    (ht : P.underlying t = some (.slice e)) (he : P.underlying e = some (.int .i64)) (hc : P.cellsOf e = 1) (h : DataW.trod enc P w base (fun _ => true) held fuel t [v] = some x) :
    ∃ a n c xs, v = .slice a n c ∧ Row w a n xs ∧ n ≤ 9223372036854775807 := by
  rcases open_ints ht he hc h with ⟨hcs, _⟩ | ⟨a, l, c, zs, hcs, _, hl, hm, hz, _, hcell, hwz⟩
  · simp at hcs
    exact ⟨none, 0, 0, [], hcs, ⟨rfl, .inl rfl⟩, by omega⟩
  · simp at hcs
    have hr : IsRow .i64 w (some a) l c zs := .inr ⟨_, rfl, hl, hm, by simpa using hz, hcell, hwz⟩
    exact ⟨some a, l, c, _, hcs, hr.row, by unfold maxLen at hm; omega⟩

theorem items_of {H : Type} {enc : TypeId × Value → H} {P : Program} {w : World} {base : Nat} {held : Bool} {t e ei : TypeId} {f0 f1 f2 : Field} {fuel : Nat} {v : Value} {x : DataW H × List MemPlace}
    (ht : P.underlying t = some (.slice e)) (he : P.underlying e = some (.struct #[f0, f1, f2])) (ce : P.cellsOf e = 3) (o0 : f0.offset = 0) (o1 : f1.offset = 1) (o2 : f2.offset = 2)
    (c0 : P.cellsOf f0.type = 1) (c1 : P.cellsOf f1.type = 1) (c2 : P.cellsOf f2.type = 1) (u0 : P.underlying f0.type = some (.int .i64)) (u1 : P.underlying f1.type = some (.int .i64))
    (u2 : P.underlying f2.type = some (.slice ei)) (u3 : P.underlying ei = some (.int .i64)) (c3 : P.cellsOf ei = 1)
    (h : DataW.trod enc P w base (fun _ => true) held fuel t [v] = some x) : ∃ a n c L, v = .slice a n c ∧ IsItems w a n L := by
  rcases Go.Deep.open_slice ht h with ⟨hcs, _⟩ | ⟨a, len, cap, m, n, D, Pl, hcs, hb, hl, hm, hmm, _, hx⟩
  · simp at hcs
    exact ⟨none, 0, 0, fun _ => ⟨0, 0, []⟩, hcs, ⟨.inl rfl⟩, by omega, fun i hi => absurd hi (by omega)⟩
  simp at hcs
  have hlm : len ≤ m := by rw [hmm]; split <;> omega
  have each : ∀ i, i < m → ∃ q : It × Option Addr × Nat × Nat, w.cell? (a.add (i * 3)) = some (.int .i64 q.1.id) ∧ w.cell? (a.add (i * 3 + 1)) = some (.int .i64 q.1.tags) ∧ w.cell? (a.add (i * 3 + 2)) = some (.slice q.2.1 q.2.2.1 q.2.2.2) ∧ Row w q.2.1 q.2.2.1 q.1.vec ∧ q.2.2.1 ≤ 9223372036854775807 := by
    intro i hi
    obtain ⟨cs', h1, h2⟩ := hx i hi
    rw [ce] at h1
    obtain ⟨_, hlen, hcell⟩ := World.cells?_some h1
    obtain ⟨xs, k, hk, hxy, _, hxl, hf⟩ := DataW.trod_struct he h2
    have hk' : k = n - 1 := by omega
    subst hk'
    match xs, hxl, cs', hlen with
    | [y0, y1, y2], _, [v0, v1, v2], _ =>
      have g0 := hf 0 f0 rfl
      have g1 := hf 1 f1 rfl
      have g2 := hf 2 f2 rfl
      simp [o0, o1, o2, c0, c1, c2] at g0 g1 g2
      have e0 := hcell 0 (by omega)
      have e1 := hcell 1 (by omega)
      have e2 := hcell 2 (by omega)
      rw [Go.Deep.add_add] at e0 e1 e2
      obtain ⟨z0, ez0, _⟩ := DataW.trod_int u0 g0
      obtain ⟨z1, ez1, _⟩ := DataW.trod_int u1 g1
      obtain ⟨va, vn, vc, vs, ev, hr, hle⟩ := ints_of u2 u3 c3 g2
      simp at ez0 ez1
      subst ez0 ez1 ev
      exact ⟨(⟨z0, z1, vs⟩, va, vn, vc), by simpa using e0, by simpa using e1, by simpa using e2, hr, hle⟩
  have inh : Inhabited It := ⟨⟨0, 0, []⟩⟩
  obtain ⟨q, hq⟩ := Go.Deep.choose_lt each
  refine ⟨_, _, _, fun i => (q i).1, hcs, ?_, by unfold maxLen at hm; omega, fun i hi => by have h1 := (hq i (by omega)).2.2.2.1.len; have h2 := (hq i (by omega)).2.2.2.2; show (q i).1.vec.length ≤ _; omega⟩
  by_cases h0 : len = 0
  · exact ⟨.inl h0⟩
  · obtain ⟨b, off, spot⟩ := a
    have hc := (hq 0 (by omega)).1
    have hspot : spot = none := by simpa [Addr.add] using World.cell?_spot hc
    subst hspot
    refine ⟨.inr ⟨b, off, rfl, ?_, fun i hi => ?_⟩⟩
    · have := cellLt hc
      simpa [Addr.add] using this
    · obtain ⟨k0, k1, k2, k3, _⟩ := hq i (by omega)
      exact ⟨addAt rfl k0, addAt rfl k1, _, _, _, addAt rfl k2, k3⟩
end Go.Proofs.Ythiklcldbjmgfaa
