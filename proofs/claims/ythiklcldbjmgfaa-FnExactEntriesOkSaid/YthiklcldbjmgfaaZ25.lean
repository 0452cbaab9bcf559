/- Entries as an argument. -/
import Derived.Test.YthiklcldbjmgfaaZ24
import Derived.Test.YthiklcldbjmgfaaZ16
import Derived.ProofKit
import Derived.OpenShut
import Derived.ChangeSlices
import Derived.Deep.SlicePairs
import Derived.Lib.SmallJoins
namespace Go.Proofs.Ythiklcldbjmgfaa
open Go.RowKit Go.ChangeShapes Go.WideShapes Go.ChangeAt Go.Joins Go.Deep
set_option linter.unusedSimpArgs false
set_option linter.unusedVariables false

/-- At the address p lies the entry x. -/
def EAtP (w : World) (p : Addr) (o : Nat) (x : En) : Prop :=
  w.cell? (p.add o) = some (.int .i64 x.it.id) ∧ w.cell? (p.add (o + 1)) = some (.int .i64 x.it.tags) ∧ (∃ a n c, w.cell? (p.add (o + 2)) = some (.slice a n c) ∧ Row w a n x.it.vec ∧ n ≤ 9223372036854775807) ∧
    (∃ r : RowV, w.cell? (p.add (o + 3)) = some (.slice r.a1 r.m1 r.k1) ∧ w.cell? (p.add (o + 4)) = some (.slice r.a2 r.m2 r.k2) ∧ w.cell? (p.add (o + 5)) = some (.slice r.a3 r.m3 r.k3) ∧ r.is w x.r1 x.r2 x.r3 ∧ r.m1 ≤ 9223372036854775807 ∧ r.m2 ≤ 9223372036854775807 ∧ r.m3 ≤ 9223372036854775807) ∧ w.cell? (p.add (o + 6)) = some (.bool x.is)

theorem entries_of {H : Type} {enc : TypeId × Value → H} {P : Program} {w : World} {base : Nat} {held : Bool} {t tE ei : TypeId} {f0 f1 f2 i0 i1 i2 j0 j1 j2 : Field} {fuel : Nat} {v : Value} {x : DataW H × List MemPlace}
    (ht : P.underlying t = some (.slice tE)) (hE : P.underlying tE = some (.struct #[f0, f1, f2])) (hC : P.cellsOf tE = 7) (oE : f0.offset = 0 ∧ f1.offset = 3 ∧ f2.offset = 6) (cE : P.cellsOf f0.type = 3 ∧ P.cellsOf f1.type = 3 ∧ P.cellsOf f2.type = 1)
    (hI : P.underlying f0.type = some (.struct #[i0, i1, i2])) (oI : i0.offset = 0 ∧ i1.offset = 1 ∧ i2.offset = 2) (cI : P.cellsOf i0.type = 1 ∧ P.cellsOf i1.type = 1 ∧ P.cellsOf i2.type = 1)
    (uI0 : P.underlying i0.type = some (.int .i64)) (uI1 : P.underlying i1.type = some (.int .i64)) (uI2 : P.underlying i2.type = some (.slice ei))
    (hR : P.underlying f1.type = some (.struct #[j0, j1, j2])) (oR : j0.offset = 0 ∧ j1.offset = 1 ∧ j2.offset = 2) (cR : P.cellsOf j0.type = 1 ∧ P.cellsOf j1.type = 1 ∧ P.cellsOf j2.type = 1)
    (uR0 : P.underlying j0.type = some (.slice ei)) (uR1 : P.underlying j1.type = some (.slice ei)) (uR2 : P.underlying j2.type = some (.slice ei))
    (ue : P.underlying ei = some (.int .i64)) (ce : P.cellsOf ei = 1) (ub : P.underlying f2.type = some .bool)
    (h : DataW.trod enc P w base (fun _ => true) held fuel t [v] = some x) : ∃ a n c E, v = .slice a n c ∧ IsEntries w a n E := by
  rcases Go.Deep.open_slice ht h with ⟨hcs, _⟩ | ⟨a, len, cap, m, n, D, Pl, hcs, hb, hl, hm, hmm, _, hx⟩
  · simp at hcs
    exact ⟨none, 0, 0, fun _ => ⟨⟨0, 0, []⟩, [], [], [], false⟩, hcs, ⟨.inl rfl⟩, by omega, fun i hi => absurd hi (by omega)⟩
  simp at hcs
  have hlm : len ≤ m := by rw [hmm]; split <;> omega
  have each : ∀ i, i < m → ∃ q : En, EAtP w a (i * 7) q := by
    intro i hi
    obtain ⟨cs', h1, h2⟩ := hx i hi
    rw [hC] at h1
    obtain ⟨_, hlen, hcell⟩ := World.cells?_some h1
    obtain ⟨xs, k, hk, hxy, _, hxl, hg⟩ := DataW.trod_struct hE h2
    match xs, hxl, cs', hlen with
    | [y0, y1, y2], _, [c0, c1, c2, c3, c4, c5, c6], _ =>
      have g0 := hg 0 f0 rfl
      have g1 := hg 1 f1 rfl
      have g2 := hg 2 f2 rfl
      simp [oE.1, oE.2.1, oE.2.2, cE.1, cE.2.1, cE.2.2] at g0 g1 g2
      obtain ⟨xi, k1, _, _, _, hil, gi⟩ := DataW.trod_struct hI g0
      obtain ⟨xr, k2, _, _, _, hrl, gr⟩ := DataW.trod_struct hR g1
      match xi, hil, xr, hrl with
      | [a0, a1, a2], _, [e0, e1, e2], _ =>
        have p0 := gi 0 i0 rfl
        have p1 := gi 1 i1 rfl
        have p2 := gi 2 i2 rfl
        have q0 := gr 0 j0 rfl
        have q1 := gr 1 j1 rfl
        have q2 := gr 2 j2 rfl
        simp [oI.1, oI.2.1, oI.2.2, cI.1, cI.2.1, cI.2.2] at p0 p1 p2
        simp [oR.1, oR.2.1, oR.2.2, cR.1, cR.2.1, cR.2.2] at q0 q1 q2
        have d0 := hcell 0 (by omega)
        have d1 := hcell 1 (by omega)
        have d2 := hcell 2 (by omega)
        have d3 := hcell 3 (by omega)
        have d4 := hcell 4 (by omega)
        have d5 := hcell 5 (by omega)
        have d6 := hcell 6 (by omega)
        rw [Go.Deep.add_add] at d0 d1 d2 d3 d4 d5 d6
        obtain ⟨z0, ez0, _⟩ := DataW.trod_int uI0 p0
        obtain ⟨z1, ez1, _⟩ := DataW.trod_int uI1 p1
        obtain ⟨va, vn, vc, vs, ev, hr, hle⟩ := ints_of uI2 ue ce p2
        obtain ⟨s0, m0, l0, L0, es0, hr0, hl0⟩ := ints_of uR0 ue ce q0
        obtain ⟨s1, m1, l1, L1, es1, hr1, hl1⟩ := ints_of uR1 ue ce q1
        obtain ⟨s2, m2, l2, L2, es2, hr2, hl2⟩ := ints_of uR2 ue ce q2
        obtain ⟨bb, eb, _⟩ := DataW.trod_bool ub g2
        simp at ez0 ez1 eb
        subst ez0 ez1 ev es0 es1 es2 eb
        exact ⟨⟨⟨z0, z1, vs⟩, L0, L1, L2, bb⟩, by simpa using d0, by simpa using d1, ⟨va, vn, vc, by simpa using d2, hr, hle⟩, ⟨⟨s0, s1, s2, m0, m1, m2, l0, l1, l2⟩, by simpa using d3, by simpa using d4, by simpa using d5, ⟨hr0, hr1, hr2⟩, hl0, hl1, hl2⟩, by simpa using d6⟩
  have inh : Inhabited En := ⟨⟨⟨0, 0, []⟩, [], [], [], false⟩⟩
  obtain ⟨q, hq⟩ := Go.Deep.choose_lt each
  refine ⟨_, _, _, q, hcs, ?_, by unfold maxLen at hm; omega, fun i hi => ?_⟩
  · by_cases h0 : len = 0
    · exact ⟨.inl h0⟩
    · obtain ⟨b, off, spot⟩ := a
      have hc := (hq 0 (by omega)).1
      have hspot : spot = none := by simpa [Addr.add] using World.cell?_spot hc
      subst hspot
      refine ⟨.inr ⟨b, off, rfl, ?_, fun i hi => ?_⟩⟩
      · have := cellLt hc
        simpa [Addr.add] using this
      · obtain ⟨d0, d1, ⟨va, vn, vc, d2, hr, _⟩, ⟨r, d3, d4, d5, hi', _⟩, d6⟩ := hq i (by omega)
        exact ⟨addAt rfl d0, by have q := addAt rfl d1; rwa [← Nat.add_assoc] at q, ⟨va, vn, vc, by have q := addAt rfl d2; rwa [← Nat.add_assoc] at q, hr⟩, ⟨r, by have q := addAt rfl d3; rwa [← Nat.add_assoc] at q, by have q := addAt rfl d4; rwa [← Nat.add_assoc] at q, by have q := addAt rfl d5; rwa [← Nat.add_assoc] at q, hi'⟩, by have q := addAt rfl d6; rwa [← Nat.add_assoc] at q⟩
  · obtain ⟨d0, d1, ⟨va, vn, vc, d2, hr, h9⟩, ⟨r, d3, d4, d5, hi', h1, h2, h3⟩, d6⟩ := hq i (by omega)
    unfold EnLe
    rw [hr.len, hi'.r1.len, hi'.r2.len, hi'.r3.len]
    omega
end Go.Proofs.Ythiklcldbjmgfaa
