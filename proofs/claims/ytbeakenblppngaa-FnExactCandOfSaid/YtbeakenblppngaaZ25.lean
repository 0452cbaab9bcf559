/- An entry as an argument: its seven cells. -/
import Derived.Test.YtbeakenblppngaaZ24
import Derived.Test.YtbeakenblppngaaZ16
import Derived.ProofKit
import Derived.OpenShut
import Derived.ChangeSlices
import Derived.Lib.SmallJoins
namespace Go.Proofs.Ytbeakenblppngaa
open Go.RowKit Go.ChangeShapes Go.WideShapes Go.ChangeAt Go.Joins Go.Deep
set_option linter.unusedSimpArgs false
set_option linter.unusedVariables false

theorem arrayV7 {cs : Array Value} (h : cs.size = 7) : ∃ c0 c1 c2 c3 c4 c5 c6, cs = #[c0, c1, c2, c3, c4, c5, c6] := by
  obtain ⟨l⟩ := cs
  have hl : l.length = 7 := h
  match l, hl with
  | [c0, c1, c2, c3, c4, c5, c6], _ => exact ⟨c0, c1, c2, c3, c4, c5, c6, rfl⟩

theorem entry_of {H : Type} {enc : TypeId × Value → H} {P : Program} {w : World} {base : Nat} {held : Bool} {r : Reach} {b0 : Nat} {tE ei : TypeId} {f0 f1 f2 i0 i1 i2 j0 j1 j2 : Field} {v : Value} {d : DataW H} {p : List MemPlace}
    (hE : P.underlying tE = some (.struct #[f0, f1, f2])) (hC : P.cellsOf tE = 7) (oE : f0.offset = 0 ∧ f1.offset = 3 ∧ f2.offset = 6) (cE : P.cellsOf f0.type = 3 ∧ P.cellsOf f1.type = 3 ∧ P.cellsOf f2.type = 1)
    (hI : P.underlying f0.type = some (.struct #[i0, i1, i2])) (oI : i0.offset = 0 ∧ i1.offset = 1 ∧ i2.offset = 2) (cI : P.cellsOf i0.type = 1 ∧ P.cellsOf i1.type = 1 ∧ P.cellsOf i2.type = 1)
    (uI0 : P.underlying i0.type = some (.int .i64)) (uI1 : P.underlying i1.type = some (.int .i64)) (uI2 : P.underlying i2.type = some (.slice ei))
    (hR : P.underlying f1.type = some (.struct #[j0, j1, j2])) (oR : j0.offset = 0 ∧ j1.offset = 1 ∧ j2.offset = 2) (cR : P.cellsOf j0.type = 1 ∧ P.cellsOf j1.type = 1 ∧ P.cellsOf j2.type = 1)
    (uR0 : P.underlying j0.type = some (.slice ei)) (uR1 : P.underlying j1.type = some (.slice ei)) (uR2 : P.underlying j2.type = some (.slice ei))
    (ue : P.underlying ei = some (.int .i64)) (ce : P.cellsOf ei = 1) (ub : P.underlying f2.type = some .bool)
    (hv : Value.okWide P w r b0 tE v) (h : DataW.Trod enc P w base (fun _ => true) held tE v d p) :
    ∃ (x : En) (va : Option Addr) (vn vc : Nat) (s : RowV), v = enV x va vn vc s ∧ Row w va vn x.it.vec ∧ vn ≤ 9223372036854775807 ∧ s.is w x.r1 x.r2 x.r3 ∧ s.m1 ≤ 9223372036854775807 ∧ s.m2 ≤ 9223372036854775807 ∧ s.m3 ≤ 9223372036854775807 := by
  obtain ⟨cs, rfl, hsz⟩ := okWide_struct hE hv
  obtain ⟨c0, c1, c2, c3, c4, c5, c6, rfl⟩ := arrayV7 (hsz.trans hC)
  obtain ⟨fuel, hf⟩ := h
  obtain ⟨xs, n, _, hx, hl, hxl, hg⟩ := DataW.trod_struct hE hf
  have g0 := hg 0 f0 rfl
  have g1 := hg 1 f1 rfl
  have g2 := hg 2 f2 rfl
  match xs, hxl with
  | [y0, y1, y2], _ =>
    simp [Value.cells, oE.1, oE.2.1, oE.2.2, cE.1, cE.2.1, cE.2.2] at g0 g1 g2
    obtain ⟨xi, k, _, _, _, hil, gi⟩ := DataW.trod_struct hI g0
    obtain ⟨xr, k', _, _, _, hrl, gr⟩ := DataW.trod_struct hR g1
    match xi, hil, xr, hrl with
    | [a0, a1, a2], _, [e0, e1, e2], _ =>
      have p0 := gi 0 i0 rfl
      have p1 := gi 1 i1 rfl
      have p2 := gi 2 i2 rfl
      have q0 := gr 0 j0 rfl
      have q1 := gr 1 j1 rfl
      have q2 := gr 2 j2 rfl
      simp [oI.1, oI.2.1, oI.2.2, cI.1, cI.2.1, cI.2.2] at p0 p1 p2
      simp [oR.1, oR.2.1, oR.2.2, cR.1, cR.2.1, cR.2.2] at q0 q1 q2
      obtain ⟨z0, ez0, _⟩ := DataW.trod_int uI0 p0
      obtain ⟨z1, ez1, _⟩ := DataW.trod_int uI1 p1
      obtain ⟨va, vn, vc, vs, ev, hr, hle⟩ := ints_of uI2 ue ce p2
      obtain ⟨s0, m0, k0, L0, es0, hr0, hl0⟩ := ints_of uR0 ue ce q0
      obtain ⟨s1, m1, k1, L1, es1, hr1, hl1⟩ := ints_of uR1 ue ce q1
      obtain ⟨s2, m2, k2, L2, es2, hr2, hl2⟩ := ints_of uR2 ue ce q2
      obtain ⟨bb, eb, _⟩ := DataW.trod_bool ub g2
      simp at ez0 ez1 eb
      subst ez0 ez1 ev es0 es1 es2 eb
      exact ⟨⟨⟨z0, z1, vs⟩, L0, L1, L2, bb⟩, va, vn, vc, ⟨s0, s1, s2, m0, m1, m2, k0, k1, k2⟩, rfl, hr, hle, ⟨hr0, hr1, hr2⟩, hl0, hl1, hl2⟩

theorem exactCandOf_said {Q : Prop} (a : Option Addr) (n cap : Nat) (f g : Nat → Int) (a' : Option Addr) (n' cap' : Nat) (f' g' : Nat → Int) (x : En) (va : Option Addr) (vn vc : Nat) (r : RowV) (qa : Option Addr) (qn qc : Nat) (qz : List Int) (t : Int) (w : World) (h : IsPairs w a n f g) (h' : IsPairs w a' n' f' g')
    (rx : Row w va vn x.it.vec) (hvl : vn ≤ 9223372036854775807) (hr : r.is w x.r1 x.r2 x.r3) (m1 : r.m1 ≤ 9223372036854775807) (m2 : r.m2 ≤ 9223372036854775807) (m3 : r.m3 ≤ 9223372036854775807) (rq : IsRow .i64 w qa qn qc qz) (_ : Q) :
    Calls Try.prog 3 #[.slice a n cap, .slice a' n' cap', enV x va vn vc r, .slice qa qn qc, .int .i64 t] w fun e w' => e = .returned (.bool true) ∧ Below w.heap.size w w' :=
  exactCandOf_walk a n cap f g a' n' cap' f' g' x va vn vc r qa qn qc (qz.take qn) t w h h' rx hvl hr m1 m2 m3 rq.row
end Go.Proofs.Ytbeakenblppngaa
