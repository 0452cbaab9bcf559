/- Rows that are right: which they are, and the number that has a row's codes; of the program. -/
import Derived.Test.YtcgeebdhkdfkpaaKF
import Derived.Test.YtcgeebdhkdfkpaaCH
import Derived.Laws.StructEq
namespace Go.Proofs.Ytcgeebdhkdfkpaa
open Go.RowKit
set_option maxRecDepth 8000
set_option linter.unusedSimpArgs false
set_option linter.unusedVariables false

theorem eqArr3 (p0 p1 p2 q0 q1 q2 : Int) (w : World) : (Op.equalIn 10000 60 (.agg #[.int .i64 p0, .int .i64 p1, .int .i64 p2]) (.agg #[.int .i64 q0, .int .i64 q1, .int .i64 q2])).run Try.prog w = .ok ((p0 == q0) && ((p1 == q1) && (p2 == q2))) w := by
  have u3 := Try.underlying2
  have k3 := Try.isAgg2
  have z3 := Try.sizeOf2
  rw [show (10000 : Nat) = 9999 + 1 from rfl, Op.equalIn]
  simp only [Sem.run_bind, run_underlying Try.underlying60, Result.andThen_ok]
  simp only [Std.Legacy.Range.forIn_eq_forIn_range', Std.Legacy.Range.size, Nat.sub_zero, Nat.add_sub_cancel, Nat.div_one, List.range'_succ, List.range'_zero, List.forIn_cons, List.forIn_nil]
  go_simp
  by_cases h0 : p0 = q0
  case neg => simp [h0]
  by_cases h1 : p1 = q1
  case neg => simp [h0, h1]
  by_cases h2 : p2 = q2
  case neg => simp [h0, h1, h2]
  simp [h0, h1, h2]

/-- The number that the program takes for a code of tier 3, and whether there is one. -/
def numI (lo hi c : Int) : Int := if c = -1 then (if -1048576 < lo then lo - 1 else if hi < 1048576 then hi + 1 else 0) else cellLo lo hi 3 c
def numIB (lo hi c : Int) : Bool := if c = -1 then decide (-1048576 < lo) || decide (hi < 1048576) else cellB lo hi 3 c
/-- Whether a place's codes are those of a number. -/
def rowAt (lo hi a b c : Int) : Bool := numIB lo hi c && ((codeB lo hi 1 (numI lo hi c) == a) && ((codeB lo hi 2 (numI lo hi c) == b) && (codeB lo hi 3 (numI lo hi c) == c)))

theorem rowAt_def (lo hi a b c : Int) : rowAt lo hi a b c = (numIB lo hi c && ((codeB lo hi 1 (numI lo hi c) == a) && ((codeB lo hi 2 (numI lo hi c) == b) && (codeB lo hi 3 (numI lo hi c) == c)))) := rfl

theorem rowAt_codes {lo hi a b c : Int} (hr : rightB lo hi = true) (h : rowAt lo hi a b c = true) : CodesAt a b c := by
  simp only [rowAt, Bool.and_eq_true, beq_iff_eq] at h
  obtain ⟨_, h1, h2, h3⟩ := h
  have := codeB_ok (x := numI lo hi c) hr
  rwa [h1, h2, h3] at this





/-- A row that is read: three slices of numbers. -/
structure RowV where
  a1 : Option Addr
  a2 : Option Addr
  a3 : Option Addr
  m1 : Nat
  m2 : Nat
  m3 : Nat
  k1 : Nat
  k2 : Nat
  k3 : Nat
def RowV.v (r : RowV) : Value := .agg #[.slice r.a1 r.m1 r.k1, .slice r.a2 r.m2 r.k2, .slice r.a3 r.m3 r.k3]
structure RowV.is (r : RowV) (w : World) (L1 L2 L3 : List Int) : Prop where
  r1 : Row w r.a1 r.m1 L1
  r2 : Row w r.a2 r.m2 L2
  r3 : Row w r.a3 r.m3 L3

theorem RowV.is.below {r : RowV} {w w' : World} {L1 L2 L3 : List Int} (h : r.is w L1 L2 L3) (hb : Below w.heap.size w w') : r.is w' L1 L2 L3 := ⟨h.r1.below hb, h.r2.below hb, h.r3.below hb⟩

/-- Whether a row is that of some vector. -/
def rowOkB (n : Nat) (f g : Nat → Int) (L1 L2 L3 : List Int) : Bool := boxB n f g && (decide (L1.length = n ∧ L2.length = n ∧ L3.length = n) && allN n (fun i => rowAt (f i) (g i) (nth L1 i) (nth L2 i) (nth L3 i)))

/-- What packRow holds in its loop: the row's box, that of its answer, that of the packed row under way. -/
structure PR (w0 w : World) (s1 s2 s3 : Value) (q : Nat) (A B C D n : Value) : Prop where
  box : TriW w w0.heap.size s1 s2 s3
  res : Five w (w0.heap.size + 1) (.int .u8 0) (.int .u32 0) (.int .u64 0) (.int .u8 0) (.int .i64 0)
  pk : Five w q A B C D n
  far : w0.heap.size + 2 ≤ q
  bel : Below w0.heap.size w0 w

theorem PR.below {w0 w w' : World} {s1 s2 s3 : Value} {q : Nat} {A B C D n : Value} (h : PR w0 w s1 s2 s3 q A B C D n) (hb : Below w.heap.size w w') : PR w0 w' s1 s2 s3 q A B C D n := ⟨h.box.below hb, h.res.below hb, h.pk.below hb, h.far, bstep h.bel hb⟩

theorem PR.set {w0 w : World} {s1 s2 s3 : Value} {q : Nat} {A B C D n : Value} (h : PR w0 w s1 s2 s3 q A B C D n) (A' B' C' D' n' : Value) : PR w0 (((((w.setCell ⟨q, 0, none⟩ A').setCell ⟨q, 1, none⟩ B').setCell ⟨q, 2, none⟩ C').setCell ⟨q, 3, none⟩ D').setCell ⟨q, 4, none⟩ n') s1 s2 s3 q A' B' C' D' n' := by
  have hq := h.far
  have d1 : w0.heap.size ≠ q := by omega
  have d2 : w0.heap.size + 1 ≠ q := by omega
  exact ⟨((((h.box.away _ _ d1).away _ _ d1).away _ _ d1).away _ _ d1).away _ _ d1, ((((h.res.away _ _ d2).away _ _ d2).away _ _ d2).away _ _ d2).away _ _ d2, h.pk.set _ _ _ _ _, h.far, ((((h.bel.setCell (by simp; omega) _).setCell (by simp; omega) _).setCell (by simp; omega) _).setCell (by simp; omega) _).setCell (by simp; omega) _⟩

def pkV (ok : Bool) (c1 c2 c3 : Nat → Int) (n : Nat) : Value := if ok then PK c1 c2 c3 n n else PK0

/-- A range's box, and behind it that of a place's codes. -/
structure NB (w : World) (b : Nat) (lo hi x y z : Int) : Prop where
  lt : b + 1 < w.heap.size
  c0 : w.cell? ⟨b, 0, none⟩ = some (.int .i64 lo)
  c1 : w.cell? ⟨b, 1, none⟩ = some (.int .i64 hi)
  d0 : w.cell? ⟨b + 1, 0, none⟩ = some (.int .i64 x)
  d1 : w.cell? ⟨b + 1, 1, none⟩ = some (.int .i64 y)
  d2 : w.cell? ⟨b + 1, 2, none⟩ = some (.int .i64 z)

theorem NB.below {w w' : World} {b : Nat} {lo hi x y z : Int} (h : NB w b lo hi x y z) (hb : Below w.heap.size w w') : NB w' b lo hi x y z :=
  ⟨Nat.lt_of_lt_of_le h.lt hb.size, (hb.cell (p := ⟨b, 0, none⟩) (by have := h.lt; show b < _; omega)).trans h.c0, (hb.cell (p := ⟨b, 1, none⟩) (by have := h.lt; show b < _; omega)).trans h.c1, (hb.cell (p := ⟨b + 1, 0, none⟩) h.lt).trans h.d0, (hb.cell (p := ⟨b + 1, 1, none⟩) h.lt).trans h.d1, (hb.cell (p := ⟨b + 1, 2, none⟩) h.lt).trans h.d2⟩

end Go.Proofs.Ytcgeebdhkdfkpaa