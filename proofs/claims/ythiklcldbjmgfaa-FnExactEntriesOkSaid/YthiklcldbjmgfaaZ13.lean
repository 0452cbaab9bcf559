/- A packed row of the program, laid out in three lists. -/
import Derived.Test.YthiklcldbjmgfaaZ9
import Derived.Test.YthiklcldbjmgfaaZ5
import Derived.Deep.CutRange
namespace Go.Proofs.Ythiklcldbjmgfaa
open Go.RowKit
set_option maxRecDepth 8000
set_option linter.unusedSimpArgs false
set_option linter.unusedVariables false

/-- A box of three cells that may be written. -/
structure TriW (w : World) (b : Nat) (v0 v1 v2 : Value) : Prop where
  lt : b < w.heap.size
  c0 : w.cell? ⟨b, 0, none⟩ = some v0
  c1 : w.cell? ⟨b, 1, none⟩ = some v1
  c2 : w.cell? ⟨b, 2, none⟩ = some v2
  f0 : w.frozen? ⟨b, 0, none⟩ = false
  f1 : w.frozen? ⟨b, 1, none⟩ = false
  f2 : w.frozen? ⟨b, 2, none⟩ = false

theorem TriW.below {w w' : World} {b : Nat} {v0 v1 v2 : Value} (h : TriW w b v0 v1 v2) (hb : Below w.heap.size w w') : TriW w' b v0 v1 v2 :=
  ⟨Nat.lt_of_lt_of_le h.lt hb.size, (hb.cell (p := ⟨b, 0, none⟩) h.lt).trans h.c0, (hb.cell (p := ⟨b, 1, none⟩) h.lt).trans h.c1, (hb.cell (p := ⟨b, 2, none⟩) h.lt).trans h.c2,
    (hb.frozen (p := ⟨b, 0, none⟩) h.lt).trans h.f0, (hb.frozen (p := ⟨b, 1, none⟩) h.lt).trans h.f1, (hb.frozen (p := ⟨b, 2, none⟩) h.lt).trans h.f2⟩

theorem TriW.drew {w : World} {b : Nat} {v0 v1 v2 : Value} (h : TriW w b v0 v1 v2) : TriW w.drew b v0 v1 v2 := h.below (Below.drew (Below.refl _ _))

theorem TriW.alloc {w : World} {b : Nat} {v0 v1 v2 : Value} (h : TriW w b v0 v1 v2) (o : Obj) : TriW (w.alloc o) b v0 v1 v2 := h.below (balloc (Below.refl _ _) _)

theorem TriW.new (w : World) (v0 v1 v2 : Value) (T : TypeId) (b : Nat) (hb : w.heap.size = b) : TriW (w.alloc (.cells #[v0, v1, v2] T)) b v0 v1 v2 := hb ▸ ⟨by simp, by simp, by simp, by simp, by simp [go_sem], by simp [go_sem], by simp [go_sem]⟩

theorem TriW.away {w : World} {b : Nat} {v0 v1 v2 : Value} (h : TriW w b v0 v1 v2) (p : Addr) (v : Value) (hp : b ≠ p.block) : TriW (w.setCell p v) b v0 v1 v2 := by
  have e := Below.heap_setCell w p v b hp
  obtain ⟨h0, h1, h2, h3, f0, f1, f2⟩ := h
  refine ⟨by simpa [World.setCell] using h0, ?_, ?_, ?_, ?_, ?_, ?_⟩ <;> simp only [World.cell?, World.frozen?, e] at * <;> assumption

theorem TriW.but {w w' : World} {b g : Nat} {v0 v1 v2 : Value} (h : TriW w b v0 v1 v2) (hb : But g w w') (hne : b ≠ g) : TriW w' b v0 v1 v2 :=
  ⟨Nat.lt_of_lt_of_le h.lt hb.size, (hb.cell (p := ⟨b, 0, none⟩) h.lt hne).trans h.c0, (hb.cell (p := ⟨b, 1, none⟩) h.lt hne).trans h.c1, (hb.cell (p := ⟨b, 2, none⟩) h.lt hne).trans h.c2, (hb.frozen (p := ⟨b, 0, none⟩) h.lt hne).trans h.f0, (hb.frozen (p := ⟨b, 1, none⟩) h.lt hne).trans h.f1, (hb.frozen (p := ⟨b, 2, none⟩) h.lt hne).trans h.f2⟩

theorem Five.alloc {w : World} {b : Nat} {v0 v1 v2 v3 v4 : Value} (h : Five w b v0 v1 v2 v3 v4) (o : Obj) : Five (w.alloc o) b v0 v1 v2 v3 v4 := h.below (balloc (Below.refl _ _) _)

theorem rows_drew {w : World} {g : Nat} {T : TypeId} {n : Nat} {F : Nat → Value} (h : w.rowIs g T n F) : w.drew.rowIs g T n F := h

theorem made_row (w : World) (n b : Nat) (hb : w.heap.size = b) : (w.alloc (.cells (madeCells #[.int .i64 0] n) 2)).rowIs b 2 n (fun _ => .int .i64 0) := by
  subst hb
  exact ⟨_, Go.Deep.blk_alloc_new _ _, size_madeCells _ _, fun i hi => by simp [madeCells, hi, Nat.mod_one]⟩

/-- The three lists under way behind k places, their box, the packed row's box and that of the answer. -/
structure RB (w0 w : World) (P : Value × Value × Value × Value × Value) (q g1 g2 g3 n k : Nat) (c1 c2 c3 : Nat → Int) : Prop where
  box : TriW w q (.slice (some ⟨g1, 0, none⟩) n n) (.slice (some ⟨g2, 0, none⟩) n n) (.slice (some ⟨g3, 0, none⟩) n n)
  pk : Five w w0.heap.size P.1 P.2.1 P.2.2.1 P.2.2.2.1 P.2.2.2.2
  res : TriW w (w0.heap.size + 1) (.slice none 0 0) (.slice none 0 0) (.slice none 0 0)
  r1 : w.rowIs g1 2 n (fun j => .int .i64 (if j < k then c1 j else 0))
  r2 : w.rowIs g2 2 n (fun j => .int .i64 (if j < k then c2 j else 0))
  r3 : w.rowIs g3 2 n (fun j => .int .i64 (if j < k then c3 j else 0))
  far : w0.heap.size + 2 ≤ q ∧ w0.heap.size + 2 ≤ g1 ∧ w0.heap.size + 2 ≤ g2 ∧ w0.heap.size + 2 ≤ g3
  apart : g1 ≠ g2 ∧ g1 ≠ g3 ∧ g2 ≠ g3 ∧ q ≠ g1 ∧ q ≠ g2 ∧ q ≠ g3
  bel : Below w0.heap.size w0 w

theorem RB.below {w0 w w' : World} {P : Value × Value × Value × Value × Value} {q g1 g2 g3 n k : Nat} {c1 c2 c3 : Nat → Int} (h : RB w0 w P q g1 g2 g3 n k c1 c2 c3) (hb : Below w.heap.size w w') : RB w0 w' P q g1 g2 g3 n k c1 c2 c3 :=
  ⟨h.box.below hb, h.pk.below hb, h.res.below hb, h.r1.of_block (hb.block _ h.r1.lt), h.r2.of_block (hb.block _ h.r2.lt), h.r3.of_block (hb.block _ h.r3.lt), h.far, h.apart, bstep h.bel hb⟩

theorem row_put {w : World} {g n k : Nat} {c : Nat → Int} (h : w.rowIs g 2 n (fun j => .int .i64 (if j < k then c j else 0))) :
    (w.setCell ⟨g, k, none⟩ (.int .i64 (c k))).rowIs g 2 n (fun j => .int .i64 (if j < k + 1 then c j else 0)) := by
  refine (World.rowIs.set h k _).congr fun j hj => ?_
  by_cases e : j = k
  · subst e; simp
  · by_cases l : j < k
    · rw [if_neg e, if_pos l, if_pos (by omega)]
    · rw [if_neg e, if_neg l, if_neg (by omega)]

theorem RB.step {w0 w : World} {P : Value × Value × Value × Value × Value} {q g1 g2 g3 n k : Nat} {c1 c2 c3 : Nat → Int} (h : RB w0 w P q g1 g2 g3 n k c1 c2 c3) :
    RB w0 (((w.setCell ⟨g1, k, none⟩ (.int .i64 (c1 k))).setCell ⟨g2, k, none⟩ (.int .i64 (c2 k))).setCell ⟨g3, k, none⟩ (.int .i64 (c3 k))) P q g1 g2 g3 n (k + 1) c1 c2 c3 := by
  obtain ⟨a1, a2, a3, a4, a5, a6⟩ := h.apart
  obtain ⟨b1, b2, b3, b4⟩ := h.far
  refine ⟨((h.box.away _ _ a4).away _ _ a5).away _ _ a6, ((h.pk.away _ _ (by simp; omega)).away _ _ (by simp; omega)).away _ _ (by simp; omega), ((h.res.away _ _ (by simp; omega)).away _ _ (by simp; omega)).away _ _ (by simp; omega), ?_, ?_, ?_, h.far, h.apart, ?_⟩
  · exact World.rowIs.setOther (World.rowIs.setOther (row_put h.r1) (by simpa using a1) _) (by simpa using a2) _
  · exact World.rowIs.setOther (row_put (World.rowIs.setOther h.r2 (by simpa using Ne.symm a1) _)) (by simpa using a3) _
  · exact row_put (World.rowIs.setOther (World.rowIs.setOther h.r3 (by simpa using Ne.symm a2) _) (by simpa using Ne.symm a3) _)
  · exact ((h.bel.setCell (by simp; omega) _).setCell (by simp; omega) _).setCell (by simp; omega) _

/-- Three lists of the call's own, in blocks of their own. -/
def Rows3 (base : Nat) (w : World) (v : Value) (n : Nat) (c1 c2 c3 : Nat → Int) : Prop :=
  ∃ g1 g2 g3, v = .agg #[.slice (some ⟨g1, 0, none⟩) n n, .slice (some ⟨g2, 0, none⟩) n n, .slice (some ⟨g3, 0, none⟩) n n] ∧ base ≤ g1 ∧ base ≤ g2 ∧ base ≤ g3 ∧ g1 ≠ g2 ∧ g1 ≠ g3 ∧ g2 ≠ g3 ∧ Own w g1 (ints c1 n) ∧ Own w g2 (ints c2 n) ∧ Own w g3 (ints c3 n)

theorem own_ints {w : World} {g n : Nat} {c : Nat → Int} (h : w.rowIs g 2 n (fun j => .int .i64 (if j < n then c j else 0))) : Own w g (ints c n) := by
  unfold Own
  rw [ints_len]
  exact h.congr fun j hj => by rw [if_pos hj, nth_ints c n j hj]

theorem own_away {w : World} {g : Nat} {xs : List Int} (h : Own w g xs) (p : Addr) (v : Value) (hp : p.block ≠ g) : Own (w.setCell p v) g xs := World.rowIs.setOther h (Ne.symm hp) _

end Go.Proofs.Ythiklcldbjmgfaa