/- ReadHit of the model. -/
import Derived.Test.YtecheolhmohhjaaDoorSH4
import Derived.Test.YtecheolhmohhjaaDoorSG2
namespace Go.Proofs.YtecheolhmohhjaaDoor
open Go.RowKit
set_option maxRecDepth 8000
open Go.Lib
set_option linter.unusedSimpArgs false
set_option linter.unusedVariables false

theorem l58_any (s : ByteArray) (w : World) (hs : s.size ≤ 1048576) :
    Calls Tryd.prog 19 #[.string s, .int .u8 58] w fun e w' => e = .returned (.tuple #[.string (bs (cutL 58 s.data.toList).1), .string (bs (cutL 58 s.data.toList).2.1), .bool (cutL 58 s.data.toList).2.2]) ∧ Below w.heap.size w w' := l1Cut_any s 58 w (by omega)

theorem l46_any (s : ByteArray) (w : World) (hs : s.size ≤ 1048576) :
    Calls Tryd.prog 19 #[.string s, .int .u8 46] w fun e w' => e = .returned (.tuple #[.string (bs (cutL 46 s.data.toList).1), .string (bs (cutL 46 s.data.toList).2.1), .bool (cutL 46 s.data.toList).2.2]) ∧ Below w.heap.size w w' := l1Cut_any s 46 w (by omega)

theorem mag_len (l : List UInt8) : l.length ≤ (magL l).length + 1 := by
  unfold magL
  split
  · rw [List.length_tail]; omega
  · omega

theorem itoa17 {x : Int} (h0 : 0 ≤ x) (h1 : x ≤ 9999999999999999) : (itoa x).length ≤ 17 := by
  have := ((numL_iff _ _).1 (numL_itoa (x := x) (by omega) h1)).2
  have := mag_len (itoa x)
  omega

theorem rdHit_len {l : List UInt8} (h : rdHitB l = true) : l.length ≤ 60 := by
  obtain ⟨h1, h2⟩ := rdHit_iff.1 h
  obtain ⟨q1, q2⟩ := hitTB_is h2 h1
  obtain ⟨_, a1, a2, a3, a4, a5⟩ := hit_parts q1
  have i1 := itoa17 (x := hId l) (by omega) (by omega)
  have i2 := itoa17 (x := hLow l) (by omega) (by omega)
  have i3 := itoa17 (x := hHigh l) (by omega) (by omega)
  have e := congrArg List.length q2
  unfold hitT at e
  split at e
  · simp at e; omega
  · simp at e; omega

/-- A list of three numbers, by place. -/
def f3 (a b c : Int) (j : Nat) : Value := .int .i64 (if j = 0 then a else if j = 1 then b else c)

theorem f3_new (w : World) (a b c : Int) (T : TypeId) : (w.alloc (.cells #[.int .i64 a, .int .i64 b, .int .i64 c] T)).rowIs w.heap.size T 3 (f3 a b c) :=
  World.rowIs_alloc w #[.int .i64 a, .int .i64 b, .int .i64 c] T (f3 a b c) (by intro i hi; rcases (show i = 0 ∨ i = 1 ∨ i = 2 from by simp at hi; omega) with rfl | rfl | rfl <;> rfl)

theorem f3_set0 {w : World} {q : Nat} {T : TypeId} {a b c : Int} (h : w.rowIs q T 3 (f3 a b c)) (x : Int) : (w.setCell ⟨q, 0, none⟩ (.int .i64 x)).rowIs q T 3 (f3 x b c) :=
  (World.rowIs.set h 0 _).congr fun j hj => by rcases (show j = 0 ∨ j = 1 ∨ j = 2 from by omega) with rfl | rfl | rfl <;> rfl

theorem f3_set1 {w : World} {q : Nat} {T : TypeId} {a b c : Int} (h : w.rowIs q T 3 (f3 a b c)) (x : Int) : (w.setCell ⟨q, 1, none⟩ (.int .i64 x)).rowIs q T 3 (f3 a x c) :=
  (World.rowIs.set h 1 _).congr fun j hj => by rcases (show j = 0 ∨ j = 1 ∨ j = 2 from by omega) with rfl | rfl | rfl <;> rfl

theorem f3_set2 {w : World} {q : Nat} {T : TypeId} {a b c : Int} (h : w.rowIs q T 3 (f3 a b c)) (x : Int) : (w.setCell ⟨q, 2, none⟩ (.int .i64 x)).rowIs q T 3 (f3 a b x) :=
  (World.rowIs.set h 2 _).congr fun j hj => by rcases (show j = 0 ∨ j = 1 ∨ j = 2 from by omega) with rfl | rfl | rfl <;> rfl
/-- The two boxes: the answer's, and the hit's. -/
structure TwoH (w0 w : World) (q : Nat) (a b c : Int) : Prop where
  res : w.rowIs w0.heap.size 25 3 (f3 0 0 0)
  box : w.rowIs q 25 3 (f3 a b c)
  ne : w0.heap.size < q
  bel : Below w0.heap.size w0 w

theorem TwoH.below {w0 w w' : World} {q : Nat} {a b c : Int} (h : TwoH w0 w q a b c) (hb : Below w.heap.size w w') : TwoH w0 w' q a b c :=
  ⟨h.res.of_block (hb.block _ (World.rowIs.lt h.res)), h.box.of_block (hb.block _ (World.rowIs.lt h.box)), h.ne, bstep h.bel hb⟩

theorem TwoH.set0 {w0 w : World} {q : Nat} {a b c : Int} (h : TwoH w0 w q a b c) (x : Int) : TwoH w0 (w.setCell ⟨q, 0, none⟩ (.int .i64 x)) q x b c :=
  ⟨World.rowIs.setOther h.res (by have := h.ne; simp; omega) _, f3_set0 h.box x, h.ne, h.bel.setCell (Nat.le_of_lt h.ne) _⟩

theorem TwoH.set1 {w0 w : World} {q : Nat} {a b c : Int} (h : TwoH w0 w q a b c) (x : Int) : TwoH w0 (w.setCell ⟨q, 1, none⟩ (.int .i64 x)) q a x c :=
  ⟨World.rowIs.setOther h.res (by have := h.ne; simp; omega) _, f3_set1 h.box x, h.ne, h.bel.setCell (Nat.le_of_lt h.ne) _⟩

theorem TwoH.set2 {w0 w : World} {q : Nat} {a b c : Int} (h : TwoH w0 w q a b c) (x : Int) : TwoH w0 (w.setCell ⟨q, 2, none⟩ (.int .i64 x)) q a b x :=
  ⟨World.rowIs.setOther h.res (by have := h.ne; simp; omega) _, f3_set2 h.box x, h.ne, h.bel.setCell (Nat.le_of_lt h.ne) _⟩

theorem TwoH.facts {w0 w : World} {q : Nat} {a b c : Int} (h : TwoH w0 w q a b c) :
    (q < w.heap.size ∧ w.cell? ⟨q, 0, none⟩ = some (.int .i64 a) ∧ w.cell? ⟨q, 1, none⟩ = some (.int .i64 b) ∧ w.cell? ⟨q, 2, none⟩ = some (.int .i64 c) ∧ w.frozen? ⟨q, 0, none⟩ = false ∧ w.frozen? ⟨q, 1, none⟩ = false ∧ w.frozen? ⟨q, 2, none⟩ = false) ∧
    (w0.heap.size < w.heap.size ∧ w.cell? ⟨w0.heap.size, 0, none⟩ = some (.int .i64 0) ∧ w.cell? ⟨w0.heap.size, 1, none⟩ = some (.int .i64 0) ∧ w.cell? ⟨w0.heap.size, 2, none⟩ = some (.int .i64 0) ∧ w.frozen? ⟨w0.heap.size, 0, none⟩ = false ∧ w.frozen? ⟨w0.heap.size, 1, none⟩ = false ∧ w.frozen? ⟨w0.heap.size, 2, none⟩ = false) :=
  ⟨⟨World.rowIs.lt h.box, World.rowIs.cell h.box (show 0 < 3 by omega), World.rowIs.cell h.box (show 1 < 3 by omega), World.rowIs.cell h.box (show 2 < 3 by omega), World.rowIs.frozen h.box 0, World.rowIs.frozen h.box 1, World.rowIs.frozen h.box 2⟩,
   ⟨World.rowIs.lt h.res, World.rowIs.cell h.res (show 0 < 3 by omega), World.rowIs.cell h.res (show 1 < 3 by omega), World.rowIs.cell h.res (show 2 < 3 by omega), World.rowIs.frozen h.res 0, World.rowIs.frozen h.res 1, World.rowIs.frozen h.res 2⟩⟩

end Go.Proofs.YtecheolhmohhjaaDoor
