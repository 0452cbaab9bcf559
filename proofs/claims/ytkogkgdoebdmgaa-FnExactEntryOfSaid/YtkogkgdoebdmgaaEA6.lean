/- What lies there behind EntryOf of the model, in the law. -/
import Derived.Test.YtkogkgdoebdmgaaEA5
namespace Go.Proofs.Ytkogkgdoebdmgaa
open Go.RowKit
set_option linter.unusedSimpArgs false
set_option linter.unusedVariables false

theorem Row.farE {w w' : World} {B C : Nat} {a : Option Addr} {n : Nat} {xs : List Int} (h : Row w a n xs) (hf : Far B C w w') (hne : ∀ b off, a = some ⟨b, off, none⟩ → 0 < n → b < B ∨ C ≤ b) : Row w' a n xs := by
  refine ⟨h.len, ?_⟩
  rcases h.lies with h0 | ⟨b, off, e, lt, hc⟩
  · exact .inl h0
  · by_cases hn : n = 0
    · exact .inl hn
    · exact .inr ⟨b, off, e, Nat.lt_of_lt_of_le lt hf.size, fun i hi => (World.cell?_of_block (w := w) (hf.block b lt (hne b off e (by omega)))).trans (hc i hi)⟩
theorem Row.ltE {w : World} {a : Option Addr} {n : Nat} {xs : List Int} (h : Row w a n xs) : ∀ b off, a = some ⟨b, off, none⟩ → 0 < n → b < w.heap.size := by
  intro b off e hn
  rcases h.lies with h0 | ⟨b', off', e', lt, _⟩
  · omega
  · rw [e] at e'; cases e'; exact lt
theorem TriW.farE {w w' : World} {b B C : Nat} {v0 v1 v2 : Value} (h : TriW w b v0 v1 v2) (hf : Far B C w w') (hne : b < B ∨ C ≤ b) : TriW w' b v0 v1 v2 := by
  have e := hf.block b h.lt hne
  obtain ⟨h0, h1, h2, h3, f0, f1, f2⟩ := h
  refine ⟨Nat.lt_of_lt_of_le h0 hf.size, ?_, ?_, ?_, ?_, ?_, ?_⟩ <;> simp only [World.cell?, World.frozen?, e] at * <;> assumption

/-- The item's box, the answer's box at z, its lists, all below D. -/
structure ES (w0 W : World) (u0 u1 u2 : Value) (z D : Nat) (E : Ent) (av : Option Addr) (cv : Nat) (s1 s2 s3 : Option Addr) (j1 j2 j3 : Nat) : Prop where
  bel : Below w0.heap.size w0 W
  bx : TriW W w0.heap.size u0 u1 u2
  sv : Sev W z (.int .i64 E.id) (.int .i64 E.tags) (.slice av E.vec.length cv) (.slice s1 E.m j1) (.slice s2 E.m j2) (.slice s3 E.m j3) (.bool E.is)
  rv : Row W av E.vec.length E.vec
  r1 : Row W s1 E.m (ints E.c1 E.m)
  r2 : Row W s2 E.m (ints E.c2 E.m)
  r3 : Row W s3 E.m (ints E.c3 E.m)
  ev : ∀ b off, av = some ⟨b, off, none⟩ → 0 < E.vec.length → b < D
  e1 : ∀ b off, s1 = some ⟨b, off, none⟩ → 0 < E.m → b < D
  e2 : ∀ b off, s2 = some ⟨b, off, none⟩ → 0 < E.m → b < D
  e3 : ∀ b off, s3 = some ⟨b, off, none⟩ → 0 < E.m → b < D
  lo : w0.heap.size < z
  zD : z < D
  DW : D ≤ W.heap.size
theorem ES.below {w0 W W' : World} {u0 u1 u2 : Value} {z D : Nat} {E : Ent} {av : Option Addr} {cv : Nat} {s1 s2 s3 : Option Addr} {j1 j2 j3 : Nat} (h : ES w0 W u0 u1 u2 z D E av cv s1 s2 s3 j1 j2 j3) (hb : Below W.heap.size W W') : ES w0 W' u0 u1 u2 z D E av cv s1 s2 s3 j1 j2 j3 :=
  ⟨bstep h.bel hb, h.bx.below hb, h.sv.below hb, h.rv.below hb, h.r1.below hb, h.r2.below hb, h.r3.below hb, h.ev, h.e1, h.e2, h.e3, h.lo, h.zD, Nat.le_trans h.DW hb.size⟩
theorem ES.far {w0 W W' : World} {u0 u1 u2 : Value} {z D B C : Nat} {E : Ent} {av : Option Addr} {cv : Nat} {s1 s2 s3 : Option Addr} {j1 j2 j3 : Nat} (h : ES w0 W u0 u1 u2 z D E av cv s1 s2 s3 j1 j2 j3) (hf : Far B C W W') (hB : D ≤ B) : ES w0 W' u0 u1 u2 z D E av cv s1 s2 s3 j1 j2 j3 := by
  have l1 := h.lo
  have l2 := h.zD
  exact ⟨h.bel.trans (hf.below (by omega) h.bel.size), h.bx.farE hf (by omega), h.sv.far hf (by omega), h.rv.farE hf (fun b off e p => by have := h.ev b off e p; omega), h.r1.farE hf (fun b off e p => by have := h.e1 b off e p; omega), h.r2.farE hf (fun b off e p => by have := h.e2 b off e p; omega), h.r3.farE hf (fun b off e p => by have := h.e3 b off e p; omega), h.ev, h.e1, h.e2, h.e3, h.lo, h.zD, Nat.le_trans h.DW hf.size⟩

theorem ES.ofSet {w0 wd : World} {u0 u1 u2 : Value} {z F : Nat} {E : Ent} {av : Option Addr} {cv : Nat} {s1 s2 s3 : Option Addr} {j1 j2 j3 : Nat} (bel : Below w0.heap.size w0 wd) (bx : TriW wd w0.heap.size u0 u1 u2) (az : Any7 wd z)
    (rv : Row wd av E.vec.length E.vec) (r1 : Row wd s1 E.m (ints E.c1 E.m)) (r2 : Row wd s2 E.m (ints E.c2 E.m)) (r3 : Row wd s3 E.m (ints E.c3 E.m)) (fr : FreshE F av s1 s2 s3 E.vec.length E.m) (hz : z < F) (lo : w0.heap.size < z) :
    ES w0 (((((((wd.setCell ⟨z, 0, none⟩ (.int .i64 E.id)).setCell ⟨z, 1, none⟩ (.int .i64 E.tags)).setCell ⟨z, 2, none⟩ (.slice av E.vec.length cv)).setCell ⟨z, 3, none⟩ (.slice s1 E.m j1)).setCell ⟨z, 4, none⟩ (.slice s2 E.m j2)).setCell ⟨z, 5, none⟩ (.slice s3 E.m j3)).setCell ⟨z, 6, none⟩ (.bool E.is)) u0 u1 u2 z wd.heap.size E av cv s1 s2 s3 j1 j2 j3 := by
  obtain ⟨f0, f1, f2, f3⟩ := fr
  obtain ⟨⟨x0, z0⟩, ⟨x1, z1⟩, ⟨x2, z2⟩, ⟨x3, z3⟩, ⟨x4, z4⟩, ⟨x5, z5⟩, ⟨x6, z6⟩, _⟩ := az.at
  have lt := az.lt
  refine ⟨((((((bel.setCell (by simp; omega) _).setCell (by simp; omega) _).setCell (by simp; omega) _).setCell (by simp; omega) _).setCell (by simp; omega) _).setCell (by simp; omega) _).setCell (by simp; omega) _,
    ((((((bx.away _ _ (by simp; omega)).away _ _ (by simp; omega)).away _ _ (by simp; omega)).away _ _ (by simp; omega)).away _ _ (by simp; omega)).away _ _ (by simp; omega)).away _ _ (by simp; omega),
    ⟨by simpa [World.setCell] using lt, ?_, ?_, ?_, ?_, ?_, ?_, ?_⟩, row_sev rv (fun b off e p => by have := f0 b off e p; omega) _ _ _ _ _ _ _, row_sev r1 (fun b off e p => by have := f1 b off e p; omega) _ _ _ _ _ _ _, row_sev r2 (fun b off e p => by have := f2 b off e p; omega) _ _ _ _ _ _ _, row_sev r3 (fun b off e p => by have := f3 b off e p; omega) _ _ _ _ _ _ _,
    rv.ltE, r1.ltE, r2.ltE, r3.ltE, lo, lt, by simp [World.setCell]⟩
  all_goals simp [go_sem, z0, z1, z2, z3, z4, z5, z6]

theorem ES.ofAlloc {w0 wd : World} {u0 u1 u2 : Value} {E : Ent} {av : Option Addr} {cv : Nat} {s1 s2 s3 : Option Addr} {j1 j2 j3 : Nat} (T : TypeId) (bel : Below w0.heap.size w0 wd) (bx : TriW wd w0.heap.size u0 u1 u2)
    (rv : Row wd av E.vec.length E.vec) (r1 : Row wd s1 E.m (ints E.c1 E.m)) (r2 : Row wd s2 E.m (ints E.c2 E.m)) (r3 : Row wd s3 E.m (ints E.c3 E.m)) (lo : w0.heap.size < wd.heap.size) :
    ES w0 (wd.alloc (.cells #[.int .i64 E.id, .int .i64 E.tags, .slice av E.vec.length cv, .slice s1 E.m j1, .slice s2 E.m j2, .slice s3 E.m j3, .bool E.is] T)) u0 u1 u2 wd.heap.size (wd.heap.size + 1) E av cv s1 s2 s3 j1 j2 j3 := by
  have hb : Below wd.heap.size wd (wd.alloc (.cells #[.int .i64 E.id, .int .i64 E.tags, .slice av E.vec.length cv, .slice s1 E.m j1, .slice s2 E.m j2, .slice s3 E.m j3, .bool E.is] T)) := balloc (Below.refl _ _) _
  exact ⟨bstep bel hb, bx.below hb, Sev.new _ _ _ _ _ _ _ _ _ _ rfl, rv.below hb, r1.below hb, r2.below hb, r3.below hb, fun b off e p => by have := rv.ltE b off e p; omega, fun b off e p => by have := r1.ltE b off e p; omega, fun b off e p => by have := r2.ltE b off e p; omega, fun b off e p => by have := r3.ltE b off e p; omega, lo, by omega, by simp⟩

/-- What the program answers, as it is read. -/
theorem IEnt.sent {w : World} {ok : Bool} {E : Ent} {e : Ending} {w' : World} (h : IEnt w ok E e w') : SEnt w ok E e w' := by
  obtain ⟨X, C, va, g, a1, a2, a3, k1, k2, k3, rfl, hv, hr, lX, lC, lW, hb⟩ := h
  obtain ⟨ya, yc, rfl, ry⟩ := hv.row
  obtain ⟨r1, r2, r3⟩ := hr.rows
  refine ⟨ya, yc, a1, a2, a3, k1, k2, k3, rfl, ry, r1, r2, r3, ⟨fun b off e p => ?_, fun b off e p => ?_, fun b off e p => ?_, fun b off e p => ?_⟩, hb⟩
  · obtain ⟨a, c, ev, h0 | ⟨ea, h1, h2, ha⟩⟩ := hv
    · omega
    · cases ev; rw [ea] at e; cases e; exact h1
  · rcases hr.lies with h0 | ⟨g1, g2, g3, rfl, rfl, rfl, b1, b2, b3, _⟩
    · omega
    · cases e; omega
  · rcases hr.lies with h0 | ⟨g1, g2, g3, rfl, rfl, rfl, b1, b2, b3, _⟩
    · omega
    · cases e; omega
  · rcases hr.lies with h0 | ⟨g1, g2, g3, rfl, rfl, rfl, b1, b2, b3, _⟩
    · omega
    · cases e; omega
end Go.Proofs.Ytkogkgdoebdmgaa
