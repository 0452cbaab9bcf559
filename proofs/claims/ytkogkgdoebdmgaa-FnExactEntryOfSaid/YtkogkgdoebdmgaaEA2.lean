/- EntryOf of the model. -/
import Derived.Test.YtkogkgdoebdmgaaEA1
namespace Go.Proofs.Ytkogkgdoebdmgaa
open Go.RowKit
set_option linter.unusedSimpArgs false
set_option linter.unusedVariables false

/-- What an entry holds. -/
structure Ent where
  id : Int
  tags : Int
  vec : List Int
  m : Nat
  c1 : Nat → Int
  c2 : Nat → Int
  c3 : Nat → Int
  is : Bool
def bkF (is : Bool) (f f' : Nat → Int) : Nat → Int := if is then f' else f
/-- The entry of an item in one of two books, where all is right; else nothing. -/
def entB (n : Nat) (f g : Nat → Int) (n' : Nat) (f' g' : Nat → Int) (x : It) : Bool := alikeB n f g n' f' g' && itemB (n : Int) x
def entOf (ok : Bool) (n : Nat) (f g f' g' : Nat → Int) (x : It) (is : Bool) : Ent :=
  if ok then ⟨x.id, x.tags, x.vec, n, vcode (bkF is f f') (bkF is g g') x.vec 1, vcode (bkF is f f') (bkF is g g') x.vec 2, vcode (bkF is f f') (bkF is g g') x.vec 3, is⟩
  else ⟨0, 0, [], 0, vcode (bkF is f f') (bkF is g g') x.vec 1, vcode (bkF is f f') (bkF is g g') x.vec 2, vcode (bkF is f f') (bkF is g g') x.vec 3, false⟩

/-- An entry's lists lie from B on. -/
def FreshE (B : Nat) (av s1 s2 s3 : Option Addr) (n m : Nat) : Prop :=
  (∀ b off, av = some ⟨b, off, none⟩ → 0 < n → B ≤ b) ∧ (∀ b off, s1 = some ⟨b, off, none⟩ → 0 < m → B ≤ b) ∧ (∀ b off, s2 = some ⟨b, off, none⟩ → 0 < m → B ≤ b) ∧ (∀ b off, s3 = some ⟨b, off, none⟩ → 0 < m → B ≤ b)
theorem FreshE.none (B : Nat) (av s1 s2 s3 : Option Addr) : FreshE B av s1 s2 s3 0 0 := ⟨fun _ _ _ h => absurd h (by omega), fun _ _ _ h => absurd h (by omega), fun _ _ _ h => absurd h (by omega), fun _ _ _ h => absurd h (by omega)⟩

/-- The answer of the model's EntryOf. -/
def SEnt (w : World) (ok : Bool) (E : Ent) (e : Ending) (w' : World) : Prop :=
  ∃ av cv s1 s2 s3 q1 q2 q3, e = .returned (.tuple #[.agg #[.int .i64 E.id, .int .i64 E.tags, .slice av E.vec.length cv, .slice s1 E.m q1, .slice s2 E.m q2, .slice s3 E.m q3, .bool E.is], .bool ok]) ∧
    Row w' av E.vec.length E.vec ∧ Row w' s1 E.m (ints E.c1 E.m) ∧ Row w' s2 E.m (ints E.c2 E.m) ∧ Row w' s3 E.m (ints E.c3 E.m) ∧ FreshE w.heap.size av s1 s2 s3 E.vec.length E.m ∧ Below w.heap.size w w'

theorem Any7.at {w : World} {b : Nat} (h : Any7 w b) : (∃ u, w.cell? ⟨b, 0, none⟩ = some u) ∧ (∃ u, w.cell? ⟨b, 1, none⟩ = some u) ∧ (∃ u, w.cell? ⟨b, 2, none⟩ = some u) ∧ (∃ u, w.cell? ⟨b, 3, none⟩ = some u) ∧ (∃ u, w.cell? ⟨b, 4, none⟩ = some u) ∧ (∃ u, w.cell? ⟨b, 5, none⟩ = some u) ∧ (∃ u, w.cell? ⟨b, 6, none⟩ = some u) ∧
    w.frozen? ⟨b, 0, none⟩ = false ∧ w.frozen? ⟨b, 1, none⟩ = false ∧ w.frozen? ⟨b, 2, none⟩ = false ∧ w.frozen? ⟨b, 3, none⟩ = false ∧ w.frozen? ⟨b, 4, none⟩ = false ∧ w.frozen? ⟨b, 5, none⟩ = false ∧ w.frozen? ⟨b, 6, none⟩ = false :=
  ⟨h.c 0 (by omega), h.c 1 (by omega), h.c 2 (by omega), h.c 3 (by omega), h.c 4 (by omega), h.c 5 (by omega), h.c 6 (by omega), h.f 0 (by omega), h.f 1 (by omega), h.f 2 (by omega), h.f 3 (by omega), h.f 4 (by omega), h.f 5 (by omega), h.f 6 (by omega)⟩

set_option maxHeartbeats 4000000 in
theorem sEntryOf_no (a a' : Option Addr) (n cap n' cap' : Nat) (x : It) (xa : Option Addr) (xn xc : Nat) (is v1 v2 : Bool) (w : World) (E : Ent) (hE : E.id = 0 ∧ E.tags = 0 ∧ E.vec = [] ∧ E.m = 0 ∧ E.is = false) (hv : (v1 && v2) = false)
    (BK : Hid (∀ w1, Below w.heap.size w w1 → Calls Try.prog 18 #[.slice a n cap, .slice a' n' cap'] w1 fun e w' => e = .returned (.bool v1) ∧ Below w1.heap.size w1 w'))
    (IT : Hid (∀ w1, Below w.heap.size w w1 → Calls Try.prog 19 #[.int .i64 (n : Int), .agg #[.int .i64 x.id, .int .i64 x.tags, .slice xa xn xc]] w1 fun e w' => e = .returned (.bool v2) ∧ Below w1.heap.size w1 w')) :
    Calls Try.prog 6 #[.slice a n cap, .slice a' n' cap', .agg #[.int .i64 x.id, .int .i64 x.tags, .slice xa xn xc], .bool is] w fun e w' => SEnt w false E e w' := by
  obtain ⟨E0, E1, E2, E3, c1, c2, c3, E6⟩ := E
  simp only at hE
  obtain ⟨rfl, rfl, rfl, rfl, rfl⟩ := hE
  obtain ⟨x0, x1, xs⟩ := x
  simp only at IT
  cases v1
  · go_enter Try.func6, Try.ntmps6
    go_wp2_with fail
    refine (BK.out _ (by repeat' first | with_reducible exact Below.refl _ _ | with_reducible assumption | with_reducible refine below_drewN ?_ _ | with_reducible refine balloc ?_ _ | with_reducible refine Below.drew ?_ | with_reducible refine Below.setCell ?_ (by first | (simp; done) | (simp; omega) | omega) _ | with_reducible refine bstep ?_ (by assumption))).mono ?_
    rintro e w1 ⟨rfl, hb1⟩
    have A1 : Any7 w1 (w.heap.size + 1) := (Any7.new (w.alloc _) _ _ _ _ _ _ _ _ _ (by simp)).below hb1
    have B1 : Below w.heap.size w w1 := (by repeat' first | with_reducible exact Below.refl _ _ | with_reducible assumption | with_reducible refine below_drewN ?_ _ | with_reducible refine balloc ?_ _ | with_reducible refine Below.drew ?_ | with_reducible refine Below.setCell ?_ (by first | (simp; done) | (simp; omega) | omega) _ | with_reducible refine bstep ?_ (by assumption))
    obtain ⟨⟨u0, z0⟩, ⟨u1, z1⟩, ⟨u2, z2⟩, ⟨u3, z3⟩, ⟨u4, z4⟩, ⟨u5, z5⟩, ⟨u6, z6⟩, f0, f1, f2, f3, f4, f5, f6⟩ := A1.at
    clear hb1 A1
    go_wp2_with fail
    refine bodyPost_ret (v := .tuple #[.agg #[.int .i64 0, .int .i64 0, .slice none 0 0, .slice none 0 0, .slice none 0 0, .slice none 0 0, .bool false], .bool false]) ?_ rfl ⟨none, 0, none, none, none, 0, 0, 0, rfl, ⟨rfl, .inl rfl⟩, ⟨rfl, .inl rfl⟩, ⟨rfl, .inl rfl⟩, ⟨rfl, .inl rfl⟩, FreshE.none _ _ _ _ _, ?_⟩
    · simp [results, Try.results6, go_sem, *]
    · exact (by repeat' first | with_reducible exact Below.refl _ _ | with_reducible assumption | with_reducible refine below_drewN ?_ _ | with_reducible refine balloc ?_ _ | with_reducible refine Below.drew ?_ | with_reducible refine Below.setCell ?_ (by first | (simp; done) | (simp; omega) | omega) _ | with_reducible refine bstep ?_ (by assumption))
  · cases v2
    · go_enter Try.func6, Try.ntmps6
      go_wp2_with fail
      refine (BK.out _ (by repeat' first | with_reducible exact Below.refl _ _ | with_reducible assumption | with_reducible refine below_drewN ?_ _ | with_reducible refine balloc ?_ _ | with_reducible refine Below.drew ?_ | with_reducible refine Below.setCell ?_ (by first | (simp; done) | (simp; omega) | omega) _ | with_reducible refine bstep ?_ (by assumption))).mono ?_
      rintro e w1 ⟨rfl, hb1⟩
      have T1 : TriW w1 w.heap.size (.int .i64 x0) (.int .i64 x1) (.slice xa xn xc) := ((TriW.new w _ _ _ _ _ rfl).alloc _).below hb1
      have A1 : Any7 w1 (w.heap.size + 1) := (Any7.new (w.alloc _) _ _ _ _ _ _ _ _ _ (by simp)).below hb1
      have B1 : Below w.heap.size w w1 := (by repeat' first | with_reducible exact Below.refl _ _ | with_reducible assumption | with_reducible refine below_drewN ?_ _ | with_reducible refine balloc ?_ _ | with_reducible refine Below.drew ?_ | with_reducible refine Below.setCell ?_ (by first | (simp; done) | (simp; omega) | omega) _ | with_reducible refine bstep ?_ (by assumption))
      obtain ⟨_, t0, t1, t2, _, _, _⟩ := T1
      clear hb1
      go_wp2_with fail
      refine (IT.out _ B1).mono ?_
      rintro e w2 ⟨rfl, hb2⟩
      have A2 := A1.below hb2
      have B2 := bstep B1 hb2
      obtain ⟨⟨u0, z0⟩, ⟨u1, z1⟩, ⟨u2, z2⟩, ⟨u3, z3⟩, ⟨u4, z4⟩, ⟨u5, z5⟩, ⟨u6, z6⟩, f0, f1, f2, f3, f4, f5, f6⟩ := A2.at
      clear hb2 A1 A2 t0 t1 t2
      go_wp2_with fail
      refine bodyPost_ret (v := .tuple #[.agg #[.int .i64 0, .int .i64 0, .slice none 0 0, .slice none 0 0, .slice none 0 0, .slice none 0 0, .bool false], .bool false]) ?_ rfl ⟨none, 0, none, none, none, 0, 0, 0, rfl, ⟨rfl, .inl rfl⟩, ⟨rfl, .inl rfl⟩, ⟨rfl, .inl rfl⟩, ⟨rfl, .inl rfl⟩, FreshE.none _ _ _ _ _, ?_⟩
      · simp [results, Try.results6, go_sem, *]
      · exact (by repeat' first | with_reducible exact Below.refl _ _ | with_reducible assumption | with_reducible refine below_drewN ?_ _ | with_reducible refine balloc ?_ _ | with_reducible refine Below.drew ?_ | with_reducible refine Below.setCell ?_ (by first | (simp; done) | (simp; omega) | omega) _ | with_reducible refine bstep ?_ (by assumption))
    · cases hv
end Go.Proofs.Ytkogkgdoebdmgaa
