/- Entries: two books alike, an entry's book; EntryOf of the model and of the program. -/
import Derived.Test.YthiklcldbjmgfaaZ17
import Derived.Test.YthiklcldbjmgfaaZ10
import Derived.Test.YthiklcldbjmgfaaZ11
import Derived.Test.YthiklcldbjmgfaaZ15
namespace Go.Proofs.Ythiklcldbjmgfaa
open Go.RowKit
set_option maxRecDepth 8000
set_option linter.unusedSimpArgs false
set_option linter.unusedVariables false

set_option maxHeartbeats 1600000 in
theorem l9Books_any (a a' : Option Addr) (n cap n' cap' : Nat) (f g f' g' : Nat → Int) (w : World) (h : PRow w a n f g) (h' : PRow w a' n' f' g') (hn : n ≤ 1048576) (hn' : n' ≤ 1048576) :
    Calls Try.prog 13 #[.slice a n cap, .slice a' n' cap'] w fun e w' => e = .returned (.bool (alikeB n f g n' f' g')) ∧ Below w.heap.size w w' := by
  have A := hide (sBoxOk_any a n cap f g w h hn)
  have B := hide (fun w1 (hb : Below w.heap.size w w1) => sBoxOk_any a' n' cap' f' g' w1 (h'.below hb) hn')
  clear h h'
  unfold alikeB
  cases h1 : boxB n f g
  · rw [h1] at A
    simp only [Bool.and_true, Bool.and_false, Bool.true_and, Bool.false_and]
    go_enter Try.func13, Try.ntmps13
    go_wp2_with fail
    refine A.out.mono ?_
    rintro e w1 ⟨rfl, hb1⟩
    go_wp2_with fail
    go_ret
    exact ⟨rfl, (by repeat' first | with_reducible exact Below.refl _ _ | with_reducible assumption | with_reducible refine below_drewN ?_ _ | with_reducible refine balloc ?_ _ | with_reducible refine Below.drew ?_ | with_reducible refine Below.setCell ?_ (by first | (simp; done) | (simp; omega) | omega) _ | with_reducible refine bstep ?_ (by assumption))⟩
  · rw [h1] at A
    cases h2 : boxB n' f' g'
    · rw [h2] at B
      simp only [Bool.and_true, Bool.and_false, Bool.true_and, Bool.false_and]
      go_enter Try.func13, Try.ntmps13
      go_wp2_with fail
      refine A.out.mono ?_
      rintro e w1 ⟨rfl, hb1⟩
      go_wp2_with fail
      refine (B.out _ hb1).mono ?_
      rintro e w2 ⟨rfl, hb2⟩
      go_wp2_with fail
      go_ret
      exact ⟨rfl, (by repeat' first | with_reducible exact Below.refl _ _ | with_reducible assumption | with_reducible refine below_drewN ?_ _ | with_reducible refine balloc ?_ _ | with_reducible refine Below.drew ?_ | with_reducible refine Below.setCell ?_ (by first | (simp; done) | (simp; omega) | omega) _ | with_reducible refine bstep ?_ (by assumption))⟩
    · rw [h2] at B
      simp only [Bool.and_true, Bool.and_false, Bool.true_and, Bool.false_and]
      obtain ⟨v, hv⟩ : ∃ v, decide (n = n') = v := ⟨_, rfl⟩
      have he : ((n : Int) == (n' : Int)) = v := by
        by_cases q : n = n'
        · subst q; rw [← hv]; simp
        · rw [← hv, decide_eq_false q]; simp; omega
      rw [hv]
      clear hv
      go_enter Try.func13, Try.ntmps13
      go_wp2_with fail
      refine A.out.mono ?_
      rintro e w1 ⟨rfl, hb1⟩
      go_wp2_with fail
      refine (B.out _ hb1).mono ?_
      rintro e w2 ⟨rfl, hb2⟩
      cases v
      all_goals
        go_wp2_with fail
        go_ret
        exact ⟨rfl, (by repeat' first | with_reducible exact Below.refl _ _ | with_reducible assumption | with_reducible refine below_drewN ?_ _ | with_reducible refine balloc ?_ _ | with_reducible refine Below.drew ?_ | with_reducible refine Below.setCell ?_ (by first | (simp; done) | (simp; omega) | omega) _ | with_reducible refine bstep ?_ (by assumption))⟩

set_option maxHeartbeats 400000 in
theorem l9Book_any (u v : Value) (is : Bool) (w : World) (hu : ∃ a n c, u = .slice a n c) (hv : ∃ a n c, v = .slice a n c) :
    Calls Try.prog 43 #[u, v, .bool is] w fun e w' => e = .returned (if is then v else u) ∧ w' = w := by
  obtain ⟨a, n, c, rfl⟩ := hu
  obtain ⟨a', n', c', rfl⟩ := hv
  cases is
  all_goals
    simp only [if_true, if_false, Bool.false_eq_true]
    go_enter Try.func43, Try.ntmps43
    go_wp2
    go_ret
    exact ⟨rfl, rfl⟩

set_option maxHeartbeats 400000 in
theorem bookOf_any (e0 e1 e2 e3 e4 e5 u v : Value) (is : Bool) (w : World) (hu : ∃ a n c, u = .slice a n c) (hv : ∃ a n c, v = .slice a n c) :
    Calls Try.prog 21 #[.agg #[e0, e1, e2, e3, e4, e5, .bool is], u, v] w fun e w' => e = .returned (if is then v else u) ∧ Below w.heap.size w w' := by
  obtain ⟨a, n, c, rfl⟩ := hu
  obtain ⟨a', n', c', rfl⟩ := hv
  cases is
  all_goals
    simp only [if_true, if_false, Bool.false_eq_true]
    go_enter Try.func21, Try.ntmps21
    go_wp2
    go_ret
    exact ⟨rfl, (by repeat' first | with_reducible exact Below.refl _ _ | with_reducible assumption | with_reducible refine below_drewN ?_ _ | with_reducible refine balloc ?_ _ | with_reducible refine Below.drew ?_ | with_reducible refine Below.setCell ?_ (by first | (simp; done) | (simp; omega) | omega) _ | with_reducible refine bstep ?_ (by assumption))⟩
/-- A box of seven cells that may be written, whatever lies in it. -/
structure Any7 (w : World) (b : Nat) : Prop where
  lt : b < w.heap.size
  c : ∀ i, i < 7 → ∃ u, w.cell? ⟨b, i, none⟩ = some u
  f : ∀ i, i < 7 → w.frozen? ⟨b, i, none⟩ = false

theorem Any7.below {w w' : World} {b : Nat} (h : Any7 w b) (hb : Below w.heap.size w w') : Any7 w' b :=
  ⟨Nat.lt_of_lt_of_le h.lt hb.size, fun i hi => (h.c i hi).imp fun u hu => (hb.cell (p := ⟨b, i, none⟩) h.lt).trans hu, fun i hi => (hb.frozen (p := ⟨b, i, none⟩) h.lt).trans (h.f i hi)⟩

theorem Any7.new (w : World) (v0 v1 v2 v3 v4 v5 v6 : Value) (T : TypeId) (b : Nat) (hb : w.heap.size = b) : Any7 (w.alloc (.cells #[v0, v1, v2, v3, v4, v5, v6] T)) b := by
  subst hb
  refine ⟨by simp, fun i hi => ?_, fun i hi => ?_⟩
  · rcases (show i = 0 ∨ i = 1 ∨ i = 2 ∨ i = 3 ∨ i = 4 ∨ i = 5 ∨ i = 6 by omega) with rfl | rfl | rfl | rfl | rfl | rfl | rfl <;> exact ⟨_, by simp [go_sem]; rfl⟩
  · rcases (show i = 0 ∨ i = 1 ∨ i = 2 ∨ i = 3 ∨ i = 4 ∨ i = 5 ∨ i = 6 by omega) with rfl | rfl | rfl | rfl | rfl | rfl | rfl <;> simp [go_sem]

end Go.Proofs.Ythiklcldbjmgfaa

/- EntryOf of the model. -/
namespace Go.Proofs.Ythiklcldbjmgfaa
open Go.RowKit
set_option maxRecDepth 8000
set_option linter.unusedSimpArgs false
set_option linter.unusedVariables false

/-- What an entry holds. -/
structure Ent where
  id : Int
  tags : Int
  vec : List Int
  m : Nat
  c1 : Nat → Int
  c2 : Nat → Int
  c3 : Nat → Int
  is : Bool
def bkF (is : Bool) (f f' : Nat → Int) : Nat → Int := if is then f' else f
/-- The entry of an item in one of two books, where all is right; else nothing. -/
def entB (n : Nat) (f g : Nat → Int) (n' : Nat) (f' g' : Nat → Int) (x : It) : Bool := alikeB n f g n' f' g' && itemB (n : Int) x
def entOf (ok : Bool) (n : Nat) (f g f' g' : Nat → Int) (x : It) (is : Bool) : Ent :=
  if ok then ⟨x.id, x.tags, x.vec, n, vcode (bkF is f f') (bkF is g g') x.vec 1, vcode (bkF is f f') (bkF is g g') x.vec 2, vcode (bkF is f f') (bkF is g g') x.vec 3, is⟩
  else ⟨0, 0, [], 0, vcode (bkF is f f') (bkF is g g') x.vec 1, vcode (bkF is f f') (bkF is g g') x.vec 2, vcode (bkF is f f') (bkF is g g') x.vec 3, false⟩

/-- An entry's lists lie from B on. -/
def FreshE (B : Nat) (av s1 s2 s3 : Option Addr) (n m : Nat) : Prop :=
  (∀ b off, av = some ⟨b, off, none⟩ → 0 < n → B ≤ b) ∧ (∀ b off, s1 = some ⟨b, off, none⟩ → 0 < m → B ≤ b) ∧ (∀ b off, s2 = some ⟨b, off, none⟩ → 0 < m → B ≤ b) ∧ (∀ b off, s3 = some ⟨b, off, none⟩ → 0 < m → B ≤ b)

theorem FreshE.none (B : Nat) (av s1 s2 s3 : Option Addr) : FreshE B av s1 s2 s3 0 0 := ⟨fun _ _ _ h => absurd h (by omega), fun _ _ _ h => absurd h (by omega), fun _ _ _ h => absurd h (by omega), fun _ _ _ h => absurd h (by omega)⟩

/-- The answer of the model's EntryOf. -/
def SEnt (w : World) (ok : Bool) (E : Ent) (e : Ending) (w' : World) : Prop :=
  ∃ av cv s1 s2 s3 q1 q2 q3, e = .returned (.tuple #[.agg #[.int .i64 E.id, .int .i64 E.tags, .slice av E.vec.length cv, .slice s1 E.m q1, .slice s2 E.m q2, .slice s3 E.m q3, .bool E.is], .bool ok]) ∧
    Row w' av E.vec.length E.vec ∧ Row w' s1 E.m (ints E.c1 E.m) ∧ Row w' s2 E.m (ints E.c2 E.m) ∧ Row w' s3 E.m (ints E.c3 E.m) ∧ FreshE w.heap.size av s1 s2 s3 E.vec.length E.m ∧ Below w.heap.size w w'

theorem Any7.at {w : World} {b : Nat} (h : Any7 w b) : (∃ u, w.cell? ⟨b, 0, none⟩ = some u) ∧ (∃ u, w.cell? ⟨b, 1, none⟩ = some u) ∧ (∃ u, w.cell? ⟨b, 2, none⟩ = some u) ∧ (∃ u, w.cell? ⟨b, 3, none⟩ = some u) ∧ (∃ u, w.cell? ⟨b, 4, none⟩ = some u) ∧ (∃ u, w.cell? ⟨b, 5, none⟩ = some u) ∧ (∃ u, w.cell? ⟨b, 6, none⟩ = some u) ∧
    w.frozen? ⟨b, 0, none⟩ = false ∧ w.frozen? ⟨b, 1, none⟩ = false ∧ w.frozen? ⟨b, 2, none⟩ = false ∧ w.frozen? ⟨b, 3, none⟩ = false ∧ w.frozen? ⟨b, 4, none⟩ = false ∧ w.frozen? ⟨b, 5, none⟩ = false ∧ w.frozen? ⟨b, 6, none⟩ = false :=
  ⟨h.c 0 (by omega), h.c 1 (by omega), h.c 2 (by omega), h.c 3 (by omega), h.c 4 (by omega), h.c 5 (by omega), h.c 6 (by omega), h.f 0 (by omega), h.f 1 (by omega), h.f 2 (by omega), h.f 3 (by omega), h.f 4 (by omega), h.f 5 (by omega), h.f 6 (by omega)⟩

set_option maxHeartbeats 4000000 in
theorem sEntryOf_no (a a' : Option Addr) (n cap n' cap' : Nat) (x : It) (xa : Option Addr) (xn xc : Nat) (is v1 v2 : Bool) (w : World) (E : Ent) (hE : E.id = 0 ∧ E.tags = 0 ∧ E.vec = [] ∧ E.m = 0 ∧ E.is = false) (hv : (v1 && v2) = false)
    (BK : Hid (∀ w1, Below w.heap.size w w1 → Calls Try.prog 13 #[.slice a n cap, .slice a' n' cap'] w1 fun e w' => e = .returned (.bool v1) ∧ Below w1.heap.size w1 w'))
    (IT : Hid (∀ w1, Below w.heap.size w w1 → Calls Try.prog 40 #[.int .i64 (n : Int), .agg #[.int .i64 x.id, .int .i64 x.tags, .slice xa xn xc]] w1 fun e w' => e = .returned (.bool v2) ∧ Below w1.heap.size w1 w')) :
    Calls Try.prog 27 #[.slice a n cap, .slice a' n' cap', .agg #[.int .i64 x.id, .int .i64 x.tags, .slice xa xn xc], .bool is] w fun e w' => SEnt w false E e w' := by
  obtain ⟨E0, E1, E2, E3, c1, c2, c3, E6⟩ := E
  simp only at hE
  obtain ⟨rfl, rfl, rfl, rfl, rfl⟩ := hE
  obtain ⟨x0, x1, xs⟩ := x
  simp only at IT
  cases v1
  · go_enter Try.func27, Try.ntmps27
    go_wp2_with fail
    refine (BK.out _ (by repeat' first | with_reducible exact Below.refl _ _ | with_reducible assumption | with_reducible refine below_drewN ?_ _ | with_reducible refine balloc ?_ _ | with_reducible refine Below.drew ?_ | with_reducible refine Below.setCell ?_ (by first | (simp; done) | (simp; omega) | omega) _ | with_reducible refine bstep ?_ (by assumption))).mono ?_
    rintro e w1 ⟨rfl, hb1⟩
    have A1 : Any7 w1 (w.heap.size + 1) := (Any7.new (w.alloc _) _ _ _ _ _ _ _ _ _ (by simp)).below hb1
    have B1 : Below w.heap.size w w1 := (by repeat' first | with_reducible exact Below.refl _ _ | with_reducible assumption | with_reducible refine below_drewN ?_ _ | with_reducible refine balloc ?_ _ | with_reducible refine Below.drew ?_ | with_reducible refine Below.setCell ?_ (by first | (simp; done) | (simp; omega) | omega) _ | with_reducible refine bstep ?_ (by assumption))
    obtain ⟨⟨u0, z0⟩, ⟨u1, z1⟩, ⟨u2, z2⟩, ⟨u3, z3⟩, ⟨u4, z4⟩, ⟨u5, z5⟩, ⟨u6, z6⟩, f0, f1, f2, f3, f4, f5, f6⟩ := A1.at
    clear hb1 A1
    go_wp2_with fail
    refine bodyPost_ret (v := .tuple #[.agg #[.int .i64 0, .int .i64 0, .slice none 0 0, .slice none 0 0, .slice none 0 0, .slice none 0 0, .bool false], .bool false]) ?_ rfl ⟨none, 0, none, none, none, 0, 0, 0, rfl, ⟨rfl, .inl rfl⟩, ⟨rfl, .inl rfl⟩, ⟨rfl, .inl rfl⟩, ⟨rfl, .inl rfl⟩, FreshE.none _ _ _ _ _, ?_⟩
    · simp [results, Try.results27, go_sem, *]
    · exact (by repeat' first | with_reducible exact Below.refl _ _ | with_reducible assumption | with_reducible refine below_drewN ?_ _ | with_reducible refine balloc ?_ _ | with_reducible refine Below.drew ?_ | with_reducible refine Below.setCell ?_ (by first | (simp; done) | (simp; omega) | omega) _ | with_reducible refine bstep ?_ (by assumption))
  · cases v2
    · go_enter Try.func27, Try.ntmps27
      go_wp2_with fail
      refine (BK.out _ (by repeat' first | with_reducible exact Below.refl _ _ | with_reducible assumption | with_reducible refine below_drewN ?_ _ | with_reducible refine balloc ?_ _ | with_reducible refine Below.drew ?_ | with_reducible refine Below.setCell ?_ (by first | (simp; done) | (simp; omega) | omega) _ | with_reducible refine bstep ?_ (by assumption))).mono ?_
      rintro e w1 ⟨rfl, hb1⟩
      have T1 : TriW w1 w.heap.size (.int .i64 x0) (.int .i64 x1) (.slice xa xn xc) := ((TriW.new w _ _ _ _ _ rfl).alloc _).below hb1
      have A1 : Any7 w1 (w.heap.size + 1) := (Any7.new (w.alloc _) _ _ _ _ _ _ _ _ _ (by simp)).below hb1
      have B1 : Below w.heap.size w w1 := (by repeat' first | with_reducible exact Below.refl _ _ | with_reducible assumption | with_reducible refine below_drewN ?_ _ | with_reducible refine balloc ?_ _ | with_reducible refine Below.drew ?_ | with_reducible refine Below.setCell ?_ (by first | (simp; done) | (simp; omega) | omega) _ | with_reducible refine bstep ?_ (by assumption))
      obtain ⟨_, t0, t1, t2, _, _, _⟩ := T1
      clear hb1
      go_wp2_with fail
      refine (IT.out _ B1).mono ?_
      rintro e w2 ⟨rfl, hb2⟩
      have A2 := A1.below hb2
      have B2 := bstep B1 hb2
      obtain ⟨⟨u0, z0⟩, ⟨u1, z1⟩, ⟨u2, z2⟩, ⟨u3, z3⟩, ⟨u4, z4⟩, ⟨u5, z5⟩, ⟨u6, z6⟩, f0, f1, f2, f3, f4, f5, f6⟩ := A2.at
      clear hb2 A1 A2 t0 t1 t2
      go_wp2_with fail
      refine bodyPost_ret (v := .tuple #[.agg #[.int .i64 0, .int .i64 0, .slice none 0 0, .slice none 0 0, .slice none 0 0, .slice none 0 0, .bool false], .bool false]) ?_ rfl ⟨none, 0, none, none, none, 0, 0, 0, rfl, ⟨rfl, .inl rfl⟩, ⟨rfl, .inl rfl⟩, ⟨rfl, .inl rfl⟩, ⟨rfl, .inl rfl⟩, FreshE.none _ _ _ _ _, ?_⟩
      · simp [results, Try.results27, go_sem, *]
      · exact (by repeat' first | with_reducible exact Below.refl _ _ | with_reducible assumption | with_reducible refine below_drewN ?_ _ | with_reducible refine balloc ?_ _ | with_reducible refine Below.drew ?_ | with_reducible refine Below.setCell ?_ (by first | (simp; done) | (simp; omega) | omega) _ | with_reducible refine bstep ?_ (by assumption))
    · cases hv
end Go.Proofs.Ythiklcldbjmgfaa

/- EntryOf of the model, where all is right; at all arguments. -/
namespace Go.Proofs.Ythiklcldbjmgfaa
open Go.RowKit
set_option maxRecDepth 8000
set_option linter.unusedSimpArgs false
set_option linter.unusedVariables false

/-- A list that lies in new memory, as the caller sees it. -/
def CopyR (w : World) (i t : Int) (xs : List Int) (e : Ending) (w' : World) : Prop :=
  ∃ ya yc, e = .returned (.agg #[.int .i64 i, .int .i64 t, .slice ya xs.length yc]) ∧ Row w' ya xs.length xs ∧ (∀ b off, ya = some ⟨b, off, none⟩ → 0 < xs.length → w.heap.size ≤ b) ∧ Below w.heap.size w w'

theorem ToV.copyR {w : World} {x : It} {e : Ending} {w' : World} (h : ToV w x e w') : CopyR w x.id x.tags x.vec e w' := by
  obtain ⟨v, g, rfl, hv, hb⟩ := h
  obtain ⟨ya, yc, rfl, hr⟩ := hv.row
  refine ⟨ya, yc, rfl, hr, fun b off e p => ?_, hb⟩
  obtain ⟨a, c, ev, h0 | ⟨ea, h1, h2, ha⟩⟩ := hv
  · omega
  · cases ev
    rw [ea] at e
    cases e
    exact h1

theorem row_sev {w : World} {a : Option Addr} {n q : Nat} {xs : List Int} (h : Row w a n xs) (hne : ∀ b off, a = some ⟨b, off, none⟩ → 0 < n → b ≠ q) (u0 u1 u2 u3 u4 u5 u6 : Value) :
    Row (((((((w.setCell ⟨q, 0, none⟩ u0).setCell ⟨q, 1, none⟩ u1).setCell ⟨q, 2, none⟩ u2).setCell ⟨q, 3, none⟩ u3).setCell ⟨q, 4, none⟩ u4).setCell ⟨q, 5, none⟩ u5).setCell ⟨q, 6, none⟩ u6) a n xs := by
  by_cases hn : n = 0
  · exact ⟨h.len, .inl hn⟩
  · exact ((((((((But.refl q w).setCell 0 u0).setCell 1 u1).setCell 2 u2).setCell 3 u3).setCell 4 u4).setCell 5 u5).setCell 6 u6).row h (fun b off e => hne b off e (by omega))

set_option maxHeartbeats 8000000 in
set_option maxRecDepth 4000 in
theorem sEntryOf_yes (a a' : Option Addr) (n cap n' cap' : Nat) (x0 x1 : Int) (xs : List Int) (xa : Option Addr) (xn xc : Nat) (is : Bool) (w : World) (bk : Option Addr) (bc : Nat) (c1 c2 c3 : Nat → Int)
    (BK : Hid (∀ w1, Below w.heap.size w w1 → Calls Try.prog 13 #[.slice a n cap, .slice a' n' cap'] w1 fun e w' => e = .returned (.bool true) ∧ Below w1.heap.size w1 w'))
    (IT : Hid (∀ w1, Below w.heap.size w w1 → Calls Try.prog 40 #[.int .i64 (n : Int), .agg #[.int .i64 x0, .int .i64 x1, .slice xa xn xc]] w1 fun e w' => e = .returned (.bool true) ∧ Below w1.heap.size w1 w'))
    (CP : Hid (∀ w1, Below w.heap.size w w1 → Calls Try.prog 41 #[.agg #[.int .i64 x0, .int .i64 x1, .slice xa xn xc]] w1 fun e w' => CopyR w1 x0 x1 xs e w'))
    (LB : Hid (∀ w1, Calls Try.prog 43 #[.slice a n cap, .slice a' n' cap', .bool is] w1 fun e w' => e = .returned (.slice bk n bc) ∧ Below w1.heap.size w1 w'))
    (LR : Hid (∀ w1, Below w.heap.size w w1 → Calls Try.prog 42 #[.slice bk n bc, .slice xa xn xc] w1 fun e w' => ∃ v, e = .returned v ∧ FreshRow w1 n c1 c2 c3 v w')) :
    Calls Try.prog 27 #[.slice a n cap, .slice a' n' cap', .agg #[.int .i64 x0, .int .i64 x1, .slice xa xn xc], .bool is] w fun e w' => SEnt w true ⟨x0, x1, xs, n, c1, c2, c3, is⟩ e w' := by
  go_enter Try.func27, Try.ntmps27
  go_wp2_with fail
  refine (BK.out _ (by repeat' first | with_reducible exact Below.refl _ _ | with_reducible assumption | with_reducible refine below_drewN ?_ _ | with_reducible refine balloc ?_ _ | with_reducible refine Below.drew ?_ | with_reducible refine Below.setCell ?_ (by first | (simp; done) | (simp; omega) | omega) _ | with_reducible refine bstep ?_ (by assumption))).mono ?_
  rintro e w1 ⟨rfl, hb1⟩
  have T1 : TriW w1 w.heap.size (.int .i64 x0) (.int .i64 x1) (.slice xa xn xc) := ((TriW.new w _ _ _ _ _ rfl).alloc _).below hb1
  have A1 : Any7 w1 (w.heap.size + 1) := (Any7.new (w.alloc _) _ _ _ _ _ _ _ _ _ (by simp)).below hb1
  have B1 : Below w.heap.size w w1 := (by repeat' first | with_reducible exact Below.refl _ _ | with_reducible assumption | with_reducible refine below_drewN ?_ _ | with_reducible refine balloc ?_ _ | with_reducible refine Below.drew ?_ | with_reducible refine Below.setCell ?_ (by first | (simp; done) | (simp; omega) | omega) _ | with_reducible refine bstep ?_ (by assumption))
  have HT1 := hide T1
  obtain ⟨_, t0, t1, t2, _, _, _⟩ := T1
  clear hb1
  go_wp2_with fail
  refine (IT.out _ B1).mono ?_
  rintro e w2 ⟨rfl, hb2⟩
  have bd : Below w2.heap.size w2 w2.drew := Below.drew (Below.refl _ _)
  have A2 := hide ((A1.below hb2).below bd)
  have S2 := hide ((HT1.out.below hb2).below bd)
  have B2 := bstep (bstep B1 hb2) bd
  have lw : w.heap.size + 1 < w2.heap.size := (A1.below hb2).lt
  clear hb2 A1 t0 t1 t2 B1 HT1 bd
  go_wp2_with fail
  refine wp_region_held_drew (S := fun wx => TriW wx w.heap.size (.int .i64 x0) (.int .i64 x1) (.slice xa xn xc)) (by kernel_rfl) (S2.out) (fun hH0 => ?_)
  refine wpAnyH_take (i := 0) (oi := { dst := some 22, op := _, type := _, pos := _, after := _, guard := _ }) (v := ?_) rfl (by kernel_rfl) (by kernel_rfl) (by kernel_rfl) (fun _ _ _ h => h) (Or.inl ⟨by rfl, ?_⟩) (hH0) ?_
  rotate_left
  · (intro wx hSw; obtain ⟨_, q0, q1, q2, _, _, _⟩ := hSw; go_simp <;> with_reducible rfl)
  simp only [Act.put, List.setIfInBounds_toArray, List.set_cons_zero, List.set_cons_succ]
  refine wpAnyH_take (i := 2) (oi := { dst := some 24, op := _, type := _, pos := _, after := _, guard := _ }) (v := ?_) rfl (by kernel_rfl) (by kernel_rfl) (by kernel_rfl) (fun _ _ _ h => h) (Or.inl ⟨by rfl, ?_⟩) (hH0) ?_
  rotate_left
  · (intro wx hSw; obtain ⟨_, q0, q1, q2, _, _, _⟩ := hSw; go_simp <;> with_reducible rfl)
  simp only [Act.put, List.setIfInBounds_toArray, List.set_cons_zero, List.set_cons_succ]
  refine wpAnyH_take (i := 3) (oi := { dst := some 25, op := _, type := _, pos := _, after := _, guard := _ }) (v := ?_) rfl (by kernel_rfl) (by kernel_rfl) (by kernel_rfl) (fun _ _ _ h => h) (Or.inl ⟨by rfl, ?_⟩) (hH0) ?_
  rotate_left
  · (intro wx hSw; obtain ⟨_, q0, q1, q2, _, _, _⟩ := hSw; go_simp <;> with_reducible rfl)
  simp only [Act.put, List.setIfInBounds_toArray, List.set_cons_zero, List.set_cons_succ]
  refine wpAnyH_take (i := 4) (oi := { dst := some 26, op := _, type := _, pos := _, after := _, guard := _ }) (v := ?_) rfl (by kernel_rfl) (by kernel_rfl) (by kernel_rfl) (fun _ _ _ h => h) (Or.inl ⟨by rfl, ?_⟩) (hH0) ?_
  rotate_left
  · (intro wx hSw; obtain ⟨_, q0, q1, q2, _, _, _⟩ := hSw; go_simp <;> with_reducible rfl)
  simp only [Act.put, List.setIfInBounds_toArray, List.set_cons_zero, List.set_cons_succ]
  refine wpAnyH_take (i := 6) (oi := { dst := some 28, op := _, type := _, pos := _, after := _, guard := _ }) (v := ?_) rfl (by kernel_rfl) (by kernel_rfl) (by kernel_rfl) (fun _ _ _ h => h) (Or.inl ⟨by rfl, ?_⟩) (hH0) ?_
  rotate_left
  · (intro wx hSw; obtain ⟨_, q0, q1, q2, _, _, _⟩ := hSw; go_simp <;> with_reducible rfl)
  simp only [Act.put, List.setIfInBounds_toArray, List.set_cons_zero, List.set_cons_succ]
  refine wpAnyH_take (i := 7) (oi := { dst := some 29, op := _, type := _, pos := _, after := _, guard := _ }) (v := ?_) rfl (by kernel_rfl) (by kernel_rfl) (by kernel_rfl) (fun _ _ _ h => h) (Or.inl ⟨by rfl, ?_⟩) (hH0) ?_
  rotate_left
  · (intro wx hSw; obtain ⟨_, q0, q1, q2, _, _, _⟩ := hSw; go_simp <;> with_reducible rfl)
  simp only [Act.put, List.setIfInBounds_toArray, List.set_cons_zero, List.set_cons_succ]
  refine wpAnyH_take (i := 9) (oi := { dst := some 31, op := _, type := _, pos := _, after := _, guard := _ }) (v := ?_) rfl (by kernel_rfl) (by kernel_rfl) (by kernel_rfl) (fun _ _ _ h => h) (Or.inl ⟨by rfl, ?_⟩) (hH0) ?_
  rotate_left
  · (intro wx hSw; obtain ⟨_, q0, q1, q2, _, _, _⟩ := hSw; go_simp <;> with_reducible rfl)
  simp only [Act.put, List.setIfInBounds_toArray, List.set_cons_zero, List.set_cons_succ]
  refine wpAnyH_ready (rs := [1]) (by kernel_rfl) (by simp) ?_
  refine AllReadyH.cons (o := { dst := some 23, op := _, type := _, pos := _, after := _, guard := _ }) rfl (fun K hK => ?_) AllReadyH.nil
  go_simp
  refine (CP.out _ B2).mono ?_
  rintro e wa ⟨ya, yc, rfl, rya, nya, hba⟩
  dsimp only
  refine hK.out _ _ (TriW.below hH0 hba) (fun hH1 => ?_)
  clear hK K
  refine wpAnyH_ready (rs := [5]) (by kernel_rfl) (by simp) ?_
  refine AllReadyH.cons (o := { dst := some 27, op := _, type := _, pos := _, after := _, guard := _ }) rfl (fun K hK => ?_) AllReadyH.nil
  go_simp
  refine (LB.out _).mono ?_
  rintro e wb ⟨rfl, hbb⟩
  dsimp only
  refine hK.out _ _ (TriW.below hH1 hbb) (fun hH2 => ?_)
  clear hK K
  refine wpAnyH_ready (rs := [8]) (by kernel_rfl) (by simp) ?_
  refine AllReadyH.cons (o := { dst := some 30, op := _, type := _, pos := _, after := _, guard := _ }) rfl (fun K hK => ?_) AllReadyH.nil
  go_simp
  refine (LR.out _ (bstep (bstep B2 hba) hbb)).mono ?_
  rintro e wc ⟨v, rfl, s1, s2, s3, j1, j2, j3, rfl, r1, r2, r3, n1, n2, n3, hbc⟩
  dsimp only
  refine hK.out _ _ (TriW.below hH2 hbc) (fun hH3 => ?_)
  clear hK K
  refine wpAnyH_take (i := 10) (oi := { dst := some 32, op := _, type := _, pos := _, after := _, guard := _ }) (v := ?_) rfl (by kernel_rfl) (by kernel_rfl) (by kernel_rfl) (fun _ _ _ h => h) (Or.inl ⟨by rfl, ?_⟩) (hH3) ?_
  rotate_left
  · (intro wx hSw; obtain ⟨_, q0, q1, q2, _, _, _⟩ := hSw; go_simp <;> with_reducible rfl)
  simp only [Act.put, List.setIfInBounds_toArray, List.set_cons_zero, List.set_cons_succ]
  -- behind it: go_wp2_with fail, then go_meet (a cut) or go_ret; the condition at the end: hH3
  have A5 := ((A2.out.below hba).below hbb).below hbc
  have RY := hide ((rya.below hbb).below hbc)
  have B5 := bstep (bstep (bstep B2 hba) hbb) hbc
  have za : w2.heap.size ≤ wa.heap.size := by have := hba.size; exact this
  have zb := hbb.size
  have R1 := hide r1
  have R2 := hide r2
  have R3 := hide r3
  obtain ⟨⟨u0, z0⟩, ⟨u1, z1⟩, ⟨u2, z2⟩, ⟨u3, z3⟩, ⟨u4, z4⟩, ⟨u5, z5⟩, ⟨u6, z6⟩, f0, f1, f2, f3, f4, f5, f6⟩ := A5.at
  have A5' := hide A5
  have nya' : ∀ b off, ya = some ⟨b, off, none⟩ → 0 < xs.length → w2.heap.size ≤ b := nya
  clear rya r1 r2 r3 A5 nya
  refine wpAnyH_ready (rs := [11]) (by kernel_rfl) (by simp) ?_
  refine AllReadyH.cons (o := { dst := none, op := _, type := _, pos := _, after := _, guard := _ }) rfl (fun K hK => ?_) AllReadyH.nil
  go_simp
  refine hK.out _ _ (TriW.away (TriW.away (TriW.away (TriW.away (TriW.away (TriW.away (TriW.away hH3 _ _ (by simp)) _ _ (by simp)) _ _ (by simp)) _ _ (by simp)) _ _ (by simp)) _ _ (by simp)) _ _ (by simp)) (fun hH50 => ?_)
  clear hK K
  refine wpAnyH_take (i := 12) (oi := { dst := some 9, op := _, type := _, pos := _, after := _, guard := _ }) (v := ?_) rfl (by kernel_rfl) (by kernel_rfl) (by kernel_rfl) (fun _ _ _ h => h) (Or.inl ⟨by rfl, ?_⟩) (hH50) ?_
  rotate_left
  · (intro wx hSw; obtain ⟨_, q0, q1, q2, _, _, _⟩ := hSw; go_simp <;> with_reducible rfl)
  simp only [Act.put, List.setIfInBounds_toArray, List.set_cons_zero, List.set_cons_succ]
  refine wpAnyH_done (by kernel_rfl) ?_ _
  -- behind it: go_wp2_with fail, then go_meet (a cut) or go_ret; the condition at the end: hH50
  go_wp2_with fail
  refine bodyPost_ret (v := .tuple #[.agg #[.int .i64 x0, .int .i64 x1, .slice ya xs.length yc, .slice s1 n j1, .slice s2 n j2, .slice s3 n j3, .bool is], .bool true]) ?_ rfl ⟨ya, yc, s1, s2, s3, j1, j2, j3, rfl, ?_, ?_, ?_, ?_, ⟨fun b off e p => by have := nya' b off e p; omega, fun b off e p => by have := n1 b off e; omega, fun b off e p => by have := n2 b off e; omega, fun b off e p => by have := n3 b off e; omega⟩, ?_⟩
  · simp [results, Try.results27, go_sem, z0, z1, z2, z3, z4, z5, z6]
  · exact row_sev RY.out (fun b off e p => by have := nya' b off e p; omega) _ _ _ _ _ _ _
  · exact row_sev R1.out (fun b off e p => by have := n1 b off e; omega) _ _ _ _ _ _ _
  · exact row_sev R2.out (fun b off e p => by have := n2 b off e; omega) _ _ _ _ _ _ _
  · exact row_sev R3.out (fun b off e p => by have := n3 b off e; omega) _ _ _ _ _ _ _
  · exact ((((((B5.setCell (by simp) _).setCell (by simp) _).setCell (by simp) _).setCell (by simp) _).setCell (by simp) _).setCell (by simp) _).setCell (by simp) _

theorem sEntryOf_any (a a' : Option Addr) (n cap n' cap' : Nat) (f g f' g' : Nat → Int) (x : It) (xa : Option Addr) (xn xc : Nat) (is : Bool) (w : World) (h : PRow w a n f g) (h' : PRow w a' n' f' g') (hx : Row w xa xn x.vec) (hn : n ≤ 1048576) (hn' : n' ≤ 1048576) (hxn : xn ≤ 1048576) :
    Calls Try.prog 27 #[.slice a n cap, .slice a' n' cap', .agg #[.int .i64 x.id, .int .i64 x.tags, .slice xa xn xc], .bool is] w fun e w' => SEnt w (entB n f g n' f' g' x) (entOf (entB n f g n' f' g' x) n f g f' g' x is) e w' := by
  have BK := hide (fun w1 (hb : Below w.heap.size w w1) => l9Books_any a a' n cap n' cap' f g f' g' w1 (h.below hb) (h'.below hb) hn hn')
  have IT := hide (fun w1 (hb : Below w.heap.size w w1) => l7Item_any (n : Int) x xa xn xc w1 (hx.below hb) hxn)
  cases hv : entB n f g n' f' g' x
  · exact sEntryOf_no a a' n cap n' cap' x xa xn xc is _ _ w _ ⟨rfl, rfl, rfl, rfl, rfl⟩ hv BK IT
  · have hv' := hv
    simp only [entB, Bool.and_eq_true] at hv'
    obtain ⟨hA, hI⟩ := hv'
    rw [hA] at BK
    rw [hI] at IT
    simp only [alikeB, Bool.and_eq_true, decide_eq_true_eq] at hA
    obtain ⟨⟨hB, hB'⟩, rfl⟩ := hA
    have hI' := hI
    simp only [itemB, Bool.and_eq_true, decide_eq_true_eq] at hI'
    have hn8 := boxB_num' hB
    have hxl := hx.len
    obtain rfl : xn = n := by omega
    rcases hx.lies with q | ⟨bx, ox, rfl, ltx, hcx⟩
    · omega
    rcases h.lies with q | ⟨b, off, rfl, lt, hc⟩
    · omega
    rcases h'.lies with q | ⟨b', off', rfl, lt', hc'⟩
    · omega
    have CP := hide (fun w1 (hb : Below w.heap.size w w1) => (l7Copy_any x (some ⟨bx, ox, none⟩) xn xc w1 (hx.below hb) hxn).mono (fun e w' q => ToV.copyR q))
    cases is
    · refine sEntryOf_yes _ _ xn cap xn cap' x.id x.tags x.vec _ xn xc false w (some ⟨b, off, none⟩) cap _ _ _ BK IT CP ?_ ?_
      · exact hide fun w1 => (l9Book_any _ _ false w1 ⟨_, _, _, rfl⟩ ⟨_, _, _, rfl⟩).mono (fun e w' q => ⟨q.1, q.2 ▸ Below.refl _ _⟩)
      · exact hide fun w1 hB => l5Row_some b off xn cap bx ox xc f g x.vec w1 hn8.2 (Nat.lt_of_lt_of_le lt hB.size) (Nat.lt_of_lt_of_le ltx hB.size)
          (fun i hi => ⟨(hB.cell (p := ⟨b, off + i * 2, none⟩) lt).trans (hc i hi).1, (hB.cell (p := ⟨b, off + i * 2 + 1, none⟩) lt).trans (hc i hi).2⟩) (fun i hi => (hB.cell (p := ⟨bx, ox + i, none⟩) ltx).trans (hcx i hi))
    · refine sEntryOf_yes _ _ xn cap xn cap' x.id x.tags x.vec _ xn xc true w (some ⟨b', off', none⟩) cap' _ _ _ BK IT CP ?_ ?_
      · exact hide fun w1 => (l9Book_any _ _ true w1 ⟨_, _, _, rfl⟩ ⟨_, _, _, rfl⟩).mono (fun e w' q => ⟨q.1, q.2 ▸ Below.refl _ _⟩)
      · exact hide fun w1 hB => l5Row_some b' off' xn cap' bx ox xc f' g' x.vec w1 hn8.2 (Nat.lt_of_lt_of_le lt' hB.size) (Nat.lt_of_lt_of_le ltx hB.size)
          (fun i hi => ⟨(hB.cell (p := ⟨b', off' + i * 2, none⟩) lt').trans (hc' i hi).1, (hB.cell (p := ⟨b', off' + i * 2 + 1, none⟩) lt').trans (hc' i hi).2⟩) (fun i hi => (hB.cell (p := ⟨bx, ox + i, none⟩) ltx).trans (hcx i hi))
end Go.Proofs.Ythiklcldbjmgfaa

/- EntryOf of the program. -/
namespace Go.Proofs.Ythiklcldbjmgfaa
open Go.RowKit
set_option maxRecDepth 8000
set_option linter.unusedSimpArgs false
set_option linter.unusedVariables false

/-- The answer of the program's EntryOf: the vector below X, the row's lists from X on. -/
def IEnt (w : World) (ok : Bool) (E : Ent) (e : Ending) (w' : World) : Prop :=
  ∃ X C va g a1 a2 a3 k1 k2 k3, e = .returned (.tuple #[.agg #[.int .i64 E.id, .int .i64 E.tags, va, .slice a1 E.m k1, .slice a2 E.m k2, .slice a3 E.m k3, .bool E.is], .bool ok]) ∧
    VSl w' w.heap.size X va E.vec g ∧ Row3 X C w' a1 a2 a3 E.m (ints E.c1 E.m) (ints E.c2 E.m) (ints E.c3 E.m) ∧ w.heap.size ≤ X ∧ X ≤ C ∧ C ≤ w'.heap.size ∧ Below w.heap.size w w'

theorem Row3.set {B C : Nat} {w : World} {a1 a2 a3 : Option Addr} {m : Nat} {L1 L2 L3 : List Int} (h : Row3 B C w a1 a2 a3 m L1 L2 L3) (p : Addr) (u : Value) (hp : p.block < B ∨ C ≤ p.block) : Row3 B C (w.setCell p u) a1 a2 a3 m L1 L2 L3 :=
  h.keep fun k h1 h2 _ => Below.heap_setCell w p u k (by omega)





end Go.Proofs.Ythiklcldbjmgfaa
/- The laws' small functions over entries: eqEntry, markEntry, heldEntry. -/
namespace Go.Proofs.Ythiklcldbjmgfaa
open Go.RowKit
set_option maxRecDepth 8000
set_option linter.unusedSimpArgs false
set_option linter.unusedVariables false

/-- A box of seven cells that is read. -/
structure Sev (w : World) (b : Nat) (v0 v1 v2 v3 v4 v5 v6 : Value) : Prop where
  lt : b < w.heap.size
  c0 : w.cell? ⟨b, 0, none⟩ = some v0
  c1 : w.cell? ⟨b, 1, none⟩ = some v1
  c2 : w.cell? ⟨b, 2, none⟩ = some v2
  c3 : w.cell? ⟨b, 3, none⟩ = some v3
  c4 : w.cell? ⟨b, 4, none⟩ = some v4
  c5 : w.cell? ⟨b, 5, none⟩ = some v5
  c6 : w.cell? ⟨b, 6, none⟩ = some v6

theorem Sev.block {w w' : World} {b : Nat} {v0 v1 v2 v3 v4 v5 v6 : Value} (h : Sev w b v0 v1 v2 v3 v4 v5 v6) (hs : w.heap.size ≤ w'.heap.size) (e : w'.heap[b]? = w.heap[b]?) : Sev w' b v0 v1 v2 v3 v4 v5 v6 := by
  obtain ⟨h0, h1, h2, h3, h4, h5, h6, h7⟩ := h
  refine ⟨Nat.lt_of_lt_of_le h0 hs, ?_, ?_, ?_, ?_, ?_, ?_, ?_⟩ <;> simp only [World.cell?, e] at * <;> assumption

theorem Sev.below {w w' : World} {b : Nat} {v0 v1 v2 v3 v4 v5 v6 : Value} (h : Sev w b v0 v1 v2 v3 v4 v5 v6) (hb : Below w.heap.size w w') : Sev w' b v0 v1 v2 v3 v4 v5 v6 := h.block hb.size (hb.block b h.lt)

theorem Sev.far {w w' : World} {b B C : Nat} {v0 v1 v2 v3 v4 v5 v6 : Value} (h : Sev w b v0 v1 v2 v3 v4 v5 v6) (hf : Far B C w w') (hd : b < B ∨ C ≤ b) : Sev w' b v0 v1 v2 v3 v4 v5 v6 := h.block hf.size (hf.block b h.lt hd)

theorem Sev.new (w : World) (v0 v1 v2 v3 v4 v5 v6 : Value) (T : TypeId) (b : Nat) (hb : w.heap.size = b) : Sev (w.alloc (.cells #[v0, v1, v2, v3, v4, v5, v6] T)) b v0 v1 v2 v3 v4 v5 v6 := hb ▸ ⟨by simp, by simp, by simp, by simp, by simp, by simp, by simp, by simp⟩

set_option maxHeartbeats 4000000 in
theorem eqEntry_same (i t : Int) (xs : List Int) (is : Bool) (av bv : Option Addr) (cv dv : Nat) (a1 a2 a3 b1 b2 b3 : Option Addr) (m k1 k2 k3 q1 q2 q3 : Nat) (L1 L2 L3 : List Int) (w : World) (hx : xs.length ≤ 1048576) (hm : m ≤ 1048576)
    (ra : Row w av xs.length xs) (rb : Row w bv xs.length xs) (r1 : Row w a1 m L1) (r2 : Row w a2 m L2) (r3 : Row w a3 m L3) (s1 : Row w b1 m L1) (s2 : Row w b2 m L2) (s3 : Row w b3 m L3) :
    Calls Try.prog 23 #[.agg #[.int .i64 i, .int .i64 t, .slice av xs.length cv, .slice a1 m k1, .slice a2 m k2, .slice a3 m k3, .bool is], .agg #[.int .i64 i, .int .i64 t, .slice bv xs.length dv, .slice b1 m q1, .slice b2 m q2, .slice b3 m q3, .bool is]] w fun e w' => e = .returned (.bool true) ∧ Below w.heap.size w w' := by
  have EI := hide (fun w1 (hb : Below w.heap.size w w1) => eqItem_self ⟨i, t, xs⟩ av bv xs.length xs.length cv dv w1 (ra.below hb) (rb.below hb) hx)
  have ER := hide (fun w1 (hb : Below w.heap.size w w1) => eqRow_same a1 a2 a3 b1 b2 b3 m k1 k2 k3 q1 q2 q3 L1 L2 L3 w1 hm (r1.below hb) (r2.below hb) (r3.below hb) (s1.below hb) (s2.below hb) (s3.below hb))
  simp only at EI
  obtain ⟨n, hn⟩ : ∃ n, xs.length = n := ⟨_, rfl⟩
  rw [hn] at EI ⊢
  clear ra rb r1 r2 r3 s1 s2 s3 hn hx
  have hiv : (is != is) = false := by simp
  obtain ⟨W0, hW0⟩ : ∃ W, ((w.alloc (.cells #[.int .i64 i, .int .i64 t, .slice av n cv, .slice a1 m k1, .slice a2 m k2, .slice a3 m k3, .bool is] 46)).alloc (.cells #[.int .i64 i, .int .i64 t, .slice bv n dv, .slice b1 m q1, .slice b2 m q2, .slice b3 m q3, .bool is] 46)) = W := ⟨_, rfl⟩
  have T0 : Sev W0 w.heap.size (.int .i64 i) (.int .i64 t) (.slice av n cv) (.slice a1 m k1) (.slice a2 m k2) (.slice a3 m k3) (.bool is) := hW0 ▸ (Sev.new w _ _ _ _ _ _ _ _ _ rfl).below (balloc (Below.refl _ _) _)
  have U0 : Sev W0 (w.heap.size + 1) (.int .i64 i) (.int .i64 t) (.slice bv n dv) (.slice b1 m q1) (.slice b2 m q2) (.slice b3 m q3) (.bool is) := hW0 ▸ Sev.new (w.alloc _) _ _ _ _ _ _ _ _ _ (by simp)
  have B0 : Below w.heap.size w W0 := hW0 ▸ (by repeat' first | with_reducible exact Below.refl _ _ | with_reducible assumption | with_reducible refine below_drewN ?_ _ | with_reducible refine balloc ?_ _ | with_reducible refine Below.drew ?_ | with_reducible refine Below.setCell ?_ (by first | (simp; done) | (simp; omega) | omega) _ | with_reducible refine bstep ?_ (by assumption))
  have HW := hide hW0
  clear hW0
  go_enter Try.func23, Try.ntmps23
  go_wp2_with fail
  rw [HW.out]
  refine (EI.out _ B0).mono ?_
  rintro e w1 ⟨rfl, hb1⟩
  have T1 := T0.below hb1
  have U1 := U0.below hb1
  have B1 := bstep B0 hb1
  have HT := hide T1
  have HU := hide U1
  obtain ⟨_, t0, t1, t2, t3, t4, t5, t6⟩ := T1
  obtain ⟨_, u0, u1, u2, u3, u4, u5, u6⟩ := U1
  go_wp2_with fail
  refine (ER.out _ B1).mono ?_
  rintro e w2 ⟨rfl, hb2⟩
  have T2 := HT.out.below hb2
  have U2 := HU.out.below hb2
  have B2 := bstep B1 hb2
  clear t0 t1 t2 t3 t4 t5 t6 u0 u1 u2 u3 u4 u5 u6
  obtain ⟨_, t0, t1, t2, t3, t4, t5, t6⟩ := T2
  obtain ⟨_, u0, u1, u2, u3, u4, u5, u6⟩ := U2
  go_wp2_with fail
  go_ret
  exact ⟨rfl, B2⟩



end Go.Proofs.Ythiklcldbjmgfaa