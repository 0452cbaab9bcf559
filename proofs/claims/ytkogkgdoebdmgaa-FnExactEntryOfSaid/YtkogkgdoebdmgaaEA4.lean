/- EntryOf of the program. -/
import Derived.Test.YtkogkgdoebdmgaaEA3
namespace Go.Proofs.Ytkogkgdoebdmgaa
open Go.RowKit
set_option linter.unusedSimpArgs false
set_option linter.unusedVariables false

/-- The answer of the program's EntryOf: the vector below X, the row's lists from X on. -/
def IEnt (w : World) (ok : Bool) (E : Ent) (e : Ending) (w' : World) : Prop :=
  ∃ X C va g a1 a2 a3 k1 k2 k3, e = .returned (.tuple #[.agg #[.int .i64 E.id, .int .i64 E.tags, va, .slice a1 E.m k1, .slice a2 E.m k2, .slice a3 E.m k3, .bool E.is], .bool ok]) ∧
    VSl w' w.heap.size X va E.vec g ∧ Row3 X C w' a1 a2 a3 E.m (ints E.c1 E.m) (ints E.c2 E.m) (ints E.c3 E.m) ∧ w.heap.size ≤ X ∧ X ≤ C ∧ C ≤ w'.heap.size ∧ Below w.heap.size w w'

theorem Row3.set {B C : Nat} {w : World} {a1 a2 a3 : Option Addr} {m : Nat} {L1 L2 L3 : List Int} (h : Row3 B C w a1 a2 a3 m L1 L2 L3) (p : Addr) (u : Value) (hp : p.block < B ∨ C ≤ p.block) : Row3 B C (w.setCell p u) a1 a2 a3 m L1 L2 L3 :=
  h.keep fun k h1 h2 _ => Below.heap_setCell w p u k (by omega)

set_option maxHeartbeats 4000000 in
theorem iEntryOf_no (a a' : Option Addr) (n cap n' cap' : Nat) (x : It) (xa : Option Addr) (xn xc : Nat) (is v1 v2 : Bool) (w : World) (E : Ent) (hE : E.id = 0 ∧ E.tags = 0 ∧ E.vec = [] ∧ E.m = 0 ∧ E.is = false) (hv : (v1 && v2) = false)
    (BK : Hid (∀ w1, Below w.heap.size w w1 → Calls Try.prog 25 #[.slice a n cap, .slice a' n' cap'] w1 fun e w' => e = .returned (.bool v1) ∧ Below w1.heap.size w1 w'))
    (IT : Hid (∀ w1, Below w.heap.size w w1 → Calls Try.prog 26 #[.agg #[.int .i64 x.id, .int .i64 x.tags, .slice xa xn xc], .int .i64 (n : Int)] w1 fun e w' => e = .returned (.bool v2) ∧ Below w1.heap.size w1 w')) :
    Calls Try.prog 9 #[.slice a n cap, .slice a' n' cap', .agg #[.int .i64 x.id, .int .i64 x.tags, .slice xa xn xc], .bool is] w fun e w' => IEnt w false E e w' := by
  obtain ⟨E0, E1, E2, E3, c1, c2, c3, E6⟩ := E
  simp only at hE
  obtain ⟨rfl, rfl, rfl, rfl, rfl⟩ := hE
  obtain ⟨x0, x1, xs⟩ := x
  simp only at IT
  cases v1
  · go_enter Try.func9, Try.ntmps9
    go_wp2_with fail
    refine (BK.out _ (by repeat' first | with_reducible exact Below.refl _ _ | with_reducible assumption | with_reducible refine below_drewN ?_ _ | with_reducible refine balloc ?_ _ | with_reducible refine Below.drew ?_ | with_reducible refine Below.setCell ?_ (by first | (simp; done) | (simp; omega) | omega) _ | with_reducible refine bstep ?_ (by assumption))).mono ?_
    rintro e w1 ⟨rfl, hb1⟩
    have A1 : Any7 w1 (w.heap.size + 1) := (Any7.new (w.alloc _) _ _ _ _ _ _ _ _ _ (by simp)).below hb1
    have B1 : Below w.heap.size w w1 := (by repeat' first | with_reducible exact Below.refl _ _ | with_reducible assumption | with_reducible refine below_drewN ?_ _ | with_reducible refine balloc ?_ _ | with_reducible refine Below.drew ?_ | with_reducible refine Below.setCell ?_ (by first | (simp; done) | (simp; omega) | omega) _ | with_reducible refine bstep ?_ (by assumption))
    have lw := A1.lt
    obtain ⟨⟨u0, z0⟩, ⟨u1, z1⟩, ⟨u2, z2⟩, ⟨u3, z3⟩, ⟨u4, z4⟩, ⟨u5, z5⟩, ⟨u6, z6⟩, f0, f1, f2, f3, f4, f5, f6⟩ := A1.at
    clear hb1 A1
    go_wp2_with fail
    refine bodyPost_ret (v := .tuple #[.agg #[.int .i64 0, .int .i64 0, .slice none 0 0, .slice none 0 0, .slice none 0 0, .slice none 0 0, .bool false], .bool false]) ?_ rfl ⟨w.heap.size, w.heap.size, .slice none 0 0, 0, none, none, none, 0, 0, 0, rfl, ⟨none, 0, rfl, .inl rfl⟩, ⟨rfl, rfl, rfl, .inl rfl⟩, Nat.le_refl _, Nat.le_refl _, ?_, ?_⟩
    · simp [results, Try.results9, go_sem, *]
    · simp [World.setCell]; omega
    · exact (by repeat' first | with_reducible exact Below.refl _ _ | with_reducible assumption | with_reducible refine below_drewN ?_ _ | with_reducible refine balloc ?_ _ | with_reducible refine Below.drew ?_ | with_reducible refine Below.setCell ?_ (by first | (simp; done) | (simp; omega) | omega) _ | with_reducible refine bstep ?_ (by assumption))
  · cases v2
    · go_enter Try.func9, Try.ntmps9
      go_wp2_with fail
      refine (BK.out _ (by repeat' first | with_reducible exact Below.refl _ _ | with_reducible assumption | with_reducible refine below_drewN ?_ _ | with_reducible refine balloc ?_ _ | with_reducible refine Below.drew ?_ | with_reducible refine Below.setCell ?_ (by first | (simp; done) | (simp; omega) | omega) _ | with_reducible refine bstep ?_ (by assumption))).mono ?_
      rintro e w1 ⟨rfl, hb1⟩
      have T1 : TriW w1 w.heap.size (.int .i64 x0) (.int .i64 x1) (.slice xa xn xc) := ((TriW.new w _ _ _ _ _ rfl).alloc _).below hb1
      have A1 : Any7 w1 (w.heap.size + 1) := (Any7.new (w.alloc _) _ _ _ _ _ _ _ _ _ (by simp)).below hb1
      have B1 : Below w.heap.size w w1 := (by repeat' first | with_reducible exact Below.refl _ _ | with_reducible assumption | with_reducible refine below_drewN ?_ _ | with_reducible refine balloc ?_ _ | with_reducible refine Below.drew ?_ | with_reducible refine Below.setCell ?_ (by first | (simp; done) | (simp; omega) | omega) _ | with_reducible refine bstep ?_ (by assumption))
      obtain ⟨_, t0, t1, t2, _, _, _⟩ := T1
      clear hb1
      go_wp2_with fail
      refine (IT.out _ B1).mono ?_
      rintro e w2 ⟨rfl, hb2⟩
      have A2 := A1.below hb2
      have B2 := bstep B1 hb2
      have lw := A2.lt
      obtain ⟨⟨u0, z0⟩, ⟨u1, z1⟩, ⟨u2, z2⟩, ⟨u3, z3⟩, ⟨u4, z4⟩, ⟨u5, z5⟩, ⟨u6, z6⟩, f0, f1, f2, f3, f4, f5, f6⟩ := A2.at
      clear hb2 A1 A2 t0 t1 t2
      go_wp2_with fail
      refine bodyPost_ret (v := .tuple #[.agg #[.int .i64 0, .int .i64 0, .slice none 0 0, .slice none 0 0, .slice none 0 0, .slice none 0 0, .bool false], .bool false]) ?_ rfl ⟨w.heap.size, w.heap.size, .slice none 0 0, 0, none, none, none, 0, 0, 0, rfl, ⟨none, 0, rfl, .inl rfl⟩, ⟨rfl, rfl, rfl, .inl rfl⟩, Nat.le_refl _, Nat.le_refl _, ?_, ?_⟩
      · simp [results, Try.results9, go_sem, *]
      · simp [World.setCell]; omega
      · exact (by repeat' first | with_reducible exact Below.refl _ _ | with_reducible assumption | with_reducible refine below_drewN ?_ _ | with_reducible refine balloc ?_ _ | with_reducible refine Below.drew ?_ | with_reducible refine Below.setCell ?_ (by first | (simp; done) | (simp; omega) | omega) _ | with_reducible refine bstep ?_ (by assumption))
    · cases hv

set_option maxHeartbeats 8000000 in
set_option maxRecDepth 40000 in
theorem iEntryOf_yes (a a' : Option Addr) (n cap n' cap' : Nat) (x : It) (xa : Option Addr) (xn xc : Nat) (is : Bool) (w : World) (bk : Option Addr) (bc : Nat) (c1 c2 c3 : Nat → Int)
    (BK : Hid (∀ w1, Below w.heap.size w w1 → Calls Try.prog 25 #[.slice a n cap, .slice a' n' cap'] w1 fun e w' => e = .returned (.bool true) ∧ Below w1.heap.size w1 w'))
    (IT : Hid (∀ w1, Below w.heap.size w w1 → Calls Try.prog 26 #[.agg #[.int .i64 x.id, .int .i64 x.tags, .slice xa xn xc], .int .i64 (n : Int)] w1 fun e w' => e = .returned (.bool true) ∧ Below w1.heap.size w1 w'))
    (CP : Hid (∀ w1, Below w.heap.size w w1 → Calls Try.prog 27 #[.agg #[.int .i64 x.id, .int .i64 x.tags, .slice xa xn xc]] w1 fun e w' => ToV w1 x e w'))
    (LB : Hid (∀ e0 e1 e2 e3 e4 e5 w1, Calls Try.prog 29 #[.agg #[e0, e1, e2, e3, e4, e5, .bool is], .slice a n cap, .slice a' n' cap'] w1 fun e w' => e = .returned (.slice bk n bc) ∧ Below w1.heap.size w1 w'))
    (RO : Hid (∀ w1, Below w.heap.size w w1 → Calls Try.prog 28 #[.slice bk n bc, .slice xa xn xc] w1 fun e w' => IRowA w1 true n c1 c2 c3 e w')) :
    Calls Try.prog 9 #[.slice a n cap, .slice a' n' cap', .agg #[.int .i64 x.id, .int .i64 x.tags, .slice xa xn xc], .bool is] w fun e w' => IEnt w true ⟨x.id, x.tags, x.vec, n, c1, c2, c3, is⟩ e w' := by
  obtain ⟨x0, x1, xs⟩ := x
  simp only at IT CP ⊢
  go_enter Try.func9, Try.ntmps9
  go_wp2_with fail
  refine (BK.out _ (by repeat' first | with_reducible exact Below.refl _ _ | with_reducible assumption | with_reducible refine below_drewN ?_ _ | with_reducible refine balloc ?_ _ | with_reducible refine Below.drew ?_ | with_reducible refine Below.setCell ?_ (by first | (simp; done) | (simp; omega) | omega) _ | with_reducible refine bstep ?_ (by assumption))).mono ?_
  rintro e w1 ⟨rfl, hb1⟩
  have T1 : TriW w1 w.heap.size (.int .i64 x0) (.int .i64 x1) (.slice xa xn xc) := ((TriW.new w _ _ _ _ _ rfl).alloc _).below hb1
  have A1 : Any7 w1 (w.heap.size + 1) := (Any7.new (w.alloc _) _ _ _ _ _ _ _ _ _ (by simp)).below hb1
  have B1 : Below w.heap.size w w1 := (by repeat' first | with_reducible exact Below.refl _ _ | with_reducible assumption | with_reducible refine below_drewN ?_ _ | with_reducible refine balloc ?_ _ | with_reducible refine Below.drew ?_ | with_reducible refine Below.setCell ?_ (by first | (simp; done) | (simp; omega) | omega) _ | with_reducible refine bstep ?_ (by assumption))
  have HT1 := hide T1
  obtain ⟨_, t0, t1, t2, _, _, _⟩ := T1
  clear hb1
  go_wp2_with fail
  refine (IT.out _ B1).mono ?_
  rintro e w2 ⟨rfl, hb2⟩
  have HT2 := hide (HT1.out.below hb2)
  have A2 := hide (A1.below hb2)
  have B2 := bstep B1 hb2
  clear t0 t1 t2 hb2 A1 HT1 B1
  obtain ⟨_, t0, t1, t2, _, _, _⟩ := HT2.out
  go_wp2_with fail
  refine (CP.out _ B2).mono ?_
  rintro e w3 ⟨va, gv, rfl, hva, hb3⟩
  have HV := hide hva
  obtain ⟨ya, yc, rfl, _⟩ := hva
  have HT3 := hide (HT2.out.below hb3)
  have A3 := hide (A2.out.below hb3)
  have B3 := bstep B2 hb3
  have s23 := hb3.size
  have lw3 := A3.out.lt
  have lw2 := A2.out.lt
  clear t0 t1 t2 hb3 A2 HT2
  have ba : Below w3.heap.size w3 (w3.alloc (.cells #[.int .i64 x0, .int .i64 x1, .slice ya xs.length yc, .slice none 0 0, .slice none 0 0, .slice none 0 0, .bool is] 32)).drew := Below.drew (balloc (Below.refl _ _) _)
  have S3 := hide (HT3.out.below ba)
  have B4 := bstep B3 ba
  go_wp2_with fail
  refine wp_region_held_drew (S := fun wx => TriW wx w.heap.size (.int .i64 x0) (.int .i64 x1) (.slice xa xn xc)) (by kernel_rfl) (S3.out) (fun hH0 => ?_)
  refine wpAnyH_take (i := 1) (oi := { dst := some 29, op := _, type := _, pos := _, after := _, guard := _ }) (v := ?_) rfl (by kernel_rfl) (by kernel_rfl) (by kernel_rfl) (fun _ _ _ h => h) (Or.inl ⟨by rfl, ?_⟩) (hH0) ?_
  rotate_left
  · (intro wx hSw; obtain ⟨_, q0, q1, q2, _, _, _⟩ := hSw; go_simp <;> with_reducible rfl)
  simp only [Act.put, List.setIfInBounds_toArray, List.set_cons_zero, List.set_cons_succ]
  refine wpAnyH_take (i := 2) (oi := { dst := some 30, op := _, type := _, pos := _, after := _, guard := _ }) (v := ?_) rfl (by kernel_rfl) (by kernel_rfl) (by kernel_rfl) (fun _ _ _ h => h) (Or.inl ⟨by rfl, ?_⟩) (hH0) ?_
  rotate_left
  · (intro wx hSw; obtain ⟨_, q0, q1, q2, _, _, _⟩ := hSw; go_simp <;> with_reducible rfl)
  simp only [Act.put, List.setIfInBounds_toArray, List.set_cons_zero, List.set_cons_succ]
  refine wpAnyH_take (i := 4) (oi := { dst := some 32, op := _, type := _, pos := _, after := _, guard := _ }) (v := ?_) rfl (by kernel_rfl) (by kernel_rfl) (by kernel_rfl) (fun _ _ _ h => h) (Or.inl ⟨by rfl, ?_⟩) (hH0) ?_
  rotate_left
  · (intro wx hSw; obtain ⟨_, q0, q1, q2, _, _, _⟩ := hSw; go_simp <;> with_reducible rfl)
  simp only [Act.put, List.setIfInBounds_toArray, List.set_cons_zero, List.set_cons_succ]
  refine wpAnyH_take (i := 5) (oi := { dst := some 33, op := _, type := _, pos := _, after := _, guard := _ }) (v := ?_) rfl (by kernel_rfl) (by kernel_rfl) (by kernel_rfl) (fun _ _ _ h => h) (Or.inl ⟨by rfl, ?_⟩) (hH0) ?_
  rotate_left
  · (intro wx hSw; obtain ⟨_, q0, q1, q2, _, _, _⟩ := hSw; go_simp <;> with_reducible rfl)
  simp only [Act.put, List.setIfInBounds_toArray, List.set_cons_zero, List.set_cons_succ]
  -- behind it: go_wp2_with fail, then go_meet (a cut) or go_ret; the condition at the end: hH0
  refine wpAnyH_ready (rs := [0]) (by kernel_rfl) (by simp) ?_
  refine AllReadyH.cons (o := { dst := some 28, op := _, type := _, pos := _, after := _, guard := _ }) rfl (fun K hK => ?_) AllReadyH.nil
  go_simp
  refine hK.out _ _ hH0 (fun hH1 => ?_)
  clear hK K
  refine wpAnyH_ready (rs := [3]) (by kernel_rfl) (by simp) ?_
  refine AllReadyH.cons (o := { dst := some 31, op := _, type := _, pos := _, after := _, guard := _ }) rfl (fun K hK => ?_) AllReadyH.nil
  go_simp
  refine (LB.out _ _ _ _ _ _ _).mono ?_
  rintro e wb ⟨rfl, hbb⟩
  dsimp only
  refine hK.out _ _ (TriW.below hH1 hbb) (fun hH12 => ?_)
  clear hK K
  refine wpAnyH_ready (rs := [6]) (by kernel_rfl) (by simp) ?_
  refine AllReadyH.cons (o := { dst := some 34, op := _, type := _, pos := _, after := _, guard := _ }) rfl (fun K hK => ?_) AllReadyH.nil
  go_simp
  refine (RO.out _ (bstep B4 hbb)).mono ?_
  rintro e wc ⟨m, a1, a2, a3, k1, k2, k3, rfl, hm, o6, hbc⟩
  dsimp only
  refine hK.out _ _ (TriW.below hH12 hbc) (fun hH13 => ?_)
  clear hK K
  refine wpAnyH_take (i := 7) (oi := { dst := some 27, op := _, type := _, pos := _, after := _, guard := _ }) (v := ?_) rfl (by kernel_rfl) (by kernel_rfl) (by kernel_rfl) (fun _ _ _ h => h) (Or.inl ⟨by rfl, ?_⟩) (hH13) ?_
  rotate_left
  · (intro wx hSw; obtain ⟨_, q0, q1, q2, _, _, _⟩ := hSw; go_simp <;> with_reducible rfl)
  simp only [Act.put, List.setIfInBounds_toArray, List.set_cons_zero, List.set_cons_succ]
  refine wpAnyH_take (i := 8) (oi := { dst := some 35, op := _, type := _, pos := _, after := _, guard := _ }) (v := ?_) rfl (by kernel_rfl) (by kernel_rfl) (by kernel_rfl) (fun _ _ _ h => h) (Or.inl ⟨by rfl, ?_⟩) (hH13) ?_
  rotate_left
  · (intro wx hSw; obtain ⟨_, q0, q1, q2, _, _, _⟩ := hSw; go_simp <;> with_reducible rfl)
  simp only [Act.put, List.setIfInBounds_toArray, List.set_cons_zero, List.set_cons_succ]
  refine wpAnyH_take (i := 9) (oi := { dst := some 36, op := _, type := _, pos := _, after := _, guard := _ }) (v := ?_) rfl (by kernel_rfl) (by kernel_rfl) (by kernel_rfl) (fun _ _ _ h => h) (Or.inl ⟨by rfl, ?_⟩) (hH13) ?_
  rotate_left
  · (intro wx hSw; obtain ⟨_, q0, q1, q2, _, _, _⟩ := hSw; go_simp <;> with_reducible rfl)
  simp only [Act.put, List.setIfInBounds_toArray, List.set_cons_zero, List.set_cons_succ]
  refine wpAnyH_take (i := 10) (oi := { dst := some 37, op := _, type := _, pos := _, after := _, guard := _ }) (v := ?_) rfl (by kernel_rfl) (by kernel_rfl) (by kernel_rfl) (fun _ _ _ h => h) (Or.inl ⟨by rfl, ?_⟩) (hH13) ?_
  rotate_left
  · (intro wx hSw; obtain ⟨_, q0, q1, q2, _, _, _⟩ := hSw; go_simp <;> with_reducible rfl)
  simp only [Act.put, List.setIfInBounds_toArray, List.set_cons_zero, List.set_cons_succ]
  -- behind it: go_wp2_with fail, then go_meet (a cut) or go_ret; the condition at the end: hH13
  have hm' : m = n := hm
  clear hm
  subst hm'
  have cz : ∀ i v, i < 7 → (w3.alloc (.cells #[.int .i64 x0, .int .i64 x1, .slice ya xs.length yc, .slice none 0 0, .slice none 0 0, .slice none 0 0, .bool is] 32)).drew.cell? ⟨w3.heap.size, i, none⟩ = some v → wc.cell? ⟨w3.heap.size, i, none⟩ = some v := fun i v _ h => (hbc.cell (p := ⟨w3.heap.size, i, none⟩) (by have := hbb.size; simp at this; show w3.heap.size < _; omega)).trans ((hbb.cell (p := ⟨w3.heap.size, i, none⟩) (by simp)).trans h)
  have fz : ∀ i, i < 7 → (w3.alloc (.cells #[.int .i64 x0, .int .i64 x1, .slice ya xs.length yc, .slice none 0 0, .slice none 0 0, .slice none 0 0, .bool is] 32)).drew.frozen? ⟨w3.heap.size, i, none⟩ = false → wc.frozen? ⟨w3.heap.size, i, none⟩ = false := fun i _ h => (hbc.frozen (p := ⟨w3.heap.size, i, none⟩) (by have := hbb.size; simp at this; show w3.heap.size < _; omega)).trans ((hbb.frozen (p := ⟨w3.heap.size, i, none⟩) (by simp)).trans h)
  have y0 := cz 0 (.int .i64 x0) (by omega) (by simp [go_sem])
  have y1 := cz 1 (.int .i64 x1) (by omega) (by simp [go_sem])
  have y2 := cz 2 (.slice ya xs.length yc) (by omega) (by simp [go_sem])
  have y3 := cz 3 (.slice none 0 0) (by omega) (by simp [go_sem])
  have y4 := cz 4 (.slice none 0 0) (by omega) (by simp [go_sem])
  have y5 := cz 5 (.slice none 0 0) (by omega) (by simp [go_sem])
  have y6 := cz 6 (.bool is) (by omega) (by simp [go_sem])
  have g3 := fz 3 (by omega) (by simp [go_sem])
  have g4 := fz 4 (by omega) (by simp [go_sem])
  have g5 := fz 5 (by omega) (by simp [go_sem])
  have A5 := hide (((A3.out.below ba).below hbb).below hbc)
  have V5 := hide (((HV.out.below ba).below hbb).below hbc)
  have O6 := hide o6
  have B5 := bstep (bstep B4 hbb) hbc
  have zb : w3.heap.size + 1 ≤ wb.heap.size := by have := hbb.size; simpa using this
  have zc := hbc.size
  clear cz fz o6 HV A3 hbb hbc
  refine wpAnyH_ready (rs := [11]) (by kernel_rfl) (by simp) ?_
  refine AllReadyH.cons (o := { dst := none, op := _, type := _, pos := _, after := _, guard := _ }) rfl (fun K hK => ?_) AllReadyH.nil
  go_simp
  refine hK.out _ _ (TriW.away (TriW.away (TriW.away hH13 _ _ (by simp; omega)) _ _ (by simp; omega)) _ _ (by simp; omega)) (fun hH50 => ?_)
  clear hK K
  refine wpAnyH_done (by kernel_rfl) ?_ _
  obtain ⟨⟨u0, z0⟩, ⟨u1, z1⟩, ⟨u2, z2⟩, ⟨u3, z3⟩, ⟨u4, z4⟩, ⟨u5, z5⟩, ⟨u6, z6⟩, f0, f1, f2, f3, f4, f5, f6⟩ := A5.out.at
  have dz : w.heap.size + 1 ≠ w3.heap.size := by omega
  clear B4 S3 ba
  clear hH0 hH1 hH50
  go_wp2_with fail
  refine bodyPost_ret (v := .tuple #[.agg #[.int .i64 x0, .int .i64 x1, .slice ya xs.length yc, .slice a1 m k1, .slice a2 m k2, .slice a3 m k3, .bool is], .bool true]) ?_ rfl ⟨wb.heap.size, wc.heap.size, .slice ya xs.length yc, gv, a1, a2, a3, k1, k2, k3, rfl, ?_, ?_, by omega, zc, ?_, ?_⟩
  · simp [results, Try.results9, go_sem, z0, z1, z2, z3, z4, z5, z6]
  · exact ((((((((((V5.out.set ⟨w3.heap.size, 3, none⟩ (.slice a1 m k1) (by first | (simp; done) | (simp; omega))).set ⟨w3.heap.size, 4, none⟩ (.slice a2 m k2) (by first | (simp; done) | (simp; omega))).set ⟨w3.heap.size, 5, none⟩ (.slice a3 m k3) (by first | (simp; done) | (simp; omega))).set ⟨w.heap.size + 1, 0, none⟩ (.int .i64 x0) (by first | (simp; done) | (simp; omega))).set ⟨w.heap.size + 1, 1, none⟩ (.int .i64 x1) (by first | (simp; done) | (simp; omega))).set ⟨w.heap.size + 1, 2, none⟩ (.slice ya xs.length yc) (by first | (simp; done) | (simp; omega))).set ⟨w.heap.size + 1, 3, none⟩ (.slice a1 m k1) (by first | (simp; done) | (simp; omega))).set ⟨w.heap.size + 1, 4, none⟩ (.slice a2 m k2) (by first | (simp; done) | (simp; omega))).set ⟨w.heap.size + 1, 5, none⟩ (.slice a3 m k3) (by first | (simp; done) | (simp; omega))).set ⟨w.heap.size + 1, 6, none⟩ (.bool is) (by first | (simp; done) | (simp; omega))).mono (by omega) (by omega)
  · exact ((((((((((O6.out.set ⟨w3.heap.size, 3, none⟩ (.slice a1 m k1) (by first | (simp; done) | (simp; omega))).set ⟨w3.heap.size, 4, none⟩ (.slice a2 m k2) (by first | (simp; done) | (simp; omega))).set ⟨w3.heap.size, 5, none⟩ (.slice a3 m k3) (by first | (simp; done) | (simp; omega))).set ⟨w.heap.size + 1, 0, none⟩ (.int .i64 x0) (by first | (simp; done) | (simp; omega))).set ⟨w.heap.size + 1, 1, none⟩ (.int .i64 x1) (by first | (simp; done) | (simp; omega))).set ⟨w.heap.size + 1, 2, none⟩ (.slice ya xs.length yc) (by first | (simp; done) | (simp; omega))).set ⟨w.heap.size + 1, 3, none⟩ (.slice a1 m k1) (by first | (simp; done) | (simp; omega))).set ⟨w.heap.size + 1, 4, none⟩ (.slice a2 m k2) (by first | (simp; done) | (simp; omega))).set ⟨w.heap.size + 1, 5, none⟩ (.slice a3 m k3) (by first | (simp; done) | (simp; omega))).set ⟨w.heap.size + 1, 6, none⟩ (.bool is) (by first | (simp; done) | (simp; omega)))
  · simp [World.setCell]
  · exact ((((((((((B5.setCell (p := ⟨w3.heap.size, 3, none⟩) (by first | (simp; done) | (simp; omega)) (.slice a1 m k1)).setCell (p := ⟨w3.heap.size, 4, none⟩) (by first | (simp; done) | (simp; omega)) (.slice a2 m k2)).setCell (p := ⟨w3.heap.size, 5, none⟩) (by first | (simp; done) | (simp; omega)) (.slice a3 m k3)).setCell (p := ⟨w.heap.size + 1, 0, none⟩) (by first | (simp; done) | (simp; omega)) (.int .i64 x0)).setCell (p := ⟨w.heap.size + 1, 1, none⟩) (by first | (simp; done) | (simp; omega)) (.int .i64 x1)).setCell (p := ⟨w.heap.size + 1, 2, none⟩) (by first | (simp; done) | (simp; omega)) (.slice ya xs.length yc)).setCell (p := ⟨w.heap.size + 1, 3, none⟩) (by first | (simp; done) | (simp; omega)) (.slice a1 m k1)).setCell (p := ⟨w.heap.size + 1, 4, none⟩) (by first | (simp; done) | (simp; omega)) (.slice a2 m k2)).setCell (p := ⟨w.heap.size + 1, 5, none⟩) (by first | (simp; done) | (simp; omega)) (.slice a3 m k3)).setCell (p := ⟨w.heap.size + 1, 6, none⟩) (by first | (simp; done) | (simp; omega)) (.bool is))

theorem iEntryOf_any (a a' : Option Addr) (n cap n' cap' : Nat) (f g f' g' : Nat → Int) (x : It) (xa : Option Addr) (xn xc : Nat) (is : Bool) (w : World) (h : PRow w a n f g) (h' : PRow w a' n' f' g') (hx : Row w xa xn x.vec) (hxn : xn ≤ 1048576) :
    Calls Try.prog 9 #[.slice a n cap, .slice a' n' cap', .agg #[.int .i64 x.id, .int .i64 x.tags, .slice xa xn xc], .bool is] w fun e w' => IEnt w (entB n f g n' f' g' x) (entOf (entB n f g n' f' g' x) n f g f' g' x is) e w' := by
  have BK := hide (fun w1 (hb : Below w.heap.size w w1) => boxesAlike_any a a' n cap n' cap' f g f' g' w1 (h.below hb) (h'.below hb))
  have IT := hide (fun w1 (hb : Below w.heap.size w w1) => fits_any (n : Int) x xa xn xc w1 (hx.below hb) hxn)
  cases hv : entB n f g n' f' g' x
  · exact iEntryOf_no a a' n cap n' cap' x xa xn xc is _ _ w _ ⟨rfl, rfl, rfl, rfl, rfl⟩ hv BK IT
  · have hv' := hv
    simp only [entB, Bool.and_eq_true] at hv'
    obtain ⟨hA, hI⟩ := hv'
    rw [hA] at BK
    rw [hI] at IT
    simp only [alikeB, Bool.and_eq_true, decide_eq_true_eq] at hA
    obtain ⟨⟨hB, hB'⟩, rfl⟩ := hA
    have hI' := hI
    simp only [itemB, Bool.and_eq_true, decide_eq_true_eq] at hI'
    have hxl := hx.len
    obtain rfl : xn = n := by omega
    have CP := hide (fun w1 (hb : Below w.heap.size w w1) => copied_any x xa xn xc w1 (hx.below hb) hxn)
    have RO := hide (fun w1 (hb : Below w.heap.size w w1) => iRowOf_any a xa xn cap xn xc f g x.vec w1 (h.below hb) (hx.below hb) hxn)
    have RO' := hide (fun w1 (hb : Below w.heap.size w w1) => iRowOf_any a' xa xn cap' xn xc f' g' x.vec w1 (h'.below hb) (hx.below hb) hxn)
    rw [show formB xn f g xn x.vec = true from by unfold formB; rw [hB, hI'.1.2, decide_eq_true rfl]; rfl] at RO
    rw [show formB xn f' g' xn x.vec = true from by unfold formB; rw [hB', hI'.1.2, decide_eq_true rfl]; rfl] at RO'
    cases is
    · exact iEntryOf_yes _ _ xn cap xn cap' x _ xn xc false w a cap _ _ _ BK IT CP (hide fun e0 e1 e2 e3 e4 e5 w1 => bookOf_any e0 e1 e2 e3 e4 e5 _ _ false w1 ⟨_, _, _, rfl⟩ ⟨_, _, _, rfl⟩) RO
    · exact iEntryOf_yes _ _ xn cap xn cap' x _ xn xc true w a' cap' _ _ _ BK IT CP (hide fun e0 e1 e2 e3 e4 e5 w1 => bookOf_any e0 e1 e2 e3 e4 e5 _ _ true w1 ⟨_, _, _, rfl⟩ ⟨_, _, _, rfl⟩) RO'
end Go.Proofs.Ytkogkgdoebdmgaa
