/- hitAt and CandOf of the program. -/
import Derived.Test.YtbeakenblppngaaZ22
import Derived.Test.YtbeakenblppngaaZ20
import Derived.Test.YtbeakenblppngaaZ9
import Derived.Test.YtbeakenblppngaaZ6
import Derived.Test.YtbeakenblppngaaZ10
import Derived.Test.YtbeakenblppngaaZ23
import Derived.Test.YtbeakenblppngaaZ12
namespace Go.Proofs.Ytbeakenblppngaa
open Go.RowKit
set_option maxRecDepth 8000
set_option linter.unusedSimpArgs false
set_option linter.unusedVariables false

theorem prow_bx {w : World} {B : Nat} {a : Option Addr} {m : Nat} {F G : Nat → Int} {w' : World} (h : m = 0 ∨ ∃ b, a = some ⟨b, 0, none⟩ ∧ B ≤ b ∧ b < w'.heap.size ∧ OwnP w' b m F G) : PRow w' a m F G := by
  rcases h with h0 | ⟨b, rfl, _, _, ho⟩
  · exact ⟨.inl h0⟩
  · exact ho.prow
/-- An entry's hit at a tier, in its book. -/
def lowH (n : Nat) (F G : Nat → Int) (x : En) (m : Nat) (qs : List Int) (t : Int) : Int := if formB n (boxF F G t (tierL t x.r1 x.r2 x.r3)) (boxG F G t (tierL t x.r1 x.r2 x.r3)) m qs then leastN n (boxF F G t (tierL t x.r1 x.r2 x.r3)) (boxG F G t (tierL t x.r1 x.r2 x.r3)) qs else -1
def highH (n : Nat) (F G : Nat → Int) (x : En) (m : Nat) (qs : List Int) (t : Int) : Int := if formB n (boxF F G t (tierL t x.r1 x.r2 x.r3)) (boxG F G t (tierL t x.r1 x.r2 x.r3)) m qs then mostN n (boxF F G t (tierL t x.r1 x.r2 x.r3)) (boxG F G t (tierL t x.r1 x.r2 x.r3)) qs else -1
/-- An entry in its box, the answer's box. -/
structure HtB (w0 : World) (x : Int) (w : World) : Prop where
  lt : w0.heap.size < w.heap.size
  c0 : w.cell? ⟨w0.heap.size, 0, none⟩ = some (.int .i64 x)
  res : ∃ F, w.rowIs (w0.heap.size + 1) 33 3 F
  bel : Below w0.heap.size w0 w

theorem HtB.below {w0 w w' : World} {x : Int} (h : HtB w0 x w) (hb : Below w.heap.size w w') : HtB w0 x w' :=
  ⟨Nat.lt_of_lt_of_le h.lt hb.size, (hb.cell (p := ⟨w0.heap.size, 0, none⟩) h.lt).trans h.c0, (by obtain ⟨F, hF⟩ := h.res; exact ⟨F, hF.of_block (hb.block _ (World.rowIs.lt hF))⟩), bstep h.bel hb⟩

theorem HtB.set3 {w0 w : World} {x : Int} (h : HtB w0 x w) (u0 u1 u2 : Value) : HtB w0 x (((w.setCell ⟨w0.heap.size + 1, 0, none⟩ u0).setCell ⟨w0.heap.size + 1, 1, none⟩ u1).setCell ⟨w0.heap.size + 1, 2, none⟩ u2) := by
  have bb : But (w0.heap.size + 1) w (((w.setCell ⟨w0.heap.size + 1, 0, none⟩ u0).setCell ⟨w0.heap.size + 1, 1, none⟩ u1).setCell ⟨w0.heap.size + 1, 2, none⟩ u2) := (((But.refl _ w).setCell 0 _).setCell 1 _).setCell 2 _
  obtain ⟨F, hF⟩ := h.res
  exact ⟨Nat.lt_of_lt_of_le h.lt bb.size, (bb.cell (p := ⟨w0.heap.size, 0, none⟩) h.lt (by show w0.heap.size ≠ _; omega)).trans h.c0, ⟨_, World.rowIs.set (World.rowIs.set (World.rowIs.set hF 0 u0) 1 u1) 2 u2⟩, ((h.bel.setCell (Nat.le_succ _) _).setCell (Nat.le_succ _) _).setCell (Nat.le_succ _) _⟩

set_option maxHeartbeats 4000000 in
set_option maxRecDepth 4000 in
theorem hitAt_any (x : En) (va : Option Addr) (vn vc : Nat) (r : RowV) (a : Option Addr) (n cap : Nat) (F G : Nat → Int) (qa : Option Addr) (qn qc : Nat) (qs : List Int) (t : Int) (w : World) (h : PRow w a n F G) (hr : r.is w x.r1 x.r2 x.r3) (hq : Row w qa qn qs) (hqn : qn ≤ 1048576) (hok : (rowOkB n F G x.r1 x.r2 x.r3 && tierB t) = true) :
    Calls Try.prog 28 #[.agg #[.int .i64 x.it.id, .int .i64 x.it.tags, .slice va vn vc, .slice r.a1 r.m1 r.k1, .slice r.a2 r.m2 r.k2, .slice r.a3 r.m3 r.k3, .bool x.is], .slice a n cap, .slice qa qn qc, .int .i64 t] w fun e w' => e = .returned (.agg #[.int .i64 x.it.id, .int .i64 (lowH n F G x qn qs t), .int .i64 (highH n F G x qn qs t)]) ∧ Below w.heap.size w w' := by
  have BO := hide (fun w1 (hb : Below w.heap.size w w1) => iBoxOf_any a n cap F G r x.r1 x.r2 x.r3 t w1 (h.below hb) (hr.below hb))
  unfold IBox RowV.v at BO
  simp only [hok, if_true] at BO
  have HQ := hide hq
  have S0 : Hid (Sev ((w.alloc (.cells #[.int .i64 x.it.id, .int .i64 x.it.tags, .slice va vn vc, .slice r.a1 r.m1 r.k1, .slice r.a2 r.m2 r.k2, .slice r.a3 r.m3 r.k3, .bool x.is] 41)).alloc (.cells #[.int .i64 0, .int .i64 0, .int .i64 0] 33)) w.heap.size (.int .i64 x.it.id) (.int .i64 x.it.tags) (.slice va vn vc) (.slice r.a1 r.m1 r.k1) (.slice r.a2 r.m2 r.k2) (.slice r.a3 r.m3 r.k3) (.bool x.is)) := hide
    ((Sev.new _ _ _ _ _ _ _ _ _ _ rfl).below (balloc (Below.refl _ _) _))
  have R0 : Hid (((w.alloc (.cells #[.int .i64 x.it.id, .int .i64 x.it.tags, .slice va vn vc, .slice r.a1 r.m1 r.k1, .slice r.a2 r.m2 r.k2, .slice r.a3 r.m3 r.k3, .bool x.is] 41)).alloc (.cells #[.int .i64 0, .int .i64 0, .int .i64 0] 33)).rowIs (w.heap.size + 1) 33 3 (f3 0 0 0)) := hide (by
    simpa using f3_new (w.alloc (.cells #[.int .i64 x.it.id, .int .i64 x.it.tags, .slice va vn vc, .slice r.a1 r.m1 r.k1, .slice r.a2 r.m2 r.k2, .slice r.a3 r.m3 r.k3, .bool x.is] 41)) 0 0 0 33)
  have B0 : Hid (Below w.heap.size w ((w.alloc (.cells #[.int .i64 x.it.id, .int .i64 x.it.tags, .slice va vn vc, .slice r.a1 r.m1 r.k1, .slice r.a2 r.m2 r.k2, .slice r.a3 r.m3 r.k3, .bool x.is] 41)).alloc (.cells #[.int .i64 0, .int .i64 0, .int .i64 0] 33))) := hide (balloc (balloc (Below.refl _ _) _) _)
  clear h hr hq hok
  obtain ⟨z0, z1, z2, z3, z4, z5, z6, z7⟩ := S0.out
  go_enter Try.func28, Try.ntmps28
  go_wp2_with fail
  refine (BO.out _ B0.out).mono ?_
  rintro e w1 ⟨ba, m, rfl, hm, hbx, hb1⟩
  subst hm
  have H1 : Hid (HtB w x.it.id w1) := hide ⟨Nat.lt_of_lt_of_le z0 hb1.size, (hb1.cell (p := ⟨w.heap.size, 0, none⟩) z0).trans z1, ⟨_, R0.out.of_block (hb1.block _ (World.rowIs.lt R0.out))⟩, bstep B0.out hb1⟩
  have PB : Hid (PRow w1 ba m (boxF F G t (tierL t x.r1 x.r2 x.r3)) (boxG F G t (tierL t x.r1 x.r2 x.r3))) := hide (prow_bx (w := w) hbx)
  have LO := hide (fun w2 (hb : Below w1.heap.size w1 w2) => iLowOf_any ba qa m m qn qc _ _ qs w2 (PB.out.below hb) ((HQ.out.below B0.out).below (bstep hb1 hb)) hqn)
  have HI := hide (fun w2 (hb : Below w1.heap.size w1 w2) => iHighOf_any ba qa m m qn qc _ _ qs w2 (PB.out.below hb) ((HQ.out.below B0.out).below (bstep hb1 hb)) hqn)
  have HLO : Hid ((if formB m (boxF F G t (tierL t x.r1 x.r2 x.r3)) (boxG F G t (tierL t x.r1 x.r2 x.r3)) qn qs then leastN m (boxF F G t (tierL t x.r1 x.r2 x.r3)) (boxG F G t (tierL t x.r1 x.r2 x.r3)) qs else -1) = lowH m F G x qn qs t) := hide rfl
  have HHI : Hid ((if formB m (boxF F G t (tierL t x.r1 x.r2 x.r3)) (boxG F G t (tierL t x.r1 x.r2 x.r3)) qn qs then mostN m (boxF F G t (tierL t x.r1 x.r2 x.r3)) (boxG F G t (tierL t x.r1 x.r2 x.r3)) qs else -1) = highH m F G x qn qs t) := hide rfl
  simp only [HLO.out] at LO
  simp only [HHI.out] at HI
  obtain ⟨lo, hlo⟩ : ∃ lo, lowH m F G x qn qs t = lo := ⟨_, rfl⟩
  obtain ⟨hi, hhi⟩ : ∃ hi, highH m F G x qn qs t = hi := ⟨_, rfl⟩
  rw [hlo] at LO
  rw [hhi] at HI
  have EL' := hide hlo
  have EH := hide hhi
  clear hlo hhi hbx hb1 BO S0 R0 B0 z0 z1 z2 z3 z4 z5 z6 z7 HLO HHI PB HQ
  go_wp2_with fail
  refine wp_region_held_drew (S := fun wx => HtB w x.it.id wx) (by kernel_rfl) ((H1.out.below (Below.drew (Below.refl _ _)))) (fun hH0 => ?_)
  refine wpAnyH_take (i := 0) (oi := { dst := some 19, op := _, type := _, pos := _, after := _, guard := _ }) (v := ?_) rfl (by kernel_rfl) (by kernel_rfl) (by kernel_rfl) (fun _ _ _ h => h) (Or.inl ⟨by rfl, ?_⟩) (hH0) ?_
  rotate_left
  · (intro wx hSw; obtain ⟨lt, c0, _, _⟩ := hSw; go_simp <;> with_reducible rfl)
  simp only [Act.put, List.setIfInBounds_toArray, List.set_cons_zero, List.set_cons_succ]
  refine wpAnyH_take (i := 1) (oi := { dst := some 20, op := _, type := _, pos := _, after := _, guard := _ }) (v := ?_) rfl (by kernel_rfl) (by kernel_rfl) (by kernel_rfl) (fun _ _ _ h => h) (Or.inl ⟨by rfl, ?_⟩) (hH0) ?_
  rotate_left
  · (intro wx hSw; obtain ⟨lt, c0, _, _⟩ := hSw; go_simp <;> with_reducible rfl)
  simp only [Act.put, List.setIfInBounds_toArray, List.set_cons_zero, List.set_cons_succ]
  refine wpAnyH_take (i := 2) (oi := { dst := some 21, op := _, type := _, pos := _, after := _, guard := _ }) (v := ?_) rfl (by kernel_rfl) (by kernel_rfl) (by kernel_rfl) (fun _ _ _ h => h) (Or.inl ⟨by rfl, ?_⟩) (hH0) ?_
  rotate_left
  · (intro wx hSw; obtain ⟨lt, c0, _, _⟩ := hSw; go_simp <;> with_reducible rfl)
  simp only [Act.put, List.setIfInBounds_toArray, List.set_cons_zero, List.set_cons_succ]
  refine wpAnyH_take (i := 3) (oi := { dst := some 22, op := _, type := _, pos := _, after := _, guard := _ }) (v := ?_) rfl (by kernel_rfl) (by kernel_rfl) (by kernel_rfl) (fun _ _ _ h => h) (Or.inl ⟨by rfl, ?_⟩) (hH0) ?_
  rotate_left
  · (intro wx hSw; obtain ⟨lt, c0, _, _⟩ := hSw; go_simp <;> with_reducible rfl)
  simp only [Act.put, List.setIfInBounds_toArray, List.set_cons_zero, List.set_cons_succ]
  refine wpAnyH_take (i := 4) (oi := { dst := some 23, op := _, type := _, pos := _, after := _, guard := _ }) (v := ?_) rfl (by kernel_rfl) (by kernel_rfl) (by kernel_rfl) (fun _ _ _ h => h) (Or.inl ⟨by rfl, ?_⟩) (hH0) ?_
  rotate_left
  · (intro wx hSw; obtain ⟨lt, c0, _, _⟩ := hSw; go_simp <;> with_reducible rfl)
  simp only [Act.put, List.setIfInBounds_toArray, List.set_cons_zero, List.set_cons_succ]
  refine wpAnyH_take (i := 6) (oi := { dst := some 25, op := _, type := _, pos := _, after := _, guard := _ }) (v := ?_) rfl (by kernel_rfl) (by kernel_rfl) (by kernel_rfl) (fun _ _ _ h => h) (Or.inl ⟨by rfl, ?_⟩) (hH0) ?_
  rotate_left
  · (intro wx hSw; obtain ⟨lt, c0, _, _⟩ := hSw; go_simp <;> with_reducible rfl)
  simp only [Act.put, List.setIfInBounds_toArray, List.set_cons_zero, List.set_cons_succ]
  refine wpAnyH_take (i := 7) (oi := { dst := some 26, op := _, type := _, pos := _, after := _, guard := _ }) (v := ?_) rfl (by kernel_rfl) (by kernel_rfl) (by kernel_rfl) (fun _ _ _ h => h) (Or.inl ⟨by rfl, ?_⟩) (hH0) ?_
  rotate_left
  · (intro wx hSw; obtain ⟨lt, c0, _, _⟩ := hSw; go_simp <;> with_reducible rfl)
  simp only [Act.put, List.setIfInBounds_toArray, List.set_cons_zero, List.set_cons_succ]
  refine wpAnyH_ready (rs := [5]) (by kernel_rfl) (by simp) ?_
  refine AllReadyH.cons (o := { dst := some 24, op := _, type := _, pos := _, after := _, guard := _ }) rfl (fun K hK => ?_) AllReadyH.nil
  go_simp
  refine (LO.out _ (Below.drew (Below.refl _ _))).mono ?_
  rintro e w5 ⟨rfl, hb5⟩
  dsimp only
  refine hK.out _ _ (HtB.below hH0 hb5) (fun hH1 => ?_)
  clear hK K
  refine wpAnyH_ready (rs := [8]) (by kernel_rfl) (by simp) ?_
  refine AllReadyH.cons (o := { dst := some 27, op := _, type := _, pos := _, after := _, guard := _ }) rfl (fun K hK => ?_) AllReadyH.nil
  go_simp
  refine (HI.out _ (bstep (Below.drew (Below.refl _ _)) hb5)).mono ?_
  rintro e w6 ⟨rfl, hb6⟩
  dsimp only
  refine hK.out _ _ (HtB.below hH1 hb6) (fun hH2 => ?_)
  clear hK K
  refine wpAnyH_take (i := 9) (oi := { dst := some 28, op := _, type := _, pos := _, after := _, guard := _ }) (v := ?_) rfl (by kernel_rfl) (by kernel_rfl) (by kernel_rfl) (fun _ _ _ h => h) (Or.inl ⟨by rfl, ?_⟩) (hH2) ?_
  rotate_left
  · (intro wx hSw; obtain ⟨lt, c0, _, _⟩ := hSw; go_simp <;> with_reducible rfl)
  simp only [Act.put, List.setIfInBounds_toArray, List.set_cons_zero, List.set_cons_succ]
  -- behind it: go_wp2_with fail, then go_meet (a cut) or go_ret; the condition at the end: hH2
  obtain ⟨FF, hFF⟩ := hH2.res
  have R6 := hide hFF
  have B6 := hide hH2.bel
  have lr := World.rowIs.lt hFF
  have r0 := World.rowIs.cell hFF (show 0 < 3 by omega)
  have r1 := World.rowIs.cell hFF (show 1 < 3 by omega)
  have r2 := World.rowIs.cell hFF (show 2 < 3 by omega)
  have f0 := World.rowIs.frozen hFF 0
  have f1 := World.rowIs.frozen hFF 1
  have f2 := World.rowIs.frozen hFF 2
  clear hFF hH0 hH1 LO HI H1
  generalize FF 0 = y0 at r0
  generalize FF 1 = y1 at r1
  generalize FF 2 = y2 at r2
  refine wpAnyH_ready (rs := [10]) (by kernel_rfl) (by simp) ?_
  refine AllReadyH.cons (o := { dst := none, op := _, type := _, pos := _, after := _, guard := _ }) rfl (fun K hK => ?_) AllReadyH.nil
  go_simp
  refine hK.out _ _ (hH2.set3 _ _ _) (fun hH3 => ?_)
  clear hK K
  refine wpAnyH_done (by kernel_rfl) ?_ _
  clear hH2 hH3 r0 r1 r2 f0 f1 f2
  obtain ⟨e0, e1, e2⟩ := three_set R6.out (.int .i64 x.it.id) (.int .i64 lo) (.int .i64 hi)
  go_wp2_with fail
  refine bodyPost_ret (v := .agg #[.int .i64 x.it.id, .int .i64 lo, .int .i64 hi]) (by simp [results, Try.results28, go_sem, e0, e1, e2]) rfl ⟨by rw [EL'.out, EH.out], ?_⟩
  exact ((B6.out.setCell (Nat.le_succ _) _).setCell (Nat.le_succ _) _).setCell (Nat.le_succ _) _
end Go.Proofs.Ytbeakenblppngaa

/- CandOf of the program. -/
namespace Go.Proofs.Ytbeakenblppngaa
open Go.RowKit
set_option maxRecDepth 8000
set_option linter.unusedSimpArgs false
set_option linter.unusedVariables false

def candB (n : Nat) (f g : Nat → Int) (n' : Nat) (f' g' : Nat → Int) (x : En) (m : Nat) (qs : List Int) (t : Int) : Bool := entryB n f g n' f' g' x && (formB n f g m qs && tierB t)
/-- The hit that CandOf tells. -/
def candV (ok : Bool) (n : Nat) (f g f' g' : Nat → Int) (x : En) (m : Nat) (qs : List Int) (t : Int) : Value :=
  .tuple #[.agg #[.int .i64 (if ok then x.it.id else 0), .int .i64 (if ok then lowH n (bkF x.is f f') (bkF x.is g g') x m qs t else 0), .int .i64 (if ok then highH n (bkF x.is f f') (bkF x.is g g') x m qs t else 0)], .bool ok]

theorem entryB_alike {n n' : Nat} {f g f' g' : Nat → Int} {x : En} (h : entryB n f g n' f' g' x = true) : alikeB n f g n' f' g' = true := by
  unfold entryB entB at h
  simp only [Bool.and_eq_true] at h
  exact h.1.1

theorem entsP_entry (n : Nat) (f g : Nat → Int) (n' : Nat) (f' g' : Nat → Int) (x : En) : entsP n f g n' f' g' 1 (fun _ => x) = entryB n f g n' f' g' x := by
  cases h : alikeB n f g n' f' g'
  · rw [entsP_no h]
    cases q : entryB n f g n' f' g' x
    · rfl
    · exact absurd ((entryB_alike q).symm.trans h) (by decide)
  · exact entsP_one h

theorem entry_row {n n' : Nat} {f g f' g' : Nat → Int} {x : En} (h : entryB n f g n' f' g' x = true) : n = n' ∧ rowOkB n (bkF x.is f f') (bkF x.is g g') x.r1 x.r2 x.r3 = true := by
  have ha := entryB_alike h
  have h' := h
  unfold entryB entB at h
  simp only [Bool.and_eq_true] at h
  have e := inRow_same ha h.1.2
  rw [h.2] at e
  unfold inRow rowInB at e
  simp only [Bool.and_eq_true] at e
  refine ⟨?_, e.1⟩
  unfold alikeB at ha
  simp only [Bool.and_eq_true, decide_eq_true_eq] at ha
  exact ha.2

theorem hitAt_book (x : En) (va : Option Addr) (vn vc : Nat) (r : RowV) (a a' : Option Addr) (n cap cap' : Nat) (f g f' g' : Nat → Int) (qa : Option Addr) (qn qc : Nat) (qs : List Int) (t : Int) (w : World) (h : PRow w a n f g) (h' : PRow w a' n f' g') (hr : r.is w x.r1 x.r2 x.r3) (hq : Row w qa qn qs) (hqn : qn ≤ 1048576) (hok : (rowOkB n (bkF x.is f f') (bkF x.is g g') x.r1 x.r2 x.r3 && tierB t) = true) :
    Calls Try.prog 28 #[.agg #[.int .i64 x.it.id, .int .i64 x.it.tags, .slice va vn vc, .slice r.a1 r.m1 r.k1, .slice r.a2 r.m2 r.k2, .slice r.a3 r.m3 r.k3, .bool x.is], if x.is then .slice a' n cap' else .slice a n cap, .slice qa qn qc, .int .i64 t] w fun e w' => e = .returned (.agg #[.int .i64 x.it.id, .int .i64 (lowH n (bkF x.is f f') (bkF x.is g g') x qn qs t), .int .i64 (highH n (bkF x.is f f') (bkF x.is g g') x qn qs t)]) ∧ Below w.heap.size w w' := by
  cases hi : x.is
  · rw [hi] at hok
    have := hitAt_any x va vn vc r a n cap f g qa qn qc qs t w h hr hq hqn hok
    rw [hi] at this
    exact this
  · rw [hi] at hok
    have := hitAt_any x va vn vc r a' n cap' f' g' qa qn qc qs t w h' hr hq hqn hok
    rw [hi] at this
    exact this

theorem EBx.set3 {w0 w : World} {q p : Nat} {v0 v1 v2 v3 v4 v5 v6 : Value} (h : EBx w0 q v0 v1 v2 v3 v4 v5 v6 w) (hp : w0.heap.size ≤ p) (hne : q ≠ p) (u0 u1 u2 : Value) : EBx w0 q v0 v1 v2 v3 v4 v5 v6 (((w.setCell ⟨p, 0, none⟩ u0).setCell ⟨p, 1, none⟩ u1).setCell ⟨p, 2, none⟩ u2) := by
  have bb : But p w (((w.setCell ⟨p, 0, none⟩ u0).setCell ⟨p, 1, none⟩ u1).setCell ⟨p, 2, none⟩ u2) := (((But.refl _ w).setCell 0 _).setCell 1 _).setCell 2 _
  have r : ∀ j, (((w.setCell ⟨p, 0, none⟩ u0).setCell ⟨p, 1, none⟩ u1).setCell ⟨p, 2, none⟩ u2).cell? ⟨q, j, none⟩ = w.cell? ⟨q, j, none⟩ := fun j => bb.cell (p := ⟨q, j, none⟩) h.lt hne
  exact ⟨Nat.lt_of_lt_of_le h.lt bb.size, (r 0).trans h.c0, (r 1).trans h.c1, (r 2).trans h.c2, (r 3).trans h.c3, (r 4).trans h.c4, (r 5).trans h.c5, (r 6).trans h.c6, ((h.bel.setCell hp _).setCell hp _).setCell hp _⟩

set_option maxHeartbeats 8000000 in
set_option maxRecDepth 4000 in
theorem iCandOf_any (a a' : Option Addr) (n cap n' cap' : Nat) (f g f' g' : Nat → Int) (x : En) (va : Option Addr) (vn vc : Nat) (r : RowV) (qa : Option Addr) (qn qc : Nat) (qs : List Int) (t : Int) (w : World) (h : PRow w a n f g) (h' : PRow w a' n' f' g') (hx : Row w va vn x.it.vec) (hr : r.is w x.r1 x.r2 x.r3) (hq : Row w qa qn qs) (hqn : qn ≤ 1048576) (hvn : vn ≤ 1048576) :
    Calls Try.prog 10 #[.slice a n cap, .slice a' n' cap', .agg #[.int .i64 x.it.id, .int .i64 x.it.tags, .slice va vn vc, .slice r.a1 r.m1 r.k1, .slice r.a2 r.m2 r.k2, .slice r.a3 r.m3 r.k3, .bool x.is], .slice qa qn qc, .int .i64 t] w fun e w' => e = .returned (candV (candB n f g n' f' g' x qn qs t) n f g f' g' x qn qs t) ∧ Below w.heap.size w w' := by
  have IE := hide (fun b w1 (hb : Below w.heap.size w w1) (hl : ERow w1 (some ⟨b, 0, none⟩) 1 (fun _ => x)) => iEntriesOk_any a a' n cap n' cap' f g f' g' (some ⟨b, 0, none⟩) 1 1 (fun _ => x) w1 (h.below hb) (h'.below hb) hl (by omega) (fun _ _ => by rw [hx.len]; exact hvn))
  rw [entsP_entry] at IE
  have BF := hide (fun w1 (hb : Below w.heap.size w w1) => boxFits_any a qa n cap qn qc f g qs w1 (h.below hb) (hq.below hb) hqn)
  have CL := hide (fun w1 => iCellsOf_any t w1)
  have HX := hide (fun w1 (hb : Below w.heap.size w w1) => hx.below hb)
  have HR := hide (fun w1 (hb : Below w.heap.size w w1) => hr.below hb)
  have HA := hide (fun w1 (hb : Below w.heap.size w w1) (e : n = n') ho => hitAt_book x va vn vc r a a' n cap cap' f g f' g' qa qn qc qs t w1 (h.below hb) (by subst e; exact h'.below hb) (hr.below hb) (hq.below hb) hqn ho)
  have ER := hide (fun (q : entryB n f g n' f' g' x = true) => entry_row q)
  obtain ⟨W0, hW0⟩ : ∃ W0, (w.alloc (.cells #[.int .i64 x.it.id, .int .i64 x.it.tags, .slice va vn vc, .slice r.a1 r.m1 r.k1, .slice r.a2 r.m2 r.k2, .slice r.a3 r.m3 r.k3, .bool x.is] 41)).alloc (.cells #[.int .i64 0, .int .i64 0, .int .i64 0] 33) = W0 := ⟨_, rfl⟩
  have B0 : Hid (Below w.heap.size w W0) := hide (by rw [← hW0]; exact balloc (balloc (Below.refl _ _) _) _)
  have Q0 : Hid (EBx w w.heap.size (.int .i64 x.it.id) (.int .i64 x.it.tags) (.slice va vn vc) (.slice r.a1 r.m1 r.k1) (.slice r.a2 r.m2 r.k2) (.slice r.a3 r.m3 r.k3) (.bool x.is) W0) := hide (by
    rw [← hW0]
    have s := (Sev.new w (.int .i64 x.it.id) (.int .i64 x.it.tags) (.slice va vn vc) (.slice r.a1 r.m1 r.k1) (.slice r.a2 r.m2 r.k2) (.slice r.a3 r.m3 r.k3) (.bool x.is) 41 w.heap.size rfl).below (balloc (Below.refl _ _) (.cells #[.int .i64 0, .int .i64 0, .int .i64 0] 33))
    obtain ⟨z0, z1, z2, z3, z4, z5, z6, z7⟩ := s
    exact ⟨z0, z1, z2, z3, z4, z5, z6, z7, balloc (balloc (Below.refl _ _) _) _⟩)
  have R0 : Hid (W0.rowIs (w.heap.size + 1) 33 3 (f3 0 0 0)) := hide (by
    rw [← hW0]
    simpa using f3_new (w.alloc (.cells #[.int .i64 x.it.id, .int .i64 x.it.tags, .slice va vn vc, .slice r.a1 r.m1 r.k1, .slice r.a2 r.m2 r.k2, .slice r.a3 r.m3 r.k3, .bool x.is] 41)) 0 0 0 33)
  have NB : Hid (Below W0.heap.size W0 (W0.alloc (.cells #[.int .i64 x.it.id, .int .i64 x.it.tags, .slice va vn vc, .slice r.a1 r.m1 r.k1, .slice r.a2 r.m2 r.k2, .slice r.a3 r.m3 r.k3, .bool x.is] 41))) := hide (balloc (Below.refl _ _) _)
  have EW : Hid (ERow (W0.alloc (.cells #[.int .i64 x.it.id, .int .i64 x.it.tags, .slice va vn vc, .slice r.a1 r.m1 r.k1, .slice r.a2 r.m2 r.k2, .slice r.a3 r.m3 r.k3, .bool x.is] 41)) (some ⟨W0.heap.size, 0, none⟩) 1 (fun _ => x)) := hide
    ⟨.inr ⟨W0.heap.size, 0, rfl, by simp, fun i hi => by
      obtain rfl : i = 0 := by omega
      have bb := bstep B0.out NB.out
      exact ⟨by simp, by simp, ⟨va, vn, vc, by simp, HX.out _ bb⟩, ⟨r, by simp, by simp, by simp, HR.out _ bb⟩, by simp⟩⟩⟩
  have I1 := hide (IE.out W0.heap.size _ (bstep B0.out NB.out) EW.out)
  clear h h' hx hr hq IE EW HX HR
  obtain ⟨p0, p1, p2, p3, p4, p5, p6, p7, _⟩ := Q0.out
  cases hE : entryB n f g n' f' g' x
  · rw [hE] at I1
    have HC := hide (show candB n f g n' f' g' x qn qs t = false from by unfold candB; rw [hE]; rfl)
    clear hE ER HA BF CL
    go_enter Try.func10, Try.ntmps10
    go_wp2_with fail
    refine I1.out.mono ?_
    rintro e w1 ⟨rfl, hb1⟩
    have BB := hide (bstep (bstep B0.out NB.out) hb1)
    have RR := hide ((R0.out.of_block (NB.out.block _ (World.rowIs.lt R0.out))).of_block (hb1.block _ (Nat.lt_of_lt_of_le (World.rowIs.lt R0.out) NB.out.size)))
    clear hb1 I1 B0 Q0 R0 NB hW0 p0 p1 p2 p3 p4 p5 p6 p7
    have r0 := World.rowIs.cell RR.out (show 0 < 3 by omega)
    have r1 := World.rowIs.cell RR.out (show 1 < 3 by omega)
    have r2 := World.rowIs.cell RR.out (show 2 < 3 by omega)
    have k0 := World.rowIs.frozen RR.out 0
    have k1 := World.rowIs.frozen RR.out 1
    have k2 := World.rowIs.frozen RR.out 2
    have lr := World.rowIs.lt RR.out
    simp only [f3] at r0 r1 r2
    go_wp2_with fail
    obtain ⟨e0, e1, e2⟩ := three_set RR.out (.int .i64 0) (.int .i64 0) (.int .i64 0)
    refine bodyPost_ret (v := .tuple #[.agg #[.int .i64 0, .int .i64 0, .int .i64 0], .bool false]) (by simp [results, Try.results10, go_sem, e0, e1, e2]) rfl ⟨by rw [HC.out]; rfl, ?_⟩
    exact ((BB.out.setCell (Nat.le_succ _) _).setCell (Nat.le_succ _) _).setCell (Nat.le_succ _) _
  · obtain ⟨en, hro⟩ := ER.out hE
    rw [hE] at I1
    cases hF : formB n f g qn qs
    · rw [hF] at BF
      have HC := hide (show candB n f g n' f' g' x qn qs t = false from by unfold candB; rw [hF, Bool.false_and, Bool.and_false])
      clear hE ER HA CL hF en hro
      go_enter Try.func10, Try.ntmps10
      go_wp2_with fail
      refine I1.out.mono ?_
      rintro e w1 ⟨rfl, hb1⟩
      have B1 := hide (bstep (bstep B0.out NB.out) hb1)
      have R1 := hide ((R0.out.of_block (NB.out.block _ (World.rowIs.lt R0.out))).of_block (hb1.block _ (Nat.lt_of_lt_of_le (World.rowIs.lt R0.out) NB.out.size)))
      clear hb1 I1 B0 Q0 R0 NB hW0 p0 p1 p2 p3 p4 p5 p6 p7
      go_wp2_with fail
      refine (BF.out _ B1.out).mono ?_
      rintro e w2 ⟨rfl, hb2⟩
      have BB := hide (bstep B1.out hb2)
      have RR := hide (R1.out.of_block (hb2.block _ (World.rowIs.lt R1.out)))
      clear hb2 BF B1 R1
      have r0 := World.rowIs.cell RR.out (show 0 < 3 by omega)
      have r1 := World.rowIs.cell RR.out (show 1 < 3 by omega)
      have r2 := World.rowIs.cell RR.out (show 2 < 3 by omega)
      have k0 := World.rowIs.frozen RR.out 0
      have k1 := World.rowIs.frozen RR.out 1
      have k2 := World.rowIs.frozen RR.out 2
      have lr := World.rowIs.lt RR.out
      simp only [f3] at r0 r1 r2
      go_wp2_with fail
      obtain ⟨e0, e1, e2⟩ := three_set RR.out (.int .i64 0) (.int .i64 0) (.int .i64 0)
      refine bodyPost_ret (v := .tuple #[.agg #[.int .i64 0, .int .i64 0, .int .i64 0], .bool false]) (by simp [results, Try.results10, go_sem, e0, e1, e2]) rfl ⟨by rw [HC.out]; rfl, ?_⟩
      exact ((BB.out.setCell (Nat.le_succ _) _).setCell (Nat.le_succ _) _).setCell (Nat.le_succ _) _
    · rw [hF] at BF
      cases hT : tierB t
      · have HC := hide (show candB n f g n' f' g' x qn qs t = false from by unfold candB; rw [hT, Bool.and_false, Bool.and_false])
        have hc0 : cellsN t = 0 := by
          have h' : ¬ (1 ≤ t ∧ t ≤ 3) := of_decide_eq_false hT
          unfold cellsN
          rw [if_neg (by omega), if_neg (by omega), if_neg (by omega)]
        rw [hc0] at CL
        clear hE ER HA hF hT hc0 en hro
        go_enter Try.func10, Try.ntmps10
        go_wp2_with fail
        refine I1.out.mono ?_
        rintro e w1 ⟨rfl, hb1⟩
        have B1 := hide (bstep (bstep B0.out NB.out) hb1)
        have R1 := hide ((R0.out.of_block (NB.out.block _ (World.rowIs.lt R0.out))).of_block (hb1.block _ (Nat.lt_of_lt_of_le (World.rowIs.lt R0.out) NB.out.size)))
        clear hb1 I1 B0 Q0 R0 NB hW0 p0 p1 p2 p3 p4 p5 p6 p7
        go_wp2_with fail
        refine (BF.out _ B1.out).mono ?_
        rintro e w2 ⟨rfl, hb2⟩
        have BB := hide (bstep B1.out hb2)
        have RR := hide (R1.out.of_block (hb2.block _ (World.rowIs.lt R1.out)))
        clear hb2 BF B1 R1
        go_wp2_with fail
        refine (CL.out _).mono ?_
        rintro e w3 ⟨rfl, hw⟩
        obtain rfl := hw.symm
        clear hw CL
        have r0 := World.rowIs.cell RR.out (show 0 < 3 by omega)
        have r1 := World.rowIs.cell RR.out (show 1 < 3 by omega)
        have r2 := World.rowIs.cell RR.out (show 2 < 3 by omega)
        have k0 := World.rowIs.frozen RR.out 0
        have k1 := World.rowIs.frozen RR.out 1
        have k2 := World.rowIs.frozen RR.out 2
        have lr := World.rowIs.lt RR.out
        simp only [f3] at r0 r1 r2
        go_wp2_with fail
        obtain ⟨e0, e1, e2⟩ := three_set RR.out (.int .i64 0) (.int .i64 0) (.int .i64 0)
        refine bodyPost_ret (v := .tuple #[.agg #[.int .i64 0, .int .i64 0, .int .i64 0], .bool false]) (by simp [results, Try.results10, go_sem, e0, e1, e2]) rfl ⟨by rw [HC.out]; rfl, ?_⟩
        exact ((BB.out.setCell (Nat.le_succ _) _).setCell (Nat.le_succ _) _).setCell (Nat.le_succ _) _
      · have HC := hide (show candB n f g n' f' g' x qn qs t = true from by unfold candB; rw [hE, hF, hT]; rfl)
        have hc0 : (cellsN t == 0) = false := by
          have h' : 1 ≤ t ∧ t ≤ 3 := of_decide_eq_true hT
          rcases (show t = 1 ∨ t = 2 ∨ t = 3 from by omega) with rfl | rfl | rfl <;> decide
        have HO : Hid ((rowOkB n (bkF x.is f f') (bkF x.is g g') x.r1 x.r2 x.r3 && tierB t) = true) := hide (by rw [hro, hT]; rfl)
        subst en
        have BO := hide (fun w1 => bookOf_any (.int .i64 x.it.id) (.int .i64 x.it.tags) (.slice va vn vc) (.slice r.a1 r.m1 r.k1) (.slice r.a2 r.m2 r.k2) (.slice r.a3 r.m3 r.k3) (.slice a n cap) (.slice a' n cap') x.is w1 ⟨_, _, _, rfl⟩ ⟨_, _, _, rfl⟩)
        have HK := hide (fun w1 hb => HA.out w1 hb rfl HO.out)
        obtain ⟨bk, bc, eb⟩ := book_val x.is a a' n cap cap'
        rw [eb] at HK BO
        obtain ⟨lo, hlo⟩ : ∃ lo, lowH n (bkF x.is f f') (bkF x.is g g') x qn qs t = lo := ⟨_, rfl⟩
        obtain ⟨hi, hhi⟩ : ∃ hi, highH n (bkF x.is f f') (bkF x.is g g') x qn qs t = hi := ⟨_, rfl⟩
        rw [hlo, hhi] at HK
        have HLO := hide hlo
        have HHI := hide hhi
        clear hE ER HA hF hT hro eb HO hlo hhi
        go_enter Try.func10, Try.ntmps10
        go_wp2_with fail
        refine I1.out.mono ?_
        rintro e w1 ⟨rfl, hb1⟩
        have Q1 := hide ((Q0.out.below NB.out).below hb1)
        have R1 := hide ((R0.out.of_block (NB.out.block _ (World.rowIs.lt R0.out))).of_block (hb1.block _ (Nat.lt_of_lt_of_le (World.rowIs.lt R0.out) NB.out.size)))
        clear hb1 I1 B0 Q0 R0 NB hW0 p0 p1 p2 p3 p4 p5 p6 p7
        go_wp2_with fail
        refine (BF.out _ Q1.out.bel).mono ?_
        rintro e w2 ⟨rfl, hb2⟩
        have Q2 := hide (Q1.out.below hb2)
        have R2 := hide (R1.out.of_block (hb2.block _ (World.rowIs.lt R1.out)))
        clear hb2 BF Q1 R1
        go_wp2_with fail
        refine (CL.out _).mono ?_
        rintro e w3 ⟨rfl, hw⟩
        obtain rfl := hw.symm
        clear hw CL
        go_wp2_with fail
        refine wp_region_held_drew (S := fun wx => EBx w w.heap.size (.int .i64 x.it.id) (.int .i64 x.it.tags) (.slice va vn vc) (.slice r.a1 r.m1 r.k1) (.slice r.a2 r.m2 r.k2) (.slice r.a3 r.m3 r.k3) (.bool x.is) wx) (by kernel_rfl) ((Q2.out.below (Below.drew (Below.refl _ _)))) (fun hH0 => ?_)
        refine wpAnyH_take (i := 0) (oi := { dst := some 30, op := _, type := _, pos := _, after := _, guard := _ }) (v := ?_) rfl (by kernel_rfl) (by kernel_rfl) (by kernel_rfl) (fun _ _ _ h => h) (Or.inl ⟨by rfl, ?_⟩) (hH0) ?_
        rotate_left
        · (intro wx hSw; obtain ⟨lt, q0, q1, q2, q3, q4, q5, q6, _⟩ := hSw; go_simp <;> with_reducible rfl)
        simp only [Act.put, List.setIfInBounds_toArray, List.set_cons_zero, List.set_cons_succ]
        refine wpAnyH_take (i := 1) (oi := { dst := some 31, op := _, type := _, pos := _, after := _, guard := _ }) (v := ?_) rfl (by kernel_rfl) (by kernel_rfl) (by kernel_rfl) (fun _ _ _ h => h) (Or.inl ⟨by rfl, ?_⟩) (hH0) ?_
        rotate_left
        · (intro wx hSw; obtain ⟨lt, q0, q1, q2, q3, q4, q5, q6, _⟩ := hSw; go_simp <;> with_reducible rfl)
        simp only [Act.put, List.setIfInBounds_toArray, List.set_cons_zero, List.set_cons_succ]
        refine wpAnyH_take (i := 2) (oi := { dst := some 32, op := _, type := _, pos := _, after := _, guard := _ }) (v := ?_) rfl (by kernel_rfl) (by kernel_rfl) (by kernel_rfl) (fun _ _ _ h => h) (Or.inl ⟨by rfl, ?_⟩) (hH0) ?_
        rotate_left
        · (intro wx hSw; obtain ⟨lt, q0, q1, q2, q3, q4, q5, q6, _⟩ := hSw; go_simp <;> with_reducible rfl)
        simp only [Act.put, List.setIfInBounds_toArray, List.set_cons_zero, List.set_cons_succ]
        refine wpAnyH_take (i := 3) (oi := { dst := some 33, op := _, type := _, pos := _, after := _, guard := _ }) (v := ?_) rfl (by kernel_rfl) (by kernel_rfl) (by kernel_rfl) (fun _ _ _ h => h) (Or.inl ⟨by rfl, ?_⟩) (hH0) ?_
        rotate_left
        · (intro wx hSw; obtain ⟨lt, q0, q1, q2, q3, q4, q5, q6, _⟩ := hSw; go_simp <;> with_reducible rfl)
        simp only [Act.put, List.setIfInBounds_toArray, List.set_cons_zero, List.set_cons_succ]
        refine wpAnyH_take (i := 5) (oi := { dst := some 35, op := _, type := _, pos := _, after := _, guard := _ }) (v := ?_) rfl (by kernel_rfl) (by kernel_rfl) (by kernel_rfl) (fun _ _ _ h => h) (Or.inl ⟨by rfl, ?_⟩) (hH0) ?_
        rotate_left
        · (intro wx hSw; obtain ⟨lt, q0, q1, q2, q3, q4, q5, q6, _⟩ := hSw; go_simp <;> with_reducible rfl)
        simp only [Act.put, List.setIfInBounds_toArray, List.set_cons_zero, List.set_cons_succ]
        refine wpAnyH_take (i := 6) (oi := { dst := some 36, op := _, type := _, pos := _, after := _, guard := _ }) (v := ?_) rfl (by kernel_rfl) (by kernel_rfl) (by kernel_rfl) (fun _ _ _ h => h) (Or.inl ⟨by rfl, ?_⟩) (hH0) ?_
        rotate_left
        · (intro wx hSw; obtain ⟨lt, q0, q1, q2, q3, q4, q5, q6, _⟩ := hSw; go_simp <;> with_reducible rfl)
        simp only [Act.put, List.setIfInBounds_toArray, List.set_cons_zero, List.set_cons_succ]
        refine wpAnyH_ready (rs := [4]) (by kernel_rfl) (by simp) ?_
        refine AllReadyH.cons (o := { dst := some 34, op := _, type := _, pos := _, after := _, guard := _ }) rfl (fun K hK => ?_) AllReadyH.nil
        go_simp
        refine (BO.out _).mono ?_
        rintro e w5 ⟨rfl, hb5⟩
        dsimp only
        refine hK.out _ _ (EBx.below hH0 hb5) (fun hH1 => ?_)
        clear hK K
        refine wpAnyH_ready (rs := [7]) (by kernel_rfl) (by simp) ?_
        refine AllReadyH.cons (o := { dst := some 37, op := _, type := _, pos := _, after := _, guard := _ }) rfl (fun K hK => ?_) AllReadyH.nil
        go_simp
        refine (HK.out _ hH1.bel).mono ?_
        rintro e w6 ⟨rfl, hb6⟩
        dsimp only
        refine hK.out _ _ (EBx.below hH1 hb6) (fun hH2 => ?_)
        clear hK K
        -- behind it: go_wp2_with fail, then go_meet (a cut) or go_ret; the condition at the end: hH2
        have RR := hide (((R2.out.of_block ((Below.drew (Below.refl w2.heap.size w2)).block _ (World.rowIs.lt R2.out))).of_block (hb5.block _ (by simpa using World.rowIs.lt R2.out))).of_block (hb6.block _ (Nat.lt_of_lt_of_le (by simpa using World.rowIs.lt R2.out) hb5.size)))
        have BB := hide hH2.bel
        have r0 := World.rowIs.cell RR.out (show 0 < 3 by omega)
        have r1 := World.rowIs.cell RR.out (show 1 < 3 by omega)
        have r2 := World.rowIs.cell RR.out (show 2 < 3 by omega)
        have k0 := World.rowIs.frozen RR.out 0
        have k1 := World.rowIs.frozen RR.out 1
        have k2 := World.rowIs.frozen RR.out 2
        have lr := World.rowIs.lt RR.out
        simp only [f3] at r0 r1 r2
        clear hb5 hb6 hH0 hH1 BO HK R2 Q2
        refine wpAnyH_ready (rs := [8]) (by kernel_rfl) (by simp) ?_
        refine AllReadyH.cons (o := { dst := none, op := _, type := _, pos := _, after := _, guard := _ }) rfl (fun K hK => ?_) AllReadyH.nil
        go_simp
        refine hK.out _ _ (hH2.set3 (Nat.le_succ _) (by omega) _ _ _) (fun hH3 => ?_)
        clear hK K hH2
        refine wpAnyH_ready (rs := [9]) (by kernel_rfl) (by simp) ?_
        refine AllReadyH.cons (o := { dst := some 11, op := _, type := _, pos := _, after := _, guard := _ }) rfl (fun K hK => ?_) AllReadyH.nil
        go_simp
        refine hK.out _ _ hH3 (fun hH4 => ?_)
        clear hK K
        refine wpAnyH_done (by kernel_rfl) ?_ _
        clear hH3 hH4 r0 r1 r2 k0 k1 k2
        obtain ⟨e0, e1, e2⟩ := three_set RR.out (.int .i64 x.it.id) (.int .i64 lo) (.int .i64 hi)
        go_wp2_with fail
        refine bodyPost_ret (v := .tuple #[.agg #[.int .i64 x.it.id, .int .i64 lo, .int .i64 hi], .bool true]) (by simp [results, Try.results10, go_sem, e0, e1, e2]) rfl ⟨by rw [HC.out]; unfold candV; rw [HLO.out, HHI.out]; rfl, ?_⟩
        exact ((BB.out.setCell (Nat.le_succ _) _).setCell (Nat.le_succ _) _).setCell (Nat.le_succ _) _
end Go.Proofs.Ytbeakenblppngaa

/- CandOf of the model. -/
namespace Go.Proofs.Ytbeakenblppngaa
open Go.RowKit
set_option maxRecDepth 8000
set_option linter.unusedSimpArgs false
set_option linter.unusedVariables false

theorem cell_rightY {lo hi t x : Int} (hr : rightB lo hi = true) (ht : tierB t = true) : rightB (cellLo lo hi t (codeB lo hi t x)) (cellHi lo hi t (codeB lo hi t x)) = true := by
  obtain ⟨a1, a2, a3, a4, a5⟩ := right_nums hr
  have hN : 0 < cellsN t := by
    have h' : 1 ≤ t ∧ t ≤ 3 := of_decide_eq_true ht
    rcases (show t = 1 ∨ t = 2 ∨ t = 3 from by omega) with rfl | rfl | rfl <;> decide
  by_cases h : lo ≤ x ∧ x ≤ hi
  · have hc : codeB lo hi t x = codeN lo hi (cellsN t) x := by
      unfold codeB hasB inB
      rw [hr, decide_eq_true h, ht]
      rfl
    rw [hc]
    have c0 := code_nonneg lo hi (cellsN t) x hN h.1 a5
    have c1 := code_lt lo hi (cellsN t) x hN h.2 a5
    have e1 : fromN lo hi (cellsN t) (codeN lo hi (cellsN t) x) ≤ x := (from_le lo hi (cellsN t) _ x hN a5).2 (Int.le_refl _)
    have e2 : ¬ fromN lo hi (cellsN t) (codeN lo hi (cellsN t) x + 1) ≤ x := fun q => by have := (from_le lo hi (cellsN t) _ x hN a5).1 q; omega
    have b1 := from_bounds lo hi (cellsN t) (codeN lo hi (cellsN t) x) hN c0 (by omega) a5
    have b2 := from_bounds lo hi (cellsN t) (codeN lo hi (cellsN t) x + 1) hN (by omega) (by omega) a5
    have hB : cellB lo hi t (codeN lo hi (cellsN t) x) = true := by
      unfold cellB
      rw [hr, ht, decide_eq_true c0, decide_eq_true c1, decide_eq_true (show fromN lo hi (cellsN t) (codeN lo hi (cellsN t) x) ≤ fromN lo hi (cellsN t) (codeN lo hi (cellsN t) x + 1) - 1 by omega)]
      simp
    have hne : ¬ codeN lo hi (cellsN t) x = -1 := by omega
    unfold cellLo cellHi
    rw [hB, if_pos rfl, if_pos rfl, if_neg hne, if_neg hne]
    simp only [rightB, compB, Bool.and_eq_true, decide_eq_true_eq]
    omega
  · have hc : codeB lo hi t x = -1 := codeB_offY h
    rw [hc]
    have hB : cellB lo hi t (-1) = true := by unfold cellB; rw [hr, ht]; rfl
    unfold cellLo cellHi
    rw [hB, if_pos rfl, if_pos rfl, if_pos rfl, if_pos rfl]
    decide
/-- A right entry's box at a tier is right. -/
theorem entry_box {n n' : Nat} {f g f' g' : Nat → Int} {x : En} (h : entryB n f g n' f' g' x = true) {t : Int} (ht : tierB t = true) :
    ∀ i, i < n → rightB (boxF (bkF x.is f f') (bkF x.is g g') t (tierL t x.r1 x.r2 x.r3) i) (boxG (bkF x.is f f') (bkF x.is g g') t (tierL t x.r1 x.r2 x.r3) i) = true := by
  intro i hi
  have hb := bk_box (entryB_alike h) x.is
  have hr := boxB_at hb hi
  unfold entryB sameR at h
  simp only [Bool.and_eq_true, decide_eq_true_eq] at h
  obtain ⟨_, e1, e2, e3⟩ := h
  have ht' : 1 ≤ t ∧ t ≤ 3 := of_decide_eq_true ht
  have key : nth (tierL t x.r1 x.r2 x.r3) i = codeB (bkF x.is f f' i) (bkF x.is g g' i) t (nth x.it.vec i) := by
    rcases (show t = 1 ∨ t = 2 ∨ t = 3 from by omega) with rfl | rfl | rfl
    · show nth x.r1 i = _
      rw [← e1, nth_ints _ n i hi]; rfl
    · show nth x.r2 i = _
      rw [← e2, nth_ints _ n i hi]; rfl
    · show nth x.r3 i = _
      rw [← e3, nth_ints _ n i hi]; rfl
  unfold boxF boxG
  rw [key]
  exact cell_rightY hr ht

theorem entry_form {n n' : Nat} {f g f' g' : Nat → Int} {x : En} (h : entryB n f g n' f' g' x = true) {t : Int} (ht : tierB t = true) {m : Nat} {qs : List Int} (hF : formB n f g m qs = true) :
    formB n (boxF (bkF x.is f f') (bkF x.is g g') t (tierL t x.r1 x.r2 x.r3)) (boxG (bkF x.is f f') (bkF x.is g g') t (tierL t x.r1 x.r2 x.r3)) m qs = true ∧ n ≤ 8 ∧ n = m ∧ (∀ i, i < n → compB (nth qs i) = true → True) ∧ vecOkB qs = true := by
  have hb := bk_box (entryB_alike h) false
  unfold formB at hF ⊢
  simp only [Bool.and_eq_true, decide_eq_true_eq] at hF ⊢
  obtain ⟨⟨h1, h2⟩, h3⟩ := hF
  have n18 := boxB_num h1
  refine ⟨⟨⟨?_, h2⟩, h3⟩, n18.2, h3, fun _ _ _ => trivial, h2⟩
  unfold boxB
  rw [decide_eq_true n18, Bool.true_and]
  exact allN_yes (entry_box h ht)

theorem l5Box_any (a : Option Addr) (n cap : Nat) (f g : Nat → Int) (r : RowV) (L1 L2 L3 : List Int) (t : Int) (w : World) (h : PRow w a n f g) (hr : r.is w L1 L2 L3) (hn : 1 ≤ n ∧ n ≤ 8) (hl : L1.length = n ∧ L2.length = n ∧ L3.length = n) (ht : tierB t = true) :
    Calls Try.prog 40 #[.slice a n cap, r.v, .int .i64 t] w fun e w' => SBox w n (boxF f g t (tierL t L1 L2 L3)) (boxG f g t (tierL t L1 L2 L3)) e w' := by
  have f1 := hr.r1.len
  have f2 := hr.r2.len
  have f3 := hr.r3.len
  obtain ⟨e1, e2, e3⟩ := hl
  rcases h.lies with q | ⟨b, off, rfl, lt, hc⟩
  · omega
  have TI := hide (fun w1 => l5Tier_any r t w1 ht)
  obtain ⟨a1, a2, a3, m1, m2, m3, k1, k2, k3⟩ := r
  obtain ⟨r1, r2, r3⟩ := hr
  simp only at r1 r2 r3 f1 f2 f3
  obtain rfl : m1 = n := by omega
  obtain rfl : m2 = m1 := by omega
  obtain rfl : m3 = m2 := by omega
  rcases r1.lies with q | ⟨b1, o1, rfl, lt1, hc1'⟩
  · omega
  rcases r2.lies with q | ⟨b2, o2, rfl, lt2, hc2'⟩
  · omega
  rcases r3.lies with q | ⟨b3, o3, rfl, lt3, hc3'⟩
  · omega
  rcases tier_cases ht with rfl | rfl | rfl
  · exact l5Box_some b off m3 cap f g _ b1 o1 k1 L1 1 w hn.2 lt lt1 hc hc1' TI
  · exact l5Box_some b off m3 cap f g _ b2 o2 k2 L2 2 w hn.2 lt lt2 hc hc2' TI
  · exact l5Box_some b off m3 cap f g _ b3 o3 k3 L3 3 w hn.2 lt lt3 hc hc3' TI

theorem l4Ends_any (a : Option Addr) (n cap : Nat) (qa : Option Addr) (qc : Nat) (F G : Nat → Int) (qs : List Int) (w : World) (hn : 1 ≤ n ∧ n ≤ 8) (h : PRow w a n F G) (hq : Row w qa n qs) (hr : ∀ i, i < n → rightB (F i) (G i) = true) (hx : ∀ i, i < n → compB (nth qs i) = true) :
    Calls Try.prog 39 #[.slice a n cap, .slice qa n qc] w fun e w' => e = .returned (.tuple #[.int .i64 (leastN n F G qs), .int .i64 (mostN n F G qs)]) ∧ Below w.heap.size w w' := by
  rcases h.lies with q | ⟨b, off, rfl, lt, hc⟩
  · omega
  rcases hq.lies with q | ⟨b', off', rfl, lt', hc'⟩
  · omega
  exact l4Ends_some b off n cap b' off' qc F G qs w hn.2 lt lt' hr hx hc hc'

set_option maxHeartbeats 8000000 in
set_option maxRecDepth 4000 in
theorem l9Cand_any (a a' : Option Addr) (n cap cap' : Nat) (f g f' g' : Nat → Int) (x : En) (va : Option Addr) (vn vc : Nat) (r : RowV) (qa : Option Addr) (qc : Nat) (qs : List Int) (t : Int) (w : World) (h : PRow w a n f g) (h' : PRow w a' n f' g') (hr : r.is w x.r1 x.r2 x.r3) (hq : Row w qa n qs) (hE : entryB n f g n f' g' x = true) (hF : formB n f g n qs = true) (hT : tierB t = true) :
    Calls Try.prog 21 #[.slice a n cap, .slice a' n cap', .agg #[.int .i64 x.it.id, .int .i64 x.it.tags, .slice va vn vc, .slice r.a1 r.m1 r.k1, .slice r.a2 r.m2 r.k2, .slice r.a3 r.m3 r.k3, .bool x.is], .slice qa n qc, .int .i64 t] w fun e w' => e = .returned (.agg #[.int .i64 x.it.id, .int .i64 (lowH n (bkF x.is f f') (bkF x.is g g') x n qs t), .int .i64 (highH n (bkF x.is f f') (bkF x.is g g') x n qs t)]) ∧ Below w.heap.size w w' := by
  obtain ⟨hf1, hf2, _, _, hf5⟩ := entry_form hE hT hF
  have hro := (entry_row hE).2
  have n18 : 1 ≤ n ∧ n ≤ 8 := boxB_num (bk_box (entryB_alike hE) false)
  unfold rowOkB at hro
  simp only [Bool.and_eq_true, decide_eq_true_eq] at hro
  obtain ⟨_, hll, _⟩ := hro
  have LB := hide (fun w1 => l9Book_any (.slice a n cap) (.slice a' n cap') x.is w1 ⟨_, _, _, rfl⟩ ⟨_, _, _, rfl⟩)
  obtain ⟨bk, bc, eb⟩ := book_val x.is a a' n cap cap'
  have hbk : Hid (∀ w1, Below w.heap.size w w1 → PRow w1 bk n (bkF x.is f f') (bkF x.is g g')) := hide (fun w1 hb => by
    cases hi : x.is
    · rw [hi] at eb
      simp at eb
      obtain ⟨rfl, _⟩ := eb
      exact h.below hb
    · rw [hi] at eb
      simp at eb
      obtain ⟨rfl, _⟩ := eb
      exact h'.below hb)
  have LB : Hid (∀ w1, Calls Try.prog 41 #[.slice a n cap, .slice a' n cap', .bool x.is] w1 fun e w' => e = .returned (.slice bk n bc) ∧ Below w1.heap.size w1 w') := hide (fun w1 => (LB.out w1).mono fun e w' ⟨q1, q2⟩ => ⟨by rw [q1, eb], by rw [q2]; exact Below.refl _ _⟩)
  have BX := hide (fun w1 (hb : Below w.heap.size w w1) => l5Box_any bk n bc (bkF x.is f f') (bkF x.is g g') r x.r1 x.r2 x.r3 t w1 (hbk.out w1 hb) (hr.below hb) n18 hll hT)
  unfold SBox RowV.v at BX
  have LE := hide (fun b1 c1 w1 (hb : Below w.heap.size w w1) hp => l4Ends_any b1 n c1 qa qc (boxF (bkF x.is f f') (bkF x.is g g') t (tierL t x.r1 x.r2 x.r3)) (boxG (bkF x.is f f') (bkF x.is g g') t (tierL t x.r1 x.r2 x.r3)) qs w1 n18 hp (hq.below hb) (entry_box hE hT) (fun i hi => vecOkB_at hf5 (by rw [hq.len]; exact hi)))
  have HLO : Hid (lowH n (bkF x.is f f') (bkF x.is g g') x n qs t = leastN n (boxF (bkF x.is f f') (bkF x.is g g') t (tierL t x.r1 x.r2 x.r3)) (boxG (bkF x.is f f') (bkF x.is g g') t (tierL t x.r1 x.r2 x.r3)) qs) := hide (by unfold lowH; rw [hf1, if_pos rfl])
  have HHI : Hid (highH n (bkF x.is f f') (bkF x.is g g') x n qs t = mostN n (boxF (bkF x.is f f') (bkF x.is g g') t (tierL t x.r1 x.r2 x.r3)) (boxG (bkF x.is f f') (bkF x.is g g') t (tierL t x.r1 x.r2 x.r3)) qs) := hide (by unfold highH; rw [hf1, if_pos rfl])
  obtain ⟨lo, hlo⟩ : ∃ lo, leastN n (boxF (bkF x.is f f') (bkF x.is g g') t (tierL t x.r1 x.r2 x.r3)) (boxG (bkF x.is f f') (bkF x.is g g') t (tierL t x.r1 x.r2 x.r3)) qs = lo := ⟨_, rfl⟩
  obtain ⟨hi, hhi⟩ : ∃ hi, mostN n (boxF (bkF x.is f f') (bkF x.is g g') t (tierL t x.r1 x.r2 x.r3)) (boxG (bkF x.is f f') (bkF x.is g g') t (tierL t x.r1 x.r2 x.r3)) qs = hi := ⟨_, rfl⟩
  rw [hlo, hhi] at LE
  rw [hlo] at HLO
  rw [hhi] at HHI
  obtain ⟨W0, hW0⟩ : ∃ W0, (w.alloc (.cells #[.int .i64 x.it.id, .int .i64 x.it.tags, .slice va vn vc, .slice r.a1 r.m1 r.k1, .slice r.a2 r.m2 r.k2, .slice r.a3 r.m3 r.k3, .bool x.is] 41)).alloc (.cells #[.int .i64 0, .int .i64 0, .int .i64 0] 33) = W0 := ⟨_, rfl⟩
  have B0 : Hid (Below w.heap.size w W0) := hide (by rw [← hW0]; exact balloc (balloc (Below.refl _ _) _) _)
  have Q0 : Hid (EBx w w.heap.size (.int .i64 x.it.id) (.int .i64 x.it.tags) (.slice va vn vc) (.slice r.a1 r.m1 r.k1) (.slice r.a2 r.m2 r.k2) (.slice r.a3 r.m3 r.k3) (.bool x.is) W0) := hide (by
    rw [← hW0]
    have s := (Sev.new w (.int .i64 x.it.id) (.int .i64 x.it.tags) (.slice va vn vc) (.slice r.a1 r.m1 r.k1) (.slice r.a2 r.m2 r.k2) (.slice r.a3 r.m3 r.k3) (.bool x.is) 41 w.heap.size rfl).below (balloc (Below.refl _ _) (.cells #[.int .i64 0, .int .i64 0, .int .i64 0] 33))
    obtain ⟨z0, z1, z2, z3, z4, z5, z6, z7⟩ := s
    exact ⟨z0, z1, z2, z3, z4, z5, z6, z7, balloc (balloc (Below.refl _ _) _) _⟩)
  have R0 : Hid (W0.rowIs (w.heap.size + 1) 33 3 (f3 0 0 0)) := hide (by
    rw [← hW0]
    simpa using f3_new (w.alloc (.cells #[.int .i64 x.it.id, .int .i64 x.it.tags, .slice va vn vc, .slice r.a1 r.m1 r.k1, .slice r.a2 r.m2 r.k2, .slice r.a3 r.m3 r.k3, .bool x.is] 41)) 0 0 0 33)
  clear h h' hr hq hE hF hT hf1 hf2 hf5 n18 hll eb hbk hlo hhi
  obtain ⟨p0, p1, p2, p3, p4, p5, p6, p7, _⟩ := Q0.out
  go_enter Try.func21, Try.ntmps21
  go_wp2_with fail
  refine wp_region_held_drew (S := fun wx => EBx w w.heap.size (.int .i64 x.it.id) (.int .i64 x.it.tags) (.slice va vn vc) (.slice r.a1 r.m1 r.k1) (.slice r.a2 r.m2 r.k2) (.slice r.a3 r.m3 r.k3) (.bool x.is) wx) (by kernel_rfl) ((Q0.out.below (Below.drew (Below.refl _ _)))) (fun hH0 => ?_)
  refine wpAnyH_take (i := 0) (oi := { dst := some 14, op := _, type := _, pos := _, after := _, guard := _ }) (v := ?_) rfl (by kernel_rfl) (by kernel_rfl) (by kernel_rfl) (fun _ _ _ h => h) (Or.inl ⟨by rfl, ?_⟩) (hH0) ?_
  rotate_left
  · (intro wx hSw; obtain ⟨lt, q0, q1, q2, q3, q4, q5, q6, _⟩ := hSw; go_simp <;> with_reducible rfl)
  simp only [Act.put, List.setIfInBounds_toArray, List.set_cons_zero, List.set_cons_succ]
  refine wpAnyH_take (i := 1) (oi := { dst := some 15, op := _, type := _, pos := _, after := _, guard := _ }) (v := ?_) rfl (by kernel_rfl) (by kernel_rfl) (by kernel_rfl) (fun _ _ _ h => h) (Or.inl ⟨by rfl, ?_⟩) (hH0) ?_
  rotate_left
  · (intro wx hSw; obtain ⟨lt, q0, q1, q2, q3, q4, q5, q6, _⟩ := hSw; go_simp <;> with_reducible rfl)
  simp only [Act.put, List.setIfInBounds_toArray, List.set_cons_zero, List.set_cons_succ]
  refine wpAnyH_take (i := 2) (oi := { dst := some 16, op := _, type := _, pos := _, after := _, guard := _ }) (v := ?_) rfl (by kernel_rfl) (by kernel_rfl) (by kernel_rfl) (fun _ _ _ h => h) (Or.inl ⟨by rfl, ?_⟩) (hH0) ?_
  rotate_left
  · (intro wx hSw; obtain ⟨lt, q0, q1, q2, q3, q4, q5, q6, _⟩ := hSw; go_simp <;> with_reducible rfl)
  simp only [Act.put, List.setIfInBounds_toArray, List.set_cons_zero, List.set_cons_succ]
  refine wpAnyH_take (i := 3) (oi := { dst := some 17, op := _, type := _, pos := _, after := _, guard := _ }) (v := ?_) rfl (by kernel_rfl) (by kernel_rfl) (by kernel_rfl) (fun _ _ _ h => h) (Or.inl ⟨by rfl, ?_⟩) (hH0) ?_
  rotate_left
  · (intro wx hSw; obtain ⟨lt, q0, q1, q2, q3, q4, q5, q6, _⟩ := hSw; go_simp <;> with_reducible rfl)
  simp only [Act.put, List.setIfInBounds_toArray, List.set_cons_zero, List.set_cons_succ]
  refine wpAnyH_take (i := 5) (oi := { dst := some 19, op := _, type := _, pos := _, after := _, guard := _ }) (v := ?_) rfl (by kernel_rfl) (by kernel_rfl) (by kernel_rfl) (fun _ _ _ h => h) (Or.inl ⟨by rfl, ?_⟩) (hH0) ?_
  rotate_left
  · (intro wx hSw; obtain ⟨lt, q0, q1, q2, q3, q4, q5, q6, _⟩ := hSw; go_simp <;> with_reducible rfl)
  simp only [Act.put, List.setIfInBounds_toArray, List.set_cons_zero, List.set_cons_succ]
  refine wpAnyH_take (i := 6) (oi := { dst := some 20, op := _, type := _, pos := _, after := _, guard := _ }) (v := ?_) rfl (by kernel_rfl) (by kernel_rfl) (by kernel_rfl) (fun _ _ _ h => h) (Or.inl ⟨by rfl, ?_⟩) (hH0) ?_
  rotate_left
  · (intro wx hSw; obtain ⟨lt, q0, q1, q2, q3, q4, q5, q6, _⟩ := hSw; go_simp <;> with_reducible rfl)
  simp only [Act.put, List.setIfInBounds_toArray, List.set_cons_zero, List.set_cons_succ]
  refine wpAnyH_take (i := 7) (oi := { dst := some 21, op := _, type := _, pos := _, after := _, guard := _ }) (v := ?_) rfl (by kernel_rfl) (by kernel_rfl) (by kernel_rfl) (fun _ _ _ h => h) (Or.inl ⟨by rfl, ?_⟩) (hH0) ?_
  rotate_left
  · (intro wx hSw; obtain ⟨lt, q0, q1, q2, q3, q4, q5, q6, _⟩ := hSw; go_simp <;> with_reducible rfl)
  simp only [Act.put, List.setIfInBounds_toArray, List.set_cons_zero, List.set_cons_succ]
  refine wpAnyH_take (i := 9) (oi := { dst := some 23, op := _, type := _, pos := _, after := _, guard := _ }) (v := ?_) rfl (by kernel_rfl) (by kernel_rfl) (by kernel_rfl) (fun _ _ _ h => h) (Or.inl ⟨by rfl, ?_⟩) (hH0) ?_
  rotate_left
  · (intro wx hSw; obtain ⟨lt, q0, q1, q2, q3, q4, q5, q6, _⟩ := hSw; go_simp <;> with_reducible rfl)
  simp only [Act.put, List.setIfInBounds_toArray, List.set_cons_zero, List.set_cons_succ]
  refine wpAnyH_ready (rs := [4]) (by kernel_rfl) (by simp) ?_
  refine AllReadyH.cons (o := { dst := some 18, op := _, type := _, pos := _, after := _, guard := _ }) rfl (fun K hK => ?_) AllReadyH.nil
  go_simp
  refine (LB.out _).mono ?_
  rintro e w5 ⟨rfl, hb5⟩
  dsimp only
  refine hK.out _ _ (EBx.below hH0 hb5) (fun hH1 => ?_)
  clear hK K
  refine wpAnyH_ready (rs := [8]) (by kernel_rfl) (by simp) ?_
  refine AllReadyH.cons (o := { dst := some 22, op := _, type := _, pos := _, after := _, guard := _ }) rfl (fun K hK => ?_) AllReadyH.nil
  go_simp
  refine (BX.out _ hH1.bel).mono ?_
  rintro e w6 ⟨b6, c6, rfl, hp6, hb6⟩
  dsimp only
  refine hK.out _ _ (EBx.below hH1 hb6) (fun hH2 => ?_)
  clear hK K
  refine wpAnyH_ready (rs := [10]) (by kernel_rfl) (by simp) ?_
  refine AllReadyH.cons (o := { dst := some 24, op := _, type := _, pos := _, after := _, guard := _ }) rfl (fun K hK => ?_) AllReadyH.nil
  go_simp
  refine (LE.out b6 c6 _ hH2.bel hp6).mono ?_
  rintro e w7 ⟨rfl, hb7⟩
  dsimp only
  refine hK.out _ _ (EBx.below hH2 hb7) (fun hH3 => ?_)
  clear hK K
  refine wpAnyH_take (i := 11) (oi := { dst := some 13, op := _, type := _, pos := _, after := _, guard := _ }) (v := ?_) rfl (by kernel_rfl) (by kernel_rfl) (by kernel_rfl) (fun _ _ _ h => h) (Or.inl ⟨by rfl, ?_⟩) (hH3) ?_
  rotate_left
  · (intro wx hSw; obtain ⟨lt, q0, q1, q2, q3, q4, q5, q6, _⟩ := hSw; go_simp <;> with_reducible rfl)
  simp only [Act.put, List.setIfInBounds_toArray, List.set_cons_zero, List.set_cons_succ]
  refine wpAnyH_take (i := 12) (oi := { dst := some 25, op := _, type := _, pos := _, after := _, guard := _ }) (v := ?_) rfl (by kernel_rfl) (by kernel_rfl) (by kernel_rfl) (fun _ _ _ h => h) (Or.inl ⟨by rfl, ?_⟩) (hH3) ?_
  rotate_left
  · (intro wx hSw; obtain ⟨lt, q0, q1, q2, q3, q4, q5, q6, _⟩ := hSw; go_simp <;> with_reducible rfl)
  simp only [Act.put, List.setIfInBounds_toArray, List.set_cons_zero, List.set_cons_succ]
  refine wpAnyH_take (i := 13) (oi := { dst := some 26, op := _, type := _, pos := _, after := _, guard := _ }) (v := ?_) rfl (by kernel_rfl) (by kernel_rfl) (by kernel_rfl) (fun _ _ _ h => h) (Or.inl ⟨by rfl, ?_⟩) (hH3) ?_
  rotate_left
  · (intro wx hSw; obtain ⟨lt, q0, q1, q2, q3, q4, q5, q6, _⟩ := hSw; go_simp <;> with_reducible rfl)
  simp only [Act.put, List.setIfInBounds_toArray, List.set_cons_zero, List.set_cons_succ]
  refine wpAnyH_take (i := 14) (oi := { dst := some 11, op := _, type := _, pos := _, after := _, guard := _ }) (v := ?_) rfl (by kernel_rfl) (by kernel_rfl) (by kernel_rfl) (fun _ _ _ h => h) (Or.inl ⟨by rfl, ?_⟩) (hH3) ?_
  rotate_left
  · (intro wx hSw; obtain ⟨lt, q0, q1, q2, q3, q4, q5, q6, _⟩ := hSw; go_simp <;> with_reducible rfl)
  simp only [Act.put, List.setIfInBounds_toArray, List.set_cons_zero, List.set_cons_succ]
  refine wpAnyH_take (i := 15) (oi := { dst := some 12, op := _, type := _, pos := _, after := _, guard := _ }) (v := ?_) rfl (by kernel_rfl) (by kernel_rfl) (by kernel_rfl) (fun _ _ _ h => h) (Or.inl ⟨by rfl, ?_⟩) (hH3) ?_
  rotate_left
  · (intro wx hSw; obtain ⟨lt, q0, q1, q2, q3, q4, q5, q6, _⟩ := hSw; go_simp <;> with_reducible rfl)
  simp only [Act.put, List.setIfInBounds_toArray, List.set_cons_zero, List.set_cons_succ]
  refine wpAnyH_done (by kernel_rfl) ?_ _
  -- behind it: go_wp2_with fail, then go_meet (a cut) or go_ret; the condition at the end: hH3
  have RR := hide (((((R0.out.of_block ((Below.drew (Below.refl W0.heap.size W0)).block _ (World.rowIs.lt R0.out))).of_block (hb5.block _ (by simpa using World.rowIs.lt R0.out))).of_block (hb6.block _ (Nat.lt_of_lt_of_le (by simpa using World.rowIs.lt R0.out) hb5.size)))).of_block (hb7.block _ (Nat.lt_of_lt_of_le (Nat.lt_of_lt_of_le (by simpa using World.rowIs.lt R0.out) hb5.size) hb6.size)))
  have Q7 := hide hH3
  clear hb5 hb6 hb7 hp6 hH0 hH1 hH2 hH3 LB BX LE Q0 R0 B0 p0 p1 p2 p3 p4 p5 p6 p7 hW0
  obtain ⟨p0, p1, p2, p3, p4, p5, p6, p7, _⟩ := Q7.out
  have r0 := World.rowIs.cell RR.out (show 0 < 3 by omega)
  have r1 := World.rowIs.cell RR.out (show 1 < 3 by omega)
  have r2 := World.rowIs.cell RR.out (show 2 < 3 by omega)
  have k0 := World.rowIs.frozen RR.out 0
  have k1 := World.rowIs.frozen RR.out 1
  have k2 := World.rowIs.frozen RR.out 2
  have lr := World.rowIs.lt RR.out
  simp only [f3] at r0 r1 r2
  go_wp2_with fail
  obtain ⟨e0, e1, e2⟩ := three_set RR.out (.int .i64 x.it.id) (.int .i64 lo) (.int .i64 hi)
  refine bodyPost_ret (v := .agg #[.int .i64 x.it.id, .int .i64 lo, .int .i64 hi]) (by simp [results, Try.results21, go_sem, e0, e1, e2]) rfl ⟨by rw [HLO.out, HHI.out], ?_⟩
  exact ((Q7.out.bel.setCell (Nat.le_succ _) _).setCell (Nat.le_succ _) _).setCell (Nat.le_succ _) _

set_option maxHeartbeats 8000000 in
set_option maxRecDepth 4000 in
theorem sCandOf_any (a a' : Option Addr) (n cap n' cap' : Nat) (f g f' g' : Nat → Int) (x : En) (va : Option Addr) (vn vc : Nat) (r : RowV) (qa : Option Addr) (qn qc : Nat) (qs : List Int) (t : Int) (w : World) (h : PRow w a n f g) (h' : PRow w a' n' f' g') (hx : Row w va vn x.it.vec) (hr : r.is w x.r1 x.r2 x.r3) (hq : Row w qa qn qs) (hn : n ≤ 1048576) (hn' : n' ≤ 1048576) (hqn : qn ≤ 1048576) (hvn : vn ≤ 1048576) :
    Calls Try.prog 6 #[.slice a n cap, .slice a' n' cap', .agg #[.int .i64 x.it.id, .int .i64 x.it.tags, .slice va vn vc, .slice r.a1 r.m1 r.k1, .slice r.a2 r.m2 r.k2, .slice r.a3 r.m3 r.k3, .bool x.is], .slice qa qn qc, .int .i64 t] w fun e w' => e = .returned (candV (candB n f g n' f' g' x qn qs t) n f g f' g' x qn qs t) ∧ Below w.heap.size w w' := by
  have BK := hide (fun w1 (hb : Below w.heap.size w w1) => l9Books_any a a' n cap n' cap' f g f' g' w1 (h.below hb) (h'.below hb) hn hn')
  have LE := hide (fun w1 (hb : Below w.heap.size w w1) => l9Entry_any a a' n cap n' cap' f g f' g' x va vn vc r w1 (h.below hb) (h'.below hb) (hx.below hb) (hr.below hb) hn hn' hvn)
  have VO := hide (fun w1 (hb : Below w.heap.size w w1) => sVecOk_any qa qn qc qs w1 (hq.below hb) hqn)
  have TI := hide (fun w1 => l3Tier_any t w1)
  have HA := hide (fun w1 (hb : Below w.heap.size w w1) (e1 : n = n') (e2 : qn = n) hE hF hT => l9Cand_any a a' n cap cap' f g f' g' x va vn vc r qa qc qs t w1 (h.below hb) (by subst e1; exact h'.below hb) (hr.below hb) (by subst e2; exact hq.below hb) hE hF hT)
  obtain ⟨W0, hW0⟩ : ∃ W0, (w.alloc (.cells #[.int .i64 x.it.id, .int .i64 x.it.tags, .slice va vn vc, .slice r.a1 r.m1 r.k1, .slice r.a2 r.m2 r.k2, .slice r.a3 r.m3 r.k3, .bool x.is] 41)).alloc (.cells #[.int .i64 0, .int .i64 0, .int .i64 0] 33) = W0 := ⟨_, rfl⟩
  have B0 : Hid (Below w.heap.size w W0) := hide (by rw [← hW0]; exact balloc (balloc (Below.refl _ _) _) _)
  have Q0 : Hid (EBx w w.heap.size (.int .i64 x.it.id) (.int .i64 x.it.tags) (.slice va vn vc) (.slice r.a1 r.m1 r.k1) (.slice r.a2 r.m2 r.k2) (.slice r.a3 r.m3 r.k3) (.bool x.is) W0) := hide (by
    rw [← hW0]
    have s := (Sev.new w (.int .i64 x.it.id) (.int .i64 x.it.tags) (.slice va vn vc) (.slice r.a1 r.m1 r.k1) (.slice r.a2 r.m2 r.k2) (.slice r.a3 r.m3 r.k3) (.bool x.is) 41 w.heap.size rfl).below (balloc (Below.refl _ _) (.cells #[.int .i64 0, .int .i64 0, .int .i64 0] 33))
    obtain ⟨z0, z1, z2, z3, z4, z5, z6, z7⟩ := s
    exact ⟨z0, z1, z2, z3, z4, z5, z6, z7, balloc (balloc (Below.refl _ _) _) _⟩)
  have R0 : Hid (W0.rowIs (w.heap.size + 1) 33 3 (f3 0 0 0)) := hide (by
    rw [← hW0]
    simpa using f3_new (w.alloc (.cells #[.int .i64 x.it.id, .int .i64 x.it.tags, .slice va vn vc, .slice r.a1 r.m1 r.k1, .slice r.a2 r.m2 r.k2, .slice r.a3 r.m3 r.k3, .bool x.is] 41)) 0 0 0 33)
  clear h h' hx hr hq
  obtain ⟨p0, p1, p2, p3, p4, p5, p6, p7, _⟩ := Q0.out
  cases hA : alikeB n f g n' f' g'
  · rw [hA] at BK
    have HC := hide (show candB n f g n' f' g' x qn qs t = false from by
      cases q : entryB n f g n' f' g' x
      · unfold candB; rw [q]; rfl
      · exact absurd ((entryB_alike q).symm.trans hA) (by decide))
    clear hA LE VO TI HA
    go_enter Try.func6, Try.ntmps6
    go_wp2_with fail
    refine (BK.out _ B0.out).mono ?_
    rintro e w1 ⟨rfl, hb1⟩
    have Q1 := hide (Q0.out.below hb1)
    have R1 := hide (R0.out.of_block (hb1.block _ (World.rowIs.lt R0.out)))
    clear hb1 BK B0 Q0 R0 hW0 p0 p1 p2 p3 p4 p5 p6 p7
    obtain ⟨p0, p1, p2, p3, p4, p5, p6, p7, _⟩ := Q1.out
    have RR := R1
    have BB := hide Q1.out.bel
    clear p0 p1 p2 p3 p4 p5 p6 p7 Q1
    have r0 := World.rowIs.cell RR.out (show 0 < 3 by omega)
    have r1 := World.rowIs.cell RR.out (show 1 < 3 by omega)
    have r2 := World.rowIs.cell RR.out (show 2 < 3 by omega)
    have k0 := World.rowIs.frozen RR.out 0
    have k1 := World.rowIs.frozen RR.out 1
    have k2 := World.rowIs.frozen RR.out 2
    have lr := World.rowIs.lt RR.out
    simp only [f3] at r0 r1 r2
    go_wp2_with fail
    obtain ⟨e0, e1, e2⟩ := three_set RR.out (.int .i64 0) (.int .i64 0) (.int .i64 0)
    refine bodyPost_ret (v := .tuple #[.agg #[.int .i64 0, .int .i64 0, .int .i64 0], .bool false]) (by simp [results, Try.results6, go_sem, e0, e1, e2]) rfl ⟨by rw [HC.out]; rfl, ?_⟩
    exact ((BB.out.setCell (Nat.le_succ _) _).setCell (Nat.le_succ _) _).setCell (Nat.le_succ _) _
  · rw [hA] at BK
    have en : n = n' := by
      unfold alikeB at hA
      simp only [Bool.and_eq_true, decide_eq_true_eq] at hA
      exact hA.2
    have hbx : boxB n f g = true := bk_box hA false
    cases hE : entryB n f g n' f' g' x
    · rw [hE] at LE
      have HC := hide (show candB n f g n' f' g' x qn qs t = false from by unfold candB; rw [hE]; rfl)
      clear hA hE en hbx VO TI HA
      go_enter Try.func6, Try.ntmps6
      go_wp2_with fail
      refine (BK.out _ B0.out).mono ?_
      rintro e w1 ⟨rfl, hb1⟩
      have Q1 := hide (Q0.out.below hb1)
      have R1 := hide (R0.out.of_block (hb1.block _ (World.rowIs.lt R0.out)))
      clear hb1 BK B0 Q0 R0 hW0 p0 p1 p2 p3 p4 p5 p6 p7
      obtain ⟨p0, p1, p2, p3, p4, p5, p6, p7, _⟩ := Q1.out
      go_wp2_with fail
      refine (LE.out _ Q1.out.bel).mono ?_
      rintro e w2 ⟨rfl, hb2⟩
      have Q2 := hide (Q1.out.below hb2)
      have R2 := hide (R1.out.of_block (hb2.block _ (World.rowIs.lt R1.out)))
      clear hb2 LE Q1 R1 p0 p1 p2 p3 p4 p5 p6 p7
      obtain ⟨p0, p1, p2, p3, p4, p5, p6, p7, _⟩ := Q2.out
      have RR := R2
      have BB := hide Q2.out.bel
      clear p0 p1 p2 p3 p4 p5 p6 p7 Q2
      have r0 := World.rowIs.cell RR.out (show 0 < 3 by omega)
      have r1 := World.rowIs.cell RR.out (show 1 < 3 by omega)
      have r2 := World.rowIs.cell RR.out (show 2 < 3 by omega)
      have k0 := World.rowIs.frozen RR.out 0
      have k1 := World.rowIs.frozen RR.out 1
      have k2 := World.rowIs.frozen RR.out 2
      have lr := World.rowIs.lt RR.out
      simp only [f3] at r0 r1 r2
      go_wp2_with fail
      obtain ⟨e0, e1, e2⟩ := three_set RR.out (.int .i64 0) (.int .i64 0) (.int .i64 0)
      refine bodyPost_ret (v := .tuple #[.agg #[.int .i64 0, .int .i64 0, .int .i64 0], .bool false]) (by simp [results, Try.results6, go_sem, e0, e1, e2]) rfl ⟨by rw [HC.out]; rfl, ?_⟩
      exact ((BB.out.setCell (Nat.le_succ _) _).setCell (Nat.le_succ _) _).setCell (Nat.le_succ _) _
    · rw [hE] at LE
      cases hV : vecOkB qs
      · rw [hV] at VO
        have HC := hide (show candB n f g n' f' g' x qn qs t = false from by unfold candB formB; rw [hV, Bool.and_false]; simp)
        clear hA hE en hbx hV TI HA
        go_enter Try.func6, Try.ntmps6
        go_wp2_with fail
        refine (BK.out _ B0.out).mono ?_
        rintro e w1 ⟨rfl, hb1⟩
        have Q1 := hide (Q0.out.below hb1)
        have R1 := hide (R0.out.of_block (hb1.block _ (World.rowIs.lt R0.out)))
        clear hb1 BK B0 Q0 R0 hW0 p0 p1 p2 p3 p4 p5 p6 p7
        obtain ⟨p0, p1, p2, p3, p4, p5, p6, p7, _⟩ := Q1.out
        go_wp2_with fail
        refine (LE.out _ Q1.out.bel).mono ?_
        rintro e w2 ⟨rfl, hb2⟩
        have Q2 := hide (Q1.out.below hb2)
        have R2 := hide (R1.out.of_block (hb2.block _ (World.rowIs.lt R1.out)))
        clear hb2 LE Q1 R1 p0 p1 p2 p3 p4 p5 p6 p7
        obtain ⟨p0, p1, p2, p3, p4, p5, p6, p7, _⟩ := Q2.out
        go_wp2_with fail
        refine (VO.out _ Q2.out.bel).mono ?_
        rintro e w3 ⟨rfl, hw⟩
        obtain rfl := hw.symm
        clear hw VO
        have RR := R2
        have BB := hide Q2.out.bel
        clear p0 p1 p2 p3 p4 p5 p6 p7 Q2
        have r0 := World.rowIs.cell RR.out (show 0 < 3 by omega)
        have r1 := World.rowIs.cell RR.out (show 1 < 3 by omega)
        have r2 := World.rowIs.cell RR.out (show 2 < 3 by omega)
        have k0 := World.rowIs.frozen RR.out 0
        have k1 := World.rowIs.frozen RR.out 1
        have k2 := World.rowIs.frozen RR.out 2
        have lr := World.rowIs.lt RR.out
        simp only [f3] at r0 r1 r2
        go_wp2_with fail
        obtain ⟨e0, e1, e2⟩ := three_set RR.out (.int .i64 0) (.int .i64 0) (.int .i64 0)
        refine bodyPost_ret (v := .tuple #[.agg #[.int .i64 0, .int .i64 0, .int .i64 0], .bool false]) (by simp [results, Try.results6, go_sem, e0, e1, e2]) rfl ⟨by rw [HC.out]; rfl, ?_⟩
        exact ((BB.out.setCell (Nat.le_succ _) _).setCell (Nat.le_succ _) _).setCell (Nat.le_succ _) _
      · rw [hV] at VO
        by_cases hm : qn = n
        · have hF : formB n f g qn qs = true := by unfold formB; rw [hbx, hV, decide_eq_true hm.symm]; rfl
          have hmm : ((qn : Int) != (n : Int)) = false := by rw [hm]; simp
          cases hT : tierB t
          · rw [hT] at TI
            have HC := hide (show candB n f g n' f' g' x qn qs t = false from by unfold candB; rw [hT, Bool.and_false, Bool.and_false])
            have HM := hide hm
            clear hA hE en hbx hV hT HA hF hm
            go_enter Try.func6, Try.ntmps6
            go_wp2_with fail
            refine (BK.out _ B0.out).mono ?_
            rintro e w1 ⟨rfl, hb1⟩
            have Q1 := hide (Q0.out.below hb1)
            have R1 := hide (R0.out.of_block (hb1.block _ (World.rowIs.lt R0.out)))
            clear hb1 BK B0 Q0 R0 hW0 p0 p1 p2 p3 p4 p5 p6 p7
            obtain ⟨p0, p1, p2, p3, p4, p5, p6, p7, _⟩ := Q1.out
            go_wp2_with fail
            refine (LE.out _ Q1.out.bel).mono ?_
            rintro e w2 ⟨rfl, hb2⟩
            have Q2 := hide (Q1.out.below hb2)
            have R2 := hide (R1.out.of_block (hb2.block _ (World.rowIs.lt R1.out)))
            clear hb2 LE Q1 R1 p0 p1 p2 p3 p4 p5 p6 p7
            obtain ⟨p0, p1, p2, p3, p4, p5, p6, p7, _⟩ := Q2.out
            go_wp2_with fail
            refine (VO.out _ Q2.out.bel).mono ?_
            rintro e w3 ⟨rfl, hw⟩
            obtain rfl := hw.symm
            clear hw VO
            go_wp2_with fail
            refine (TI.out _).mono ?_
            rintro e w3 ⟨rfl, hw⟩
            obtain rfl := hw.symm
            clear hw TI
            have RR := R2
            have BB := hide Q2.out.bel
            clear p0 p1 p2 p3 p4 p5 p6 p7 Q2
            have r0 := World.rowIs.cell RR.out (show 0 < 3 by omega)
            have r1 := World.rowIs.cell RR.out (show 1 < 3 by omega)
            have r2 := World.rowIs.cell RR.out (show 2 < 3 by omega)
            have k0 := World.rowIs.frozen RR.out 0
            have k1 := World.rowIs.frozen RR.out 1
            have k2 := World.rowIs.frozen RR.out 2
            have lr := World.rowIs.lt RR.out
            simp only [f3] at r0 r1 r2
            go_wp2_with fail
            obtain ⟨e0, e1, e2⟩ := three_set RR.out (.int .i64 0) (.int .i64 0) (.int .i64 0)
            refine bodyPost_ret (v := .tuple #[.agg #[.int .i64 0, .int .i64 0, .int .i64 0], .bool false]) (by simp [results, Try.results6, go_sem, e0, e1, e2]) rfl ⟨by rw [HC.out]; rfl, ?_⟩
            exact ((BB.out.setCell (Nat.le_succ _) _).setCell (Nat.le_succ _) _).setCell (Nat.le_succ _) _
          · rw [hT] at TI
            have HC := hide (show candB n f g n' f' g' x qn qs t = true from by unfold candB; rw [hE, hF, hT]; rfl)
            subst en
            subst hm
            have HK := hide (fun w1 hb => HA.out w1 hb rfl rfl hE hF hT)
            obtain ⟨lo, hlo⟩ : ∃ lo, lowH qn (bkF x.is f f') (bkF x.is g g') x qn qs t = lo := ⟨_, rfl⟩
            obtain ⟨hi, hhi⟩ : ∃ hi, highH qn (bkF x.is f f') (bkF x.is g g') x qn qs t = hi := ⟨_, rfl⟩
            rw [hlo, hhi] at HK
            have HLO := hide hlo
            have HHI := hide hhi
            clear hA hE hbx hV hT HA hF hlo hhi
            go_enter Try.func6, Try.ntmps6
            go_wp2_with fail
            refine (BK.out _ B0.out).mono ?_
            rintro e w1 ⟨rfl, hb1⟩
            have Q1 := hide (Q0.out.below hb1)
            have R1 := hide (R0.out.of_block (hb1.block _ (World.rowIs.lt R0.out)))
            clear hb1 BK B0 Q0 R0 hW0 p0 p1 p2 p3 p4 p5 p6 p7
            obtain ⟨p0, p1, p2, p3, p4, p5, p6, p7, _⟩ := Q1.out
            go_wp2_with fail
            refine (LE.out _ Q1.out.bel).mono ?_
            rintro e w2 ⟨rfl, hb2⟩
            have Q2 := hide (Q1.out.below hb2)
            have R2 := hide (R1.out.of_block (hb2.block _ (World.rowIs.lt R1.out)))
            clear hb2 LE Q1 R1 p0 p1 p2 p3 p4 p5 p6 p7
            obtain ⟨p0, p1, p2, p3, p4, p5, p6, p7, _⟩ := Q2.out
            go_wp2_with fail
            refine (VO.out _ Q2.out.bel).mono ?_
            rintro e w3 ⟨rfl, hw⟩
            obtain rfl := hw.symm
            clear hw VO
            go_wp2_with fail
            refine (TI.out _).mono ?_
            rintro e w3 ⟨rfl, hw⟩
            obtain rfl := hw.symm
            clear hw TI
            go_wp2_with fail
            refine (HK.out _ Q2.out.bel).mono ?_
            rintro e w3 ⟨rfl, hb3⟩
            have Q3 := hide (Q2.out.below hb3)
            have R3 := hide (R2.out.of_block (hb3.block _ (World.rowIs.lt R2.out)))
            clear hb3 HK Q2 R2 p0 p1 p2 p3 p4 p5 p6 p7
            obtain ⟨p0, p1, p2, p3, p4, p5, p6, p7, _⟩ := Q3.out
            have RR := R3
            have BB := hide Q3.out.bel
            have r0 := World.rowIs.cell RR.out (show 0 < 3 by omega)
            have r1 := World.rowIs.cell RR.out (show 1 < 3 by omega)
            have r2 := World.rowIs.cell RR.out (show 2 < 3 by omega)
            have k0 := World.rowIs.frozen RR.out 0
            have k1 := World.rowIs.frozen RR.out 1
            have k2 := World.rowIs.frozen RR.out 2
            have lr := World.rowIs.lt RR.out
            simp only [f3] at r0 r1 r2
            go_wp2_with fail
            obtain ⟨e0, e1, e2⟩ := three_set RR.out (.int .i64 x.it.id) (.int .i64 lo) (.int .i64 hi)
            refine bodyPost_ret (v := .tuple #[.agg #[.int .i64 x.it.id, .int .i64 lo, .int .i64 hi], .bool true]) (by simp [results, Try.results6, go_sem, e0, e1, e2]) rfl ⟨by rw [HC.out]; unfold candV; rw [HLO.out, HHI.out]; rfl, ?_⟩
            exact ((BB.out.setCell (Nat.le_succ _) _).setCell (Nat.le_succ _) _).setCell (Nat.le_succ _) _
        · have HC := hide (show candB n f g n' f' g' x qn qs t = false from by unfold candB formB; rw [decide_eq_false (fun q => hm q.symm), Bool.and_false]; simp)
          have hmm : ((qn : Int) != (n : Int)) = true := by simp; omega
          clear hA hE en hbx hV TI HA hm
          go_enter Try.func6, Try.ntmps6
          go_wp2_with fail
          refine (BK.out _ B0.out).mono ?_
          rintro e w1 ⟨rfl, hb1⟩
          have Q1 := hide (Q0.out.below hb1)
          have R1 := hide (R0.out.of_block (hb1.block _ (World.rowIs.lt R0.out)))
          clear hb1 BK B0 Q0 R0 hW0 p0 p1 p2 p3 p4 p5 p6 p7
          obtain ⟨p0, p1, p2, p3, p4, p5, p6, p7, _⟩ := Q1.out
          go_wp2_with fail
          refine (LE.out _ Q1.out.bel).mono ?_
          rintro e w2 ⟨rfl, hb2⟩
          have Q2 := hide (Q1.out.below hb2)
          have R2 := hide (R1.out.of_block (hb2.block _ (World.rowIs.lt R1.out)))
          clear hb2 LE Q1 R1 p0 p1 p2 p3 p4 p5 p6 p7
          obtain ⟨p0, p1, p2, p3, p4, p5, p6, p7, _⟩ := Q2.out
          go_wp2_with fail
          refine (VO.out _ Q2.out.bel).mono ?_
          rintro e w3 ⟨rfl, hw⟩
          obtain rfl := hw.symm
          clear hw VO
          have RR := R2
          have BB := hide Q2.out.bel
          clear p0 p1 p2 p3 p4 p5 p6 p7 Q2
          have r0 := World.rowIs.cell RR.out (show 0 < 3 by omega)
          have r1 := World.rowIs.cell RR.out (show 1 < 3 by omega)
          have r2 := World.rowIs.cell RR.out (show 2 < 3 by omega)
          have k0 := World.rowIs.frozen RR.out 0
          have k1 := World.rowIs.frozen RR.out 1
          have k2 := World.rowIs.frozen RR.out 2
          have lr := World.rowIs.lt RR.out
          simp only [f3] at r0 r1 r2
          go_wp2_with fail
          obtain ⟨e0, e1, e2⟩ := three_set RR.out (.int .i64 0) (.int .i64 0) (.int .i64 0)
          refine bodyPost_ret (v := .tuple #[.agg #[.int .i64 0, .int .i64 0, .int .i64 0], .bool false]) (by simp [results, Try.results6, go_sem, e0, e1, e2]) rfl ⟨by rw [HC.out]; rfl, ?_⟩
          exact ((BB.out.setCell (Nat.le_succ _) _).setCell (Nat.le_succ _) _).setCell (Nat.le_succ _) _
end Go.Proofs.Ytbeakenblppngaa

/- The walk of FnExactCandOf. -/
namespace Go.Proofs.Ytbeakenblppngaa
open Go.RowKit
set_option maxRecDepth 8000
set_option linter.unusedSimpArgs false
set_option linter.unusedVariables false

theorem TriW.put {w : World} {b : Nat} {v0 v1 v2 : Value} (h : TriW w b v0 v1 v2) (u0 u1 u2 : Value) : TriW (((w.setCell ⟨b, 0, none⟩ u0).setCell ⟨b, 1, none⟩ u1).setCell ⟨b, 2, none⟩ u2) b u0 u1 u2 := by
  obtain ⟨h0, h1, h2, h3, f0, f1, f2⟩ := h
  refine ⟨by simpa [World.setCell] using h0, ?_, ?_, ?_, ?_, ?_, ?_⟩ <;> simp [go_sem, *]

theorem EBx.new (w : World) (v0 v1 v2 v3 v4 v5 v6 : Value) (T : TypeId) : EBx w w.heap.size v0 v1 v2 v3 v4 v5 v6 (w.alloc (.cells #[v0, v1, v2, v3, v4, v5, v6] T)) :=
  ⟨by simp, by simp, by simp, by simp, by simp, by simp, by simp, by simp, balloc (Below.refl _ _) _⟩

/-- The boxes of the given entry and of its copy. -/
structure TwoB (w w0 w6 : World) (v0 v1 v2 v3 v4 v5 v6 u2 u3 u4 u5 : Value) : Prop where
  one : EBx w0 w0.heap.size v0 v1 v2 v3 v4 v5 v6 w
  two : EBx w6 w6.heap.size v0 v1 u2 u3 u4 u5 v6 w

theorem TwoB.below {w w' w0 w6 : World} {v0 v1 v2 v3 v4 v5 v6 u2 u3 u4 u5 : Value} (h : TwoB w w0 w6 v0 v1 v2 v3 v4 v5 v6 u2 u3 u4 u5) (hb : Below w.heap.size w w') : TwoB w' w0 w6 v0 v1 v2 v3 v4 v5 v6 u2 u3 u4 u5 := ⟨h.one.below hb, h.two.below hb⟩

set_option maxHeartbeats 16000000 in
set_option maxRecDepth 8000 in
theorem exactCandOf_walk (a : Option Addr) (n cap : Nat) (f g : Nat → Int) (a' : Option Addr) (n' cap' : Nat) (f' g' : Nat → Int) (x : En) (va : Option Addr) (vn vc : Nat) (r : RowV) (qa : Option Addr) (qn qc : Nat) (qs : List Int) (t : Int) (w : World) (h : IsPairs w a n f g) (h' : IsPairs w a' n' f' g')
    (rx : Row w va vn x.it.vec) (hvl : vn ≤ 9223372036854775807) (hr : r.is w x.r1 x.r2 x.r3) (m1 : r.m1 ≤ 9223372036854775807) (m2 : r.m2 ≤ 9223372036854775807) (m3 : r.m3 ≤ 9223372036854775807) (rq : Row w qa qn qs) :
    Calls Try.prog 3 #[.slice a n cap, .slice a' n' cap', enV x va vn vc r, .slice qa qn qc, .int .i64 t] w fun e w' => e = .returned (.bool true) ∧ Below w.heap.size w w' := by
  obtain ⟨hp, hl⟩ := h
  obtain ⟨hp', hl'⟩ := h'
  have T0 := EBx.new w (.int .i64 x.it.id) (.int .i64 x.it.tags) (.slice va vn vc) (.slice r.a1 r.m1 r.k1) (.slice r.a2 r.m2 r.k2) (.slice r.a3 r.m3 r.k3) (.bool x.is) 29
  obtain ⟨W, hW⟩ : ∃ W, w.alloc (.cells #[.int .i64 x.it.id, .int .i64 x.it.tags, .slice va vn vc, .slice r.a1 r.m1 r.k1, .slice r.a2 r.m2 r.k2, .slice r.a3 r.m3 r.k3, .bool x.is] 29) = W := ⟨_, rfl⟩
  rw [hW] at T0
  have b0 := T0.bel
  have HW := hide hW
  have HT0 := hide T0
  clear T0 hW
  have hqx := rq.len
  subst hqx
  by_cases hqn : qs.length ≤ 1048576
  · by_cases hn : n ≤ 1048576
    · have SZ := hide (fun w' => szRangeS_any a n cap 1048576 w' (by omega) (by omega) hl)
      rw [if_neg (show ¬ (1048576 : Int) - (n : Int) < 0 by omega)] at SZ
      have hnl : ¬ (1048576 : Int) - (n : Int) < 0 := by omega
      have hql : ¬ (1048576 : Int) < (qs.length : Int) := by omega
      have SZ' := hide (fun w' => szRangeS_any a' n' cap' (1048576 - (n : Int)) w' (by omega) (by omega) hl')
      by_cases hs : (1048576 : Int) - (n : Int) - (n' : Int) < 0
      · rw [if_pos hs] at SZ'
        clear hs
        unfold enV
        go_enter Try.func3, Try.ntmps3
        go_wp2_with fail
        rw [HW.out]
        refine (SZ.out _).mono ?_
        rintro e w0 ⟨rfl, hw0⟩
        obtain rfl := hw0.symm
        go_wp2_with fail
        refine (SZ'.out _).mono ?_
        rintro e w1 ⟨rfl, hw1⟩
        obtain rfl := hw1.symm
        go_wp2_with fail
        go_ret
        exact ⟨rfl, b0⟩
      · rw [if_neg hs] at SZ'
        have SI := hide (fun w' => szEntry_any x va vn vc r (1048576 - (n : Int) - (n' : Int)) w' (by omega) (by omega) hvl m1 m2 m3)
        unfold enV at SI ⊢
        go_enter Try.func3, Try.ntmps3
        go_wp2_with fail
        rw [HW.out]
        refine (SZ.out _).mono ?_
        rintro e w0 ⟨rfl, hw0⟩
        obtain rfl := hw0.symm
        clear hw0
        go_wp2_with fail
        refine (SZ'.out _).mono ?_
        rintro e w1 ⟨rfl, hw1⟩
        obtain rfl := hw1.symm
        clear hw1
        obtain ⟨_, t0, t1, t2, t3, t4, t5, t6, _⟩ := HT0.out
        go_wp2_with fail
        refine (SI.out _).mono ?_
        rintro e w3 ⟨v, rfl, hv, hb3⟩
        have T3 := hide (HT0.out.below hb3)
        have B3 := T3.out.bel
        clear t0 t1 t2 t3 t4 t5 t6 HT0 hb3 HW SZ SZ' SI b0
        rcases hv with rfl | ⟨hv0, hv1⟩
        · go_wp2_with fail
          go_ret
          exact ⟨rfl, B3⟩
        · have hvn : vn ≤ 1048576 := by omega
          have k1 : r.m1 ≤ 1048576 := by omega
          have k2 : r.m2 ≤ 1048576 := by omega
          have k3 : r.m3 ≤ 1048576 := by omega
          have hn' : n' ≤ 1048576 := by omega
          have hvx : x.it.vec.length ≤ 1048576 := by rw [rx.len]; exact hvn
          have hx1 : x.r1.length ≤ 1048576 := by rw [hr.r1.len]; exact k1
          have hx2 : x.r2.length ≤ 1048576 := by rw [hr.r2.len]; exact k2
          have hx3 : x.r3.length ≤ 1048576 := by rw [hr.r3.len]; exact k3
          have hv2 : ¬ v < 0 := by omega
          have TR := hide (fun w1 (hb : Below w.heap.size w w1) => toRangeS_any a n cap f g w1 (hp.below hb) hn)
          have TR' := hide (fun w1 (hb : Below w.heap.size w w1) => toRangeS_any a' n' cap' f' g' w1 (hp'.below hb) hn')
          have TE := hide (fun w1 (hb : Below w.heap.size w w1) => toEntry_any x va vn vc r w1 hvn k1 k2 k3 (rx.below hb) (hr.below hb))
          have TQ := hide (fun w1 (hb : Below w.heap.size w w1) => toInts_any qa qs.length qc qs w1 (rq.below hb) hqn)
          have SP := hide (fun b b' (yv : Option Addr) (yn yc : Nat) (yr : RowV) gq w1 (o : OwnP w1 b n f g) (o' : OwnP w1 b' n' f' g') (ra : Row w1 yv yn x.it.vec) (rr : yr.is w1 x.r1 x.r2 x.r3) (oq : Own w1 gq qs) => sCandOf_any (some ⟨b, 0, none⟩) (some ⟨b', 0, none⟩) n n n' n' f g f' g' x yv yn yc yr (some ⟨gq, 0, none⟩) qs.length qs.length qs t w1 o.prow o'.prow ra rr oq.row hn hn' hqn (by rw [← ra.len]; exact hvx))
          have IM := hide (fun b b' (yv : Option Addr) (yn yc : Nat) (yr : RowV) gq w1 (o : OwnP w1 b n f g) (o' : OwnP w1 b' n' f' g') (ra : Row w1 yv yn x.it.vec) (rr : yr.is w1 x.r1 x.r2 x.r3) (oq : Own w1 gq qs) => iCandOf_any (some ⟨b, 0, none⟩) (some ⟨b', 0, none⟩) n n n' n' f g f' g' x yv yn yc yr (some ⟨gq, 0, none⟩) qs.length qs.length qs t w1 o.prow o'.prow ra rr oq.row hqn (by rw [← ra.len]; exact hvx))
          unfold candV at SP IM
          generalize (if candB n f g n' f' g' x qs.length qs t then x.it.id else 0) = c0 at SP IM
          generalize (if candB n f g n' f' g' x qs.length qs t then lowH n (bkF x.is f f') (bkF x.is g g') x qs.length qs t else 0) = c1 at SP IM
          generalize (if candB n f g n' f' g' x qs.length qs t then highH n (bkF x.is f f') (bkF x.is g g') x qs.length qs t else 0) = c2 at SP IM
          generalize candB n f g n' f' g' x qs.length qs t = ok at SP IM
          have EQ := hide (fun b b' w1 (o : OwnP w1 b n f g) (o' : OwnP w1 b' n f g) => eqRangeS_self (some ⟨b, 0, none⟩) (some ⟨b', 0, none⟩) n n n f g w1 o.prow o'.prow hn)
          have EQ' := hide (fun b b' w1 (o : OwnP w1 b n' f' g') (o' : OwnP w1 b' n' f' g') => eqRangeS_self (some ⟨b, 0, none⟩) (some ⟨b', 0, none⟩) n' n' n' f' g' w1 o.prow o'.prow hn')
          have EI := hide (fun b b' w1 (o : Own w1 b qs) (o' : Own w1 b' qs) => eqInts_any (some ⟨b, 0, none⟩) (some ⟨b', 0, none⟩) qs.length qs.length qs.length qs.length qs qs w1 o.row o'.row hqn)
          rw [decide_eq_true rfl] at EI
          have EE := hide (fun (yv : Option Addr) (yn yc : Nat) (yr : RowV) (uv : Option Addr) (un uc : Nat) (ur : RowV) w1 (ra : Row w1 yv yn x.it.vec) (rr : yr.is w1 x.r1 x.r2 x.r3) (sa : Row w1 uv un x.it.vec) (sr : ur.is w1 x.r1 x.r2 x.r3) => eqEntry_self x yv uv yn un yc uc yr ur w1 (by rw [← ra.len]; exact hvx) (by rw [← rr.r1.len]; exact hx1) (by rw [← rr.r2.len]; exact hx2) (by rw [← rr.r3.len]; exact hx3) ra sa rr sr)
          have EH := hide (fun w1 => eqHit_any c0 c1 c2 w1)
          unfold ToE at TE
          unfold enV at TE EE
          have hvv : (ok != ok) = false := by simp
          clear hp hp' rx hr rq hl hl' hv0 hv1 hvx hx1 hx2 hx3
          go_wp2_with fail
          go_cut [12, 13] (fun s12 s13 wx => ∃ z, s12 = .pointer (some ⟨z, 0, none⟩) ∧ s13 = .bool ok ∧ EBx w w.heap.size (.int .i64 x.it.id) (.int .i64 x.it.tags) (.slice va vn vc) (.slice r.a1 r.m1 r.k1) (.slice r.a2 r.m2 r.k2) (.slice r.a3 r.m3 r.k3) (.bool x.is) wx ∧ TriW wx z (.int .i64 c0) (.int .i64 c1) (.int .i64 c2))
          case first =>
            refine wp_region_held_drew (S := fun wx => EBx w w.heap.size (.int .i64 x.it.id) (.int .i64 x.it.tags) (.slice va vn vc) (.slice r.a1 r.m1 r.k1) (.slice r.a2 r.m2 r.k2) (.slice r.a3 r.m3 r.k3) (.bool x.is) wx) (by kernel_rfl) (EBx.below T3.out (Below.drew (Below.refl _ _))) (fun hH0 => ?_)
            refine wpAnyH_take (i := 0) (oi := { dst := some 39, op := _, type := _, pos := _, after := _, guard := _ }) (v := ?_) rfl (by kernel_rfl) (by kernel_rfl) (by kernel_rfl) (fun _ _ _ h => h) (Or.inl ⟨by rfl, ?_⟩) (hH0) ?_
            rotate_left
            · (intro wx hSw; obtain ⟨_, q0, q1, q2, q3, q4, q5, q6, _⟩ := hSw; go_simp <;> with_reducible rfl)
            simp only [Act.put, List.setIfInBounds_toArray, List.set_cons_zero, List.set_cons_succ]
            refine wpAnyH_take (i := 2) (oi := { dst := some 41, op := _, type := _, pos := _, after := _, guard := _ }) (v := ?_) rfl (by kernel_rfl) (by kernel_rfl) (by kernel_rfl) (fun _ _ _ h => h) (Or.inl ⟨by rfl, ?_⟩) (hH0) ?_
            rotate_left
            · (intro wx hSw; obtain ⟨_, q0, q1, q2, q3, q4, q5, q6, _⟩ := hSw; go_simp <;> with_reducible rfl)
            simp only [Act.put, List.setIfInBounds_toArray, List.set_cons_zero, List.set_cons_succ]
            refine wpAnyH_take (i := 4) (oi := { dst := some 43, op := _, type := _, pos := _, after := _, guard := _ }) (v := ?_) rfl (by kernel_rfl) (by kernel_rfl) (by kernel_rfl) (fun _ _ _ h => h) (Or.inl ⟨by rfl, ?_⟩) (hH0) ?_
            rotate_left
            · (intro wx hSw; obtain ⟨_, q0, q1, q2, q3, q4, q5, q6, _⟩ := hSw; go_simp <;> with_reducible rfl)
            simp only [Act.put, List.setIfInBounds_toArray, List.set_cons_zero, List.set_cons_succ]
            refine wpAnyH_take (i := 6) (oi := { dst := some 45, op := _, type := _, pos := _, after := _, guard := _ }) (v := ?_) rfl (by kernel_rfl) (by kernel_rfl) (by kernel_rfl) (fun _ _ _ h => h) (Or.inl ⟨by rfl, ?_⟩) (hH0) ?_
            rotate_left
            · (intro wx hSw; obtain ⟨_, q0, q1, q2, q3, q4, q5, q6, _⟩ := hSw; go_simp <;> with_reducible rfl)
            simp only [Act.put, List.setIfInBounds_toArray, List.set_cons_zero, List.set_cons_succ]
            refine wpAnyH_take (i := 8) (oi := { dst := some 47, op := _, type := _, pos := _, after := _, guard := _ }) (v := ?_) rfl (by kernel_rfl) (by kernel_rfl) (by kernel_rfl) (fun _ _ _ h => h) (Or.inl ⟨by rfl, ?_⟩) (hH0) ?_
            rotate_left
            · (intro wx hSw; obtain ⟨_, q0, q1, q2, q3, q4, q5, q6, _⟩ := hSw; go_simp <;> with_reducible rfl)
            simp only [Act.put, List.setIfInBounds_toArray, List.set_cons_zero, List.set_cons_succ]
            refine wpAnyH_ready (rs := [1, 13]) (by kernel_rfl) (by simp) ?_
            refine AllReadyH.cons (o := { dst := some 40, op := _, type := _, pos := _, after := _, guard := _ }) rfl (fun K hK => ?_) (AllReadyH.cons (o := { dst := some 12, op := _, type := _, pos := _, after := _, guard := _ }) rfl (fun K hK => ?_) AllReadyH.nil)
            · skip
              go_simp
              refine (TR.out _ (EBx.bel hH0)).mono ?_
              rintro e xa ⟨b0, rfl, l0, o0, hb0⟩
              dsimp only
              refine hK.out _ _ (EBx.below hH0 hb0) (fun hH101 => ?_)
              clear hK K
              refine wpAnyH_ready (rs := [3, 13]) (by kernel_rfl) (by simp) ?_
              refine AllReadyH.cons (o := { dst := some 42, op := _, type := _, pos := _, after := _, guard := _ }) rfl (fun K hK => ?_) (AllReadyH.cons (o := { dst := some 12, op := _, type := _, pos := _, after := _, guard := _ }) rfl (fun K hK => ?_) AllReadyH.nil)
              · skip
                go_simp
                refine (TR'.out _ (EBx.bel hH101)).mono ?_
                rintro e xb ⟨b1, rfl, l1, o1, hb1⟩
                dsimp only
                refine hK.out _ _ (EBx.below hH101 hb1) (fun hH102 => ?_)
                clear hK K
                refine wpAnyH_ready (rs := [5, 13]) (by kernel_rfl) (by simp) ?_
                refine AllReadyH.cons (o := { dst := some 44, op := _, type := _, pos := _, after := _, guard := _ }) rfl (fun K hK => ?_) (AllReadyH.cons (o := { dst := some 12, op := _, type := _, pos := _, after := _, guard := _ }) rfl (fun K hK => ?_) AllReadyH.nil)
                · skip
                  go_simp
                  refine (TE.out _ (EBx.bel hH102)).mono ?_
                  rintro e xc ⟨yv, yn, yc, yr, rfl, ra, rr, hb2⟩
                  dsimp only
                  refine hK.out _ _ (EBx.below hH102 hb2) (fun hH103 => ?_)
                  clear hK K
                  refine wpAnyH_ready (rs := [7, 13]) (by kernel_rfl) (by simp) ?_
                  refine AllReadyH.cons (o := { dst := some 46, op := _, type := _, pos := _, after := _, guard := _ }) rfl (fun K hK => ?_) (AllReadyH.cons (o := { dst := some 12, op := _, type := _, pos := _, after := _, guard := _ }) rfl (fun K hK => ?_) AllReadyH.nil)
                  · skip
                    go_simp
                    refine (TQ.out _ (EBx.bel hH103)).mono ?_
                    rintro e xd ⟨g3, rfl, l3, o3, hb3⟩
                    dsimp only
                    refine hK.out _ _ (EBx.below hH103 hb3) (fun hH104 => ?_)
                    clear hK K
                    refine wpAnyH_ready (rs := [9, 13]) (by kernel_rfl) (by simp) ?_
                    refine AllReadyH.cons (o := { dst := some 48, op := _, type := _, pos := _, after := _, guard := _ }) rfl (fun K hK => ?_) (AllReadyH.cons (o := { dst := some 12, op := _, type := _, pos := _, after := _, guard := _ }) rfl (fun K hK => ?_) AllReadyH.nil)
                    · skip
                      go_simp
                      refine (SP.out _ _ _ _ _ _ _ _ (((o0.below hb1).below hb2).below hb3) ((o1.below hb2).below hb3) (ra.below hb3) (rr.below hb3) o3).mono ?_
                      rintro e xe ⟨rfl, hb4⟩
                      dsimp only
                      refine hK.out _ _ (EBx.below hH104 hb4) (fun hH105 => ?_)
                      clear hK K
                      refine wpAnyH_take (i := 10) (oi := { dst := some 38, op := _, type := _, pos := _, after := _, guard := _ }) (v := ?_) rfl (by kernel_rfl) (by kernel_rfl) (by kernel_rfl) (fun _ _ _ h => h) (Or.inl ⟨by rfl, ?_⟩) (hH105) ?_
                      rotate_left
                      · (intro wx hSw; obtain ⟨_, q0, q1, q2, q3, q4, q5, q6, _⟩ := hSw; go_simp <;> with_reducible rfl)
                      simp only [Act.put, List.setIfInBounds_toArray, List.set_cons_zero, List.set_cons_succ]
                      refine wpAnyH_take (i := 11) (oi := { dst := some 49, op := _, type := _, pos := _, after := _, guard := _ }) (v := ?_) rfl (by kernel_rfl) (by kernel_rfl) (by kernel_rfl) (fun _ _ _ h => h) (Or.inl ⟨by rfl, ?_⟩) (hH105) ?_
                      rotate_left
                      · (intro wx hSw; obtain ⟨_, q0, q1, q2, q3, q4, q5, q6, _⟩ := hSw; go_simp <;> with_reducible rfl)
                      simp only [Act.put, List.setIfInBounds_toArray, List.set_cons_zero, List.set_cons_succ]
                      refine wpAnyH_take (i := 12) (oi := { dst := some 50, op := _, type := _, pos := _, after := _, guard := _ }) (v := ?_) rfl (by kernel_rfl) (by kernel_rfl) (by kernel_rfl) (fun _ _ _ h => h) (Or.inl ⟨by rfl, ?_⟩) (hH105) ?_
                      rotate_left
                      · (intro wx hSw; obtain ⟨_, q0, q1, q2, q3, q4, q5, q6, _⟩ := hSw; go_simp <;> with_reducible rfl)
                      simp only [Act.put, List.setIfInBounds_toArray, List.set_cons_zero, List.set_cons_succ]
                      refine wpAnyH_ready (rs := [13]) (by kernel_rfl) (by simp) ?_
                      refine AllReadyH.cons (o := { dst := some 12, op := _, type := _, pos := _, after := _, guard := _ }) rfl (fun K hK => ?_) AllReadyH.nil
                      go_simp
                      refine hK.out _ _ (EBx.below hH105 (balloc (Below.refl _ _) _)) (fun hH106 => ?_)
                      clear hK K
                      refine wpAnyH_ready (rs := [14]) (by kernel_rfl) (by simp) ?_
                      refine AllReadyH.cons (o := { dst := none, op := _, type := _, pos := _, after := _, guard := _ }) rfl (fun K hK => ?_) AllReadyH.nil
                      go_simp
                      refine hK.out _ _ (EBx.below hH105 (balloc (Below.refl _ _) _)) (fun hH90 => ?_)
                      clear hK K
                      refine wpAnyH_take (i := 15) (oi := { dst := some 13, op := _, type := _, pos := _, after := _, guard := _ }) (v := ?_) rfl (by kernel_rfl) (by kernel_rfl) (by kernel_rfl) (fun _ _ _ h => h) (Or.inl ⟨by rfl, ?_⟩) (hH90) ?_
                      rotate_left
                      · (intro wx hSw; obtain ⟨_, q0, q1, q2, q3, q4, q5, q6, _⟩ := hSw; go_simp <;> with_reducible rfl)
                      simp only [Act.put, List.setIfInBounds_toArray, List.set_cons_zero, List.set_cons_succ]
                      refine wpAnyH_done (by kernel_rfl) ?_ _
                      go_wp2_with fail
                      go_meet
                      exact ⟨_, rfl, rfl, hH90, TriW.new _ _ _ _ _ _ rfl⟩
                    · skip
                      go_simp
                      refine hK.out _ _ (EBx.below hH104 (balloc (Below.refl _ _) _)) (fun hH107 => ?_)
                      clear hK K
                      refine wpAnyH_ready (rs := [9]) (by kernel_rfl) (by simp) ?_
                      refine AllReadyH.cons (o := { dst := some 48, op := _, type := _, pos := _, after := _, guard := _ }) rfl (fun K hK => ?_) AllReadyH.nil
                      go_simp
                      refine (SP.out _ _ _ _ _ _ _ _ ((((o0.below hb1).below hb2).below hb3).below (balloc (Below.refl _ _) _)) (((o1.below hb2).below hb3).below (balloc (Below.refl _ _) _)) ((ra.below hb3).below (balloc (Below.refl _ _) _)) ((rr.below hb3).below (balloc (Below.refl _ _) _)) (Own.below o3 (balloc (Below.refl _ _) _))).mono ?_
                      rintro e xe ⟨rfl, hb4⟩
                      dsimp only
                      refine hK.out _ _ (EBx.below hH107 hb4) (fun hH108 => ?_)
                      clear hK K
                      refine wpAnyH_take (i := 10) (oi := { dst := some 38, op := _, type := _, pos := _, after := _, guard := _ }) (v := ?_) rfl (by kernel_rfl) (by kernel_rfl) (by kernel_rfl) (fun _ _ _ h => h) (Or.inl ⟨by rfl, ?_⟩) (hH108) ?_
                      rotate_left
                      · (intro wx hSw; obtain ⟨_, q0, q1, q2, q3, q4, q5, q6, _⟩ := hSw; go_simp <;> with_reducible rfl)
                      simp only [Act.put, List.setIfInBounds_toArray, List.set_cons_zero, List.set_cons_succ]
                      refine wpAnyH_take (i := 11) (oi := { dst := some 49, op := _, type := _, pos := _, after := _, guard := _ }) (v := ?_) rfl (by kernel_rfl) (by kernel_rfl) (by kernel_rfl) (fun _ _ _ h => h) (Or.inl ⟨by rfl, ?_⟩) (hH108) ?_
                      rotate_left
                      · (intro wx hSw; obtain ⟨_, q0, q1, q2, q3, q4, q5, q6, _⟩ := hSw; go_simp <;> with_reducible rfl)
                      simp only [Act.put, List.setIfInBounds_toArray, List.set_cons_zero, List.set_cons_succ]
                      refine wpAnyH_take (i := 12) (oi := { dst := some 50, op := _, type := _, pos := _, after := _, guard := _ }) (v := ?_) rfl (by kernel_rfl) (by kernel_rfl) (by kernel_rfl) (fun _ _ _ h => h) (Or.inl ⟨by rfl, ?_⟩) (hH108) ?_
                      rotate_left
                      · (intro wx hSw; obtain ⟨_, q0, q1, q2, q3, q4, q5, q6, _⟩ := hSw; go_simp <;> with_reducible rfl)
                      simp only [Act.put, List.setIfInBounds_toArray, List.set_cons_zero, List.set_cons_succ]
                      have AZ := ((TriW.new xd (.int .i64 0) (.int .i64 0) (.int .i64 0) 33 _ rfl).below hb4)
                      have gz := (EBx.bel hH104).size
                      have lz := (EBx.lt hH104)
                      have HZ := hide AZ
                      obtain ⟨_, y0, y1, y2, f0, f1, f2⟩ := AZ
                      refine wpAnyH_ready (rs := [14]) (by kernel_rfl) (by simp) ?_
                      refine AllReadyH.cons (o := { dst := none, op := _, type := _, pos := _, after := _, guard := _ }) rfl (fun K hK => ?_) AllReadyH.nil
                      go_simp
                      refine hK.out _ _ (EBx.set3 hH108 (by first | (simp; done) | omega | (simp; omega)) (by first | omega | (simp; omega)) _ _ _) (fun hH90 => ?_)
                      clear hK K
                      refine wpAnyH_take (i := 15) (oi := { dst := some 13, op := _, type := _, pos := _, after := _, guard := _ }) (v := ?_) rfl (by kernel_rfl) (by kernel_rfl) (by kernel_rfl) (fun _ _ _ h => h) (Or.inl ⟨by rfl, ?_⟩) (hH90) ?_
                      rotate_left
                      · (intro wx hSw; obtain ⟨_, q0, q1, q2, q3, q4, q5, q6, _⟩ := hSw; go_simp <;> with_reducible rfl)
                      simp only [Act.put, List.setIfInBounds_toArray, List.set_cons_zero, List.set_cons_succ]
                      refine wpAnyH_done (by kernel_rfl) ?_ _
                      go_wp2_with fail
                      go_meet
                      exact ⟨_, rfl, rfl, hH90, HZ.out.put _ _ _⟩
                  · skip
                    go_simp
                    refine hK.out _ _ (EBx.below hH103 (balloc (Below.refl _ _) _)) (fun hH109 => ?_)
                    clear hK K
                    refine wpAnyH_ready (rs := [7]) (by kernel_rfl) (by simp) ?_
                    refine AllReadyH.cons (o := { dst := some 46, op := _, type := _, pos := _, after := _, guard := _ }) rfl (fun K hK => ?_) AllReadyH.nil
                    go_simp
                    refine (TQ.out _ (EBx.bel hH109)).mono ?_
                    rintro e xd ⟨g3, rfl, l3, o3, hb3⟩
                    dsimp only
                    refine hK.out _ _ (EBx.below hH109 hb3) (fun hH110 => ?_)
                    clear hK K
                    refine wpAnyH_ready (rs := [9]) (by kernel_rfl) (by simp) ?_
                    refine AllReadyH.cons (o := { dst := some 48, op := _, type := _, pos := _, after := _, guard := _ }) rfl (fun K hK => ?_) AllReadyH.nil
                    go_simp
                    refine (SP.out _ _ _ _ _ _ _ _ ((((o0.below hb1).below hb2).below (balloc (Below.refl _ _) _)).below hb3) (((o1.below hb2).below (balloc (Below.refl _ _) _)).below hb3) ((ra.below (balloc (Below.refl _ _) _)).below hb3) ((rr.below (balloc (Below.refl _ _) _)).below hb3) o3).mono ?_
                    rintro e xe ⟨rfl, hb4⟩
                    dsimp only
                    refine hK.out _ _ (EBx.below hH110 hb4) (fun hH111 => ?_)
                    clear hK K
                    refine wpAnyH_take (i := 10) (oi := { dst := some 38, op := _, type := _, pos := _, after := _, guard := _ }) (v := ?_) rfl (by kernel_rfl) (by kernel_rfl) (by kernel_rfl) (fun _ _ _ h => h) (Or.inl ⟨by rfl, ?_⟩) (hH111) ?_
                    rotate_left
                    · (intro wx hSw; obtain ⟨_, q0, q1, q2, q3, q4, q5, q6, _⟩ := hSw; go_simp <;> with_reducible rfl)
                    simp only [Act.put, List.setIfInBounds_toArray, List.set_cons_zero, List.set_cons_succ]
                    refine wpAnyH_take (i := 11) (oi := { dst := some 49, op := _, type := _, pos := _, after := _, guard := _ }) (v := ?_) rfl (by kernel_rfl) (by kernel_rfl) (by kernel_rfl) (fun _ _ _ h => h) (Or.inl ⟨by rfl, ?_⟩) (hH111) ?_
                    rotate_left
                    · (intro wx hSw; obtain ⟨_, q0, q1, q2, q3, q4, q5, q6, _⟩ := hSw; go_simp <;> with_reducible rfl)
                    simp only [Act.put, List.setIfInBounds_toArray, List.set_cons_zero, List.set_cons_succ]
                    refine wpAnyH_take (i := 12) (oi := { dst := some 50, op := _, type := _, pos := _, after := _, guard := _ }) (v := ?_) rfl (by kernel_rfl) (by kernel_rfl) (by kernel_rfl) (fun _ _ _ h => h) (Or.inl ⟨by rfl, ?_⟩) (hH111) ?_
                    rotate_left
                    · (intro wx hSw; obtain ⟨_, q0, q1, q2, q3, q4, q5, q6, _⟩ := hSw; go_simp <;> with_reducible rfl)
                    simp only [Act.put, List.setIfInBounds_toArray, List.set_cons_zero, List.set_cons_succ]
                    have AZ := (((TriW.new xc (.int .i64 0) (.int .i64 0) (.int .i64 0) 33 _ rfl).below hb3).below hb4)
                    have gz := (EBx.bel hH103).size
                    have lz := (EBx.lt hH103)
                    have HZ := hide AZ
                    obtain ⟨_, y0, y1, y2, f0, f1, f2⟩ := AZ
                    refine wpAnyH_ready (rs := [14]) (by kernel_rfl) (by simp) ?_
                    refine AllReadyH.cons (o := { dst := none, op := _, type := _, pos := _, after := _, guard := _ }) rfl (fun K hK => ?_) AllReadyH.nil
                    go_simp
                    refine hK.out _ _ (EBx.set3 hH111 (by first | (simp; done) | omega | (simp; omega)) (by first | omega | (simp; omega)) _ _ _) (fun hH90 => ?_)
                    clear hK K
                    refine wpAnyH_take (i := 15) (oi := { dst := some 13, op := _, type := _, pos := _, after := _, guard := _ }) (v := ?_) rfl (by kernel_rfl) (by kernel_rfl) (by kernel_rfl) (fun _ _ _ h => h) (Or.inl ⟨by rfl, ?_⟩) (hH90) ?_
                    rotate_left
                    · (intro wx hSw; obtain ⟨_, q0, q1, q2, q3, q4, q5, q6, _⟩ := hSw; go_simp <;> with_reducible rfl)
                    simp only [Act.put, List.setIfInBounds_toArray, List.set_cons_zero, List.set_cons_succ]
                    refine wpAnyH_done (by kernel_rfl) ?_ _
                    go_wp2_with fail
                    go_meet
                    exact ⟨_, rfl, rfl, hH90, HZ.out.put _ _ _⟩
                · skip
                  go_simp
                  refine hK.out _ _ (EBx.below hH102 (balloc (Below.refl _ _) _)) (fun hH112 => ?_)
                  clear hK K
                  refine wpAnyH_ready (rs := [5]) (by kernel_rfl) (by simp) ?_
                  refine AllReadyH.cons (o := { dst := some 44, op := _, type := _, pos := _, after := _, guard := _ }) rfl (fun K hK => ?_) AllReadyH.nil
                  go_simp
                  refine (TE.out _ (EBx.bel hH112)).mono ?_
                  rintro e xc ⟨yv, yn, yc, yr, rfl, ra, rr, hb2⟩
                  dsimp only
                  refine hK.out _ _ (EBx.below hH112 hb2) (fun hH113 => ?_)
                  clear hK K
                  refine wpAnyH_ready (rs := [7]) (by kernel_rfl) (by simp) ?_
                  refine AllReadyH.cons (o := { dst := some 46, op := _, type := _, pos := _, after := _, guard := _ }) rfl (fun K hK => ?_) AllReadyH.nil
                  go_simp
                  refine (TQ.out _ (EBx.bel hH113)).mono ?_
                  rintro e xd ⟨g3, rfl, l3, o3, hb3⟩
                  dsimp only
                  refine hK.out _ _ (EBx.below hH113 hb3) (fun hH114 => ?_)
                  clear hK K
                  refine wpAnyH_ready (rs := [9]) (by kernel_rfl) (by simp) ?_
                  refine AllReadyH.cons (o := { dst := some 48, op := _, type := _, pos := _, after := _, guard := _ }) rfl (fun K hK => ?_) AllReadyH.nil
                  go_simp
                  refine (SP.out _ _ _ _ _ _ _ _ ((((o0.below hb1).below (balloc (Below.refl _ _) _)).below hb2).below hb3) (((o1.below (balloc (Below.refl _ _) _)).below hb2).below hb3) (ra.below hb3) (rr.below hb3) o3).mono ?_
                  rintro e xe ⟨rfl, hb4⟩
                  dsimp only
                  refine hK.out _ _ (EBx.below hH114 hb4) (fun hH115 => ?_)
                  clear hK K
                  refine wpAnyH_take (i := 10) (oi := { dst := some 38, op := _, type := _, pos := _, after := _, guard := _ }) (v := ?_) rfl (by kernel_rfl) (by kernel_rfl) (by kernel_rfl) (fun _ _ _ h => h) (Or.inl ⟨by rfl, ?_⟩) (hH115) ?_
                  rotate_left
                  · (intro wx hSw; obtain ⟨_, q0, q1, q2, q3, q4, q5, q6, _⟩ := hSw; go_simp <;> with_reducible rfl)
                  simp only [Act.put, List.setIfInBounds_toArray, List.set_cons_zero, List.set_cons_succ]
                  refine wpAnyH_take (i := 11) (oi := { dst := some 49, op := _, type := _, pos := _, after := _, guard := _ }) (v := ?_) rfl (by kernel_rfl) (by kernel_rfl) (by kernel_rfl) (fun _ _ _ h => h) (Or.inl ⟨by rfl, ?_⟩) (hH115) ?_
                  rotate_left
                  · (intro wx hSw; obtain ⟨_, q0, q1, q2, q3, q4, q5, q6, _⟩ := hSw; go_simp <;> with_reducible rfl)
                  simp only [Act.put, List.setIfInBounds_toArray, List.set_cons_zero, List.set_cons_succ]
                  refine wpAnyH_take (i := 12) (oi := { dst := some 50, op := _, type := _, pos := _, after := _, guard := _ }) (v := ?_) rfl (by kernel_rfl) (by kernel_rfl) (by kernel_rfl) (fun _ _ _ h => h) (Or.inl ⟨by rfl, ?_⟩) (hH115) ?_
                  rotate_left
                  · (intro wx hSw; obtain ⟨_, q0, q1, q2, q3, q4, q5, q6, _⟩ := hSw; go_simp <;> with_reducible rfl)
                  simp only [Act.put, List.setIfInBounds_toArray, List.set_cons_zero, List.set_cons_succ]
                  have AZ := ((((TriW.new xb (.int .i64 0) (.int .i64 0) (.int .i64 0) 33 _ rfl).below hb2).below hb3).below hb4)
                  have gz := (EBx.bel hH102).size
                  have lz := (EBx.lt hH102)
                  have HZ := hide AZ
                  obtain ⟨_, y0, y1, y2, f0, f1, f2⟩ := AZ
                  refine wpAnyH_ready (rs := [14]) (by kernel_rfl) (by simp) ?_
                  refine AllReadyH.cons (o := { dst := none, op := _, type := _, pos := _, after := _, guard := _ }) rfl (fun K hK => ?_) AllReadyH.nil
                  go_simp
                  refine hK.out _ _ (EBx.set3 hH115 (by first | (simp; done) | omega | (simp; omega)) (by first | omega | (simp; omega)) _ _ _) (fun hH90 => ?_)
                  clear hK K
                  refine wpAnyH_take (i := 15) (oi := { dst := some 13, op := _, type := _, pos := _, after := _, guard := _ }) (v := ?_) rfl (by kernel_rfl) (by kernel_rfl) (by kernel_rfl) (fun _ _ _ h => h) (Or.inl ⟨by rfl, ?_⟩) (hH90) ?_
                  rotate_left
                  · (intro wx hSw; obtain ⟨_, q0, q1, q2, q3, q4, q5, q6, _⟩ := hSw; go_simp <;> with_reducible rfl)
                  simp only [Act.put, List.setIfInBounds_toArray, List.set_cons_zero, List.set_cons_succ]
                  refine wpAnyH_done (by kernel_rfl) ?_ _
                  go_wp2_with fail
                  go_meet
                  exact ⟨_, rfl, rfl, hH90, HZ.out.put _ _ _⟩
              · skip
                go_simp
                refine hK.out _ _ (EBx.below hH101 (balloc (Below.refl _ _) _)) (fun hH116 => ?_)
                clear hK K
                refine wpAnyH_ready (rs := [3]) (by kernel_rfl) (by simp) ?_
                refine AllReadyH.cons (o := { dst := some 42, op := _, type := _, pos := _, after := _, guard := _ }) rfl (fun K hK => ?_) AllReadyH.nil
                go_simp
                refine (TR'.out _ (EBx.bel hH116)).mono ?_
                rintro e xb ⟨b1, rfl, l1, o1, hb1⟩
                dsimp only
                refine hK.out _ _ (EBx.below hH116 hb1) (fun hH117 => ?_)
                clear hK K
                refine wpAnyH_ready (rs := [5]) (by kernel_rfl) (by simp) ?_
                refine AllReadyH.cons (o := { dst := some 44, op := _, type := _, pos := _, after := _, guard := _ }) rfl (fun K hK => ?_) AllReadyH.nil
                go_simp
                refine (TE.out _ (EBx.bel hH117)).mono ?_
                rintro e xc ⟨yv, yn, yc, yr, rfl, ra, rr, hb2⟩
                dsimp only
                refine hK.out _ _ (EBx.below hH117 hb2) (fun hH118 => ?_)
                clear hK K
                refine wpAnyH_ready (rs := [7]) (by kernel_rfl) (by simp) ?_
                refine AllReadyH.cons (o := { dst := some 46, op := _, type := _, pos := _, after := _, guard := _ }) rfl (fun K hK => ?_) AllReadyH.nil
                go_simp
                refine (TQ.out _ (EBx.bel hH118)).mono ?_
                rintro e xd ⟨g3, rfl, l3, o3, hb3⟩
                dsimp only
                refine hK.out _ _ (EBx.below hH118 hb3) (fun hH119 => ?_)
                clear hK K
                refine wpAnyH_ready (rs := [9]) (by kernel_rfl) (by simp) ?_
                refine AllReadyH.cons (o := { dst := some 48, op := _, type := _, pos := _, after := _, guard := _ }) rfl (fun K hK => ?_) AllReadyH.nil
                go_simp
                refine (SP.out _ _ _ _ _ _ _ _ ((((o0.below (balloc (Below.refl _ _) _)).below hb1).below hb2).below hb3) ((o1.below hb2).below hb3) (ra.below hb3) (rr.below hb3) o3).mono ?_
                rintro e xe ⟨rfl, hb4⟩
                dsimp only
                refine hK.out _ _ (EBx.below hH119 hb4) (fun hH120 => ?_)
                clear hK K
                refine wpAnyH_take (i := 10) (oi := { dst := some 38, op := _, type := _, pos := _, after := _, guard := _ }) (v := ?_) rfl (by kernel_rfl) (by kernel_rfl) (by kernel_rfl) (fun _ _ _ h => h) (Or.inl ⟨by rfl, ?_⟩) (hH120) ?_
                rotate_left
                · (intro wx hSw; obtain ⟨_, q0, q1, q2, q3, q4, q5, q6, _⟩ := hSw; go_simp <;> with_reducible rfl)
                simp only [Act.put, List.setIfInBounds_toArray, List.set_cons_zero, List.set_cons_succ]
                refine wpAnyH_take (i := 11) (oi := { dst := some 49, op := _, type := _, pos := _, after := _, guard := _ }) (v := ?_) rfl (by kernel_rfl) (by kernel_rfl) (by kernel_rfl) (fun _ _ _ h => h) (Or.inl ⟨by rfl, ?_⟩) (hH120) ?_
                rotate_left
                · (intro wx hSw; obtain ⟨_, q0, q1, q2, q3, q4, q5, q6, _⟩ := hSw; go_simp <;> with_reducible rfl)
                simp only [Act.put, List.setIfInBounds_toArray, List.set_cons_zero, List.set_cons_succ]
                refine wpAnyH_take (i := 12) (oi := { dst := some 50, op := _, type := _, pos := _, after := _, guard := _ }) (v := ?_) rfl (by kernel_rfl) (by kernel_rfl) (by kernel_rfl) (fun _ _ _ h => h) (Or.inl ⟨by rfl, ?_⟩) (hH120) ?_
                rotate_left
                · (intro wx hSw; obtain ⟨_, q0, q1, q2, q3, q4, q5, q6, _⟩ := hSw; go_simp <;> with_reducible rfl)
                simp only [Act.put, List.setIfInBounds_toArray, List.set_cons_zero, List.set_cons_succ]
                have AZ := (((((TriW.new xa (.int .i64 0) (.int .i64 0) (.int .i64 0) 33 _ rfl).below hb1).below hb2).below hb3).below hb4)
                have gz := (EBx.bel hH101).size
                have lz := (EBx.lt hH101)
                have HZ := hide AZ
                obtain ⟨_, y0, y1, y2, f0, f1, f2⟩ := AZ
                refine wpAnyH_ready (rs := [14]) (by kernel_rfl) (by simp) ?_
                refine AllReadyH.cons (o := { dst := none, op := _, type := _, pos := _, after := _, guard := _ }) rfl (fun K hK => ?_) AllReadyH.nil
                go_simp
                refine hK.out _ _ (EBx.set3 hH120 (by first | (simp; done) | omega | (simp; omega)) (by first | omega | (simp; omega)) _ _ _) (fun hH90 => ?_)
                clear hK K
                refine wpAnyH_take (i := 15) (oi := { dst := some 13, op := _, type := _, pos := _, after := _, guard := _ }) (v := ?_) rfl (by kernel_rfl) (by kernel_rfl) (by kernel_rfl) (fun _ _ _ h => h) (Or.inl ⟨by rfl, ?_⟩) (hH90) ?_
                rotate_left
                · (intro wx hSw; obtain ⟨_, q0, q1, q2, q3, q4, q5, q6, _⟩ := hSw; go_simp <;> with_reducible rfl)
                simp only [Act.put, List.setIfInBounds_toArray, List.set_cons_zero, List.set_cons_succ]
                refine wpAnyH_done (by kernel_rfl) ?_ _
                go_wp2_with fail
                go_meet
                exact ⟨_, rfl, rfl, hH90, HZ.out.put _ _ _⟩
            · skip
              go_simp
              refine hK.out _ _ (EBx.below hH0 (balloc (Below.refl _ _) _)) (fun hH121 => ?_)
              clear hK K
              refine wpAnyH_ready (rs := [1]) (by kernel_rfl) (by simp) ?_
              refine AllReadyH.cons (o := { dst := some 40, op := _, type := _, pos := _, after := _, guard := _ }) rfl (fun K hK => ?_) AllReadyH.nil
              go_simp
              refine (TR.out _ (EBx.bel hH121)).mono ?_
              rintro e xa ⟨b0, rfl, l0, o0, hb0⟩
              dsimp only
              refine hK.out _ _ (EBx.below hH121 hb0) (fun hH122 => ?_)
              clear hK K
              refine wpAnyH_ready (rs := [3]) (by kernel_rfl) (by simp) ?_
              refine AllReadyH.cons (o := { dst := some 42, op := _, type := _, pos := _, after := _, guard := _ }) rfl (fun K hK => ?_) AllReadyH.nil
              go_simp
              refine (TR'.out _ (EBx.bel hH122)).mono ?_
              rintro e xb ⟨b1, rfl, l1, o1, hb1⟩
              dsimp only
              refine hK.out _ _ (EBx.below hH122 hb1) (fun hH123 => ?_)
              clear hK K
              refine wpAnyH_ready (rs := [5]) (by kernel_rfl) (by simp) ?_
              refine AllReadyH.cons (o := { dst := some 44, op := _, type := _, pos := _, after := _, guard := _ }) rfl (fun K hK => ?_) AllReadyH.nil
              go_simp
              refine (TE.out _ (EBx.bel hH123)).mono ?_
              rintro e xc ⟨yv, yn, yc, yr, rfl, ra, rr, hb2⟩
              dsimp only
              refine hK.out _ _ (EBx.below hH123 hb2) (fun hH124 => ?_)
              clear hK K
              refine wpAnyH_ready (rs := [7]) (by kernel_rfl) (by simp) ?_
              refine AllReadyH.cons (o := { dst := some 46, op := _, type := _, pos := _, after := _, guard := _ }) rfl (fun K hK => ?_) AllReadyH.nil
              go_simp
              refine (TQ.out _ (EBx.bel hH124)).mono ?_
              rintro e xd ⟨g3, rfl, l3, o3, hb3⟩
              dsimp only
              refine hK.out _ _ (EBx.below hH124 hb3) (fun hH125 => ?_)
              clear hK K
              refine wpAnyH_ready (rs := [9]) (by kernel_rfl) (by simp) ?_
              refine AllReadyH.cons (o := { dst := some 48, op := _, type := _, pos := _, after := _, guard := _ }) rfl (fun K hK => ?_) AllReadyH.nil
              go_simp
              refine (SP.out _ _ _ _ _ _ _ _ (((o0.below hb1).below hb2).below hb3) ((o1.below hb2).below hb3) (ra.below hb3) (rr.below hb3) o3).mono ?_
              rintro e xe ⟨rfl, hb4⟩
              dsimp only
              refine hK.out _ _ (EBx.below hH125 hb4) (fun hH126 => ?_)
              clear hK K
              refine wpAnyH_take (i := 10) (oi := { dst := some 38, op := _, type := _, pos := _, after := _, guard := _ }) (v := ?_) rfl (by kernel_rfl) (by kernel_rfl) (by kernel_rfl) (fun _ _ _ h => h) (Or.inl ⟨by rfl, ?_⟩) (hH126) ?_
              rotate_left
              · (intro wx hSw; obtain ⟨_, q0, q1, q2, q3, q4, q5, q6, _⟩ := hSw; go_simp <;> with_reducible rfl)
              simp only [Act.put, List.setIfInBounds_toArray, List.set_cons_zero, List.set_cons_succ]
              refine wpAnyH_take (i := 11) (oi := { dst := some 49, op := _, type := _, pos := _, after := _, guard := _ }) (v := ?_) rfl (by kernel_rfl) (by kernel_rfl) (by kernel_rfl) (fun _ _ _ h => h) (Or.inl ⟨by rfl, ?_⟩) (hH126) ?_
              rotate_left
              · (intro wx hSw; obtain ⟨_, q0, q1, q2, q3, q4, q5, q6, _⟩ := hSw; go_simp <;> with_reducible rfl)
              simp only [Act.put, List.setIfInBounds_toArray, List.set_cons_zero, List.set_cons_succ]
              refine wpAnyH_take (i := 12) (oi := { dst := some 50, op := _, type := _, pos := _, after := _, guard := _ }) (v := ?_) rfl (by kernel_rfl) (by kernel_rfl) (by kernel_rfl) (fun _ _ _ h => h) (Or.inl ⟨by rfl, ?_⟩) (hH126) ?_
              rotate_left
              · (intro wx hSw; obtain ⟨_, q0, q1, q2, q3, q4, q5, q6, _⟩ := hSw; go_simp <;> with_reducible rfl)
              simp only [Act.put, List.setIfInBounds_toArray, List.set_cons_zero, List.set_cons_succ]
              have AZ := ((((((TriW.new w3.drew (.int .i64 0) (.int .i64 0) (.int .i64 0) 33 _ rfl).below hb0).below hb1).below hb2).below hb3).below hb4)
              have gz := (EBx.bel hH0).size
              have lz := (EBx.lt hH0)
              have HZ := hide AZ
              obtain ⟨_, y0, y1, y2, f0, f1, f2⟩ := AZ
              simp only [World.size_drew] at gz lz y0 y1 y2 f0 f1 f2
              refine wpAnyH_ready (rs := [14]) (by kernel_rfl) (by simp) ?_
              refine AllReadyH.cons (o := { dst := none, op := _, type := _, pos := _, after := _, guard := _ }) rfl (fun K hK => ?_) AllReadyH.nil
              go_simp
              refine hK.out _ _ (EBx.set3 hH126 (by first | (simp; done) | omega | (simp; omega)) (by first | omega | (simp; omega)) _ _ _) (fun hH90 => ?_)
              clear hK K
              refine wpAnyH_take (i := 15) (oi := { dst := some 13, op := _, type := _, pos := _, after := _, guard := _ }) (v := ?_) rfl (by kernel_rfl) (by kernel_rfl) (by kernel_rfl) (fun _ _ _ h => h) (Or.inl ⟨by rfl, ?_⟩) (hH90) ?_
              rotate_left
              · (intro wx hSw; obtain ⟨_, q0, q1, q2, q3, q4, q5, q6, _⟩ := hSw; go_simp <;> with_reducible rfl)
              simp only [Act.put, List.setIfInBounds_toArray, List.set_cons_zero, List.set_cons_succ]
              refine wpAnyH_done (by kernel_rfl) ?_ _
              go_wp2_with fail
              go_meet
              exact ⟨_, rfl, rfl, hH90, HZ.out.put _ _ _⟩
          case rest =>
            obtain ⟨z, rfl, rfl, hX, hZ⟩ := hcut
            have H := hide hX
            have Z := hide hZ
            clear hX hZ T3 B3 SP
            go_wp2_with fail
            refine (TR.out _ H.out.bel).mono ?_
            rintro e w4 ⟨b4, rfl, l4, o4, hb4⟩
            have H := hide (H.out.below hb4)
            have Z := hide (Z.out.below hb4)
            clear hb4 l4
            go_wp2_with fail
            refine (TR'.out _ H.out.bel).mono ?_
            rintro e w5 ⟨b5, rfl, l5, o5, hb5⟩
            have H := hide (H.out.below hb5)
            have Z := hide (Z.out.below hb5)
            have o4 := o4.below hb5
            clear hb5 l5
            obtain ⟨_, t0, t1, t2, t3, t4, t5, t6, _⟩ := H.out
            go_wp2_with fail
            refine (TE.out _ H.out.bel).mono ?_
            rintro e w6 ⟨yv, yn, yc, yr, rfl, ra, rr, hb6⟩
            have H := hide (H.out.below hb6)
            have Z := hide (Z.out.below hb6)
            have o4 := o4.below hb6
            have o5 := o5.below hb6
            clear hb6 t0 t1 t2 t3 t4 t5 t6
            have ba : Below w6.heap.size w6 (w6.alloc (.cells #[.int .i64 x.it.id, .int .i64 x.it.tags, .slice yv yn yc, .slice yr.a1 yr.m1 yr.k1, .slice yr.a2 yr.m2 yr.k2, .slice yr.a3 yr.m3 yr.k3, .bool x.is] 41)) := balloc (Below.refl _ _) _
            have E := (EBx.new w6 (.int .i64 x.it.id) (.int .i64 x.it.tags) (.slice yv yn yc) (.slice yr.a1 yr.m1 yr.k1) (.slice yr.a2 yr.m2 yr.k2) (.slice yr.a3 yr.m3 yr.k3) (.bool x.is) 41)
            obtain ⟨W7, hW7⟩ : ∃ X, w6.alloc (.cells #[.int .i64 x.it.id, .int .i64 x.it.tags, .slice yv yn yc, .slice yr.a1 yr.m1 yr.k1, .slice yr.a2 yr.m2 yr.k2, .slice yr.a3 yr.m3 yr.k3, .bool x.is] 41) = X := ⟨_, rfl⟩
            rw [hW7] at ba E
            have E := hide E
            have HW7 := hide hW7
            have H := hide (H.out.below ba)
            have Z := hide (Z.out.below ba)
            have o4 := o4.below ba
            have o5 := o5.below ba
            have ra := ra.below ba
            have rr := rr.below ba
            clear hW7 ba
            go_wp2_with fail
            rw [HW7.out]
            refine (TQ.out _ H.out.bel).mono ?_
            rintro e w8 ⟨g8, rfl, l8, o8, hb8⟩
            have H := hide (H.out.below hb8)
            have Z := hide (Z.out.below hb8)
            have E := hide (E.out.below hb8)
            have o4 := o4.below hb8
            have o5 := o5.below hb8
            have ra := ra.below hb8
            have rr := rr.below hb8
            clear hb8 HW7 l8
            obtain ⟨_, e0, e1, e2, e3, e4, e5, e6, _⟩ := E.out
            go_wp2_with fail
            refine (IM.out _ _ _ _ _ _ _ _ o4 o5 ra rr o8).mono ?_
            rintro e w9 ⟨rfl, hb9⟩
            have ba : Below w9.heap.size w9 (w9.alloc (.cells #[.int .i64 c0, .int .i64 c1, .int .i64 c2] 33)) := balloc (Below.refl _ _) _
            have Y := TriW.new w9 (.int .i64 c0) (.int .i64 c1) (.int .i64 c2) 33 _ rfl
            obtain ⟨W10, hW10⟩ : ∃ X, w9.alloc (.cells #[.int .i64 c0, .int .i64 c1, .int .i64 c2] 33) = X := ⟨_, rfl⟩
            rw [hW10] at ba Y
            have Y := hide Y
            have HW10 := hide hW10
            have H := hide ((H.out.below hb9).below ba)
            have Z0 := hide (Z.out.below hb9)
            have Z := hide (Z0.out.below ba)
            have E := hide ((E.out.below hb9).below ba)
            have o4 := (o4.below hb9).below ba
            have o5 := (o5.below hb9).below ba
            have ra := (ra.below hb9).below ba
            have rr := (rr.below hb9).below ba
            have o8 := Own.below (Own.below o8 hb9) ba
            clear hb9 hW10 ba e0 e1 e2 e3 e4 e5 e6
            obtain ⟨_, z0, z1, z2, _, _, _⟩ := Z0.out
            go_wp2_with fail
            rw [HW10.out]
            refine (EH.out _).mono ?_
            rintro e w11 ⟨rfl, hb11⟩
            have H := hide (H.out.below hb11)
            have E := hide (E.out.below hb11)
            have o4 := o4.below hb11
            have o5 := o5.below hb11
            have ra := ra.below hb11
            have rr := rr.below hb11
            have o8 := Own.below o8 hb11
            clear hb11 HW10 Z Z0 Y z0 z1 z2
            go_wp2_with fail
            refine (TR.out _ H.out.bel).mono ?_
            rintro e w12 ⟨b12, rfl, l12, o12, hb12⟩
            have H := hide (H.out.below hb12)
            have E := hide (E.out.below hb12)
            have o4 := o4.below hb12
            have o5 := o5.below hb12
            have ra := ra.below hb12
            have rr := rr.below hb12
            have o8 := Own.below o8 hb12
            clear hb12 l12
            go_wp2_with fail
            refine (EQ.out _ _ _ o4 o12).mono ?_
            rintro e w13 ⟨rfl, hb13⟩
            have H := hide (H.out.below hb13)
            have E := hide (E.out.below hb13)
            have o5 := o5.below hb13
            have ra := ra.below hb13
            have rr := rr.below hb13
            have o8 := Own.below o8 hb13
            clear hb13 o12 o4
            go_wp2_with fail
            refine (TR'.out _ H.out.bel).mono ?_
            rintro e w14 ⟨b14, rfl, l14, o14, hb14⟩
            have H := hide (H.out.below hb14)
            have E := hide (E.out.below hb14)
            have o5 := o5.below hb14
            have ra := ra.below hb14
            have rr := rr.below hb14
            have o8 := Own.below o8 hb14
            clear hb14 l14
            go_wp2_with fail
            refine (EQ'.out _ _ _ o5 o14).mono ?_
            rintro e w15 ⟨rfl, hb15⟩
            have bd : Below w15.heap.size w15 w15.drew := Below.drew (Below.refl _ _)
            have H := hide ((H.out.below hb15).below bd)
            have E := hide ((E.out.below hb15).below bd)
            have ra := (ra.below hb15).below bd
            have rr := (rr.below hb15).below bd
            have o8 := Own.below (Own.below o8 hb15) bd
            have S15 : Hid (TwoB w15.drew w w6 (.int .i64 x.it.id) (.int .i64 x.it.tags) (.slice va vn vc) (.slice r.a1 r.m1 r.k1) (.slice r.a2 r.m2 r.k2) (.slice r.a3 r.m3 r.k3) (.bool x.is) (.slice yv yn yc) (.slice yr.a1 yr.m1 yr.k1) (.slice yr.a2 yr.m2 yr.k2) (.slice yr.a3 yr.m3 yr.k3)) := hide ⟨H.out, E.out⟩
            clear hb15 bd o14 o5
            go_wp2_with fail
            refine wp_region_held_drew (S := fun wx => TwoB wx w w6 (.int .i64 x.it.id) (.int .i64 x.it.tags) (.slice va vn vc) (.slice r.a1 r.m1 r.k1) (.slice r.a2 r.m2 r.k2) (.slice r.a3 r.m3 r.k3) (.bool x.is) (.slice yv yn yc) (.slice yr.a1 yr.m1 yr.k1) (.slice yr.a2 yr.m2 yr.k2) (.slice yr.a3 yr.m3 yr.k3)) (by kernel_rfl) (S15.out) (fun hH0 => ?_)
            refine wpAnyH_take (i := 0) (oi := { dst := some 87, op := _, type := _, pos := _, after := _, guard := _ }) (v := ?_) rfl (by kernel_rfl) (by kernel_rfl) (by kernel_rfl) (fun _ _ _ h => h) (Or.inl ⟨by rfl, ?_⟩) (hH0) ?_
            rotate_left
            · (intro wx hSw; obtain ⟨⟨_, q0, q1, q2, q3, q4, q5, q6, _⟩, ⟨_, p0, p1, p2, p3, p4, p5, p6, _⟩⟩ := hSw; go_simp <;> with_reducible rfl)
            simp only [Act.put, List.setIfInBounds_toArray, List.set_cons_zero, List.set_cons_succ]
            refine wpAnyH_take (i := 1) (oi := { dst := some 88, op := _, type := _, pos := _, after := _, guard := _ }) (v := ?_) rfl (by kernel_rfl) (by kernel_rfl) (by kernel_rfl) (fun _ _ _ h => h) (Or.inl ⟨by rfl, ?_⟩) (hH0) ?_
            rotate_left
            · (intro wx hSw; obtain ⟨⟨_, q0, q1, q2, q3, q4, q5, q6, _⟩, ⟨_, p0, p1, p2, p3, p4, p5, p6, _⟩⟩ := hSw; go_simp <;> with_reducible rfl)
            simp only [Act.put, List.setIfInBounds_toArray, List.set_cons_zero, List.set_cons_succ]
            refine wpAnyH_ready (rs := [2]) (by kernel_rfl) (by simp) ?_
            refine AllReadyH.cons (o := { dst := some 89, op := _, type := _, pos := _, after := _, guard := _ }) rfl (fun K hK => ?_) AllReadyH.nil
            go_simp
            refine (TE.out _ H.out.bel).mono ?_
            rintro e w16 ⟨uv, un, uc, ur, rfl, sa, sr, hb16⟩
            dsimp only
            refine hK.out _ _ (TwoB.below hH0 hb16) (fun hH1 => ?_)
            clear hK K
            refine wpAnyH_ready (rs := [3]) (by kernel_rfl) (by simp) ?_
            refine AllReadyH.cons (o := { dst := some 90, op := _, type := _, pos := _, after := _, guard := _ }) rfl (fun K hK => ?_) AllReadyH.nil
            go_simp
            refine (EE.out _ _ _ _ _ _ _ _ _ (ra.below hb16) (rr.below hb16) sa sr).mono ?_
            rintro e w17 ⟨rfl, hb17⟩
            dsimp only
            refine hK.out _ _ (TwoB.below hH1 hb17) (fun hH2 => ?_)
            clear hK K
            refine wpAnyH_take (i := 4) (oi := { dst := some 91, op := _, type := _, pos := _, after := _, guard := _ }) (v := ?_) rfl (by kernel_rfl) (by kernel_rfl) (by kernel_rfl) (fun _ _ _ h => h) (Or.inl ⟨by rfl, ?_⟩) (hH2) ?_
            rotate_left
            · (intro wx hSw; obtain ⟨⟨_, q0, q1, q2, q3, q4, q5, q6, _⟩, ⟨_, p0, p1, p2, p3, p4, p5, p6, _⟩⟩ := hSw; go_simp <;> with_reducible rfl)
            simp only [Act.put, List.setIfInBounds_toArray, List.set_cons_zero, List.set_cons_succ]
            refine wpAnyH_done (by kernel_rfl) ?_ _
            -- behind it: go_wp2_with fail, then go_meet (a cut) or go_ret; the condition at the end: hH2
            have H := hide ((H.out.below hb16).below hb17)
            have o8 := Own.below (Own.below o8 hb16) hb17
            clear hb16 hb17 E ra rr sa sr S15 hH0 hH1 hH2
            go_wp2_with fail
            refine (TQ.out _ H.out.bel).mono ?_
            rintro e w18 ⟨g18, rfl, l18, o18, hb18⟩
            have H := hide (H.out.below hb18)
            have o8 := Own.below o8 hb18
            clear hb18 l18
            go_wp2_with fail
            refine (EI.out _ _ _ o8 o18).mono ?_
            rintro e w19 ⟨rfl, hb19⟩
            have H := hide (H.out.below hb19)
            go_wp2_with fail
            go_ret
            exact ⟨rfl, H.out.bel⟩
    · have SZ := hide (fun w' => szRangeS_any a n cap 1048576 w' (by omega) (by omega) hl)
      rw [if_pos (show (1048576 : Int) - (n : Int) < 0 by omega)] at SZ
      have hql : ¬ (1048576 : Int) < (qs.length : Int) := by omega
      unfold enV
      go_enter Try.func3, Try.ntmps3
      go_wp2_with fail
      rw [HW.out]
      refine (SZ.out _).mono ?_
      rintro e w0 ⟨rfl, hw0⟩
      obtain rfl := hw0.symm
      go_wp2_with fail
      go_ret
      exact ⟨rfl, b0⟩
  · have hql : (1048576 : Int) < (qs.length : Int) := by omega
    unfold enV
    go_enter Try.func3, Try.ntmps3
    go_wp2_with fail
    rw [HW.out]
    go_ret
    exact ⟨rfl, b0⟩
end Go.Proofs.Ytbeakenblppngaa
