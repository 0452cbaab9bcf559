/- numbers, has, fits of the program; CmdOk. -/
import Derived.Test.YtlmiamohhmabhaaDoorXA0
import Derived.Test.YtlmiamohhmabhaaDoorVC
import Derived.Test.YtlmiamohhmabhaaDoorWN
namespace Go.Proofs.YtlmiamohhmabhaaDoor
open Go.RowKit
set_option maxRecDepth 8000
set_option linter.unusedSimpArgs false
set_option linter.unusedVariables false

def v5 (a0 a1 a2 a3 a4 : Value) (j : Nat) : Value := if j = 0 then a0 else if j = 1 then a1 else if j = 2 then a2 else if j = 3 then a3 else a4

theorem v5_new (w : World) (a0 a1 a2 a3 a4 : Value) (T : TypeId) : (w.alloc (.cells #[a0, a1, a2, a3, a4] T)).rowIs w.heap.size T 5 (v5 a0 a1 a2 a3 a4) :=
  World.rowIs_alloc w #[a0, a1, a2, a3, a4] T (v5 a0 a1 a2 a3 a4) (by intro i hi; rcases (show i = 0 ∨ i = 1 ∨ i = 2 ∨ i = 3 ∨ i = 4 from by simp at hi; omega) with rfl | rfl | rfl | rfl | rfl <;> rfl)

theorem v5_facts {w : World} {q : Nat} {T : TypeId} {a0 a1 a2 a3 a4 : Value} (h : w.rowIs q T 5 (v5 a0 a1 a2 a3 a4)) :
    q < w.heap.size ∧ w.cell? ⟨q, 0, none⟩ = some a0 ∧ w.cell? ⟨q, 1, none⟩ = some a1 ∧ w.cell? ⟨q, 2, none⟩ = some a2 ∧ w.cell? ⟨q, 3, none⟩ = some a3 ∧ w.cell? ⟨q, 4, none⟩ = some a4 ∧ w.frozen? ⟨q, 0, none⟩ = false ∧ w.frozen? ⟨q, 1, none⟩ = false ∧ w.frozen? ⟨q, 2, none⟩ = false ∧ w.frozen? ⟨q, 3, none⟩ = false ∧ w.frozen? ⟨q, 4, none⟩ = false :=
  ⟨World.rowIs.lt h, World.rowIs.cell h (show 0 < 5 by omega), World.rowIs.cell h (show 1 < 5 by omega), World.rowIs.cell h (show 2 < 5 by omega), World.rowIs.cell h (show 3 < 5 by omega), World.rowIs.cell h (show 4 < 5 by omega), World.rowIs.frozen h 0, World.rowIs.frozen h 1, World.rowIs.frozen h 2, World.rowIs.frozen h 3, World.rowIs.frozen h 4⟩

theorem row_belowC {w w' : World} {q n : Nat} {T : TypeId} {F : Nat → Value} (h : w.rowIs q T n F) (hb : Below w.heap.size w w') : w'.rowIs q T n F := h.of_block (hb.block _ (World.rowIs.lt h))

set_option maxHeartbeats 1000000 in
theorem has_any (p q x : Int) (w : World) :
    Calls Tryd.prog 42 #[.agg #[.int .i64 p, .int .i64 q], .int .i64 x] w fun e w' => e = .returned (.bool (decide (p ≤ x) && decide (x ≤ q))) ∧ Below w.heap.size w w' := by
  by_cases h1 : p ≤ x
  · rw [decide_eq_true h1]
    by_cases h2 : x ≤ q
    · rw [decide_eq_true h2]
      go_enter Tryd.func42, Tryd.ntmps42
      go_wp2_with fail
      go_ret
      exact ⟨rfl, (by repeat' first | with_reducible exact Below.refl _ _ | with_reducible assumption | with_reducible refine below_drewN ?_ _ | with_reducible refine balloc ?_ _ | with_reducible refine Below.drew ?_ | with_reducible refine Below.setCell ?_ (by first | (simp; done) | (simp; omega) | omega) _ | with_reducible refine bstep ?_ (by assumption))⟩
    · rw [decide_eq_false h2]
      go_enter Tryd.func42, Tryd.ntmps42
      go_wp2_with fail
      go_ret
      exact ⟨rfl, (by repeat' first | with_reducible exact Below.refl _ _ | with_reducible assumption | with_reducible refine below_drewN ?_ _ | with_reducible refine balloc ?_ _ | with_reducible refine Below.drew ?_ | with_reducible refine Below.setCell ?_ (by first | (simp; done) | (simp; omega) | omega) _ | with_reducible refine bstep ?_ (by assumption))⟩
  · rw [decide_eq_false h1]
    go_enter Tryd.func42, Tryd.ntmps42
    go_wp2_with fail
    go_ret
    exact ⟨rfl, (by repeat' first | with_reducible exact Below.refl _ _ | with_reducible assumption | with_reducible refine below_drewN ?_ _ | with_reducible refine balloc ?_ _ | with_reducible refine Below.drew ?_ | with_reducible refine Below.setCell ?_ (by first | (simp; done) | (simp; omega) | omega) _ | with_reducible refine bstep ?_ (by assumption))⟩

set_option maxHeartbeats 2000000 in
theorem numbers_any (k a b c : Int) (v : Value) (w : World) (va : Option Addr) (vn vc : Nat) (hv : v = .slice va vn vc) :
    Calls Tryd.prog 41 #[.agg #[.int .i64 k, .int .i64 a, .int .i64 b, .int .i64 c, v]] w fun e w' => e = .returned (.agg #[.int .i64 a, .int .i64 b, .int .i64 c]) ∧ Below w.heap.size w w' := by
  subst hv
  go_enter Tryd.func41, Tryd.ntmps41
  go_wp2_with fail
  refine bodyPost_ret (v := .agg #[.int .i64 a, .int .i64 b, .int .i64 c]) (by simp [results, Tryd.results41, go_sem]) rfl ⟨rfl, (by repeat' first | with_reducible exact Below.refl _ _ | with_reducible assumption | with_reducible refine below_drewN ?_ _ | with_reducible refine balloc ?_ _ | with_reducible refine Below.drew ?_ | with_reducible refine Below.setCell ?_ (by first | (simp; done) | (simp; omega) | omega) _ | with_reducible refine bstep ?_ (by assumption))⟩
/-- Whether a command's numbers and vector are what a form asks. -/
def fitsB (p0 q0 p1 q1 p2 q2 : Int) (fv : Bool) (a b c : Int) (vn : Nat) (xs : List Int) : Bool :=
  (decide (p0 ≤ a) && decide (a ≤ q0)) && ((decide (p1 ≤ b) && decide (b ≤ q1)) && ((decide (p2 ≤ c) && decide (c ≤ q2)) && (if fv then vecOkB xs else decide (vn = 0))))

theorem index3 (a b c : Int) (w : World) : (Instr.index 66 (.agg #[.int .i64 a, .int .i64 b, .int .i64 c]) (.int .i64 0)).run Tryd.prog w = .ok (.int .i64 a) w ∧ (Instr.index 66 (.agg #[.int .i64 a, .int .i64 b, .int .i64 c]) (.int .i64 1)).run Tryd.prog w = .ok (.int .i64 b) w ∧ (Instr.index 66 (.agg #[.int .i64 a, .int .i64 b, .int .i64 c]) (.int .i64 2)).run Tryd.prog w = .ok (.int .i64 c) w := by
  have u1 := Tryd.underlying66
  have u2 := Tryd.underlying2
  have s2 := Tryd.sizeOf2
  have k2 := Tryd.isAgg2
  refine ⟨?_, ?_, ?_⟩ <;> (simp [Instr.index, go_sem, part])
structure FitB (w0 w : World) (F G : Nat → Value) : Prop where
  one : w.rowIs w0.heap.size 46 9 F
  two : w.rowIs (w0.heap.size + 1) 27 5 G
  bel : Below w0.heap.size w0 w

theorem FitB.below {w0 w w' : World} {F G : Nat → Value} (h : FitB w0 w F G) (hb : Below w.heap.size w w') : FitB w0 w' F G := ⟨row_belowC h.one hb, row_belowC h.two hb, bstep h.bel hb⟩

set_option maxHeartbeats 8000000 in
set_option maxRecDepth 4000 in
theorem fits_any (fk : Int) (fn : ByteArray) (p0 q0 p1 q1 p2 q2 : Int) (fv : Bool) (k a b c : Int) (va : Option Addr) (vn vc : Nat) (xs : List Int) (w : World) (rv : Row w va vn xs) (hn : vn ≤ 1048576) :
    Calls Tryd.prog 24 #[.agg #[.int .i64 fk, .string fn, .int .i64 p0, .int .i64 q0, .int .i64 p1, .int .i64 q1, .int .i64 p2, .int .i64 q2, .bool fv], .agg #[.int .i64 k, .int .i64 a, .int .i64 b, .int .i64 c, .slice va vn vc]] w fun e w' => e = .returned (.bool (fitsB p0 q0 p1 q1 p2 q2 fv a b c vn xs)) ∧ Below w.heap.size w w' := by
  have H0 := hide (fun w1 => has_any p0 q0 a w1)
  have H1 := hide (fun w1 => has_any p1 q1 b w1)
  have H2 := hide (fun w1 => has_any p2 q2 c w1)
  have NB := hide (fun w1 => numbers_any k a b c (.slice va vn vc) w1 va vn vc rfl)
  have IV := hide (fun w1 (s : Below w.heap.size w w1) => iVecOk_any va vn vc xs w1 (rv.below s) hn)
  unfold fitsB
  generalize (decide (p0 ≤ a) && decide (a ≤ q0)) = e0 at H0 ⊢
  generalize (decide (p1 ≤ b) && decide (b ≤ q1)) = e1 at H1 ⊢
  generalize (decide (p2 ≤ c) && decide (c ≤ q2)) = e2 at H2 ⊢
  obtain ⟨tl, htl⟩ : ∃ tl, (if fv then vecOkB xs else decide (vn = 0)) = tl := ⟨_, rfl⟩
  rw [htl]
  have HTL := hide htl
  clear htl
  have F0 : Hid (FitB w ((w.alloc (.cells #[.int .i64 fk, .string fn, .int .i64 p0, .int .i64 q0, .int .i64 p1, .int .i64 q1, .int .i64 p2, .int .i64 q2, .bool fv] 46)).alloc (.cells #[.int .i64 k, .int .i64 a, .int .i64 b, .int .i64 c, .slice va vn vc] 27)) (v9 (.int .i64 fk) (.string fn) (.int .i64 p0) (.int .i64 q0) (.int .i64 p1) (.int .i64 q1) (.int .i64 p2) (.int .i64 q2) (.bool fv)) (v5 (.int .i64 k) (.int .i64 a) (.int .i64 b) (.int .i64 c) (.slice va vn vc))) := hide
    ⟨World.rowIs.alloc (v9_new w _ _ _ _ _ _ _ _ _ _) _, by simpa using v5_new (w.alloc (.cells #[.int .i64 fk, .string fn, .int .i64 p0, .int .i64 q0, .int .i64 p1, .int .i64 q1, .int .i64 p2, .int .i64 q2, .bool fv] 46)) (.int .i64 k) (.int .i64 a) (.int .i64 b) (.int .i64 c) (.slice va vn vc) 27, balloc (balloc (Below.refl _ _) _) _⟩
  clear rv
  go_enter Tryd.func24, Tryd.ntmps24
  go_wp2_with fail
  refine (NB.out _).mono ?_
  rintro e w1 ⟨rfl, hb1⟩
  have F1 := hide (F0.out.below hb1)
  clear F0 hb1 NB
  go_wp2_with fail
  go_loopw [5, 6, 9] (fun _ _ i wr => ∃ j : Nat, j ≤ 3 ∧ i = .int .i64 j ∧ Hid ((0 < j → e0 = true) ∧ (1 < j → e1 = true) ∧ (2 < j → e2 = true)) ∧ Hid (FitB w wr (v9 (.int .i64 fk) (.string fn) (.int .i64 p0) (.int .i64 q0) (.int .i64 p1) (.int .i64 q1) (.int .i64 p2) (.int .i64 q2) (.bool fv)) (v5 (.int .i64 k) (.int .i64 a) (.int .i64 b) (.int .i64 c) (.slice va vn vc)))) (fun _ _ i _ => 3 - (intOf i).toNat)
  case atStart => exact ⟨0, by omega, rfl, hide ⟨fun h => absurd h (by omega), fun h => absurd h (by omega), fun h => absurd h (by omega)⟩, F1⟩
  case round =>
    obtain ⟨j, hj, rfl, HE, HF⟩ := hrel
    clear F1
    obtain ⟨_, z0, z1, z2, z3, z4, z5, z6, z7, z8, _⟩ := v9_facts HF.out.one
    obtain ⟨_, y0, y1, y2, y3, y4, _⟩ := v5_facts HF.out.two
    rcases (show j = 0 ∨ j = 1 ∨ j = 2 ∨ j = 3 from by omega) with rfl | rfl | rfl | rfl
    · have hix : ∀ wx, (Instr.index 66 (.agg #[.int .i64 a, .int .i64 b, .int .i64 c]) (.int .i64 0)).run Tryd.prog wx = .ok (.int .i64 a) wx := fun wx => (index3 a b c wx).1
      go_wp2_with fail
      refine (H0.out _).mono ?_
      rintro e w3 ⟨rfl, hb3⟩
      have F3 := hide (HF.out.below hb3)
      clear hb3 z0 z1 z2 z3 z4 z5 z6 z7 z8 y0 y1 y2 y3 y4
      cases e0
      · go_wp2_with fail
        go_ret
        exact ⟨by simp, F3.out.bel⟩
      · go_wp2_with fail
        go_roundw
        case rel => exact ⟨1, by omega, by go_num, hide (by refine ⟨?_, ?_, ?_⟩ <;> intro h <;> first | trivial | rfl | (exfalso; omega) | exact HE.out.1 (by omega) | exact HE.out.2.1 (by omega)), F3⟩
        case measure => simp [intOf]
    · have hix : ∀ wx, (Instr.index 66 (.agg #[.int .i64 a, .int .i64 b, .int .i64 c]) (.int .i64 1)).run Tryd.prog wx = .ok (.int .i64 b) wx := fun wx => (index3 a b c wx).2.1
      go_wp2_with fail
      refine (H1.out _).mono ?_
      rintro e w3 ⟨rfl, hb3⟩
      have F3 := hide (HF.out.below hb3)
      clear hb3 z0 z1 z2 z3 z4 z5 z6 z7 z8 y0 y1 y2 y3 y4
      cases e1
      · go_wp2_with fail
        go_ret
        exact ⟨by simp, F3.out.bel⟩
      · go_wp2_with fail
        go_roundw
        case rel => exact ⟨2, by omega, by go_num, hide (by refine ⟨?_, ?_, ?_⟩ <;> intro h <;> first | trivial | rfl | (exfalso; omega) | exact HE.out.1 (by omega) | exact HE.out.2.1 (by omega)), F3⟩
        case measure => simp [intOf]
    · have hix : ∀ wx, (Instr.index 66 (.agg #[.int .i64 a, .int .i64 b, .int .i64 c]) (.int .i64 2)).run Tryd.prog wx = .ok (.int .i64 c) wx := fun wx => (index3 a b c wx).2.2
      go_wp2_with fail
      refine (H2.out _).mono ?_
      rintro e w3 ⟨rfl, hb3⟩
      have F3 := hide (HF.out.below hb3)
      clear hb3 z0 z1 z2 z3 z4 z5 z6 z7 z8 y0 y1 y2 y3 y4
      cases e2
      · go_wp2_with fail
        go_ret
        exact ⟨by simp, F3.out.bel⟩
      · go_wp2_with fail
        go_roundw
        case rel => exact ⟨3, by omega, by go_num, hide (by refine ⟨?_, ?_, ?_⟩ <;> intro h <;> first | trivial | rfl | (exfalso; omega) | exact HE.out.1 (by omega) | exact HE.out.2.1 (by omega)), F3⟩
        case measure => simp [intOf]
    · have he := HE.out
      obtain rfl : e0 = true := he.1 (by omega)
      obtain rfl : e1 = true := he.2.1 (by omega)
      obtain rfl : e2 = true := he.2.2 (by omega)
      clear he HE
      cases fv
      · by_cases h0 : vn = 0
        · have h0' : ((vn : Int) == 0) = true := by simp [h0]
          obtain rfl : tl = true := by have := HTL.out; simpa [h0] using this.symm
          clear h0 HTL
          go_wp2_with fail
          go_ret
          exact ⟨rfl, HF.out.bel⟩
        · have h0' : ((vn : Int) == 0) = false := by simp [h0]
          obtain rfl : tl = false := by have := HTL.out; simpa [h0] using this.symm
          clear h0 HTL
          go_wp2_with fail
          go_ret
          exact ⟨rfl, HF.out.bel⟩
      · obtain rfl : tl = vecOkB xs := by have := HTL.out; simpa using this.symm
        clear HTL
        go_wp2_with fail
        refine (IV.out _ HF.out.bel).mono ?_
        rintro e w3 ⟨rfl, hb3⟩
        have B3 := hide (bstep HF.out.bel hb3)
        clear hb3
        go_wp2_with fail
        go_ret
        exact ⟨rfl, B3.out⟩
end Go.Proofs.YtlmiamohhmabhaaDoor
