/- Commands: szCmd, toCmd, eqCmd of the laws. -/
import Derived.Test.YtlmiamohhmabhaaDoorZ7
import Derived.Test.YtlmiamohhmabhaaDoorZ5
namespace Go.Proofs.YtlmiamohhmabhaaDoor
open Go.RowKit
set_option maxRecDepth 8000
set_option linter.unusedSimpArgs false
set_option linter.unusedVariables false

theorem v5_set4 {w : World} {q : Nat} {T : TypeId} {a b c d e : Value} (h : w.rowIs q T 5 (v5 a b c d e)) (x : Value) : (w.setCell ⟨q, 4, none⟩ x).rowIs q T 5 (v5 a b c d x) :=
  (World.rowIs.set h 4 _).congr fun j hj => by rcases (show j = 0 ∨ j = 1 ∨ j = 2 ∨ j = 3 ∨ j = 4 from by omega) with rfl | rfl | rfl | rfl | rfl <;> rfl

theorem five_set {w : World} {T : TypeId} {b : Nat} {F : Nat → Value} (h : w.rowIs b T 5 F) (x0 x1 x2 x3 x4 : Value) :
    (((((w.setCell ⟨b, 0, none⟩ x0).setCell ⟨b, 1, none⟩ x1).setCell ⟨b, 2, none⟩ x2).setCell ⟨b, 3, none⟩ x3).setCell ⟨b, 4, none⟩ x4).rowIs b T 5 (v5 x0 x1 x2 x3 x4) :=
  (World.rowIs.set (World.rowIs.set (World.rowIs.set (World.rowIs.set (World.rowIs.set h 0 x0) 1 x1) 2 x2) 3 x3) 4 x4).congr fun j hj => by rcases (show j = 0 ∨ j = 1 ∨ j = 2 ∨ j = 3 ∨ j = 4 from by omega) with rfl | rfl | rfl | rfl | rfl <;> rfl

theorem rows_five {w : World} {q n : Nat} {T : TypeId} {F : Nat → Value} (h : w.rowIs q T n F) {g : Nat} (ne : q ≠ g) (x y z u v : Value) : (((((w.setCell ⟨g, 0, none⟩ x).setCell ⟨g, 1, none⟩ y).setCell ⟨g, 2, none⟩ z).setCell ⟨g, 3, none⟩ u).setCell ⟨g, 4, none⟩ v).rowIs q T n F :=
  World.rowIs.setOther (World.rowIs.setOther (World.rowIs.setOther (World.rowIs.setOther (World.rowIs.setOther h (by simp; omega) _) (by simp; omega) _) (by simp; omega) _) (by simp; omega) _) (by simp; omega) _

set_option maxHeartbeats 1000000 in
theorem szCmd_any (k a b c : Int) (va : Option Addr) (vn vc : Nat) (w : World) (h1 : vn ≤ 9223372036854775807) :
    Calls Tryd.prog 6 #[.agg #[.int .i64 k, .int .i64 a, .int .i64 b, .int .i64 c, .slice va vn vc], .int .i64 1048576] w fun e w' => (∃ r : Int, e = .returned (.int .i64 r) ∧ (r < 0 ∨ (0 ≤ r ∧ vn ≤ 1048576))) ∧ Below w.heap.size w w' := by
  have SH := hide (fun w1 => szInts_any va vn vc 1048576 w1 (by omega) (by omega) h1)
  by_cases q1 : vn ≤ 1048576
  · have e1 : szN 1048576 vn = 1048576 - (vn : Int) := by unfold szN; rw [if_neg (by omega)]
    rw [e1] at SH
    have g1 : ¬ (1048576 - (vn : Int)) < 0 := by omega
    clear e1
    go_enter Tryd.func6, Tryd.ntmps6
    go_wp2_with fail
    refine (SH.out _).mono ?_
    rintro e w1 ⟨rfl, hw⟩
    obtain rfl := hw.symm
    clear hw
    go_wp2_with fail
    go_ret
    exact ⟨⟨_, rfl, .inr ⟨by omega, by omega⟩⟩, (by repeat' first | with_reducible exact Below.refl _ _ | with_reducible assumption | with_reducible refine below_drewN ?_ _ | with_reducible refine balloc ?_ _ | with_reducible refine Below.drew ?_ | with_reducible refine Below.setCell ?_ (by first | (simp; done) | (simp; omega) | omega) _ | with_reducible refine bstep ?_ (by assumption))⟩
  · have e1 : szN 1048576 vn = -1 := by unfold szN; rw [if_pos (by omega)]
    rw [e1] at SH
    clear e1
    go_enter Tryd.func6, Tryd.ntmps6
    go_wp2_with fail
    refine (SH.out _).mono ?_
    rintro e w1 ⟨rfl, hw⟩
    obtain rfl := hw.symm
    clear hw
    go_wp2_with fail
    go_ret
    exact ⟨⟨-1, rfl, .inl (by omega)⟩, (by repeat' first | with_reducible exact Below.refl _ _ | with_reducible assumption | with_reducible refine below_drewN ?_ _ | with_reducible refine balloc ?_ _ | with_reducible refine Below.drew ?_ | with_reducible refine Below.setCell ?_ (by first | (simp; done) | (simp; omega) | omega) _ | with_reducible refine bstep ?_ (by assumption))⟩

/-- A command, its vector in memory of the call's own. -/
def ToCd (w : World) (k a b c : Int) (xs : List Int) (e : Ending) (w' : World) : Prop :=
  ∃ g, e = .returned (.agg #[.int .i64 k, .int .i64 a, .int .i64 b, .int .i64 c, .slice (some ⟨g, 0, none⟩) xs.length xs.length]) ∧ Own w' g xs ∧ Below w.heap.size w w'
structure CdS (w0 w : World) (o : Value) (k a b c : Int) (v : Value) : Prop where
  par : w.rowIs w0.heap.size 24 5 (v5 (.int .i64 k) (.int .i64 a) (.int .i64 b) (.int .i64 c) o)
  res : w.rowIs (w0.heap.size + 1) 27 5 (v5 (.int .i64 0) (.int .i64 0) (.int .i64 0) (.int .i64 0) (.slice none 0 0))
  out : w.rowIs (w0.heap.size + 2) 27 5 (v5 (.int .i64 k) (.int .i64 a) (.int .i64 b) (.int .i64 c) v)
  bel : Below w0.heap.size w0 w

theorem CdS.below {w0 w w' : World} {o : Value} {k a b c : Int} {v : Value} (h : CdS w0 w o k a b c v) (hb : Below w.heap.size w w') : CdS w0 w' o k a b c v := ⟨row_belowC h.par hb, row_belowC h.res hb, row_belowC h.out hb, bstep h.bel hb⟩

theorem CdS.four {w0 w : World} {o : Value} {k a b c : Int} {v : Value} (h : CdS w0 w o k a b c v) (x : Value) : CdS w0 (w.setCell ⟨w0.heap.size + 2, 4, none⟩ x) o k a b c x :=
  ⟨World.rowIs.setOther h.par (by simp) _, World.rowIs.setOther h.res (by simp) _, v5_set4 h.out x, h.bel.setCell (by simp) _⟩

set_option maxHeartbeats 4000000 in
theorem toCmd_any (k a b c : Int) (va : Option Addr) (vn vc : Nat) (xs : List Int) (w : World) (rl : Row w va vn xs) (h2 : vn ≤ 1048576) :
    Calls Tryd.prog 8 #[.agg #[.int .i64 k, .int .i64 a, .int .i64 b, .int .i64 c, .slice va vn vc]] w fun e w' => ToCd w k a b c xs e w' := by
  have S0 : Hid (CdS w (((w.alloc (.cells #[.int .i64 k, .int .i64 a, .int .i64 b, .int .i64 c, .slice va vn vc] 24)).alloc (.cells #[.int .i64 0, .int .i64 0, .int .i64 0, .int .i64 0, .slice none 0 0] 27)).alloc (.cells #[.int .i64 k, .int .i64 a, .int .i64 b, .int .i64 c, .slice none 0 0] 27)) (.slice va vn vc) k a b c (.slice none 0 0)) := hide
    ⟨World.rowIs.alloc (World.rowIs.alloc (v5_new w _ _ _ _ _ _) _) _, World.rowIs.alloc (by simpa using v5_new (w.alloc (.cells #[.int .i64 k, .int .i64 a, .int .i64 b, .int .i64 c, .slice va vn vc] 24)) (.int .i64 0) (.int .i64 0) (.int .i64 0) (.int .i64 0) (.slice none 0 0) 27) _,
     by simpa using v5_new ((w.alloc (.cells #[.int .i64 k, .int .i64 a, .int .i64 b, .int .i64 c, .slice va vn vc] 24)).alloc (.cells #[.int .i64 0, .int .i64 0, .int .i64 0, .int .i64 0, .slice none 0 0] 27)) (.int .i64 k) (.int .i64 a) (.int .i64 b) (.int .i64 c) (.slice none 0 0) 27, balloc (balloc (balloc (Below.refl _ _) _) _) _⟩
  have TL := hide (fun w1 (s : Below w.heap.size w w1) => toInts_any va vn vc xs w1 (rl.below s) h2)
  have hl := rl.len
  clear rl
  subst hl
  go_enter Tryd.func8, Tryd.ntmps8
  go_wp2_with fail
  refine (TL.out _ S0.out.bel).mono ?_
  rintro e w2 ⟨lb, rfl, lbl, ol, hb2⟩
  have S3 := hide (S0.out.below hb2)
  have P3 := hide ol
  have ne2 : w.heap.size + 2 < lb := by simp at lbl; omega
  clear S0 TL ol hb2 lbl
  obtain ⟨lo, o0, o1, o2, o3, o4, f0, f1, f2, f3, f4⟩ := v5_facts S3.out.out
  obtain ⟨lr, r0, r1, r2, r3, r4, k0, k1, k2, k3, k4⟩ := v5_facts S3.out.res
  have S4 := hide (S3.out.four (.slice (some ⟨lb, 0, none⟩) xs.length xs.length))
  clear S3
  go_wp2_with fail
  have R5 := five_set S4.out.res (.int .i64 k) (.int .i64 a) (.int .i64 b) (.int .i64 c) (.slice (some ⟨lb, 0, none⟩) xs.length xs.length)
  obtain ⟨_, s0, s1, s2, s3, s4, _, _, _, _, _⟩ := v5_facts R5
  refine bodyPost_ret (v := .agg #[.int .i64 k, .int .i64 a, .int .i64 b, .int .i64 c, .slice (some ⟨lb, 0, none⟩) xs.length xs.length]) (by simp [results, Tryd.results8, go_sem, s0, s1, s2, s3, s4]) rfl ⟨lb, rfl, ?_, ?_⟩
  · exact rows_five (World.rowIs.setOther P3.out (by simp; omega) _) (by omega) _ _ _ _ _
  · exact ((((S4.out.bel.setCell (by simp) _).setCell (by simp) _).setCell (by simp) _).setCell (by simp) _).setCell (by simp) _

/-- Two commands that are the same. -/
structure CdE (w0 w : World) (F G : Nat → Value) : Prop where
  one : w.rowIs w0.heap.size 27 5 F
  two : w.rowIs (w0.heap.size + 1) 27 5 G
  bel : Below w0.heap.size w0 w

set_option maxHeartbeats 2000000 in
theorem eqCmd_self (k a b c : Int) (va : Option Addr) (vn vc : Nat) (xs : List Int) (va' : Option Addr) (vc' : Nat) (w : World) (rl : Row w va vn xs) (rl' : Row w va' vn xs) (h2 : vn ≤ 1048576) :
    Calls Tryd.prog 10 #[.agg #[.int .i64 k, .int .i64 a, .int .i64 b, .int .i64 c, .slice va vn vc], .agg #[.int .i64 k, .int .i64 a, .int .i64 b, .int .i64 c, .slice va' vn vc']] w fun e w' => e = .returned (.bool true) ∧ Below w.heap.size w w' := by
  have E0 : Hid (CdE w ((w.alloc (.cells #[.int .i64 k, .int .i64 a, .int .i64 b, .int .i64 c, .slice va vn vc] 27)).alloc (.cells #[.int .i64 k, .int .i64 a, .int .i64 b, .int .i64 c, .slice va' vn vc'] 27)) (v5 (.int .i64 k) (.int .i64 a) (.int .i64 b) (.int .i64 c) (.slice va vn vc)) (v5 (.int .i64 k) (.int .i64 a) (.int .i64 b) (.int .i64 c) (.slice va' vn vc'))) := hide
    ⟨World.rowIs.alloc (v5_new w _ _ _ _ _ _) _, by simpa using v5_new (w.alloc (.cells #[.int .i64 k, .int .i64 a, .int .i64 b, .int .i64 c, .slice va vn vc] 27)) (.int .i64 k) (.int .i64 a) (.int .i64 b) (.int .i64 c) (.slice va' vn vc') 27, balloc (balloc (Below.refl _ _) _) _⟩
  have EL := hide (fun w1 (s : Below w.heap.size w w1) => eqInts_any va va' vn vc vn vc' xs xs w1 (rl.below s) (rl'.below s) h2)
  have t0 : (k != k) = false := by simp
  have t1 : (a != a) = false := by simp
  have t2 : (b != b) = false := by simp
  have t3 : (c != c) = false := by simp
  clear rl rl'
  obtain ⟨_, p0, p1, p2, p3, p4, _⟩ := v5_facts E0.out.one
  obtain ⟨_, q0, q1, q2, q3, q4, _⟩ := v5_facts E0.out.two
  go_enter Tryd.func10, Tryd.ntmps10
  go_wp2_with fail
  refine (EL.out _ E0.out.bel).mono ?_
  rintro e w2 ⟨rfl, hb2⟩
  rw [show decide True = true from rfl]
  have B2 := hide (bstep E0.out.bel hb2)
  clear hb2
  go_wp2_with fail
  go_ret
  exact ⟨rfl, B2.out⟩
end Go.Proofs.YtlmiamohhmabhaaDoor
