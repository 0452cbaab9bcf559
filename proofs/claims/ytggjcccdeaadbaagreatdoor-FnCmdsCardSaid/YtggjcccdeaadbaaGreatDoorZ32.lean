/- form.read of the program. -/
import Derived.Test.YtggjcccdeaadbaaGreatDoorZ30
import Derived.Test.YtggjcccdeaadbaaGreatDoorZ7
import Derived.Test.YtggjcccdeaadbaaGreatDoorZ14
import Derived.BigQuiet
import Derived.BigRegion
import Derived.Deep.RegionHeld3
namespace Go.Proofs.YtggjcccdeaadbaaGreatDoor
open Go.RowKit
set_option maxRecDepth 8000
set_option linter.unusedSimpArgs false
set_option linter.unusedVariables false

/-- The form, the answer and the command, each in its box. -/
structure RdB (w0 w : World) (F : Nat → Value) (q : Nat) (G : Nat → Value) : Prop where
  one : w.rowIs w0.heap.size 38 9 F
  res : w.rowIs (w0.heap.size + 1) 26 5 (v5 (.int .i64 0) (.int .i64 0) (.int .i64 0) (.int .i64 0) (.slice none 0 0))
  cmd : w.rowIs q 26 5 G
  lt : w0.heap.size + 1 < q
  bel : Below w0.heap.size w0 w

theorem RdB.below {w0 w w' : World} {F G : Nat → Value} {q : Nat} (h : RdB w0 w F q G) (hb : Below w.heap.size w w') : RdB w0 w' F q G :=
  ⟨row_belowC h.one hb, row_belowC h.res hb, row_belowC h.cmd hb, h.lt, bstep h.bel hb⟩

theorem RdB.nums {w0 w : World} {F : Nat → Value} {q : Nat} {k a b c v : Value} (h : RdB w0 w F q (v5 k a b c v)) (x y z : Value) : RdB w0 (((w.setCell ⟨q, 1, none⟩ x).setCell ⟨q, 2, none⟩ y).setCell ⟨q, 3, none⟩ z) F q (v5 k x y z v) := by
  have l := h.lt
  refine ⟨?_, ?_, ?_, h.lt, ?_⟩
  · exact World.rowIs.setOther (World.rowIs.setOther (World.rowIs.setOther h.one (by simp; omega) _) (by simp; omega) _) (by simp; omega) _
  · exact World.rowIs.setOther (World.rowIs.setOther (World.rowIs.setOther h.res (by simp; omega) _) (by simp; omega) _) (by simp; omega) _
  · refine (World.rowIs.set (World.rowIs.set (World.rowIs.set h.cmd 1 x) 2 y) 3 z).congr fun j hj => ?_
    rcases (show j = 0 ∨ j = 1 ∨ j = 2 ∨ j = 3 ∨ j = 4 from by omega) with rfl | rfl | rfl | rfl | rfl <;> rfl
  · have l2 : w0.heap.size ≤ q := by omega
    exact ((h.bel.setCell l2 _).setCell l2 _).setCell l2 _

theorem five_set {w : World} {T : TypeId} {b : Nat} {F : Nat → Value} (h : w.rowIs b T 5 F) (x0 x1 x2 x3 x4 : Value) :
    (((((w.setCell ⟨b, 0, none⟩ x0).setCell ⟨b, 1, none⟩ x1).setCell ⟨b, 2, none⟩ x2).setCell ⟨b, 3, none⟩ x3).setCell ⟨b, 4, none⟩ x4).rowIs b T 5 (v5 x0 x1 x2 x3 x4) := by
  refine (World.rowIs.set (World.rowIs.set (World.rowIs.set (World.rowIs.set (World.rowIs.set h 0 x0) 1 x1) 2 x2) 3 x3) 4 x4).congr fun j hj => ?_
  rcases (show j = 0 ∨ j = 1 ∨ j = 2 ∨ j = 3 ∨ j = 4 from by omega) with rfl | rfl | rfl | rfl | rfl <;> rfl

theorem below5 {w0 w : World} {B b : Nat} (h : Below B w0 w) (hb : B ≤ b) (x0 x1 x2 x3 x4 : Value) : Below B w0 (((((w.setCell ⟨b, 0, none⟩ x0).setCell ⟨b, 1, none⟩ x1).setCell ⟨b, 2, none⟩ x2).setCell ⟨b, 3, none⟩ x3).setCell ⟨b, 4, none⟩ x4) :=
  ((((h.setCell hb _).setCell hb _).setCell hb _).setCell hb _).setCell hb _
def frX (fv : Bool) (n : Nat) (R : List (List UInt8)) : List Int := if fv && decide (n < R.length) then readVL (R.getD n []) else []
def frN (n : Nat) (R : List (List UInt8)) (i : Nat) : Int := nth ((R.take n).map numV) i
def frB (p0 q0 p1 q1 p2 q2 : Int) (fv : Bool) (n : Nat) (R : List (List UInt8)) : Bool :=
  decide (R.length = n + (if fv && decide (n < R.length) then 1 else 0)) && (allNum (R.take n) && fitsB p0 q0 p1 q1 p2 q2 fv (frN n R 0) (frN n R 1) (frN n R 2) (frX fv n R).length (frX fv n R))
/-- The answer of form.read. -/
def IRdF (w : World) (B : Bool) (k a b c : Int) (xs : List Int) (e : Ending) (w' : World) : Prop :=
  (B = true → ∃ va m cap, e = .returned (.tuple #[.agg #[.int .i64 k, .int .i64 a, .int .i64 b, .int .i64 c, .slice va m cap], .bool true]) ∧ Mine w.heap.size w' va m xs ∧ m ≤ 8) ∧
  (B = false → e = .returned (.tuple #[.agg #[.int .i64 0, .int .i64 0, .int .i64 0, .int .i64 0, .slice none 0 0], .bool false])) ∧ Below w.heap.size w w'

set_option maxHeartbeats 8000000 in
set_option maxRecDepth 4000 in
theorem read_no_vec (fk : Int) (fn : ByteArray) (p0 q0 p1 q1 p2 q2 : Int) (g N c : Nat) (R : List (List UInt8)) (w : World) (S : StrsO w g 1 N R) (hc : N ≤ c) (hsz : ∀ x ∈ R, x.length ≤ 1048576) (V : Vars w) (hle : nmN q0 q1 q2 ≤ N) :
    Calls Tryz.prog 24 #[.agg #[.int .i64 fk, .string fn, .int .i64 p0, .int .i64 q0, .int .i64 p1, .int .i64 q1, .int .i64 p2, .int .i64 q2, .bool false], .slice (some ⟨g, 1, none⟩) N c] w fun e w' => IRdF w (frB p0 q0 p1 q1 p2 q2 false (nmN q0 q1 q2) R) fk (frN (nmN q0 q1 q2) R 0) (frN (nmN q0 q1 q2) R 1) (frN (nmN q0 q1 q2) R 2) [] e w' := by
  have NM := hide (fun w1 => named_any fk fn p0 q0 p1 q1 p2 q2 false w1)
  have hn3 : nmN q0 q1 q2 ≤ 3 := by have := posN_le q0; have := posN_le q1; have := posN_le q2; unfold nmN; omega
  have RN := hide (fun w1 (s : Below w.heap.size w w1) => iReadNumbers_off g 1 N (nmN q0 q1 q2) c (R.take (nmN q0 q1 q2)) w1 hn3 hle hc ((S.below s).take _ hle) (fun x hx => hsz x (List.mem_of_mem_take hx)) (V.below s))
  obtain ⟨n, hnn⟩ : ∃ n, nmN q0 q1 q2 = n := ⟨_, rfl⟩
  rw [hnn] at NM hn3 hle RN ⊢
  have FI := hide (fun x0 x1 x2 w1 => fits_any fk fn p0 q0 p1 q1 p2 q2 false fk x0 x1 x2 none 0 0 [] w1 ⟨rfl, .inl rfl⟩ (by omega))
  have HSL := hide S.len
  have F0 : Hid (Below w.heap.size w ((w.alloc (.cells #[.int .i64 fk, .string fn, .int .i64 p0, .int .i64 q0, .int .i64 p1, .int .i64 q1, .int .i64 p2, .int .i64 q2, .bool false] 38)).alloc (.cells #[.int .i64 0, .int .i64 0, .int .i64 0, .int .i64 0, .slice none 0 0] 26))) := hide (balloc (balloc (Below.refl _ _) _) _)
  have A0 : Hid (((w.alloc (.cells #[.int .i64 fk, .string fn, .int .i64 p0, .int .i64 q0, .int .i64 p1, .int .i64 q1, .int .i64 p2, .int .i64 q2, .bool false] 38)).alloc (.cells #[.int .i64 0, .int .i64 0, .int .i64 0, .int .i64 0, .slice none 0 0] 26)).rowIs w.heap.size 38 9 (v9 (.int .i64 fk) (.string fn) (.int .i64 p0) (.int .i64 q0) (.int .i64 p1) (.int .i64 q1) (.int .i64 p2) (.int .i64 q2) (.bool false))) := hide (World.rowIs.alloc (v9_new w _ _ _ _ _ _ _ _ _ _) _)
  have Z0 : Hid (((w.alloc (.cells #[.int .i64 fk, .string fn, .int .i64 p0, .int .i64 q0, .int .i64 p1, .int .i64 q1, .int .i64 p2, .int .i64 q2, .bool false] 38)).alloc (.cells #[.int .i64 0, .int .i64 0, .int .i64 0, .int .i64 0, .slice none 0 0] 26)).rowIs (w.heap.size + 1) 26 5 (v5 (.int .i64 0) (.int .i64 0) (.int .i64 0) (.int .i64 0) (.slice none 0 0))) := hide (by simpa using v5_new (w.alloc (.cells #[.int .i64 fk, .string fn, .int .i64 p0, .int .i64 q0, .int .i64 p1, .int .i64 q1, .int .i64 p2, .int .i64 q2, .bool false] 38)) (.int .i64 0) (.int .i64 0) (.int .i64 0) (.int .i64 0) (.slice none 0 0) 26)
  clear S V hsz hnn
  obtain ⟨_, z0, z1, z2, z3, z4, z5, z6, z7, z8, _⟩ := v9_facts A0.out
  go_enter Tryz.func24, Tryz.ntmps24
  go_wp2_with fail
  refine (NM.out _).mono ?_
  rintro e w1 ⟨rfl, hb1⟩
  clear z0 z1 z2 z3 z4 z5 z6 z7 z8
  have lw1 : w.heap.size + 1 < w1.heap.size := by have := hb1.size; simp at this; omega
  have nb := balloc (Below.refl w1.heap.size w1) (.cells #[.int .i64 fk, .int .i64 0, .int .i64 0, .int .i64 0, .slice none 0 0] 26)
  have F1 : Hid (RdB w (w1.alloc (.cells #[.int .i64 fk, .int .i64 0, .int .i64 0, .int .i64 0, .slice none 0 0] 26)) _ w1.heap.size (v5 (.int .i64 fk) (.int .i64 0) (.int .i64 0) (.int .i64 0) (.slice none 0 0))) := hide
    ⟨row_belowC (row_belowC A0.out hb1) nb, row_belowC (row_belowC Z0.out hb1) nb, v5_new w1 _ _ _ _ _ _, lw1, bstep (bstep F0.out hb1) nb⟩
  have A1 := hide (row_belowC A0.out hb1)
  clear hb1 nb A0 Z0 F0
  obtain ⟨_, a0, a1, a2, a3, a4, a5, a6, a7, a8, _⟩ := v9_facts A1.out
  obtain ⟨_, z0, z1, z2, z3, z4, z5, z6, z7, z8, _⟩ := v9_facts F1.out.one
  go_wp2_with fail
  refine (NM.out _).mono ?_
  rintro e w2 ⟨rfl, hb2⟩
  have F2 := hide (F1.out.below hb2)
  clear hb2 F1 A1 a0 a1 a2 a3 a4 a5 a6 a7 a8 z0 z1 z2 z3 z4 z5 z6 z7 z8 NM
  go_wp2_with fail
  refine (RN.out _ F2.out.bel).mono ?_
  rintro e w3 ⟨x0, x1, x2, rfl, hx, hb3⟩
  have nb := balloc (Below.refl w3.heap.size w3) (.cells #[.int .i64 x0, .int .i64 x1, .int .i64 x2] 66)
  have F3 := hide ((F2.out.below hb3).below nb)
  have l3 := World.rowIs.lt (F2.out.below hb3).cmd
  have G3 := hide (F2.out.below hb3).cmd
  have F2' := hide (F2.out.below hb3)
  clear hb3 nb F2 RN
  obtain ⟨_, y0, y1, y2, y3, y4, g0, g1, g2, g3, g4⟩ := v5_facts F3.out.cmd
  obtain ⟨_, z0, z1, z2, z3, z4, z5, z6, z7, z8, _⟩ := v9_facts F3.out.one
  go_wp2_with fail
  clear z0 z1 z2 z3 z4 z5 z6 z7 z8 y0 y1 y2 y3 y4 g0 g1 g2 g3 g4
  obtain ⟨_, y0, y1, y2, y3, y4, g0, g1, g2, g3, g4⟩ := v5_facts G3.out
  go_region
  have F4 := hide ((((F2'.out.nums (.int .i64 x0) (.int .i64 x1) (.int .i64 x2)).below (balloc (Below.refl _ _) (.cells #[.int .i64 x0, .int .i64 x1, .int .i64 x2] 66))).below (Below.drew (Below.refl _ _))))
  obtain ⟨W4, hW4⟩ : ∃ W4, ((((w3.setCell ⟨w1.heap.size, 1, none⟩ (.int .i64 x0)).setCell ⟨w1.heap.size, 2, none⟩ (.int .i64 x1)).setCell ⟨w1.heap.size, 3, none⟩ (.int .i64 x2)).alloc (.cells #[.int .i64 x0, .int .i64 x1, .int .i64 x2] 66)).drew = W4 := ⟨_, rfl⟩
  rw [hW4] at F4 ⊢
  clear hW4
  clear F3 F2' G3 y0 y1 y2 y3 y4 g0 g1 g2 g3 g4 l3
  obtain ⟨_, r0, r1, r2, r3, r4, f0, f1, f2, f3, f4⟩ := v5_facts F4.out.res
  obtain ⟨_, y0, y1, y2, y3, y4, _⟩ := v5_facts F4.out.cmd
  obtain ⟨_, z0, z1, z2, z3, z4, z5, z6, z7, z8, _⟩ := v9_facts F4.out.one
  by_cases hNn : N = n
  · have e1 : decide (R.length = n + (if (false && decide (n < R.length)) = true then 1 else 0)) = true := by rw [HSL.out]; simpa using hNn
    subst hNn
    cases hA : allNum (R.take N)
    · have NO : frB p0 q0 p1 q1 p2 q2 false N R = false := by unfold frB; rw [e1, hA]; rfl
      clear e1 hx
      go_wp2_with fail
      obtain ⟨_, e0, e1, e2, e3, e4, _⟩ := v5_facts (five_set F4.out.res (.int .i64 0) (.int .i64 0) (.int .i64 0) (.int .i64 0) (.slice none 0 0))
      refine bodyPost_ret (v := .tuple #[.agg #[.int .i64 0, .int .i64 0, .int .i64 0, .int .i64 0, .slice none 0 0], .bool false]) (by simp [results, Tryz.results24, go_sem, e0, e1, e2, e3, e4]) rfl ⟨fun h => absurd (NO.symm.trans h) (by decide), fun _ => rfl, below5 F4.out.bel (Nat.le_succ _) _ _ _ _ _⟩
    · have HX := hide (hx hA)
      have FF := hide (FI.out x0 x1 x2 W4)
      obtain ⟨B, hB⟩ : ∃ B, fitsB p0 q0 p1 q1 p2 q2 false x0 x1 x2 0 [] = B := ⟨_, rfl⟩
      rw [hB] at FF
      have EB := hide (show frB p0 q0 p1 q1 p2 q2 false N R = B by
        obtain ⟨a0, a1, a2⟩ := HX.out
        rw [a0, a1, a2] at hB
        unfold frB; rw [e1, hA]; exact hB)
      clear hB FI e1 hx
      go_wp2_with fail
      refine FF.out.mono ?_
      rintro e w5 ⟨rfl, hb5⟩
      have F5 := hide (F4.out.below hb5)
      clear hb5 F4 FF r0 r1 r2 r3 r4 f0 f1 f2 f3 f4 y0 y1 y2 y3 y4 z0 z1 z2 z3 z4 z5 z6 z7 z8
      obtain ⟨_, r0, r1, r2, r3, r4, f0, f1, f2, f3, f4⟩ := v5_facts F5.out.res
      obtain ⟨_, y0, y1, y2, y3, y4, _⟩ := v5_facts F5.out.cmd
      cases B
      · have NO := EB.out
        go_wp2_with fail
        obtain ⟨_, e0, e1, e2, e3, e4, _⟩ := v5_facts (five_set F5.out.res (.int .i64 0) (.int .i64 0) (.int .i64 0) (.int .i64 0) (.slice none 0 0))
        refine bodyPost_ret (v := .tuple #[.agg #[.int .i64 0, .int .i64 0, .int .i64 0, .int .i64 0, .slice none 0 0], .bool false]) (by simp [results, Tryz.results24, go_sem, e0, e1, e2, e3, e4]) rfl ⟨fun h => absurd (NO.symm.trans h) (by decide), fun _ => rfl, below5 F5.out.bel (Nat.le_succ _) _ _ _ _ _⟩
      · go_wp2_with fail
        obtain ⟨_, e0, e1, e2, e3, e4, _⟩ := v5_facts (five_set F5.out.res (.int .i64 fk) (.int .i64 x0) (.int .i64 x1) (.int .i64 x2) (.slice none 0 0))
        refine bodyPost_ret (v := .tuple #[.agg #[.int .i64 fk, .int .i64 x0, .int .i64 x1, .int .i64 x2, .slice none 0 0], .bool true]) (by simp [results, Tryz.results24, go_sem, e0, e1, e2, e3, e4]) rfl ⟨fun _ => ⟨none, 0, 0, by obtain ⟨a0, a1, a2⟩ := HX.out; unfold frN; rw [← a0, ← a1, ← a2], ⟨rfl, .inl ⟨rfl, rfl⟩⟩, by omega⟩, fun h => absurd (EB.out.symm.trans h) (by decide), below5 F5.out.bel (Nat.le_succ _) _ _ _ _ _⟩
  · have NO : frB p0 q0 p1 q1 p2 q2 false n R = false := by
      unfold frB
      rw [HSL.out, decide_eq_false (show ¬ N = n + (if (false && decide (n < N)) = true then 1 else 0) by simpa using hNn)]
      rfl
    have hNi : ¬ (N : Int) = (n : Int) := by omega
    clear hNn
    go_wp2_with fail
    obtain ⟨_, e0, e1, e2, e3, e4, _⟩ := v5_facts (five_set F4.out.res (.int .i64 0) (.int .i64 0) (.int .i64 0) (.int .i64 0) (.slice none 0 0))
    refine bodyPost_ret (v := .tuple #[.agg #[.int .i64 0, .int .i64 0, .int .i64 0, .int .i64 0, .slice none 0 0], .bool false]) (by simp [results, Tryz.results24, go_sem, e0, e1, e2, e3, e4]) rfl ⟨fun h => absurd (NO.symm.trans h) (by decide), fun _ => rfl, below5 F4.out.bel (Nat.le_succ _) _ _ _ _ _⟩
end Go.Proofs.YtggjcccdeaadbaaGreatDoor

/- form.read of the program, where the words are fewer than the numbers. -/
namespace Go.Proofs.YtggjcccdeaadbaaGreatDoor
open Go.RowKit
set_option maxRecDepth 8000
set_option linter.unusedSimpArgs false
set_option linter.unusedVariables false

set_option maxHeartbeats 8000000 in
set_option maxRecDepth 4000 in
theorem read_few (fk : Int) (fn : ByteArray) (p0 q0 p1 q1 p2 q2 : Int) (fv : Bool) (a : Option Addr) (N c : Nat) (R : List (List UInt8)) (w : World) (hRl : R.length = N) (hle : N < nmN q0 q1 q2) :
    Calls Tryz.prog 24 #[.agg #[.int .i64 fk, .string fn, .int .i64 p0, .int .i64 q0, .int .i64 p1, .int .i64 q1, .int .i64 p2, .int .i64 q2, .bool fv], .slice a N c] w fun e w' => frB p0 q0 p1 q1 p2 q2 fv (nmN q0 q1 q2) R = false ∧ e = .returned (.tuple #[.agg #[.int .i64 0, .int .i64 0, .int .i64 0, .int .i64 0, .slice none 0 0], .bool false]) ∧ Below w.heap.size w w' := by
  have NM := hide (fun w1 => named_any fk fn p0 q0 p1 q1 p2 q2 fv w1)
  have hn3 : nmN q0 q1 q2 ≤ 3 := by have := posN_le q0; have := posN_le q1; have := posN_le q2; unfold nmN; omega
  have RN := hide (fun w1 => readNumbers_few a N c (nmN q0 q1 q2) w1 hle hn3)
  obtain ⟨n, hnn⟩ : ∃ n, nmN q0 q1 q2 = n := ⟨_, rfl⟩
  rw [hnn] at NM hn3 hle RN ⊢
  have NO : frB p0 q0 p1 q1 p2 q2 fv n R = false := by
    unfold frB
    rw [hRl, decide_eq_false (show ¬ N = n + (if (fv && decide (n < N)) = true then 1 else 0) by rw [decide_eq_false (show ¬ n < N by omega)]; simp; omega)]
    rfl
  have hNi : ¬ (N : Int) = (n : Int) := by omega
  have hNj : ¬ n < N := by omega
  have F0 : Hid (Below w.heap.size w ((w.alloc (.cells #[.int .i64 fk, .string fn, .int .i64 p0, .int .i64 q0, .int .i64 p1, .int .i64 q1, .int .i64 p2, .int .i64 q2, .bool fv] 38)).alloc (.cells #[.int .i64 0, .int .i64 0, .int .i64 0, .int .i64 0, .slice none 0 0] 26))) := hide (balloc (balloc (Below.refl _ _) _) _)
  have A0 : Hid (((w.alloc (.cells #[.int .i64 fk, .string fn, .int .i64 p0, .int .i64 q0, .int .i64 p1, .int .i64 q1, .int .i64 p2, .int .i64 q2, .bool fv] 38)).alloc (.cells #[.int .i64 0, .int .i64 0, .int .i64 0, .int .i64 0, .slice none 0 0] 26)).rowIs w.heap.size 38 9 (v9 (.int .i64 fk) (.string fn) (.int .i64 p0) (.int .i64 q0) (.int .i64 p1) (.int .i64 q1) (.int .i64 p2) (.int .i64 q2) (.bool fv))) := hide (World.rowIs.alloc (v9_new w _ _ _ _ _ _ _ _ _ _) _)
  have Z0 : Hid (((w.alloc (.cells #[.int .i64 fk, .string fn, .int .i64 p0, .int .i64 q0, .int .i64 p1, .int .i64 q1, .int .i64 p2, .int .i64 q2, .bool fv] 38)).alloc (.cells #[.int .i64 0, .int .i64 0, .int .i64 0, .int .i64 0, .slice none 0 0] 26)).rowIs (w.heap.size + 1) 26 5 (v5 (.int .i64 0) (.int .i64 0) (.int .i64 0) (.int .i64 0) (.slice none 0 0))) := hide (by simpa using v5_new (w.alloc (.cells #[.int .i64 fk, .string fn, .int .i64 p0, .int .i64 q0, .int .i64 p1, .int .i64 q1, .int .i64 p2, .int .i64 q2, .bool fv] 38)) (.int .i64 0) (.int .i64 0) (.int .i64 0) (.int .i64 0) (.slice none 0 0) 26)
  clear hnn hRl
  obtain ⟨_, z0, z1, z2, z3, z4, z5, z6, z7, z8, _⟩ := v9_facts A0.out
  cases fv
  · go_enter Tryz.func24, Tryz.ntmps24
    go_wp2_with fail
    refine (NM.out _).mono ?_
    rintro e w1 ⟨rfl, hb1⟩
    clear z0 z1 z2 z3 z4 z5 z6 z7 z8
    have lw1 : w.heap.size + 1 < w1.heap.size := by have := hb1.size; simp at this; omega
    have nb := balloc (Below.refl w1.heap.size w1) (.cells #[.int .i64 fk, .int .i64 0, .int .i64 0, .int .i64 0, .slice none 0 0] 26)
    have F1 : Hid (RdB w (w1.alloc (.cells #[.int .i64 fk, .int .i64 0, .int .i64 0, .int .i64 0, .slice none 0 0] 26)) _ w1.heap.size (v5 (.int .i64 fk) (.int .i64 0) (.int .i64 0) (.int .i64 0) (.slice none 0 0))) := hide
      ⟨row_belowC (row_belowC A0.out hb1) nb, row_belowC (row_belowC Z0.out hb1) nb, v5_new w1 _ _ _ _ _ _, lw1, bstep (bstep F0.out hb1) nb⟩
    have A1 := hide (row_belowC A0.out hb1)
    clear hb1 nb A0 Z0 F0
    obtain ⟨_, a0, a1, a2, a3, a4, a5, a6, a7, a8, _⟩ := v9_facts A1.out
    obtain ⟨_, z0, z1, z2, z3, z4, z5, z6, z7, z8, _⟩ := v9_facts F1.out.one
    go_wp2_with fail
    refine (NM.out _).mono ?_
    rintro e w2 ⟨rfl, hb2⟩
    have F2 := hide (F1.out.below hb2)
    clear hb2 F1 A1 a0 a1 a2 a3 a4 a5 a6 a7 a8 z0 z1 z2 z3 z4 z5 z6 z7 z8 NM
    go_wp2_with fail
    refine (RN.out _).mono ?_
    rintro e w3 ⟨rfl, hb3⟩
    have nb := balloc (Below.refl w3.heap.size w3) (.cells #[.int .i64 0, .int .i64 0, .int .i64 0] 66)
    have F3 := hide ((F2.out.below hb3).below nb)
    have l3 := World.rowIs.lt (F2.out.below hb3).cmd
    have G3 := hide (F2.out.below hb3).cmd
    have F2' := hide (F2.out.below hb3)
    clear hb3 nb F2 RN
    obtain ⟨_, y0, y1, y2, y3, y4, g0, g1, g2, g3, g4⟩ := v5_facts F3.out.cmd
    obtain ⟨_, z0, z1, z2, z3, z4, z5, z6, z7, z8, _⟩ := v9_facts F3.out.one
    go_wp2_with fail
    clear z0 z1 z2 z3 z4 z5 z6 z7 z8 y0 y1 y2 y3 y4 g0 g1 g2 g3 g4
    obtain ⟨_, y0, y1, y2, y3, y4, g0, g1, g2, g3, g4⟩ := v5_facts G3.out
    go_region
    have F4 := hide ((((F2'.out.nums (.int .i64 0) (.int .i64 0) (.int .i64 0)).below (balloc (Below.refl _ _) (.cells #[.int .i64 0, .int .i64 0, .int .i64 0] 66))).below (Below.drew (Below.refl _ _))))
    obtain ⟨W4, hW4⟩ : ∃ W4, ((((w3.setCell ⟨w1.heap.size, 1, none⟩ (.int .i64 0)).setCell ⟨w1.heap.size, 2, none⟩ (.int .i64 0)).setCell ⟨w1.heap.size, 3, none⟩ (.int .i64 0)).alloc (.cells #[.int .i64 0, .int .i64 0, .int .i64 0] 66)).drew = W4 := ⟨_, rfl⟩
    rw [hW4] at F4 ⊢
    clear hW4
    clear F3 F2' G3 y0 y1 y2 y3 y4 g0 g1 g2 g3 g4 l3
    obtain ⟨_, r0, r1, r2, r3, r4, f0, f1, f2, f3, f4⟩ := v5_facts F4.out.res
    obtain ⟨_, y0, y1, y2, y3, y4, _⟩ := v5_facts F4.out.cmd
    obtain ⟨_, z0, z1, z2, z3, z4, z5, z6, z7, z8, _⟩ := v9_facts F4.out.one
    go_wp2_with fail
    obtain ⟨_, e0, e1, e2, e3, e4, _⟩ := v5_facts (five_set F4.out.res (.int .i64 0) (.int .i64 0) (.int .i64 0) (.int .i64 0) (.slice none 0 0))
    refine bodyPost_ret (v := .tuple #[.agg #[.int .i64 0, .int .i64 0, .int .i64 0, .int .i64 0, .slice none 0 0], .bool false]) (by simp [results, Tryz.results24, go_sem, e0, e1, e2, e3, e4]) rfl ⟨NO, rfl, below5 F4.out.bel (Nat.le_succ _) _ _ _ _ _⟩
  · go_enter Tryz.func24, Tryz.ntmps24
    go_wp2_with fail
    refine (NM.out _).mono ?_
    rintro e w1 ⟨rfl, hb1⟩
    clear z0 z1 z2 z3 z4 z5 z6 z7 z8
    have lw1 : w.heap.size + 1 < w1.heap.size := by have := hb1.size; simp at this; omega
    have nb := balloc (Below.refl w1.heap.size w1) (.cells #[.int .i64 fk, .int .i64 0, .int .i64 0, .int .i64 0, .slice none 0 0] 26)
    have F1 : Hid (RdB w (w1.alloc (.cells #[.int .i64 fk, .int .i64 0, .int .i64 0, .int .i64 0, .slice none 0 0] 26)) _ w1.heap.size (v5 (.int .i64 fk) (.int .i64 0) (.int .i64 0) (.int .i64 0) (.slice none 0 0))) := hide
      ⟨row_belowC (row_belowC A0.out hb1) nb, row_belowC (row_belowC Z0.out hb1) nb, v5_new w1 _ _ _ _ _ _, lw1, bstep (bstep F0.out hb1) nb⟩
    have A1 := hide (row_belowC A0.out hb1)
    clear hb1 nb A0 Z0 F0
    obtain ⟨_, a0, a1, a2, a3, a4, a5, a6, a7, a8, _⟩ := v9_facts A1.out
    obtain ⟨_, z0, z1, z2, z3, z4, z5, z6, z7, z8, _⟩ := v9_facts F1.out.one
    go_wp2_with fail
    refine (NM.out _).mono ?_
    rintro e w2 ⟨rfl, hb2⟩
    have F2 := hide (F1.out.below hb2)
    clear hb2 F1 A1 a0 a1 a2 a3 a4 a5 a6 a7 a8 z0 z1 z2 z3 z4 z5 z6 z7 z8 NM
    go_wp2_with fail
    refine (RN.out _).mono ?_
    rintro e w3 ⟨rfl, hb3⟩
    have nb := balloc (Below.refl w3.heap.size w3) (.cells #[.int .i64 0, .int .i64 0, .int .i64 0] 66)
    have F3 := hide ((F2.out.below hb3).below nb)
    have l3 := World.rowIs.lt (F2.out.below hb3).cmd
    have G3 := hide (F2.out.below hb3).cmd
    have F2' := hide (F2.out.below hb3)
    clear hb3 nb F2 RN
    obtain ⟨_, y0, y1, y2, y3, y4, g0, g1, g2, g3, g4⟩ := v5_facts F3.out.cmd
    obtain ⟨_, z0, z1, z2, z3, z4, z5, z6, z7, z8, _⟩ := v9_facts F3.out.one
    go_wp2_with fail
    clear z0 z1 z2 z3 z4 z5 z6 z7 z8 y0 y1 y2 y3 y4 g0 g1 g2 g3 g4
    obtain ⟨_, y0, y1, y2, y3, y4, g0, g1, g2, g3, g4⟩ := v5_facts G3.out
    go_region
    have F4 := hide ((((F2'.out.nums (.int .i64 0) (.int .i64 0) (.int .i64 0)).below (balloc (Below.refl _ _) (.cells #[.int .i64 0, .int .i64 0, .int .i64 0] 66))).below (Below.drew (Below.refl _ _))))
    obtain ⟨W4, hW4⟩ : ∃ W4, ((((w3.setCell ⟨w1.heap.size, 1, none⟩ (.int .i64 0)).setCell ⟨w1.heap.size, 2, none⟩ (.int .i64 0)).setCell ⟨w1.heap.size, 3, none⟩ (.int .i64 0)).alloc (.cells #[.int .i64 0, .int .i64 0, .int .i64 0] 66)).drew = W4 := ⟨_, rfl⟩
    rw [hW4] at F4 ⊢
    clear hW4
    clear F3 F2' G3 y0 y1 y2 y3 y4 g0 g1 g2 g3 g4 l3
    obtain ⟨_, r0, r1, r2, r3, r4, f0, f1, f2, f3, f4⟩ := v5_facts F4.out.res
    obtain ⟨_, y0, y1, y2, y3, y4, _⟩ := v5_facts F4.out.cmd
    obtain ⟨_, z0, z1, z2, z3, z4, z5, z6, z7, z8, _⟩ := v9_facts F4.out.one
    go_wp2_with fail
    obtain ⟨_, e0, e1, e2, e3, e4, _⟩ := v5_facts (five_set F4.out.res (.int .i64 0) (.int .i64 0) (.int .i64 0) (.int .i64 0) (.slice none 0 0))
    refine bodyPost_ret (v := .tuple #[.agg #[.int .i64 0, .int .i64 0, .int .i64 0, .int .i64 0, .slice none 0 0], .bool false]) (by simp [results, Tryz.results24, go_sem, e0, e1, e2, e3, e4]) rfl ⟨NO, rfl, below5 F4.out.bel (Nat.le_succ _) _ _ _ _ _⟩
end Go.Proofs.YtggjcccdeaadbaaGreatDoor

/- form.read of the program, where a vector is asked and no word is left for it. -/
namespace Go.Proofs.YtggjcccdeaadbaaGreatDoor
open Go.RowKit
set_option maxRecDepth 8000
set_option linter.unusedSimpArgs false
set_option linter.unusedVariables false

set_option maxHeartbeats 8000000 in
set_option maxRecDepth 4000 in
theorem read_vec_none (fk : Int) (fn : ByteArray) (p0 q0 p1 q1 p2 q2 : Int) (g N c : Nat) (R : List (List UInt8)) (w : World) (S : StrsO w g 1 N R) (hc : N ≤ c) (hsz : ∀ x ∈ R, x.length ≤ 1048576) (V : Vars w) (hNe : N = nmN q0 q1 q2) :
    Calls Tryz.prog 24 #[.agg #[.int .i64 fk, .string fn, .int .i64 p0, .int .i64 q0, .int .i64 p1, .int .i64 q1, .int .i64 p2, .int .i64 q2, .bool true], .slice (some ⟨g, 1, none⟩) N c] w fun e w' => IRdF w (frB p0 q0 p1 q1 p2 q2 true (nmN q0 q1 q2) R) fk (frN (nmN q0 q1 q2) R 0) (frN (nmN q0 q1 q2) R 1) (frN (nmN q0 q1 q2) R 2) [] e w' := by
  have hle : nmN q0 q1 q2 ≤ N := by omega
  have NM := hide (fun w1 => named_any fk fn p0 q0 p1 q1 p2 q2 true w1)
  have hn3 : nmN q0 q1 q2 ≤ 3 := by have := posN_le q0; have := posN_le q1; have := posN_le q2; unfold nmN; omega
  have RN := hide (fun w1 (s : Below w.heap.size w w1) => iReadNumbers_off g 1 N (nmN q0 q1 q2) c (R.take (nmN q0 q1 q2)) w1 hn3 hle hc ((S.below s).take _ hle) (fun x hx => hsz x (List.mem_of_mem_take hx)) (V.below s))
  obtain ⟨n, hnn⟩ : ∃ n, nmN q0 q1 q2 = n := ⟨_, rfl⟩
  rw [hnn] at NM hn3 hle RN hNe ⊢
  clear hle
  subst hNe
  have FI := hide (fun x0 x1 x2 w1 => fits_any fk fn p0 q0 p1 q1 p2 q2 true fk x0 x1 x2 none 0 0 [] w1 ⟨rfl, .inl rfl⟩ (by omega))
  have HSL := hide S.len
  have F0 : Hid (Below w.heap.size w ((w.alloc (.cells #[.int .i64 fk, .string fn, .int .i64 p0, .int .i64 q0, .int .i64 p1, .int .i64 q1, .int .i64 p2, .int .i64 q2, .bool true] 38)).alloc (.cells #[.int .i64 0, .int .i64 0, .int .i64 0, .int .i64 0, .slice none 0 0] 26))) := hide (balloc (balloc (Below.refl _ _) _) _)
  have A0 : Hid (((w.alloc (.cells #[.int .i64 fk, .string fn, .int .i64 p0, .int .i64 q0, .int .i64 p1, .int .i64 q1, .int .i64 p2, .int .i64 q2, .bool true] 38)).alloc (.cells #[.int .i64 0, .int .i64 0, .int .i64 0, .int .i64 0, .slice none 0 0] 26)).rowIs w.heap.size 38 9 (v9 (.int .i64 fk) (.string fn) (.int .i64 p0) (.int .i64 q0) (.int .i64 p1) (.int .i64 q1) (.int .i64 p2) (.int .i64 q2) (.bool true))) := hide (World.rowIs.alloc (v9_new w _ _ _ _ _ _ _ _ _ _) _)
  have Z0 : Hid (((w.alloc (.cells #[.int .i64 fk, .string fn, .int .i64 p0, .int .i64 q0, .int .i64 p1, .int .i64 q1, .int .i64 p2, .int .i64 q2, .bool true] 38)).alloc (.cells #[.int .i64 0, .int .i64 0, .int .i64 0, .int .i64 0, .slice none 0 0] 26)).rowIs (w.heap.size + 1) 26 5 (v5 (.int .i64 0) (.int .i64 0) (.int .i64 0) (.int .i64 0) (.slice none 0 0))) := hide (by simpa using v5_new (w.alloc (.cells #[.int .i64 fk, .string fn, .int .i64 p0, .int .i64 q0, .int .i64 p1, .int .i64 q1, .int .i64 p2, .int .i64 q2, .bool true] 38)) (.int .i64 0) (.int .i64 0) (.int .i64 0) (.int .i64 0) (.slice none 0 0) 26)
  clear S V hsz hnn
  obtain ⟨_, z0, z1, z2, z3, z4, z5, z6, z7, z8, _⟩ := v9_facts A0.out
  go_enter Tryz.func24, Tryz.ntmps24
  go_wp2_with fail
  refine (NM.out _).mono ?_
  rintro e w1 ⟨rfl, hb1⟩
  clear z0 z1 z2 z3 z4 z5 z6 z7 z8
  have lw1 : w.heap.size + 1 < w1.heap.size := by have := hb1.size; simp at this; omega
  have nb := balloc (Below.refl w1.heap.size w1) (.cells #[.int .i64 fk, .int .i64 0, .int .i64 0, .int .i64 0, .slice none 0 0] 26)
  have F1 : Hid (RdB w (w1.alloc (.cells #[.int .i64 fk, .int .i64 0, .int .i64 0, .int .i64 0, .slice none 0 0] 26)) _ w1.heap.size (v5 (.int .i64 fk) (.int .i64 0) (.int .i64 0) (.int .i64 0) (.slice none 0 0))) := hide
    ⟨row_belowC (row_belowC A0.out hb1) nb, row_belowC (row_belowC Z0.out hb1) nb, v5_new w1 _ _ _ _ _ _, lw1, bstep (bstep F0.out hb1) nb⟩
  have A1 := hide (row_belowC A0.out hb1)
  clear hb1 nb A0 Z0 F0
  obtain ⟨_, a0, a1, a2, a3, a4, a5, a6, a7, a8, _⟩ := v9_facts A1.out
  obtain ⟨_, z0, z1, z2, z3, z4, z5, z6, z7, z8, _⟩ := v9_facts F1.out.one
  go_wp2_with fail
  refine (NM.out _).mono ?_
  rintro e w2 ⟨rfl, hb2⟩
  have F2 := hide (F1.out.below hb2)
  clear hb2 F1 A1 a0 a1 a2 a3 a4 a5 a6 a7 a8 z0 z1 z2 z3 z4 z5 z6 z7 z8 NM
  go_wp2_with fail
  refine (RN.out _ F2.out.bel).mono ?_
  rintro e w3 ⟨x0, x1, x2, rfl, hx, hb3⟩
  have nb := balloc (Below.refl w3.heap.size w3) (.cells #[.int .i64 x0, .int .i64 x1, .int .i64 x2] 66)
  have F3 := hide ((F2.out.below hb3).below nb)
  have l3 := World.rowIs.lt (F2.out.below hb3).cmd
  have G3 := hide (F2.out.below hb3).cmd
  have F2' := hide (F2.out.below hb3)
  clear hb3 nb F2 RN
  obtain ⟨_, y0, y1, y2, y3, y4, g0, g1, g2, g3, g4⟩ := v5_facts F3.out.cmd
  obtain ⟨_, z0, z1, z2, z3, z4, z5, z6, z7, z8, _⟩ := v9_facts F3.out.one
  go_wp2_with fail
  clear z0 z1 z2 z3 z4 z5 z6 z7 z8 y0 y1 y2 y3 y4 g0 g1 g2 g3 g4
  obtain ⟨_, y0, y1, y2, y3, y4, g0, g1, g2, g3, g4⟩ := v5_facts G3.out
  go_region
  have F4 := hide ((((F2'.out.nums (.int .i64 x0) (.int .i64 x1) (.int .i64 x2)).below (balloc (Below.refl _ _) (.cells #[.int .i64 x0, .int .i64 x1, .int .i64 x2] 66))).below (Below.drew (Below.refl _ _))))
  obtain ⟨W4, hW4⟩ : ∃ W4, ((((w3.setCell ⟨w1.heap.size, 1, none⟩ (.int .i64 x0)).setCell ⟨w1.heap.size, 2, none⟩ (.int .i64 x1)).setCell ⟨w1.heap.size, 3, none⟩ (.int .i64 x2)).alloc (.cells #[.int .i64 x0, .int .i64 x1, .int .i64 x2] 66)).drew = W4 := ⟨_, rfl⟩
  rw [hW4] at F4 ⊢
  clear hW4
  clear F3 F2' G3 y0 y1 y2 y3 y4 g0 g1 g2 g3 g4 l3
  obtain ⟨_, r0, r1, r2, r3, r4, f0, f1, f2, f3, f4⟩ := v5_facts F4.out.res
  obtain ⟨_, y0, y1, y2, y3, y4, _⟩ := v5_facts F4.out.cmd
  obtain ⟨_, z0, z1, z2, z3, z4, z5, z6, z7, z8, _⟩ := v9_facts F4.out.one
  · have e1 : decide (R.length = N + (if (true && decide (N < R.length)) = true then 1 else 0)) = true := by rw [HSL.out]; simp
    have ex : frX true N R = [] := by unfold frX; rw [HSL.out]; simp
    cases hA : allNum (R.take N)
    · have NO : frB p0 q0 p1 q1 p2 q2 true N R = false := by unfold frB; rw [e1, hA]; rfl
      clear e1 ex hx
      go_wp2_with fail
      obtain ⟨_, e0, e1, e2, e3, e4, _⟩ := v5_facts (five_set F4.out.res (.int .i64 0) (.int .i64 0) (.int .i64 0) (.int .i64 0) (.slice none 0 0))
      refine bodyPost_ret (v := .tuple #[.agg #[.int .i64 0, .int .i64 0, .int .i64 0, .int .i64 0, .slice none 0 0], .bool false]) (by simp [results, Tryz.results24, go_sem, e0, e1, e2, e3, e4]) rfl ⟨fun h => absurd (NO.symm.trans h) (by decide), fun _ => rfl, below5 F4.out.bel (Nat.le_succ _) _ _ _ _ _⟩
    · have HX := hide (hx hA)
      have FF := hide (FI.out x0 x1 x2 W4)
      obtain ⟨B, hB⟩ : ∃ B, fitsB p0 q0 p1 q1 p2 q2 true x0 x1 x2 0 [] = B := ⟨_, rfl⟩
      rw [hB] at FF
      have EB := hide (show frB p0 q0 p1 q1 p2 q2 true N R = B by
        obtain ⟨a0, a1, a2⟩ := HX.out
        rw [a0, a1, a2] at hB
        unfold frB; rw [e1, hA, ex]; exact hB)
      clear hB FI e1 ex hx
      go_wp2_with fail
      refine FF.out.mono ?_
      rintro e w5 ⟨rfl, hb5⟩
      have F5 := hide (F4.out.below hb5)
      clear hb5 F4 FF r0 r1 r2 r3 r4 f0 f1 f2 f3 f4 y0 y1 y2 y3 y4 z0 z1 z2 z3 z4 z5 z6 z7 z8
      obtain ⟨_, r0, r1, r2, r3, r4, f0, f1, f2, f3, f4⟩ := v5_facts F5.out.res
      obtain ⟨_, y0, y1, y2, y3, y4, _⟩ := v5_facts F5.out.cmd
      cases B
      · have NO := EB.out
        go_wp2_with fail
        obtain ⟨_, e0, e1, e2, e3, e4, _⟩ := v5_facts (five_set F5.out.res (.int .i64 0) (.int .i64 0) (.int .i64 0) (.int .i64 0) (.slice none 0 0))
        refine bodyPost_ret (v := .tuple #[.agg #[.int .i64 0, .int .i64 0, .int .i64 0, .int .i64 0, .slice none 0 0], .bool false]) (by simp [results, Tryz.results24, go_sem, e0, e1, e2, e3, e4]) rfl ⟨fun h => absurd (NO.symm.trans h) (by decide), fun _ => rfl, below5 F5.out.bel (Nat.le_succ _) _ _ _ _ _⟩
      · go_wp2_with fail
        obtain ⟨_, e0, e1, e2, e3, e4, _⟩ := v5_facts (five_set F5.out.res (.int .i64 fk) (.int .i64 x0) (.int .i64 x1) (.int .i64 x2) (.slice none 0 0))
        refine bodyPost_ret (v := .tuple #[.agg #[.int .i64 fk, .int .i64 x0, .int .i64 x1, .int .i64 x2, .slice none 0 0], .bool true]) (by simp [results, Tryz.results24, go_sem, e0, e1, e2, e3, e4]) rfl ⟨fun _ => ⟨none, 0, 0, by obtain ⟨a0, a1, a2⟩ := HX.out; unfold frN; rw [← a0, ← a1, ← a2], ⟨rfl, .inl ⟨rfl, rfl⟩⟩, by omega⟩, fun h => absurd (EB.out.symm.trans h) (by decide), below5 F5.out.bel (Nat.le_succ _) _ _ _ _ _⟩
end Go.Proofs.YtggjcccdeaadbaaGreatDoor

/- form.read of the program, with a vector. -/
namespace Go.Proofs.YtggjcccdeaadbaaGreatDoor
open Go.RowKit
set_option maxRecDepth 8000
set_option linter.unusedSimpArgs false
set_option linter.unusedVariables false

theorem readVL_len8C (l : List UInt8) : (readVL l).length ≤ 8 := by
  unfold readVL
  split
  · rename_i h
    have h' := h
    unfold readVB at h'
    simp only [Bool.and_eq_true, decide_eq_true_eq] at h'
    by_cases hv : vecOkB (valV l) = true
    · exact (vecOk_mem hv).1.2
    · exfalso
      have e := h'.2.2
      unfold vecTB at e
      rw [if_neg hv] at e
      exact h'.1 e.symm
  · simp

theorem mine_lower {B C : Nat} {w : World} {a : Option Addr} {n : Nat} {xs : List Int} (h : Mine C w a n xs) (hB : B ≤ C) : Mine B w a n xs := by
  refine ⟨h.len, ?_⟩
  rcases h.lies with h0 | ⟨g, e, hg, ho⟩
  · exact .inl h0
  · exact .inr ⟨g, e, Nat.le_trans hB hg, ho⟩

theorem RdB.vec {w0 w : World} {F : Nat → Value} {q : Nat} {k a b c v : Value} (h : RdB w0 w F q (v5 k a b c v)) (x : Value) : RdB w0 (w.setCell ⟨q, 4, none⟩ x) F q (v5 k a b c x) := by
  have l := h.lt
  refine ⟨World.rowIs.setOther h.one (by simp; omega) _, World.rowIs.setOther h.res (by simp; omega) _, ?_, h.lt, h.bel.setCell (show w0.heap.size ≤ q by omega) _⟩
  refine (World.rowIs.set h.cmd 4 x).congr fun j hj => ?_
  rcases (show j = 0 ∨ j = 1 ∨ j = 2 ∨ j = 3 ∨ j = 4 from by omega) with rfl | rfl | rfl | rfl | rfl <;> rfl

set_option maxHeartbeats 8000000 in
set_option maxRecDepth 4000 in
theorem read_vec (fk : Int) (fn : ByteArray) (p0 q0 p1 q1 p2 q2 : Int) (g N c : Nat) (R : List (List UInt8)) (w : World) (S : StrsO w g 1 N R) (hc : N ≤ c) (hsz : ∀ x ∈ R, x.length ≤ 1048576) (V : Vars w) (M : Mlen w) (hlt : nmN q0 q1 q2 < N) :
    Calls Tryz.prog 24 #[.agg #[.int .i64 fk, .string fn, .int .i64 p0, .int .i64 q0, .int .i64 p1, .int .i64 q1, .int .i64 p2, .int .i64 q2, .bool true], .slice (some ⟨g, 1, none⟩) N c] w fun e w' => IRdF w (frB p0 q0 p1 q1 p2 q2 true (nmN q0 q1 q2) R) fk (frN (nmN q0 q1 q2) R 0) (frN (nmN q0 q1 q2) R 1) (frN (nmN q0 q1 q2) R 2) (frX true (nmN q0 q1 q2) R) e w' := by
  have hle : nmN q0 q1 q2 ≤ N := by omega
  obtain ⟨x, hxR, _⟩ := S.cell _ hlt
  have SC := hide (fun w1 (s : Below w.heap.size w w1) => (S.below s).cell _ hlt)
  have IR := hide (fun w1 (s : Below w.heap.size w w1) => iReadVec_any (bs x) w1 (by rw [bs_size]; exact hsz x (List.mem_of_getElem? hxR)) (V.below s) (M.below s))
  rw [bs_list] at IR
  have NM := hide (fun w1 => named_any fk fn p0 q0 p1 q1 p2 q2 true w1)
  have hn3 : nmN q0 q1 q2 ≤ 3 := by have := posN_le q0; have := posN_le q1; have := posN_le q2; unfold nmN; omega
  have RN := hide (fun w1 (s : Below w.heap.size w w1) => iReadNumbers_off g 1 N (nmN q0 q1 q2) c (R.take (nmN q0 q1 q2)) w1 hn3 hle hc ((S.below s).take _ hle) (fun x hx => hsz x (List.mem_of_mem_take hx)) (V.below s))
  obtain ⟨n, hnn⟩ : ∃ n, nmN q0 q1 q2 = n := ⟨_, rfl⟩
  rw [hnn] at NM hn3 hle RN hlt hxR SC ⊢
  have HSL := hide S.len
  have F0 : Hid (Below w.heap.size w ((w.alloc (.cells #[.int .i64 fk, .string fn, .int .i64 p0, .int .i64 q0, .int .i64 p1, .int .i64 q1, .int .i64 p2, .int .i64 q2, .bool true] 38)).alloc (.cells #[.int .i64 0, .int .i64 0, .int .i64 0, .int .i64 0, .slice none 0 0] 26))) := hide (balloc (balloc (Below.refl _ _) _) _)
  have A0 : Hid (((w.alloc (.cells #[.int .i64 fk, .string fn, .int .i64 p0, .int .i64 q0, .int .i64 p1, .int .i64 q1, .int .i64 p2, .int .i64 q2, .bool true] 38)).alloc (.cells #[.int .i64 0, .int .i64 0, .int .i64 0, .int .i64 0, .slice none 0 0] 26)).rowIs w.heap.size 38 9 (v9 (.int .i64 fk) (.string fn) (.int .i64 p0) (.int .i64 q0) (.int .i64 p1) (.int .i64 q1) (.int .i64 p2) (.int .i64 q2) (.bool true))) := hide (World.rowIs.alloc (v9_new w _ _ _ _ _ _ _ _ _ _) _)
  have Z0 : Hid (((w.alloc (.cells #[.int .i64 fk, .string fn, .int .i64 p0, .int .i64 q0, .int .i64 p1, .int .i64 q1, .int .i64 p2, .int .i64 q2, .bool true] 38)).alloc (.cells #[.int .i64 0, .int .i64 0, .int .i64 0, .int .i64 0, .slice none 0 0] 26)).rowIs (w.heap.size + 1) 26 5 (v5 (.int .i64 0) (.int .i64 0) (.int .i64 0) (.int .i64 0) (.slice none 0 0))) := hide (by simpa using v5_new (w.alloc (.cells #[.int .i64 fk, .string fn, .int .i64 p0, .int .i64 q0, .int .i64 p1, .int .i64 q1, .int .i64 p2, .int .i64 q2, .bool true] 38)) (.int .i64 0) (.int .i64 0) (.int .i64 0) (.int .i64 0) (.slice none 0 0) 26)
  clear S V M hsz hnn
  obtain ⟨_, z0, z1, z2, z3, z4, z5, z6, z7, z8, _⟩ := v9_facts A0.out
  go_enter Tryz.func24, Tryz.ntmps24
  go_wp2_with fail
  refine (NM.out _).mono ?_
  rintro e w1 ⟨rfl, hb1⟩
  clear z0 z1 z2 z3 z4 z5 z6 z7 z8
  have lw1 : w.heap.size + 1 < w1.heap.size := by have := hb1.size; simp at this; omega
  have nb := balloc (Below.refl w1.heap.size w1) (.cells #[.int .i64 fk, .int .i64 0, .int .i64 0, .int .i64 0, .slice none 0 0] 26)
  have F1 : Hid (RdB w (w1.alloc (.cells #[.int .i64 fk, .int .i64 0, .int .i64 0, .int .i64 0, .slice none 0 0] 26)) _ w1.heap.size (v5 (.int .i64 fk) (.int .i64 0) (.int .i64 0) (.int .i64 0) (.slice none 0 0))) := hide
    ⟨row_belowC (row_belowC A0.out hb1) nb, row_belowC (row_belowC Z0.out hb1) nb, v5_new w1 _ _ _ _ _ _, lw1, bstep (bstep F0.out hb1) nb⟩
  have A1 := hide (row_belowC A0.out hb1)
  clear hb1 nb A0 Z0 F0
  obtain ⟨_, b0, b1, b2, b3, b4, b5, b6, b7, b8, _⟩ := v9_facts A1.out
  obtain ⟨_, z0, z1, z2, z3, z4, z5, z6, z7, z8, _⟩ := v9_facts F1.out.one
  have ck : (w1.alloc (.cells #[.int .i64 fk, .int .i64 0, .int .i64 0, .int .i64 0, .slice none 0 0] 26)).cell? ⟨g, 1 + n, none⟩ = some (.string (bs x)) := by
    obtain ⟨x', h1, h2⟩ := SC.out _ F1.out.bel
    rw [hxR] at h1
    cases h1
    exact h2
  go_wp2_with fail
  refine (IR.out _ F1.out.bel).mono ?_
  rintro e w2 ⟨v, rfl, hf, hb2⟩
  obtain ⟨a6, c6, rfl, hm6⟩ := hf.mine
  have M6 := hide hm6
  obtain ⟨XS, hXS⟩ : ∃ XS, readVL x = XS := ⟨_, rfl⟩
  obtain ⟨m, hm⟩ : ∃ m, XS.length = m := ⟨_, rfl⟩
  rw [hXS, hm] at M6
  rw [hXS, hm]
  have F2 := hide (F1.out.below hb2)
  have W3 := hide (F2.out.vec (.slice a6 m c6))
  have HXS := hide hXS
  have HM := hide hm
  clear hf hm6 hb2 hXS hm F1 A1 b0 b1 b2 b3 b4 b5 b6 b7 b8 z0 z1 z2 z3 z4 z5 z6 z7 z8 ck IR SC
  obtain ⟨_, y0, y1, y2, y3, y4, g0, g1, g2, g3, g4⟩ := v5_facts F2.out.cmd
  obtain ⟨_, z0, z1, z2, z3, z4, z5, z6, z7, z8, _⟩ := v9_facts W3.out.one
  go_wp2_with fail
  refine (NM.out _).mono ?_
  rintro e w4 ⟨rfl, hb4⟩
  have F4 := hide (W3.out.below hb4)
  have M4 : Hid (Mine (w1.heap.size + 1) w4 a6 m XS) := hide (Mine.below ((by simpa using M6.out : Mine (w1.heap.size + 1) w2 a6 m XS).but ((But.refl w1.heap.size w2).setCell 4 _) (Nat.lt_succ_self _)) hb4)
  clear hb4 W3 F2 M6 y0 y1 y2 y3 y4 g0 g1 g2 g3 g4 z0 z1 z2 z3 z4 z5 z6 z7 z8 NM
  go_wp2_with fail
  refine (RN.out _ F4.out.bel).mono ?_
  rintro e w3 ⟨x0, x1, x2, rfl, hx, hb3⟩
  have nb := balloc (Below.refl w3.heap.size w3) (.cells #[.int .i64 x0, .int .i64 x1, .int .i64 x2] 66)
  have F3 := hide ((F4.out.below hb3).below nb)
  have l3 := World.rowIs.lt (F4.out.below hb3).cmd
  have G3 := hide (F4.out.below hb3).cmd
  have F2z := hide (F4.out.below hb3)
  have M5' : Hid (Mine (w1.heap.size + 1) w3 a6 m XS) := hide (M4.out.below hb3)
  clear hb3 nb F4 RN
  obtain ⟨_, y0, y1, y2, y3, y4, g0, g1, g2, g3, g4⟩ := v5_facts F3.out.cmd
  obtain ⟨_, z0, z1, z2, z3, z4, z5, z6, z7, z8, _⟩ := v9_facts F3.out.one
  go_wp2_with fail
  clear z0 z1 z2 z3 z4 z5 z6 z7 z8 y0 y1 y2 y3 y4 g0 g1 g2 g3 g4
  obtain ⟨_, y0, y1, y2, y3, y4, g0, g1, g2, g3, g4⟩ := v5_facts G3.out
  go_region
  have F9 := hide ((((F2z.out.nums (.int .i64 x0) (.int .i64 x1) (.int .i64 x2)).below (balloc (Below.refl _ _) (.cells #[.int .i64 x0, .int .i64 x1, .int .i64 x2] 66))).below (Below.drew (Below.refl _ _))))
  obtain ⟨W9, hW9⟩ : ∃ W9, ((((w3.setCell ⟨w1.heap.size, 1, none⟩ (.int .i64 x0)).setCell ⟨w1.heap.size, 2, none⟩ (.int .i64 x1)).setCell ⟨w1.heap.size, 3, none⟩ (.int .i64 x2)).alloc (.cells #[.int .i64 x0, .int .i64 x1, .int .i64 x2] 66)).drew = W9 := ⟨_, rfl⟩
  rw [hW9] at F9 ⊢
  have M9 : Hid (Mine (w1.heap.size + 1) W9 a6 m XS) := hide (by rw [← hW9]; exact Mine.below (Mine.below (M5'.out.but ((((But.refl w1.heap.size w3).setCell 1 _).setCell 2 _).setCell 3 _) (Nat.lt_succ_self _)) (balloc (Below.refl _ _) _)) (Below.drew (Below.refl _ _)))
  clear hW9
  clear F3 F2z G3 y0 y1 y2 y3 y4 g0 g1 g2 g3 g4 l3
  obtain ⟨_, r0, r1, r2, r3, r4, f0, f1, f2, f3, f4⟩ := v5_facts F9.out.res
  obtain ⟨_, y0, y1, y2, y3, y4, _⟩ := v5_facts F9.out.cmd
  obtain ⟨_, z0, z1, z2, z3, z4, z5, z6, z7, z8, _⟩ := v9_facts F9.out.one
  have m8 : m ≤ 8 := by rw [← HM.out, ← HXS.out]; exact readVL_len8C x
  have ex : frX true n R = XS := by
    unfold frX
    rw [HSL.out, decide_eq_true hlt, ← HXS.out]
    simp [List.getD_eq_getElem?_getD, hxR]
  by_cases hNn : N = n + 1
  · have e1 : decide (R.length = n + (if (true && decide (n < R.length)) = true then 1 else 0)) = true := by rw [HSL.out, decide_eq_true hlt]; simp [hNn]
    subst hNn
    cases hA : allNum (R.take n)
    · have NO : frB p0 q0 p1 q1 p2 q2 true n R = false := by unfold frB; rw [e1, hA]; rfl
      clear e1 ex hx hxR hlt hle
      go_wp2_with fail
      obtain ⟨_, e0, e1, e2, e3, e4, _⟩ := v5_facts (five_set F9.out.res (.int .i64 0) (.int .i64 0) (.int .i64 0) (.int .i64 0) (.slice none 0 0))
      refine bodyPost_ret (v := .tuple #[.agg #[.int .i64 0, .int .i64 0, .int .i64 0, .int .i64 0, .slice none 0 0], .bool false]) (by simp [results, Tryz.results24, go_sem, e0, e1, e2, e3, e4]) rfl ⟨fun h => absurd (NO.symm.trans h) (by decide), fun _ => rfl, below5 F9.out.bel (Nat.le_succ _) _ _ _ _ _⟩
    · have HX := hide (hx hA)
      have FF := hide (fits_any fk fn p0 q0 p1 q1 p2 q2 true fk x0 x1 x2 a6 m c6 XS W9 M9.out.row (by omega))
      obtain ⟨B, hB⟩ : ∃ B, fitsB p0 q0 p1 q1 p2 q2 true x0 x1 x2 m XS = B := ⟨_, rfl⟩
      rw [hB] at FF
      have EB := hide (show frB p0 q0 p1 q1 p2 q2 true n R = B by
        obtain ⟨a0, a1, a2⟩ := HX.out
        rw [a0, a1, a2, ← HM.out] at hB
        unfold frB; rw [e1, hA, ex]; exact hB)
      have EX := hide ex
      clear hB e1 ex hx hxR hlt hle
      go_wp2_with fail
      refine FF.out.mono ?_
      rintro e w10 ⟨rfl, hb10⟩
      have F10 := hide (F9.out.below hb10)
      have M10 := hide (M9.out.below hb10)
      clear hb10 F9 M9 FF r0 r1 r2 r3 r4 f0 f1 f2 f3 f4 y0 y1 y2 y3 y4 z0 z1 z2 z3 z4 z5 z6 z7 z8
      obtain ⟨_, r0, r1, r2, r3, r4, f0, f1, f2, f3, f4⟩ := v5_facts F10.out.res
      obtain ⟨_, y0, y1, y2, y3, y4, _⟩ := v5_facts F10.out.cmd
      cases B
      · have NO := EB.out
        go_wp2_with fail
        obtain ⟨_, e0, e1, e2, e3, e4, _⟩ := v5_facts (five_set F10.out.res (.int .i64 0) (.int .i64 0) (.int .i64 0) (.int .i64 0) (.slice none 0 0))
        refine bodyPost_ret (v := .tuple #[.agg #[.int .i64 0, .int .i64 0, .int .i64 0, .int .i64 0, .slice none 0 0], .bool false]) (by simp [results, Tryz.results24, go_sem, e0, e1, e2, e3, e4]) rfl ⟨fun h => absurd (NO.symm.trans h) (by decide), fun _ => rfl, below5 F10.out.bel (Nat.le_succ _) _ _ _ _ _⟩
      · go_wp2_with fail
        obtain ⟨_, e0, e1, e2, e3, e4, _⟩ := v5_facts (five_set F10.out.res (.int .i64 fk) (.int .i64 x0) (.int .i64 x1) (.int .i64 x2) (.slice a6 m c6))
        refine bodyPost_ret (v := .tuple #[.agg #[.int .i64 fk, .int .i64 x0, .int .i64 x1, .int .i64 x2, .slice a6 m c6], .bool true]) (by simp [results, Tryz.results24, go_sem, e0, e1, e2, e3, e4]) rfl ⟨fun _ => ⟨a6, m, c6, by obtain ⟨a0, a1, a2⟩ := HX.out; unfold frN; rw [← a0, ← a1, ← a2], ?_, m8⟩, fun h => absurd (EB.out.symm.trans h) (by decide), below5 F10.out.bel (Nat.le_succ _) _ _ _ _ _⟩
        rw [EX.out]
        have l9 := F10.out.lt
        exact mine_lower (M10.out.but ((((((But.refl (w.heap.size + 1) w10).setCell 0 _).setCell 1 _).setCell 2 _).setCell 3 _).setCell 4 _) (by omega)) (by omega)
  · have NO : frB p0 q0 p1 q1 p2 q2 true n R = false := by
      unfold frB
      rw [HSL.out, decide_eq_true hlt, decide_eq_false (show ¬ N = n + (if (true && true) = true then 1 else 0) by simpa using hNn)]
      rfl
    have hNi : ¬ (N : Int) = (n : Int) + 1 := by omega
    clear hNn ex hx hxR hlt hle
    go_wp2_with fail
    obtain ⟨_, e0, e1, e2, e3, e4, _⟩ := v5_facts (five_set F9.out.res (.int .i64 0) (.int .i64 0) (.int .i64 0) (.int .i64 0) (.slice none 0 0))
    refine bodyPost_ret (v := .tuple #[.agg #[.int .i64 0, .int .i64 0, .int .i64 0, .int .i64 0, .slice none 0 0], .bool false]) (by simp [results, Tryz.results24, go_sem, e0, e1, e2, e3, e4]) rfl ⟨fun h => absurd (NO.symm.trans h) (by decide), fun _ => rfl, below5 F9.out.bel (Nat.le_succ _) _ _ _ _ _⟩
end Go.Proofs.YtggjcccdeaadbaaGreatDoor

/- form.read of the program, whole. -/
namespace Go.Proofs.YtggjcccdeaadbaaGreatDoor
open Go.RowKit
set_option maxRecDepth 8000
set_option linter.unusedSimpArgs false
set_option linter.unusedVariables false

theorem read_any (fk : Int) (fn : ByteArray) (p0 q0 p1 q1 p2 q2 : Int) (fv : Bool) (g N c : Nat) (R : List (List UInt8)) (w : World) (S : StrsO w g 1 N R) (hc : N ≤ c) (hsz : ∀ x ∈ R, x.length ≤ 1048576) (V : Vars w) (M : Mlen w) :
    Calls Tryz.prog 24 #[.agg #[.int .i64 fk, .string fn, .int .i64 p0, .int .i64 q0, .int .i64 p1, .int .i64 q1, .int .i64 p2, .int .i64 q2, .bool fv], .slice (some ⟨g, 1, none⟩) N c] w fun e w' => IRdF w (frB p0 q0 p1 q1 p2 q2 fv (nmN q0 q1 q2) R) fk (frN (nmN q0 q1 q2) R 0) (frN (nmN q0 q1 q2) R 1) (frN (nmN q0 q1 q2) R 2) (frX fv (nmN q0 q1 q2) R) e w' := by
  by_cases hf : N < nmN q0 q1 q2
  · refine (read_few fk fn p0 q0 p1 q1 p2 q2 fv (some ⟨g, 1, none⟩) N c R w S.len hf).mono fun e w' ⟨h1, h2, h3⟩ => ?_
    exact ⟨fun h => absurd (h1.symm.trans h) (by decide), fun _ => h2, h3⟩
  · cases fv
    · rw [show frX false (nmN q0 q1 q2) R = [] from rfl]
      exact read_no_vec fk fn p0 q0 p1 q1 p2 q2 g N c R w S hc hsz V (by omega)
    · by_cases he : N = nmN q0 q1 q2
      · rw [show frX true (nmN q0 q1 q2) R = [] by unfold frX; rw [S.len, he]; simp]
        exact read_vec_none fk fn p0 q0 p1 q1 p2 q2 g N c R w S hc hsz V he
      · exact read_vec fk fn p0 q0 p1 q1 p2 q2 g N c R w S hc hsz V M (by omega)
end Go.Proofs.YtggjcccdeaadbaaGreatDoor

/- A command that is read: by kinds; plain, and form.read by kinds. -/
namespace Go.Proofs.YtggjcccdeaadbaaGreatDoor
open Go.RowKit
set_option maxRecDepth 8000
set_option linter.unusedSimpArgs false
set_option linter.unusedVariables false

theorem rd_kind {l : List UInt8} {k p0 q0 p1 q1 p2 q2 : Int} {fv : Bool} {R : List (List UInt8)} (hk : kindB k = true) (hw : splitK 32 5 l = nmW k :: R) (hn : nmN q0 q1 q2 = cmN k) (hv : fv = vcK k)
    (hc : ∀ a b c n xs, cmdB k a b c n xs = fitsB p0 q0 p1 q1 p2 q2 fv a b c n xs) :
    frB p0 q0 p1 q1 p2 q2 fv (nmN q0 q1 q2) R = rdCB l ∧ (rdCB l = true → rdC l = ⟨k, frN (nmN q0 q1 q2) R 0, frN (nmN q0 q1 q2) R 1, frN (nmN q0 q1 q2) R 2, frX fv (nmN q0 q1 q2) R⟩) := by
  have bwd : rdCB l = true → frB p0 q0 p1 q1 p2 q2 fv (nmN q0 q1 q2) R = true ∧ rdC l = ⟨k, frN (nmN q0 q1 q2) R 0, frN (nmN q0 q1 q2) R 1, frN (nmN q0 q1 q2) R 2, frX fv (nmN q0 q1 q2) R⟩ := fun h => by
    obtain ⟨b1, b2, R', b3, b4, b5, b6⟩ := rd_bwd h
    rw [hw] at b3
    injection b3 with c1 c2
    have ek : (rdC l).k = k := by rw [← nameK_nmW b1, ← c1, nameK_nmW hk]
    subst c2
    rw [ek] at b1 b2 b4 b5 b6
    rw [hn]
    have ex : frX fv (cmN k) R = if vcK k then readVL (R.getD (cmN k) []) else [] := by
      unfold frX
      rw [hv]
      cases q : vcK k
      · rfl
      · rw [q, if_pos rfl] at b4
        rw [show decide (cmN k < R.length) = true from decide_eq_true (by omega)]
        rfl
    refine ⟨?_, ?_⟩
    · unfold frB
      have e1 : decide (R.length = cmN k + (if (fv && decide (cmN k < R.length)) = true then 1 else 0)) = true := by
        rw [hv]
        cases q : vcK k
        · rw [q] at b4; simp at b4 ⊢; exact b4
        · rw [q, if_pos rfl] at b4
          rw [show decide (cmN k < R.length) = true from decide_eq_true (by omega)]
          simp; exact b4
      rw [e1, b5, ex, ← hc, Bool.true_and, Bool.true_and]
      have e := congrArg Cm.a b6; have e' := congrArg Cm.b b6; have e'' := congrArg Cm.c b6; have ev := congrArg Cm.xs b6
      simp only at e e' e'' ev
      unfold frN
      rw [← e, ← e', ← e'', ← ev]
      exact b2
    · rw [ex]; exact b6
  refine ⟨?_, fun h => (bwd h).2⟩
  cases hr : rdCB l
  · cases hf : frB p0 q0 p1 q1 p2 q2 fv (nmN q0 q1 q2) R
    · rfl
    · exfalso
      rw [hn] at hf
      unfold frB at hf
      simp only [Bool.and_eq_true, decide_eq_true_eq] at hf
      obtain ⟨f1, f2, f3⟩ := hf
      have hl : R.length = cmN k + (if vcK k then 1 else 0) := by
        rw [f1, hv]
        cases q : vcK k
        · simp
        · by_cases g : cmN k < R.length
          · simp [g]
          · exfalso
            have f3v := (fits_facts f3).2.2.2 (by rw [hv, q])
            have e : frX fv (cmN k) R = [] := by unfold frX; rw [decide_eq_false g]; simp
            rw [e] at f3v
            exact absurd f3v (by decide)
      have ex : frX fv (cmN k) R = if vcK k then readVL (R.getD (cmN k) []) else [] := by
        unfold frX
        rw [hv]
        cases q : vcK k
        · rfl
        · rw [q, if_pos rfl] at hl
          rw [show decide (cmN k < R.length) = true from decide_eq_true (by omega)]
          rfl
      have := (rd_fwd hk hw hl f2 ex (by rw [hc]; exact f3)).1
      rw [hr] at this
      cases this
  · exact (bwd hr).1

theorem rd_none {l : List UInt8} {x : List UInt8} {R : List (List UInt8)} (hw : splitK 32 5 l = x :: R) (h : ∀ j : Nat, j < 7 → x ≠ nmW ((j : Int) + 1)) : rdCB l = false := by
  cases hr : rdCB l
  · rfl
  · obtain ⟨b1, b2, R', b3, b4⟩ := rd_bwd hr
    rw [hw] at b3
    injection b3 with c1 c2
    have k7 : 1 ≤ (rdC l).k ∧ (rdC l).k ≤ 7 := of_decide_eq_true b1
    refine absurd ?_ (h ((rdC l).k - 1).toNat (by omega))
    rw [c1, show ((((rdC l).k - 1).toNat : Nat) : Int) + 1 = (rdC l).k by omega]

/-- The answer of the program's ReadCmd. -/
def IRdC (w : World) (l : List UInt8) (e : Ending) (w' : World) : Prop :=
  ∃ va m cap, e = .returned (.tuple #[.agg #[.int .i64 (readC l).k, .int .i64 (readC l).a, .int .i64 (readC l).b, .int .i64 (readC l).c, .slice va m cap], .bool (rdCB l)]) ∧ Mine w.heap.size w' va m (readC l).xs ∧ m ≤ 8 ∧ Below w.heap.size w w'

/-- form.read of the kind that a text is of. -/
theorem read_kind (k : Int) (fn : ByteArray) (p0 q0 p1 q1 p2 q2 : Int) (fv : Bool) (l : List UInt8) (g N c : Nat) (R : List (List UInt8)) (w : World) (S : StrsO w g 1 N R) (hc : N ≤ c) (hsz : ∀ x ∈ R, x.length ≤ 1048576) (V : Vars w) (M : Mlen w)
    (hk : kindB k = true) (hw : splitK 32 5 l = nmW k :: R) (hn : nmN q0 q1 q2 = cmN k) (hv : fv = vcK k) (hf : ∀ a b c n xs, cmdB k a b c n xs = fitsB p0 q0 p1 q1 p2 q2 fv a b c n xs) :
    Calls Tryz.prog 24 #[.agg #[.int .i64 k, .string fn, .int .i64 p0, .int .i64 q0, .int .i64 p1, .int .i64 q1, .int .i64 p2, .int .i64 q2, .bool fv], .slice (some ⟨g, 1, none⟩) N c] w fun e w' => IRdC w l e w' := by
  obtain ⟨h1, h2⟩ := rd_kind hk hw hn hv hf
  refine (read_any k fn p0 q0 p1 q1 p2 q2 fv g N c R w S hc hsz V M).mono fun e w' ⟨a, b, d⟩ => ?_
  unfold IRdC
  rw [h1] at a b
  unfold readC
  cases hr : rdCB l
  · have := b hr
    rw [if_neg (by decide)]
    exact ⟨none, 0, 0, this, ⟨rfl, .inl ⟨rfl, rfl⟩⟩, by omega, d⟩
  · obtain ⟨va, m, cap, he, hm, h8⟩ := a hr
    rw [if_pos rfl, h2 hr]
    exact ⟨va, m, cap, he, hm, h8, d⟩
end Go.Proofs.YtggjcccdeaadbaaGreatDoor
