/- The laws' small functions over entries: szEntry, toEntry, eqEntry, eqHit. -/
import Derived.Test.YtbeakenblppngaaZ20
import Derived.Test.YtbeakenblppngaaZ19
import Derived.Test.YtbeakenblppngaaZ21
namespace Go.Proofs.Ytbeakenblppngaa
open Go.RowKit
set_option maxRecDepth 8000
set_option linter.unusedSimpArgs false
set_option linter.unusedVariables false

set_option maxHeartbeats 1000000 in
theorem eqHit_any (x y z : Int) (w : World) :
    Calls Try.prog 11 #[.agg #[.int .i64 x, .int .i64 y, .int .i64 z], .agg #[.int .i64 x, .int .i64 y, .int .i64 z]] w fun e w' => e = .returned (.bool true) ∧ Below w.heap.size w w' := by
  have t0 : (x != x) = false := by simp
  have t1 : (y != y) = false := by simp
  have t2 : (z != z) = false := by simp
  go_enter Try.func11, Try.ntmps11
  go_wp2_with fail
  go_ret
  exact ⟨rfl, (by repeat' first | with_reducible exact Below.refl _ _ | with_reducible assumption | with_reducible refine below_drewN ?_ _ | with_reducible refine balloc ?_ _ | with_reducible refine Below.drew ?_ | with_reducible refine Below.setCell ?_ (by first | (simp; done) | (simp; omega) | omega) _ | with_reducible refine bstep ?_ (by assumption))⟩

/-- The value of an entry. -/
def enV (x : En) (va : Option Addr) (vn vc : Nat) (r : RowV) : Value := .agg #[.int .i64 x.it.id, .int .i64 x.it.tags, .slice va vn vc, .slice r.a1 r.m1 r.k1, .slice r.a2 r.m2 r.k2, .slice r.a3 r.m3 r.k3, .bool x.is]

set_option maxHeartbeats 2000000 in
theorem szEntry_any (x : En) (va : Option Addr) (vn vc : Nat) (r : RowV) (left : Int) (w : World) (h0 : 0 ≤ left) (h1 : left ≤ 1048576) (l0 : vn ≤ 9223372036854775807) (l1 : r.m1 ≤ 9223372036854775807) (l2 : r.m2 ≤ 9223372036854775807) (l3 : r.m3 ≤ 9223372036854775807) :
    Calls Try.prog 5 #[enV x va vn vc r, .int .i64 left] w fun e w' => ∃ v, e = .returned (.int .i64 v) ∧ (v = -1 ∨ (0 ≤ v ∧ (vn : Int) + r.m1 + r.m2 + r.m3 ≤ left)) ∧ Below w.heap.size w w' := by
  obtain ⟨⟨x0, x1, xs⟩, L1, L2, L3, is⟩ := x
  obtain ⟨a1, a2, a3, m1, m2, m3, k1, k2, k3⟩ := r
  unfold enV
  simp only at l1 l2 l3 ⊢
  have SI := hide (fun w1 => szItem_any x0 x1 va vn vc left w1 h0 h1 l0)
  by_cases y1 : left - (vn : Int) < 0
  · rw [show szN left vn = -1 from if_pos y1] at SI
    clear y1
    go_enter Try.func5, Try.ntmps5
    go_wp2_with fail
    refine (SI.out _).mono ?_
    rintro e w1 ⟨rfl, hb1⟩
    go_wp2_with fail
    go_ret
    exact ⟨_, rfl, .inl rfl, (by repeat' first | with_reducible exact Below.refl _ _ | with_reducible assumption | with_reducible refine below_drewN ?_ _ | with_reducible refine balloc ?_ _ | with_reducible refine Below.drew ?_ | with_reducible refine Below.setCell ?_ (by first | (simp; done) | (simp; omega) | omega) _ | with_reducible refine bstep ?_ (by assumption))⟩
  · rw [show szN left vn = left - vn from if_neg y1] at SI
    have SR := hide (fun w1 => szRow_any ⟨a1, a2, a3, m1, m2, m3, k1, k2, k3⟩ (left - vn) w1 (by omega) (by omega) l1 l2 l3)
    obtain ⟨v, hv⟩ : ∃ v, szRowV (left - vn) ⟨a1, a2, a3, m1, m2, m3, k1, k2, k3⟩ = v := ⟨_, rfl⟩
    rw [hv] at SR
    have hD : v = -1 ∨ (0 ≤ v ∧ (vn : Int) + m1 + m2 + m3 ≤ left) := by
      unfold szRowV at hv
      simp only at hv
      split at hv <;> omega
    unfold RowV.v at SR
    simp only at SR
    clear hv
    rcases hD with rfl | ⟨hv0, hv1⟩
    all_goals
      go_enter Try.func5, Try.ntmps5
      go_wp2_with fail
      refine (SI.out _).mono ?_
      rintro e w1 ⟨rfl, hb1⟩
      have T1 : Sev w1 w.heap.size (.int .i64 x0) (.int .i64 x1) (.slice va vn vc) (.slice a1 m1 k1) (.slice a2 m2 k2) (.slice a3 m3 k3) (.bool is) := (Sev.new w _ _ _ _ _ _ _ _ _ rfl).below hb1
      have B1 : Below w.heap.size w w1 := (by repeat' first | with_reducible exact Below.refl _ _ | with_reducible assumption | with_reducible refine below_drewN ?_ _ | with_reducible refine balloc ?_ _ | with_reducible refine Below.drew ?_ | with_reducible refine Below.setCell ?_ (by first | (simp; done) | (simp; omega) | omega) _ | with_reducible refine bstep ?_ (by assumption))
      obtain ⟨_, t0, t1, t2, t3, t4, t5, t6⟩ := T1
      clear hb1
      go_wp2_with fail
      refine (SR.out _).mono ?_
      rintro e w2 ⟨rfl, hb2⟩
      have B2 := bstep B1 hb2
      clear t0 t1 t2 t3 t4 t5 t6
      go_wp2_with fail
      go_ret
      first
        | exact ⟨_, rfl, .inl rfl, B2⟩
        | exact ⟨_, rfl, .inr ⟨hv0, hv1⟩, B2⟩

set_option maxHeartbeats 4000000 in
theorem eqEntry_self (x : En) (av bv : Option Addr) (nv nv' cv dv : Nat) (r s : RowV) (w : World) (hx : nv ≤ 1048576) (q1 : r.m1 ≤ 1048576) (q2 : r.m2 ≤ 1048576) (q3 : r.m3 ≤ 1048576)
    (ra : Row w av nv x.it.vec) (rb : Row w bv nv' x.it.vec) (hr : r.is w x.r1 x.r2 x.r3) (hs : s.is w x.r1 x.r2 x.r3) :
    Calls Try.prog 13 #[enV x av nv cv r, enV x bv nv' dv s] w fun e w' => e = .returned (.bool true) ∧ Below w.heap.size w w' := by
  have EI := hide (fun w1 (hb : Below w.heap.size w w1) => eqItem_self x.it av bv nv nv' cv dv w1 (ra.below hb) (rb.below hb) hx)
  have ER := hide (fun w1 (hb : Below w.heap.size w w1) => eqRowV_same r s x.r1 x.r2 x.r3 w1 (hr.below hb) (hs.below hb) q1 q2 q3)
  clear ra rb hr hs
  obtain ⟨⟨i, t, xs⟩, L1, L2, L3, is⟩ := x
  obtain ⟨a1, a2, a3, m1, m2, m3, k1, k2, k3⟩ := r
  obtain ⟨b1, b2, b3, n1, n2, n3, j1, j2, j3⟩ := s
  unfold RowV.v at ER
  unfold enV
  simp only at EI ER ⊢
  have hiv : (is != is) = false := by simp
  obtain ⟨W0, hW0⟩ : ∃ W, ((w.alloc (.cells #[.int .i64 i, .int .i64 t, .slice av nv cv, .slice a1 m1 k1, .slice a2 m2 k2, .slice a3 m3 k3, .bool is] 41)).alloc (.cells #[.int .i64 i, .int .i64 t, .slice bv nv' dv, .slice b1 n1 j1, .slice b2 n2 j2, .slice b3 n3 j3, .bool is] 41)) = W := ⟨_, rfl⟩
  have T0 : Sev W0 w.heap.size (.int .i64 i) (.int .i64 t) (.slice av nv cv) (.slice a1 m1 k1) (.slice a2 m2 k2) (.slice a3 m3 k3) (.bool is) := hW0 ▸ (Sev.new w _ _ _ _ _ _ _ _ _ rfl).below (balloc (Below.refl _ _) _)
  have U0 : Sev W0 (w.heap.size + 1) (.int .i64 i) (.int .i64 t) (.slice bv nv' dv) (.slice b1 n1 j1) (.slice b2 n2 j2) (.slice b3 n3 j3) (.bool is) := hW0 ▸ Sev.new (w.alloc _) _ _ _ _ _ _ _ _ _ (by simp)
  have B0 : Below w.heap.size w W0 := hW0 ▸ (by repeat' first | with_reducible exact Below.refl _ _ | with_reducible assumption | with_reducible refine below_drewN ?_ _ | with_reducible refine balloc ?_ _ | with_reducible refine Below.drew ?_ | with_reducible refine Below.setCell ?_ (by first | (simp; done) | (simp; omega) | omega) _ | with_reducible refine bstep ?_ (by assumption))
  have HW := hide hW0
  clear hW0
  go_enter Try.func13, Try.ntmps13
  go_wp2_with fail
  rw [HW.out]
  refine (EI.out _ B0).mono ?_
  rintro e w1 ⟨rfl, hb1⟩
  have T1 := T0.below hb1
  have U1 := U0.below hb1
  have B1 := bstep B0 hb1
  have HT := hide T1
  have HU := hide U1
  obtain ⟨_, t0, t1, t2, t3, t4, t5, t6⟩ := T1
  obtain ⟨_, u0, u1, u2, u3, u4, u5, u6⟩ := U1
  go_wp2_with fail
  refine (ER.out _ B1).mono ?_
  rintro e w2 ⟨rfl, hb2⟩
  have T2 := HT.out.below hb2
  have U2 := HU.out.below hb2
  have B2 := bstep B1 hb2
  clear t0 t1 t2 t3 t4 t5 t6 u0 u1 u2 u3 u4 u5 u6
  obtain ⟨_, t0, t1, t2, t3, t4, t5, t6⟩ := T2
  obtain ⟨_, u0, u1, u2, u3, u4, u5, u6⟩ := U2
  go_wp2_with fail
  go_ret
  exact ⟨rfl, B2⟩
end Go.Proofs.Ytbeakenblppngaa

/- toEntry of the laws. -/
namespace Go.Proofs.Ytbeakenblppngaa
open Go.RowKit
set_option maxRecDepth 8000
set_option linter.unusedSimpArgs false
set_option linter.unusedVariables false

/-- A box of seven cells that may be written. -/
structure SevW (w : World) (b : Nat) (v0 v1 v2 v3 v4 v5 v6 : Value) : Prop where
  lt : b < w.heap.size
  c0 : w.cell? ⟨b, 0, none⟩ = some v0
  c1 : w.cell? ⟨b, 1, none⟩ = some v1
  c2 : w.cell? ⟨b, 2, none⟩ = some v2
  c3 : w.cell? ⟨b, 3, none⟩ = some v3
  c4 : w.cell? ⟨b, 4, none⟩ = some v4
  c5 : w.cell? ⟨b, 5, none⟩ = some v5
  c6 : w.cell? ⟨b, 6, none⟩ = some v6
  f0 : w.frozen? ⟨b, 0, none⟩ = false
  f1 : w.frozen? ⟨b, 1, none⟩ = false
  f2 : w.frozen? ⟨b, 2, none⟩ = false
  f3 : w.frozen? ⟨b, 3, none⟩ = false
  f4 : w.frozen? ⟨b, 4, none⟩ = false
  f5 : w.frozen? ⟨b, 5, none⟩ = false
  f6 : w.frozen? ⟨b, 6, none⟩ = false

theorem SevW.below {w w' : World} {b : Nat} {v0 v1 v2 v3 v4 v5 v6 : Value} (h : SevW w b v0 v1 v2 v3 v4 v5 v6) (hb : Below w.heap.size w w') : SevW w' b v0 v1 v2 v3 v4 v5 v6 := by
  have r : ∀ j, w'.cell? ⟨b, j, none⟩ = w.cell? ⟨b, j, none⟩ := fun j => hb.cell (p := ⟨b, j, none⟩) h.lt
  have s : ∀ j, w'.frozen? ⟨b, j, none⟩ = w.frozen? ⟨b, j, none⟩ := fun j => hb.frozen (p := ⟨b, j, none⟩) h.lt
  exact ⟨Nat.lt_of_lt_of_le h.lt hb.size, (r 0).trans h.c0, (r 1).trans h.c1, (r 2).trans h.c2, (r 3).trans h.c3, (r 4).trans h.c4, (r 5).trans h.c5, (r 6).trans h.c6, (s 0).trans h.f0, (s 1).trans h.f1, (s 2).trans h.f2, (s 3).trans h.f3, (s 4).trans h.f4, (s 5).trans h.f5, (s 6).trans h.f6⟩

theorem SevW.new (w : World) (v0 v1 v2 v3 v4 v5 v6 : Value) (T : TypeId) (b : Nat) (hb : w.heap.size = b) : SevW (w.alloc (.cells #[v0, v1, v2, v3, v4, v5, v6] T)) b v0 v1 v2 v3 v4 v5 v6 := hb ▸ ⟨by simp, by simp, by simp, by simp, by simp, by simp, by simp, by simp, by simp [go_sem], by simp [go_sem], by simp [go_sem], by simp [go_sem], by simp [go_sem], by simp [go_sem], by simp [go_sem]⟩

theorem SevW.away {w : World} {b : Nat} {v0 v1 v2 v3 v4 v5 v6 : Value} (h : SevW w b v0 v1 v2 v3 v4 v5 v6) (p : Addr) (v : Value) (hp : b ≠ p.block) : SevW (w.setCell p v) b v0 v1 v2 v3 v4 v5 v6 := by
  have e := Below.heap_setCell w p v b hp
  obtain ⟨h0, h1, h2, h3, h4, h5, h6, h7, f0, f1, f2, f3, f4, f5, f6⟩ := h
  refine ⟨by simpa [World.setCell] using h0, ?_, ?_, ?_, ?_, ?_, ?_, ?_, ?_, ?_, ?_, ?_, ?_, ?_, ?_⟩ <;> simp only [World.cell?, World.frozen?, e] at * <;> assumption

theorem SevW.put0 {w : World} {b : Nat} {v0 v1 v2 v3 v4 v5 v6 : Value} (h : SevW w b v0 v1 v2 v3 v4 v5 v6) (u0 u1 u2 : Value) : SevW (((w.setCell ⟨b, 0, none⟩ u0).setCell ⟨b, 1, none⟩ u1).setCell ⟨b, 2, none⟩ u2) b u0 u1 u2 v3 v4 v5 v6 := by
  obtain ⟨h0, h1, h2, h3, h4, h5, h6, h7, f0, f1, f2, f3, f4, f5, f6⟩ := h
  refine ⟨by simpa [World.setCell] using h0, ?_, ?_, ?_, ?_, ?_, ?_, ?_, ?_, ?_, ?_, ?_, ?_, ?_, ?_⟩ <;> simp [go_sem, *]

theorem SevW.put3 {w : World} {b : Nat} {v0 v1 v2 v3 v4 v5 v6 : Value} (h : SevW w b v0 v1 v2 v3 v4 v5 v6) (u3 u4 u5 : Value) : SevW (((w.setCell ⟨b, 3, none⟩ u3).setCell ⟨b, 4, none⟩ u4).setCell ⟨b, 5, none⟩ u5) b v0 v1 v2 u3 u4 u5 v6 := by
  obtain ⟨h0, h1, h2, h3, h4, h5, h6, h7, f0, f1, f2, f3, f4, f5, f6⟩ := h
  refine ⟨by simpa [World.setCell] using h0, ?_, ?_, ?_, ?_, ?_, ?_, ?_, ?_, ?_, ?_, ?_, ?_, ?_, ?_⟩ <;> simp [go_sem, *]
/-- A list of the call's own, in a world where another box is written. -/
theorem Own.put3 {w : World} {g : Nat} {xs : List Int} (h : Own w g xs) (b i j k : Nat) (u0 u1 u2 : Value) (hp : g ≠ b) : Own (((w.setCell ⟨b, i, none⟩ u0).setCell ⟨b, j, none⟩ u1).setCell ⟨b, k, none⟩ u2) g xs := ((h.away ⟨b, i, none⟩ u0 hp).away ⟨b, j, none⟩ u1 hp).away ⟨b, k, none⟩ u2 hp

theorem Mine3.put3 {B C : Nat} {w : World} {g1 g2 g3 : Nat} {L1 L2 L3 : List Int} (h : Mine3 B C w g1 g2 g3 L1 L2 L3) (b i j k : Nat) (u0 u1 u2 : Value) (hp : b < B) : Mine3 B C (((w.setCell ⟨b, i, none⟩ u0).setCell ⟨b, j, none⟩ u1).setCell ⟨b, k, none⟩ u2) g1 g2 g3 L1 L2 L3 :=
  ⟨h.o1.put3 b i j k u0 u1 u2 (by have := h.lo; omega), h.o2.put3 b i j k u0 u1 u2 (by have := h.lo; omega), h.o3.put3 b i j k u0 u1 u2 (by have := h.lo; omega), h.lo, h.hi, h.apart⟩

theorem Mine3.away {B C : Nat} {w : World} {g1 g2 g3 : Nat} {L1 L2 L3 : List Int} (h : Mine3 B C w g1 g2 g3 L1 L2 L3) (b i : Nat) (u : Value) (hp : b < B) : Mine3 B C (w.setCell ⟨b, i, none⟩ u) g1 g2 g3 L1 L2 L3 :=
  ⟨h.o1.away ⟨b, i, none⟩ u (show g1 ≠ b by have := h.lo; omega), h.o2.away ⟨b, i, none⟩ u (show g2 ≠ b by have := h.lo; omega), h.o3.away ⟨b, i, none⟩ u (show g3 ≠ b by have := h.lo; omega), h.lo, h.hi, h.apart⟩

/-- The answer of toEntry. -/
def ToE (w : World) (x : En) (e : Ending) (w' : World) : Prop :=
  ∃ va vn vc r, e = .returned (enV x va vn vc r) ∧ Row w' va vn x.it.vec ∧ r.is w' x.r1 x.r2 x.r3 ∧ Below w.heap.size w w'

set_option maxHeartbeats 8000000 in
set_option maxRecDepth 4000 in
theorem toEntry_any (x : En) (av : Option Addr) (nv cv : Nat) (r : RowV) (w : World) (hx : nv ≤ 1048576) (q1 : r.m1 ≤ 1048576) (q2 : r.m2 ≤ 1048576) (q3 : r.m3 ≤ 1048576) (ra : Row w av nv x.it.vec) (hr : r.is w x.r1 x.r2 x.r3) :
    Calls Try.prog 8 #[enV x av nv cv r] w fun e w' => ToE w x e w' := by
  have TI := hide (fun w1 (hb : Below w.heap.size w w1) => toItem_any x.it av nv cv w1 (ra.below hb) hx)
  have TR := hide (fun w1 (hb : Below w.heap.size w w1) => toRow_any r x.r1 x.r2 x.r3 w1 (hr.below hb) q1 q2 q3)
  clear ra hr
  obtain ⟨⟨i, t, xs⟩, L1, L2, L3, is⟩ := x
  obtain ⟨a1, a2, a3, m1, m2, m3, k1, k2, k3⟩ := r
  unfold RowV.v at TR
  unfold enV
  simp only at TI TR ⊢
  go_enter Try.func8, Try.ntmps8
  go_wp2_with fail
  refine (TI.out _ (by repeat' first | with_reducible exact Below.refl _ _ | with_reducible assumption | with_reducible refine below_drewN ?_ _ | with_reducible refine balloc ?_ _ | with_reducible refine Below.drew ?_ | with_reducible refine Below.setCell ?_ (by first | (simp; done) | (simp; omega) | omega) _ | with_reducible refine bstep ?_ (by assumption))).mono ?_
  rintro e w1 ⟨g, rfl, x1, o1, hb1⟩
  have TA : SevW w1 w.heap.size (.int .i64 i) (.int .i64 t) (.slice av nv cv) (.slice a1 m1 k1) (.slice a2 m2 k2) (.slice a3 m3 k3) (.bool is) := (SevW.new w _ _ _ _ _ _ _ _ _ rfl).below (bstep (balloc (balloc (Below.refl _ _) _) _) hb1)
  have TB : SevW w1 (w.heap.size + 1) (.int .i64 0) (.int .i64 0) (.slice none 0 0) (.slice none 0 0) (.slice none 0 0) (.slice none 0 0) (.bool false) := (SevW.new (w.alloc _) _ _ _ _ _ _ _ _ _ (by simp)).below (bstep (balloc (Below.refl _ _) _) hb1)
  have TC : SevW w1 (w.heap.size + 2) (.int .i64 0) (.int .i64 0) (.slice none 0 0) (.slice none 0 0) (.slice none 0 0) (.slice none 0 0) (.bool false) := (SevW.new ((w.alloc _).alloc _) _ _ _ _ _ _ _ _ _ (by simp)).below hb1
  have B1 : Below w.heap.size w w1 := (by repeat' first | with_reducible exact Below.refl _ _ | with_reducible assumption | with_reducible refine below_drewN ?_ _ | with_reducible refine balloc ?_ _ | with_reducible refine Below.drew ?_ | with_reducible refine Below.setCell ?_ (by first | (simp; done) | (simp; omega) | omega) _ | with_reducible refine bstep ?_ (by assumption))
  simp at x1
  have O1 := hide o1
  have HA := hide TA
  have HBx := hide TB
  have HC := hide TC
  obtain ⟨_, p0, p1, p2, p3, p4, p5, p6, _⟩ := TA
  obtain ⟨_, r0, r1, r2, r3, r4, r5, r6, s0, s1, s2, s3, s4, s5, s6⟩ := TC
  clear TB hb1 o1
  generalize hn : xs.length = n at *
  go_wp2_with fail
  have B1' : Below w.heap.size w (((w1.setCell ⟨w.heap.size + 2, 0, none⟩ (.int .i64 i)).setCell ⟨w.heap.size + 2, 1, none⟩ (.int .i64 t)).setCell ⟨w.heap.size + 2, 2, none⟩ (.slice (some ⟨g, 0, none⟩) n n)) := ((B1.setCell (by simp) _).setCell (by simp) _).setCell (by simp) _
  refine (TR.out _ B1').mono ?_
  rintro e w2 ⟨g1, g2, g3, rfl, mm, hb2⟩
  have HA := hide ((((HA.out.away ⟨w.heap.size + 2, 0, none⟩ (.int .i64 i) (by simp)).away ⟨w.heap.size + 2, 1, none⟩ (.int .i64 t) (by simp)).away ⟨w.heap.size + 2, 2, none⟩ (.slice (some ⟨g, 0, none⟩) n n) (by simp)).below hb2)
  have HBx := hide ((((HBx.out.away ⟨w.heap.size + 2, 0, none⟩ (.int .i64 i) (by simp)).away ⟨w.heap.size + 2, 1, none⟩ (.int .i64 t) (by simp)).away ⟨w.heap.size + 2, 2, none⟩ (.slice (some ⟨g, 0, none⟩) n n) (by simp)).below hb2)
  have lc := HC.out.lt
  have HC := hide ((HC.out.put0 (.int .i64 i) (.int .i64 t) (.slice (some ⟨g, 0, none⟩) n n)).below hb2)
  have O1 := hide ((O1.out.put3 (w.heap.size + 2) 0 1 2 (.int .i64 i) (.int .i64 t) (.slice (some ⟨g, 0, none⟩) n n) (by omega)).below hb2)
  have B2 := bstep B1' hb2
  have M2 := hide mm
  have sz : w1.heap.size ≤ w2.heap.size := by simpa [World.setCell] using hb2.size
  clear p0 p1 p2 p3 p4 p5 p6 r0 r1 r2 r3 r4 r5 r6 s0 s1 s2 s3 s4 s5 s6 hb2 mm B1'
  generalize hl1 : L1.length = l1
  generalize hl2 : L2.length = l2
  generalize hl3 : L3.length = l3
  unfold rowM RowV.v
  obtain ⟨_, p0, p1, p2, p3, p4, p5, p6, _⟩ := HA.out
  obtain ⟨_, r0, r1, r2, r3, r4, r5, r6, s0, s1, s2, s3, s4, s5, s6⟩ := HC.out
  obtain ⟨_, u0, u1, u2, u3, u4, u5, u6, v0, v1, v2, v3, v4, v5, v6⟩ := HBx.out
  simp only
  go_wp2_with fail
  have hO : Own w2 g xs := O1.out
  have hM := M2.out
  subst hn hl1 hl2 hl3
  refine bodyPost_ret (v := .agg #[.int .i64 i, .int .i64 t, .slice (some ⟨g, 0, none⟩) xs.length xs.length, .slice (some ⟨g1, 0, none⟩) L1.length L1.length, .slice (some ⟨g2, 0, none⟩) L2.length L2.length, .slice (some ⟨g3, 0, none⟩) L3.length L3.length, .bool is]) ?_ rfl ⟨some ⟨g, 0, none⟩, xs.length, xs.length, rowM g1 g2 g3 L1.length L2.length L3.length, rfl, ?_, ?_, ?_⟩
  · simp [results, Try.results8, go_sem, *]
  · refine Own.row ?_
    iterate 11 refine Own.away ?_ _ _ (by simp; omega)
    exact hO
  · refine Mine3.is (B := (((w1.setCell ⟨w.heap.size + 2, 0, none⟩ (.int .i64 i)).setCell ⟨w.heap.size + 2, 1, none⟩ (.int .i64 t)).setCell ⟨w.heap.size + 2, 2, none⟩ (.slice (some ⟨g, 0, none⟩) xs.length xs.length)).heap.size) (C := w2.heap.size) ?_
    iterate 11 refine Mine3.away ?_ _ _ _ (by simp [World.setCell]; omega)
    exact hM
  · iterate 11 refine Below.setCell ?_ (by first | (simp; done) | (simp; omega)) _
    exact B2
end Go.Proofs.Ytbeakenblppngaa
