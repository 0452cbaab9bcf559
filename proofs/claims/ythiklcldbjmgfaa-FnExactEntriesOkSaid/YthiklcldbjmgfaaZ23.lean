/- The laws' small functions over entries: szEntry, toEntry, eqEntry, eqHit. -/
import Derived.Test.YthiklcldbjmgfaaZ20
import Derived.Test.YthiklcldbjmgfaaZ19
import Derived.Test.YthiklcldbjmgfaaZ21
import Derived.Test.YthiklcldbjmgfaaZ6
namespace Go.Proofs.Ythiklcldbjmgfaa
open Go.RowKit
set_option maxRecDepth 8000
set_option linter.unusedSimpArgs false
set_option linter.unusedVariables false



/-- The value of an entry. -/
def enV (x : En) (va : Option Addr) (vn vc : Nat) (r : RowV) : Value := .agg #[.int .i64 x.it.id, .int .i64 x.it.tags, .slice va vn vc, .slice r.a1 r.m1 r.k1, .slice r.a2 r.m2 r.k2, .slice r.a3 r.m3 r.k3, .bool x.is]

set_option maxHeartbeats 2000000 in
theorem szEntry_any (x : En) (va : Option Addr) (vn vc : Nat) (r : RowV) (left : Int) (w : World) (h0 : 0 ≤ left) (h1 : left ≤ 1048576) (l0 : vn ≤ 9223372036854775807) (l1 : r.m1 ≤ 9223372036854775807) (l2 : r.m2 ≤ 9223372036854775807) (l3 : r.m3 ≤ 9223372036854775807) :
    Calls Try.prog 12 #[enV x va vn vc r, .int .i64 left] w fun e w' => ∃ v, e = .returned (.int .i64 v) ∧ (v = -1 ∨ (0 ≤ v ∧ (vn : Int) + r.m1 + r.m2 + r.m3 ≤ left)) ∧ Below w.heap.size w w' := by
  obtain ⟨⟨x0, x1, xs⟩, L1, L2, L3, is⟩ := x
  obtain ⟨a1, a2, a3, m1, m2, m3, k1, k2, k3⟩ := r
  unfold enV
  simp only at l1 l2 l3 ⊢
  have SI := hide (fun w1 => szItem_any x0 x1 va vn vc left w1 h0 h1 l0)
  by_cases y1 : left - (vn : Int) < 0
  · rw [show szN left vn = -1 from if_pos y1] at SI
    clear y1
    go_enter Try.func12, Try.ntmps12
    go_wp2_with fail
    refine (SI.out _).mono ?_
    rintro e w1 ⟨rfl, hb1⟩
    go_wp2_with fail
    go_ret
    exact ⟨_, rfl, .inl rfl, (by repeat' first | with_reducible exact Below.refl _ _ | with_reducible assumption | with_reducible refine below_drewN ?_ _ | with_reducible refine balloc ?_ _ | with_reducible refine Below.drew ?_ | with_reducible refine Below.setCell ?_ (by first | (simp; done) | (simp; omega) | omega) _ | with_reducible refine bstep ?_ (by assumption))⟩
  · rw [show szN left vn = left - vn from if_neg y1] at SI
    have SR := hide (fun w1 => szRow_any ⟨a1, a2, a3, m1, m2, m3, k1, k2, k3⟩ (left - vn) w1 (by omega) (by omega) l1 l2 l3)
    obtain ⟨v, hv⟩ : ∃ v, szRowV (left - vn) ⟨a1, a2, a3, m1, m2, m3, k1, k2, k3⟩ = v := ⟨_, rfl⟩
    rw [hv] at SR
    have hD : v = -1 ∨ (0 ≤ v ∧ (vn : Int) + m1 + m2 + m3 ≤ left) := by
      unfold szRowV at hv
      simp only at hv
      split at hv <;> omega
    unfold RowV.v at SR
    simp only at SR
    clear hv
    rcases hD with rfl | ⟨hv0, hv1⟩
    all_goals
      go_enter Try.func12, Try.ntmps12
      go_wp2_with fail
      refine (SI.out _).mono ?_
      rintro e w1 ⟨rfl, hb1⟩
      have T1 : Sev w1 w.heap.size (.int .i64 x0) (.int .i64 x1) (.slice va vn vc) (.slice a1 m1 k1) (.slice a2 m2 k2) (.slice a3 m3 k3) (.bool is) := (Sev.new w _ _ _ _ _ _ _ _ _ rfl).below hb1
      have B1 : Below w.heap.size w w1 := (by repeat' first | with_reducible exact Below.refl _ _ | with_reducible assumption | with_reducible refine below_drewN ?_ _ | with_reducible refine balloc ?_ _ | with_reducible refine Below.drew ?_ | with_reducible refine Below.setCell ?_ (by first | (simp; done) | (simp; omega) | omega) _ | with_reducible refine bstep ?_ (by assumption))
      obtain ⟨_, t0, t1, t2, t3, t4, t5, t6⟩ := T1
      clear hb1
      go_wp2_with fail
      refine (SR.out _).mono ?_
      rintro e w2 ⟨rfl, hb2⟩
      have B2 := bstep B1 hb2
      clear t0 t1 t2 t3 t4 t5 t6
      go_wp2_with fail
      go_ret
      first
        | exact ⟨_, rfl, .inl rfl, B2⟩
        | exact ⟨_, rfl, .inr ⟨hv0, hv1⟩, B2⟩

set_option maxHeartbeats 4000000 in
theorem eqEntry_self (x : En) (av bv : Option Addr) (nv nv' cv dv : Nat) (r s : RowV) (w : World) (hx : nv ≤ 1048576) (q1 : r.m1 ≤ 1048576) (q2 : r.m2 ≤ 1048576) (q3 : r.m3 ≤ 1048576)
    (ra : Row w av nv x.it.vec) (rb : Row w bv nv' x.it.vec) (hr : r.is w x.r1 x.r2 x.r3) (hs : s.is w x.r1 x.r2 x.r3) :
    Calls Try.prog 23 #[enV x av nv cv r, enV x bv nv' dv s] w fun e w' => e = .returned (.bool true) ∧ Below w.heap.size w w' := by
  have EI := hide (fun w1 (hb : Below w.heap.size w w1) => eqItem_self x.it av bv nv nv' cv dv w1 (ra.below hb) (rb.below hb) hx)
  have ER := hide (fun w1 (hb : Below w.heap.size w w1) => eqRowV_same r s x.r1 x.r2 x.r3 w1 (hr.below hb) (hs.below hb) q1 q2 q3)
  clear ra rb hr hs
  obtain ⟨⟨i, t, xs⟩, L1, L2, L3, is⟩ := x
  obtain ⟨a1, a2, a3, m1, m2, m3, k1, k2, k3⟩ := r
  obtain ⟨b1, b2, b3, n1, n2, n3, j1, j2, j3⟩ := s
  unfold RowV.v at ER
  unfold enV
  simp only at EI ER ⊢
  have hiv : (is != is) = false := by simp
  obtain ⟨W0, hW0⟩ : ∃ W, ((w.alloc (.cells #[.int .i64 i, .int .i64 t, .slice av nv cv, .slice a1 m1 k1, .slice a2 m2 k2, .slice a3 m3 k3, .bool is] 46)).alloc (.cells #[.int .i64 i, .int .i64 t, .slice bv nv' dv, .slice b1 n1 j1, .slice b2 n2 j2, .slice b3 n3 j3, .bool is] 46)) = W := ⟨_, rfl⟩
  have T0 : Sev W0 w.heap.size (.int .i64 i) (.int .i64 t) (.slice av nv cv) (.slice a1 m1 k1) (.slice a2 m2 k2) (.slice a3 m3 k3) (.bool is) := hW0 ▸ (Sev.new w _ _ _ _ _ _ _ _ _ rfl).below (balloc (Below.refl _ _) _)
  have U0 : Sev W0 (w.heap.size + 1) (.int .i64 i) (.int .i64 t) (.slice bv nv' dv) (.slice b1 n1 j1) (.slice b2 n2 j2) (.slice b3 n3 j3) (.bool is) := hW0 ▸ Sev.new (w.alloc _) _ _ _ _ _ _ _ _ _ (by simp)
  have B0 : Below w.heap.size w W0 := hW0 ▸ (by repeat' first | with_reducible exact Below.refl _ _ | with_reducible assumption | with_reducible refine below_drewN ?_ _ | with_reducible refine balloc ?_ _ | with_reducible refine Below.drew ?_ | with_reducible refine Below.setCell ?_ (by first | (simp; done) | (simp; omega) | omega) _ | with_reducible refine bstep ?_ (by assumption))
  have HW := hide hW0
  clear hW0
  go_enter Try.func23, Try.ntmps23
  go_wp2_with fail
  rw [HW.out]
  refine (EI.out _ B0).mono ?_
  rintro e w1 ⟨rfl, hb1⟩
  have T1 := T0.below hb1
  have U1 := U0.below hb1
  have B1 := bstep B0 hb1
  have HT := hide T1
  have HU := hide U1
  obtain ⟨_, t0, t1, t2, t3, t4, t5, t6⟩ := T1
  obtain ⟨_, u0, u1, u2, u3, u4, u5, u6⟩ := U1
  go_wp2_with fail
  refine (ER.out _ B1).mono ?_
  rintro e w2 ⟨rfl, hb2⟩
  have T2 := HT.out.below hb2
  have U2 := HU.out.below hb2
  have B2 := bstep B1 hb2
  clear t0 t1 t2 t3 t4 t5 t6 u0 u1 u2 u3 u4 u5 u6
  obtain ⟨_, t0, t1, t2, t3, t4, t5, t6⟩ := T2
  obtain ⟨_, u0, u1, u2, u3, u4, u5, u6⟩ := U2
  go_wp2_with fail
  go_ret
  exact ⟨rfl, B2⟩
end Go.Proofs.Ythiklcldbjmgfaa

/- toEntry of the laws. -/
namespace Go.Proofs.Ythiklcldbjmgfaa
open Go.RowKit
set_option maxRecDepth 8000
set_option linter.unusedSimpArgs false
set_option linter.unusedVariables false

/-- A box of seven cells that may be written. -/
structure SevW (w : World) (b : Nat) (v0 v1 v2 v3 v4 v5 v6 : Value) : Prop where
  lt : b < w.heap.size
  c0 : w.cell? ⟨b, 0, none⟩ = some v0
  c1 : w.cell? ⟨b, 1, none⟩ = some v1
  c2 : w.cell? ⟨b, 2, none⟩ = some v2
  c3 : w.cell? ⟨b, 3, none⟩ = some v3
  c4 : w.cell? ⟨b, 4, none⟩ = some v4
  c5 : w.cell? ⟨b, 5, none⟩ = some v5
  c6 : w.cell? ⟨b, 6, none⟩ = some v6
  f0 : w.frozen? ⟨b, 0, none⟩ = false
  f1 : w.frozen? ⟨b, 1, none⟩ = false
  f2 : w.frozen? ⟨b, 2, none⟩ = false
  f3 : w.frozen? ⟨b, 3, none⟩ = false
  f4 : w.frozen? ⟨b, 4, none⟩ = false
  f5 : w.frozen? ⟨b, 5, none⟩ = false
  f6 : w.frozen? ⟨b, 6, none⟩ = false

theorem SevW.below {w w' : World} {b : Nat} {v0 v1 v2 v3 v4 v5 v6 : Value} (h : SevW w b v0 v1 v2 v3 v4 v5 v6) (hb : Below w.heap.size w w') : SevW w' b v0 v1 v2 v3 v4 v5 v6 := by
  have r : ∀ j, w'.cell? ⟨b, j, none⟩ = w.cell? ⟨b, j, none⟩ := fun j => hb.cell (p := ⟨b, j, none⟩) h.lt
  have s : ∀ j, w'.frozen? ⟨b, j, none⟩ = w.frozen? ⟨b, j, none⟩ := fun j => hb.frozen (p := ⟨b, j, none⟩) h.lt
  exact ⟨Nat.lt_of_lt_of_le h.lt hb.size, (r 0).trans h.c0, (r 1).trans h.c1, (r 2).trans h.c2, (r 3).trans h.c3, (r 4).trans h.c4, (r 5).trans h.c5, (r 6).trans h.c6, (s 0).trans h.f0, (s 1).trans h.f1, (s 2).trans h.f2, (s 3).trans h.f3, (s 4).trans h.f4, (s 5).trans h.f5, (s 6).trans h.f6⟩

theorem SevW.new (w : World) (v0 v1 v2 v3 v4 v5 v6 : Value) (T : TypeId) (b : Nat) (hb : w.heap.size = b) : SevW (w.alloc (.cells #[v0, v1, v2, v3, v4, v5, v6] T)) b v0 v1 v2 v3 v4 v5 v6 := hb ▸ ⟨by simp, by simp, by simp, by simp, by simp, by simp, by simp, by simp, by simp [go_sem], by simp [go_sem], by simp [go_sem], by simp [go_sem], by simp [go_sem], by simp [go_sem], by simp [go_sem]⟩

theorem SevW.away {w : World} {b : Nat} {v0 v1 v2 v3 v4 v5 v6 : Value} (h : SevW w b v0 v1 v2 v3 v4 v5 v6) (p : Addr) (v : Value) (hp : b ≠ p.block) : SevW (w.setCell p v) b v0 v1 v2 v3 v4 v5 v6 := by
  have e := Below.heap_setCell w p v b hp
  obtain ⟨h0, h1, h2, h3, h4, h5, h6, h7, f0, f1, f2, f3, f4, f5, f6⟩ := h
  refine ⟨by simpa [World.setCell] using h0, ?_, ?_, ?_, ?_, ?_, ?_, ?_, ?_, ?_, ?_, ?_, ?_, ?_, ?_⟩ <;> simp only [World.cell?, World.frozen?, e] at * <;> assumption

theorem SevW.put0 {w : World} {b : Nat} {v0 v1 v2 v3 v4 v5 v6 : Value} (h : SevW w b v0 v1 v2 v3 v4 v5 v6) (u0 u1 u2 : Value) : SevW (((w.setCell ⟨b, 0, none⟩ u0).setCell ⟨b, 1, none⟩ u1).setCell ⟨b, 2, none⟩ u2) b u0 u1 u2 v3 v4 v5 v6 := by
  obtain ⟨h0, h1, h2, h3, h4, h5, h6, h7, f0, f1, f2, f3, f4, f5, f6⟩ := h
  refine ⟨by simpa [World.setCell] using h0, ?_, ?_, ?_, ?_, ?_, ?_, ?_, ?_, ?_, ?_, ?_, ?_, ?_, ?_⟩ <;> simp [go_sem, *]

theorem SevW.put3 {w : World} {b : Nat} {v0 v1 v2 v3 v4 v5 v6 : Value} (h : SevW w b v0 v1 v2 v3 v4 v5 v6) (u3 u4 u5 : Value) : SevW (((w.setCell ⟨b, 3, none⟩ u3).setCell ⟨b, 4, none⟩ u4).setCell ⟨b, 5, none⟩ u5) b v0 v1 v2 u3 u4 u5 v6 := by
  obtain ⟨h0, h1, h2, h3, h4, h5, h6, h7, f0, f1, f2, f3, f4, f5, f6⟩ := h
  refine ⟨by simpa [World.setCell] using h0, ?_, ?_, ?_, ?_, ?_, ?_, ?_, ?_, ?_, ?_, ?_, ?_, ?_, ?_⟩ <;> simp [go_sem, *]
/-- A list of the call's own, in a world where another box is written. -/
theorem Own.put3 {w : World} {g : Nat} {xs : List Int} (h : Own w g xs) (b i j k : Nat) (u0 u1 u2 : Value) (hp : g ≠ b) : Own (((w.setCell ⟨b, i, none⟩ u0).setCell ⟨b, j, none⟩ u1).setCell ⟨b, k, none⟩ u2) g xs := ((h.away ⟨b, i, none⟩ u0 hp).away ⟨b, j, none⟩ u1 hp).away ⟨b, k, none⟩ u2 hp

theorem Mine3.put3 {B C : Nat} {w : World} {g1 g2 g3 : Nat} {L1 L2 L3 : List Int} (h : Mine3 B C w g1 g2 g3 L1 L2 L3) (b i j k : Nat) (u0 u1 u2 : Value) (hp : b < B) : Mine3 B C (((w.setCell ⟨b, i, none⟩ u0).setCell ⟨b, j, none⟩ u1).setCell ⟨b, k, none⟩ u2) g1 g2 g3 L1 L2 L3 :=
  ⟨h.o1.put3 b i j k u0 u1 u2 (by have := h.lo; omega), h.o2.put3 b i j k u0 u1 u2 (by have := h.lo; omega), h.o3.put3 b i j k u0 u1 u2 (by have := h.lo; omega), h.lo, h.hi, h.apart⟩

theorem Mine3.away {B C : Nat} {w : World} {g1 g2 g3 : Nat} {L1 L2 L3 : List Int} (h : Mine3 B C w g1 g2 g3 L1 L2 L3) (b i : Nat) (u : Value) (hp : b < B) : Mine3 B C (w.setCell ⟨b, i, none⟩ u) g1 g2 g3 L1 L2 L3 :=
  ⟨h.o1.away ⟨b, i, none⟩ u (show g1 ≠ b by have := h.lo; omega), h.o2.away ⟨b, i, none⟩ u (show g2 ≠ b by have := h.lo; omega), h.o3.away ⟨b, i, none⟩ u (show g3 ≠ b by have := h.lo; omega), h.lo, h.hi, h.apart⟩

/-- The answer of toEntry. -/
def ToE (w : World) (x : En) (e : Ending) (w' : World) : Prop :=
  ∃ va vn vc r, e = .returned (enV x va vn vc r) ∧ Row w' va vn x.it.vec ∧ r.is w' x.r1 x.r2 x.r3 ∧ Below w.heap.size w w'

set_option maxHeartbeats 8000000 in
set_option maxRecDepth 4000 in
theorem toEntry_any (x : En) (av : Option Addr) (nv cv : Nat) (r : RowV) (w : World) (hx : nv ≤ 1048576) (q1 : r.m1 ≤ 1048576) (q2 : r.m2 ≤ 1048576) (q3 : r.m3 ≤ 1048576) (ra : Row w av nv x.it.vec) (hr : r.is w x.r1 x.r2 x.r3) :
    Calls Try.prog 16 #[enV x av nv cv r] w fun e w' => ToE w x e w' := by
  have TI := hide (fun w1 (hb : Below w.heap.size w w1) => toItem_any x.it av nv cv w1 (ra.below hb) hx)
  have TR := hide (fun w1 (hb : Below w.heap.size w w1) => toRow_any r x.r1 x.r2 x.r3 w1 (hr.below hb) q1 q2 q3)
  clear ra hr
  obtain ⟨⟨i, t, xs⟩, L1, L2, L3, is⟩ := x
  obtain ⟨a1, a2, a3, m1, m2, m3, k1, k2, k3⟩ := r
  unfold RowV.v at TR
  unfold enV
  simp only at TI TR ⊢
  go_enter Try.func16, Try.ntmps16
  go_wp2_with fail
  refine (TI.out _ (by repeat' first | with_reducible exact Below.refl _ _ | with_reducible assumption | with_reducible refine below_drewN ?_ _ | with_reducible refine balloc ?_ _ | with_reducible refine Below.drew ?_ | with_reducible refine Below.setCell ?_ (by first | (simp; done) | (simp; omega) | omega) _ | with_reducible refine bstep ?_ (by assumption))).mono ?_
  rintro e w1 ⟨g, rfl, x1, o1, hb1⟩
  have TA : SevW w1 w.heap.size (.int .i64 i) (.int .i64 t) (.slice av nv cv) (.slice a1 m1 k1) (.slice a2 m2 k2) (.slice a3 m3 k3) (.bool is) := (SevW.new w _ _ _ _ _ _ _ _ _ rfl).below (bstep (balloc (balloc (Below.refl _ _) _) _) hb1)
  have TB : SevW w1 (w.heap.size + 1) (.int .i64 0) (.int .i64 0) (.slice none 0 0) (.slice none 0 0) (.slice none 0 0) (.slice none 0 0) (.bool false) := (SevW.new (w.alloc _) _ _ _ _ _ _ _ _ _ (by simp)).below (bstep (balloc (Below.refl _ _) _) hb1)
  have TC : SevW w1 (w.heap.size + 2) (.int .i64 0) (.int .i64 0) (.slice none 0 0) (.slice none 0 0) (.slice none 0 0) (.slice none 0 0) (.bool false) := (SevW.new ((w.alloc _).alloc _) _ _ _ _ _ _ _ _ _ (by simp)).below hb1
  have B1 : Below w.heap.size w w1 := (by repeat' first | with_reducible exact Below.refl _ _ | with_reducible assumption | with_reducible refine below_drewN ?_ _ | with_reducible refine balloc ?_ _ | with_reducible refine Below.drew ?_ | with_reducible refine Below.setCell ?_ (by first | (simp; done) | (simp; omega) | omega) _ | with_reducible refine bstep ?_ (by assumption))
  simp at x1
  have O1 := hide o1
  have HA := hide TA
  have HBx := hide TB
  have HC := hide TC
  obtain ⟨_, p0, p1, p2, p3, p4, p5, p6, _⟩ := TA
  obtain ⟨_, r0, r1, r2, r3, r4, r5, r6, s0, s1, s2, s3, s4, s5, s6⟩ := TC
  clear TB hb1 o1
  generalize hn : xs.length = n at *
  go_wp2_with fail
  have B1' : Below w.heap.size w (((w1.setCell ⟨w.heap.size + 2, 0, none⟩ (.int .i64 i)).setCell ⟨w.heap.size + 2, 1, none⟩ (.int .i64 t)).setCell ⟨w.heap.size + 2, 2, none⟩ (.slice (some ⟨g, 0, none⟩) n n)) := ((B1.setCell (by simp) _).setCell (by simp) _).setCell (by simp) _
  refine (TR.out _ B1').mono ?_
  rintro e w2 ⟨g1, g2, g3, rfl, mm, hb2⟩
  have HA := hide ((((HA.out.away ⟨w.heap.size + 2, 0, none⟩ (.int .i64 i) (by simp)).away ⟨w.heap.size + 2, 1, none⟩ (.int .i64 t) (by simp)).away ⟨w.heap.size + 2, 2, none⟩ (.slice (some ⟨g, 0, none⟩) n n) (by simp)).below hb2)
  have HBx := hide ((((HBx.out.away ⟨w.heap.size + 2, 0, none⟩ (.int .i64 i) (by simp)).away ⟨w.heap.size + 2, 1, none⟩ (.int .i64 t) (by simp)).away ⟨w.heap.size + 2, 2, none⟩ (.slice (some ⟨g, 0, none⟩) n n) (by simp)).below hb2)
  have lc := HC.out.lt
  have HC := hide ((HC.out.put0 (.int .i64 i) (.int .i64 t) (.slice (some ⟨g, 0, none⟩) n n)).below hb2)
  have O1 := hide ((O1.out.put3 (w.heap.size + 2) 0 1 2 (.int .i64 i) (.int .i64 t) (.slice (some ⟨g, 0, none⟩) n n) (by omega)).below hb2)
  have B2 := bstep B1' hb2
  have M2 := hide mm
  have sz : w1.heap.size ≤ w2.heap.size := by simpa [World.setCell] using hb2.size
  clear p0 p1 p2 p3 p4 p5 p6 r0 r1 r2 r3 r4 r5 r6 s0 s1 s2 s3 s4 s5 s6 hb2 mm B1'
  generalize hl1 : L1.length = l1
  generalize hl2 : L2.length = l2
  generalize hl3 : L3.length = l3
  unfold rowM RowV.v
  obtain ⟨_, p0, p1, p2, p3, p4, p5, p6, _⟩ := HA.out
  obtain ⟨_, r0, r1, r2, r3, r4, r5, r6, s0, s1, s2, s3, s4, s5, s6⟩ := HC.out
  obtain ⟨_, u0, u1, u2, u3, u4, u5, u6, v0, v1, v2, v3, v4, v5, v6⟩ := HBx.out
  simp only
  go_wp2_with fail
  have hO : Own w2 g xs := O1.out
  have hM := M2.out
  subst hn hl1 hl2 hl3
  refine bodyPost_ret (v := .agg #[.int .i64 i, .int .i64 t, .slice (some ⟨g, 0, none⟩) xs.length xs.length, .slice (some ⟨g1, 0, none⟩) L1.length L1.length, .slice (some ⟨g2, 0, none⟩) L2.length L2.length, .slice (some ⟨g3, 0, none⟩) L3.length L3.length, .bool is]) ?_ rfl ⟨some ⟨g, 0, none⟩, xs.length, xs.length, rowM g1 g2 g3 L1.length L2.length L3.length, rfl, ?_, ?_, ?_⟩
  · simp [results, Try.results16, go_sem, *]
  · refine Own.row ?_
    iterate 11 refine Own.away ?_ _ _ (by simp; omega)
    exact hO
  · refine Mine3.is (B := (((w1.setCell ⟨w.heap.size + 2, 0, none⟩ (.int .i64 i)).setCell ⟨w.heap.size + 2, 1, none⟩ (.int .i64 t)).setCell ⟨w.heap.size + 2, 2, none⟩ (.slice (some ⟨g, 0, none⟩) xs.length xs.length)).heap.size) (C := w2.heap.size) ?_
    iterate 11 refine Mine3.away ?_ _ _ _ (by simp [World.setCell]; omega)
    exact hM
  · iterate 11 refine Below.setCell ?_ (by first | (simp; done) | (simp; omega)) _
    exact B2
end Go.Proofs.Ythiklcldbjmgfaa

/- szEntryS of the laws. -/
namespace Go.Proofs.Ythiklcldbjmgfaa
open Go.RowKit
set_option maxRecDepth 8000
set_option linter.unusedSimpArgs false
set_option linter.unusedVariables false

/-- How long an entry's lists are, at the most. -/
def EnLe (m : Int) (x : En) : Prop := (x.it.vec.length : Int) ≤ m ∧ (x.r1.length : Int) ≤ m ∧ (x.r2.length : Int) ≤ m ∧ (x.r3.length : Int) ≤ m

/-- The cells of an entry that is looked at, and what they say of it. -/
theorem EAt.open {w : World} {b o : Nat} {x : En} (h : EAt w b o x) : ∃ va vn vc, ∃ r : RowV, w.cell? ⟨b, o, none⟩ = some (.int .i64 x.it.id) ∧ w.cell? ⟨b, o + 1, none⟩ = some (.int .i64 x.it.tags) ∧ w.cell? ⟨b, o + 2, none⟩ = some (.slice va vn vc) ∧
    w.cell? ⟨b, o + 3, none⟩ = some (.slice r.a1 r.m1 r.k1) ∧ w.cell? ⟨b, o + 4, none⟩ = some (.slice r.a2 r.m2 r.k2) ∧ w.cell? ⟨b, o + 5, none⟩ = some (.slice r.a3 r.m3 r.k3) ∧ w.cell? ⟨b, o + 6, none⟩ = some (.bool x.is) ∧ Row w va vn x.it.vec ∧ r.is w x.r1 x.r2 x.r3 := by
  obtain ⟨va, vn, vc, h2, hv⟩ := h.vec
  obtain ⟨r, h3, h4, h5, hr⟩ := h.row
  exact ⟨va, vn, vc, r, h.c0, h.c1, h2, h3, h4, h5, h.c6, hv, hr⟩

set_option maxHeartbeats 2000000 in
theorem szEntryLe_any (x : En) (va : Option Addr) (vn vc : Nat) (r : RowV) (left : Int) (w : World) (h0 : 0 ≤ left) (h1 : left ≤ 1048576) (l0 : vn ≤ 9223372036854775807) (l1 : r.m1 ≤ 9223372036854775807) (l2 : r.m2 ≤ 9223372036854775807) (l3 : r.m3 ≤ 9223372036854775807) :
    Calls Try.prog 12 #[enV x va vn vc r, .int .i64 left] w fun e w' => ∃ v, e = .returned (.int .i64 v) ∧ (v = -1 ∨ (0 ≤ v ∧ v + vn + r.m1 + r.m2 + r.m3 ≤ left)) ∧ Below w.heap.size w w' := by
  obtain ⟨⟨x0, x1, xs⟩, L1, L2, L3, is⟩ := x
  obtain ⟨a1, a2, a3, m1, m2, m3, k1, k2, k3⟩ := r
  unfold enV
  simp only at l1 l2 l3 ⊢
  have SI := hide (fun w1 => szItem_any x0 x1 va vn vc left w1 h0 h1 l0)
  by_cases y1 : left - (vn : Int) < 0
  · rw [show szN left vn = -1 from if_pos y1] at SI
    clear y1
    go_enter Try.func12, Try.ntmps12
    go_wp2_with fail
    refine (SI.out _).mono ?_
    rintro e w1 ⟨rfl, hb1⟩
    go_wp2_with fail
    go_ret
    exact ⟨_, rfl, .inl rfl, (by repeat' first | with_reducible exact Below.refl _ _ | with_reducible assumption | with_reducible refine below_drewN ?_ _ | with_reducible refine balloc ?_ _ | with_reducible refine Below.drew ?_ | with_reducible refine Below.setCell ?_ (by first | (simp; done) | (simp; omega) | omega) _ | with_reducible refine bstep ?_ (by assumption))⟩
  · rw [show szN left vn = left - vn from if_neg y1] at SI
    have SR := hide (fun w1 => szRow_any ⟨a1, a2, a3, m1, m2, m3, k1, k2, k3⟩ (left - vn) w1 (by omega) (by omega) l1 l2 l3)
    obtain ⟨v, hv⟩ : ∃ v, szRowV (left - vn) ⟨a1, a2, a3, m1, m2, m3, k1, k2, k3⟩ = v := ⟨_, rfl⟩
    rw [hv] at SR
    have hD : v = -1 ∨ (0 ≤ v ∧ v + vn + m1 + m2 + m3 ≤ left) := by
      unfold szRowV at hv
      simp only at hv
      split at hv
      · exact .inl hv.symm
      · refine .inr ⟨by omega, by omega⟩
    unfold RowV.v at SR
    simp only at SR
    clear hv
    rcases hD with rfl | ⟨hv0, hv1⟩
    all_goals
      go_enter Try.func12, Try.ntmps12
      go_wp2_with fail
      refine (SI.out _).mono ?_
      rintro e w1 ⟨rfl, hb1⟩
      have T1 : Sev w1 w.heap.size (.int .i64 x0) (.int .i64 x1) (.slice va vn vc) (.slice a1 m1 k1) (.slice a2 m2 k2) (.slice a3 m3 k3) (.bool is) := (Sev.new w _ _ _ _ _ _ _ _ _ rfl).below hb1
      have B1 : Below w.heap.size w w1 := (by repeat' first | with_reducible exact Below.refl _ _ | with_reducible assumption | with_reducible refine below_drewN ?_ _ | with_reducible refine balloc ?_ _ | with_reducible refine Below.drew ?_ | with_reducible refine Below.setCell ?_ (by first | (simp; done) | (simp; omega) | omega) _ | with_reducible refine bstep ?_ (by assumption))
      obtain ⟨_, t0, t1, t2, t3, t4, t5, t6⟩ := T1
      clear hb1
      go_wp2_with fail
      refine (SR.out _).mono ?_
      rintro e w2 ⟨rfl, hb2⟩
      have B2 := bstep B1 hb2
      clear t0 t1 t2 t3 t4 t5 t6
      go_wp2_with fail
      go_ret
      first
        | exact ⟨_, rfl, .inl rfl, B2⟩
        | exact ⟨_, rfl, .inr ⟨hv0, hv1⟩, B2⟩
        | exact ⟨_, rfl, .inr ⟨by omega, by omega⟩, B2⟩

set_option maxHeartbeats 4000000 in
set_option maxRecDepth 4000 in
theorem szEntryS_any (a : Option Addr) (n cap : Nat) (E : EL) (left : Int) (w : World) (h : ERow w a n E) (h0 : 0 ≤ left) (h1 : left ≤ 1048576) (hn : n ≤ 9223372036854775807) (hE : ∀ i, i < n → EnLe 9223372036854775807 (E i)) :
    Calls Try.prog 5 #[.slice a n cap, .int .i64 left] w fun e w' => ∃ v, e = .returned (.int .i64 v) ∧ (v = -1 ∨ (0 ≤ v ∧ (n : Int) ≤ left ∧ ∀ i, i < n → EnLe left (E i))) ∧ Below w.heap.size w w' := by
  have SE := hide (fun x va vn vc r z w1 => szEntryLe_any x va vn vc r z w1)
  unfold enV at SE
  by_cases hl : left - (n : Int) < 0
  · go_enter Try.func5, Try.ntmps5
    go_wp2_with fail
    go_ret
    exact ⟨_, rfl, .inl rfl, Below.refl _ _⟩
  · have HH := hide h
    have HE := hide hE
    clear h hE
    go_enter Try.func5, Try.ntmps5
    go_wp2_with fail
    go_loopw [1, 5] (fun l i wr => ∃ (k : Nat) (z : Int), k ≤ n ∧ l = .int .i64 z ∧ i = .int .i64 k ∧ 0 ≤ z ∧ z ≤ left ∧ Hid ((∀ j, j < k → EnLe left (E j)) ∧ Below w.heap.size w wr)) (fun _ i _ => n - (intOf i).toNat)
    case atStart => exact ⟨0, _, Nat.zero_le _, rfl, rfl, by omega, by omega, hide ⟨fun j hj => absurd hj (by omega), by first | exact Below.refl _ _ | exact (by repeat' first | with_reducible exact Below.refl _ _ | with_reducible assumption | with_reducible refine below_drewN ?_ _ | with_reducible refine balloc ?_ _ | with_reducible refine Below.drew ?_ | with_reducible refine Below.setCell ?_ (by first | (simp; done) | (simp; omega) | omega) _ | with_reducible refine bstep ?_ (by assumption))⟩⟩
    case round =>
      obtain ⟨k, z, hk, rfl, rfl, hz0, hz1, HI⟩ := hrel
      by_cases hlt : k < n
      · have hlt' : (k : Int) < (n : Int) := by omega
        rcases HH.out.lies with q | ⟨b, off, rfl, hb, hc⟩
        · omega
        · have hcr := (hc k hlt).below hb HI.out.2
          obtain ⟨va, vn, vc, r, e0, e1, e2, e3, e4, e5, e6, rv, rr⟩ := hcr.open
          have lb : b < wr.heap.size := Nat.lt_of_lt_of_le hb HI.out.2.size
          have le := HE.out k hlt
          unfold EnLe at le
          rw [rv.len, rr.r1.len, rr.r2.len, rr.r3.len] at le
          have R := hide (SE.out (E k) va vn vc r z wr hz0 (by omega) (by omega) (by omega) (by omega) (by omega))
          have LN : Hid ((E k).it.vec.length = vn ∧ (E k).r1.length = r.m1 ∧ (E k).r2.length = r.m2 ∧ (E k).r3.length = r.m3) := hide ⟨rv.len, rr.r1.len, rr.r2.len, rr.r3.len⟩
          clear hc hcr rv rr le
          go_wp2_with fail
          refine R.out.mono ?_
          rintro e w1 ⟨v, rfl, hv, hb1⟩
          have B1 := hide (bstep HI.out.2 hb1)
          clear hb1 R
          rcases hv with rfl | ⟨hv0, hv1⟩
          · go_wp2_with fail
            go_ret
            exact ⟨_, rfl, .inl rfl, B1.out⟩
          · have hnv : ¬ v < 0 := by omega
            go_wp2_with fail
            go_roundw
            case rel =>
              refine ⟨k + 1, v, by omega, rfl, by go_num, hv0, ?_, hide ⟨fun j hj => ?_, B1.out⟩⟩
              · omega
              · by_cases ej : j = k
                · subst ej
                  obtain ⟨l0, l1, l2, l3⟩ := LN.out
                  unfold EnLe
                  omega
                · exact HI.out.1 j (by omega)
            case measure => simp [intOf]; omega
      · obtain rfl : k = n := by omega
        go_wp2_with fail
        go_ret
        exact ⟨z, rfl, .inr ⟨hz0, by omega, HI.out.1⟩, HI.out.2⟩
end Go.Proofs.Ythiklcldbjmgfaa

/- toEntryS of the laws. -/
namespace Go.Proofs.Ythiklcldbjmgfaa
open Go.RowKit
set_option maxRecDepth 8000
set_option linter.unusedSimpArgs false
set_option linter.unusedVariables false

/-- The answer of toEntry, and where its lists lie. -/
def ToEM (w : World) (x : En) (e : Ending) (w' : World) : Prop :=
  ∃ g g1 g2 g3, e = .returned (enV x (some ⟨g, 0, none⟩) x.it.vec.length x.it.vec.length (rowM g1 g2 g3 x.r1.length x.r2.length x.r3.length)) ∧ w.heap.size ≤ g ∧ w.heap.size ≤ g1 ∧ w.heap.size ≤ g2 ∧ w.heap.size ≤ g3 ∧
    Own w' g x.it.vec ∧ Own w' g1 x.r1 ∧ Own w' g2 x.r2 ∧ Own w' g3 x.r3 ∧ Below w.heap.size w w'

set_option maxHeartbeats 8000000 in
set_option maxRecDepth 4000 in
theorem toEntryM_any (x : En) (av : Option Addr) (nv cv : Nat) (r : RowV) (w : World) (hx : nv ≤ 1048576) (q1 : r.m1 ≤ 1048576) (q2 : r.m2 ≤ 1048576) (q3 : r.m3 ≤ 1048576) (ra : Row w av nv x.it.vec) (hr : r.is w x.r1 x.r2 x.r3) :
    Calls Try.prog 16 #[enV x av nv cv r] w fun e w' => ToEM w x e w' := by
  have TI := hide (fun w1 (hb : Below w.heap.size w w1) => toItem_any x.it av nv cv w1 (ra.below hb) hx)
  have TR := hide (fun w1 (hb : Below w.heap.size w w1) => toRow_any r x.r1 x.r2 x.r3 w1 (hr.below hb) q1 q2 q3)
  clear ra hr
  obtain ⟨⟨i, t, xs⟩, L1, L2, L3, is⟩ := x
  obtain ⟨a1, a2, a3, m1, m2, m3, k1, k2, k3⟩ := r
  unfold RowV.v at TR
  unfold enV
  simp only at TI TR ⊢
  go_enter Try.func16, Try.ntmps16
  go_wp2_with fail
  refine (TI.out _ (by repeat' first | with_reducible exact Below.refl _ _ | with_reducible assumption | with_reducible refine below_drewN ?_ _ | with_reducible refine balloc ?_ _ | with_reducible refine Below.drew ?_ | with_reducible refine Below.setCell ?_ (by first | (simp; done) | (simp; omega) | omega) _ | with_reducible refine bstep ?_ (by assumption))).mono ?_
  rintro e w1 ⟨g, rfl, x1, o1, hb1⟩
  have TA : SevW w1 w.heap.size (.int .i64 i) (.int .i64 t) (.slice av nv cv) (.slice a1 m1 k1) (.slice a2 m2 k2) (.slice a3 m3 k3) (.bool is) := (SevW.new w _ _ _ _ _ _ _ _ _ rfl).below (bstep (balloc (balloc (Below.refl _ _) _) _) hb1)
  have TB : SevW w1 (w.heap.size + 1) (.int .i64 0) (.int .i64 0) (.slice none 0 0) (.slice none 0 0) (.slice none 0 0) (.slice none 0 0) (.bool false) := (SevW.new (w.alloc _) _ _ _ _ _ _ _ _ _ (by simp)).below (bstep (balloc (Below.refl _ _) _) hb1)
  have TC : SevW w1 (w.heap.size + 2) (.int .i64 0) (.int .i64 0) (.slice none 0 0) (.slice none 0 0) (.slice none 0 0) (.slice none 0 0) (.bool false) := (SevW.new ((w.alloc _).alloc _) _ _ _ _ _ _ _ _ _ (by simp)).below hb1
  have B1 : Below w.heap.size w w1 := (by repeat' first | with_reducible exact Below.refl _ _ | with_reducible assumption | with_reducible refine below_drewN ?_ _ | with_reducible refine balloc ?_ _ | with_reducible refine Below.drew ?_ | with_reducible refine Below.setCell ?_ (by first | (simp; done) | (simp; omega) | omega) _ | with_reducible refine bstep ?_ (by assumption))
  simp at x1
  have O1 := hide o1
  have HA := hide TA
  have HBx := hide TB
  have HC := hide TC
  obtain ⟨_, p0, p1, p2, p3, p4, p5, p6, _⟩ := TA
  obtain ⟨_, r0, r1, r2, r3, r4, r5, r6, s0, s1, s2, s3, s4, s5, s6⟩ := TC
  clear TB hb1 o1
  generalize hn : xs.length = n at *
  go_wp2_with fail
  have B1' : Below w.heap.size w (((w1.setCell ⟨w.heap.size + 2, 0, none⟩ (.int .i64 i)).setCell ⟨w.heap.size + 2, 1, none⟩ (.int .i64 t)).setCell ⟨w.heap.size + 2, 2, none⟩ (.slice (some ⟨g, 0, none⟩) n n)) := ((B1.setCell (by simp) _).setCell (by simp) _).setCell (by simp) _
  refine (TR.out _ B1').mono ?_
  rintro e w2 ⟨g1, g2, g3, rfl, mm, hb2⟩
  have HA := hide ((((HA.out.away ⟨w.heap.size + 2, 0, none⟩ (.int .i64 i) (by simp)).away ⟨w.heap.size + 2, 1, none⟩ (.int .i64 t) (by simp)).away ⟨w.heap.size + 2, 2, none⟩ (.slice (some ⟨g, 0, none⟩) n n) (by simp)).below hb2)
  have HBx := hide ((((HBx.out.away ⟨w.heap.size + 2, 0, none⟩ (.int .i64 i) (by simp)).away ⟨w.heap.size + 2, 1, none⟩ (.int .i64 t) (by simp)).away ⟨w.heap.size + 2, 2, none⟩ (.slice (some ⟨g, 0, none⟩) n n) (by simp)).below hb2)
  have lc := HC.out.lt
  have HC := hide ((HC.out.put0 (.int .i64 i) (.int .i64 t) (.slice (some ⟨g, 0, none⟩) n n)).below hb2)
  have O1 := hide ((O1.out.put3 (w.heap.size + 2) 0 1 2 (.int .i64 i) (.int .i64 t) (.slice (some ⟨g, 0, none⟩) n n) (by omega)).below hb2)
  have B2 := bstep B1' hb2
  have M2 := hide mm
  have sz : w1.heap.size ≤ w2.heap.size := by simpa [World.setCell] using hb2.size
  clear p0 p1 p2 p3 p4 p5 p6 r0 r1 r2 r3 r4 r5 r6 s0 s1 s2 s3 s4 s5 s6 hb2 mm B1'
  generalize hl1 : L1.length = l1
  generalize hl2 : L2.length = l2
  generalize hl3 : L3.length = l3
  unfold rowM RowV.v
  obtain ⟨_, p0, p1, p2, p3, p4, p5, p6, _⟩ := HA.out
  obtain ⟨_, r0, r1, r2, r3, r4, r5, r6, s0, s1, s2, s3, s4, s5, s6⟩ := HC.out
  obtain ⟨_, u0, u1, u2, u3, u4, u5, u6, v0, v1, v2, v3, v4, v5, v6⟩ := HBx.out
  simp only
  go_wp2_with fail
  have hO : Own w2 g xs := O1.out
  have hM := M2.out
  have hlo : w1.heap.size ≤ g1 ∧ w1.heap.size ≤ g2 ∧ w1.heap.size ≤ g3 := by have := hM.lo; simp [World.setCell] at this; exact this
  have hlo1 := hlo.1
  have hlo2 := hlo.2.1
  have hlo3 := hlo.2.2
  subst hn hl1 hl2 hl3
  refine bodyPost_ret (v := .agg #[.int .i64 i, .int .i64 t, .slice (some ⟨g, 0, none⟩) xs.length xs.length, .slice (some ⟨g1, 0, none⟩) L1.length L1.length, .slice (some ⟨g2, 0, none⟩) L2.length L2.length, .slice (some ⟨g3, 0, none⟩) L3.length L3.length, .bool is]) ?_ rfl ⟨g, g1, g2, g3, rfl, by omega, by omega, by omega, by omega, ?_, ?_, ?_, ?_, ?_⟩
  · simp [results, Try.results16, go_sem, *]
  · iterate 11 refine Own.away ?_ _ _ (by simp; omega)
    exact hO
  · iterate 11 refine Own.away ?_ _ _ (by simp; omega)
    exact hM.o1
  · iterate 11 refine Own.away ?_ _ _ (by simp; omega)
    exact hM.o2
  · iterate 11 refine Own.away ?_ _ _ (by simp; omega)
    exact hM.o3
  · iterate 11 refine Below.setCell ?_ (by first | (simp; done) | (simp; omega)) _
    exact B2

theorem infoEntry : (Try.prog.info? 46).map (fun i => (i.zero, i.size, i.bytes)) = some (some (.agg #[.int .i64 0, .int .i64 0, .slice none 0 0, .slice none 0 0, .slice none 0 0, .slice none 0 0, .bool false]), 7, 120) := by kernel_rfl

/-- An entry's cells as they lie from o on. -/
structure EnF (F : Nat → Value) (o : Nat) (x : En) (gv g1 g2 g3 : Nat) : Prop where
  c0 : F o = .int .i64 x.it.id
  c1 : F (o + 1) = .int .i64 x.it.tags
  c2 : F (o + 2) = .slice (some ⟨gv, 0, none⟩) x.it.vec.length x.it.vec.length
  c3 : F (o + 3) = .slice (some ⟨g1, 0, none⟩) x.r1.length x.r1.length
  c4 : F (o + 4) = .slice (some ⟨g2, 0, none⟩) x.r2.length x.r2.length
  c5 : F (o + 5) = .slice (some ⟨g3, 0, none⟩) x.r3.length x.r3.length
  c6 : F (o + 6) = .bool x.is
/-- The lists of an entry, each in a block of its own behind B. -/
structure EnO (w : World) (B : Nat) (x : En) (gv g1 g2 g3 : Nat) : Prop where
  lv : B < gv
  l1 : B < g1
  l2 : B < g2
  l3 : B < g3
  ov : Own w gv x.it.vec
  o1 : Own w g1 x.r1
  o2 : Own w g2 x.r2
  o3 : Own w g3 x.r3

theorem EnO.below {w w' : World} {B : Nat} {x : En} {gv g1 g2 g3 : Nat} (h : EnO w B x gv g1 g2 g3) (hb : Below w.heap.size w w') : EnO w' B x gv g1 g2 g3 := ⟨h.lv, h.l1, h.l2, h.l3, Own.below h.ov hb, Own.below h.o1 hb, Own.below h.o2 hb, Own.below h.o3 hb⟩

theorem EnO.away {w : World} {B : Nat} {x : En} {gv g1 g2 g3 : Nat} (h : EnO w B x gv g1 g2 g3) (j : Nat) (v : Value) : EnO (w.setCell ⟨B, j, none⟩ v) B x gv g1 g2 g3 :=
  ⟨h.lv, h.l1, h.l2, h.l3, h.ov.away ⟨B, j, none⟩ v (show gv ≠ B by have := h.lv; omega), h.o1.away ⟨B, j, none⟩ v (show g1 ≠ B by have := h.l1; omega), h.o2.away ⟨B, j, none⟩ v (show g2 ≠ B by have := h.l2; omega), h.o3.away ⟨B, j, none⟩ v (show g3 ≠ B by have := h.l3; omega)⟩
/-- Entries that were copied, k of n of them. -/
structure InE (w0 w : World) (n k : Nat) (E : EL) (F : Nat → Value) : Prop where
  row : w.rowIs w0.heap.size 46 (n * 7) F
  pre : ∀ i, i < k → ∃ gv g1 g2 g3, EnF F (i * 7) (E i) gv g1 g2 g3 ∧ EnO w w0.heap.size (E i) gv g1 g2 g3
  bel : Below w0.heap.size w0 w

theorem InE.below {w0 w w' : World} {n k : Nat} {E : EL} {F : Nat → Value} (h : InE w0 w n k E F) (hb : Below w.heap.size w w') : InE w0 w' n k E F :=
  ⟨h.row.of_block (hb.block _ (World.rowIs.lt h.row)), fun i hi => by obtain ⟨gv, g1, g2, g3, hf, ho⟩ := h.pre i hi; exact ⟨gv, g1, g2, g3, hf, ho.below hb⟩, bstep h.bel hb⟩

theorem InE.erow {w0 w : World} {n : Nat} {E : EL} {F : Nat → Value} (h : InE w0 w n n E F) : ERow w (some ⟨w0.heap.size, 0, none⟩) n E := by
  refine ⟨.inr ⟨w0.heap.size, 0, rfl, World.rowIs.lt h.row, fun i hi => ?_⟩⟩
  obtain ⟨gv, g1, g2, g3, hf, ho⟩ := h.pre i hi
  rw [Nat.zero_add]
  exact ⟨by rw [World.rowIs.cell h.row (i := i * 7) (by omega), hf.c0], by rw [World.rowIs.cell h.row (i := i * 7 + 1) (by omega), hf.c1], ⟨_, _, _, by rw [World.rowIs.cell h.row (i := i * 7 + 2) (by omega), hf.c2], ho.ov.row⟩,
    ⟨rowM g1 g2 g3 (E i).r1.length (E i).r2.length (E i).r3.length, by rw [World.rowIs.cell h.row (i := i * 7 + 3) (by omega), hf.c3]; rfl, by rw [World.rowIs.cell h.row (i := i * 7 + 4) (by omega), hf.c4]; rfl, by rw [World.rowIs.cell h.row (i := i * 7 + 5) (by omega), hf.c5]; rfl, ho.o1.row, ho.o2.row, ho.o3.row⟩,
    by rw [World.rowIs.cell h.row (i := i * 7 + 6) (by omega), hf.c6]⟩

theorem InE.put {w0 w : World} {n k : Nat} {E : EL} {F : Nat → Value} (h : InE w0 w n k E F) (gv g1 g2 g3 : Nat) (ho : EnO w w0.heap.size (E k) gv g1 g2 g3) :
    ∃ G, InE w0 (((((((w.setCell ⟨w0.heap.size, k * 7, none⟩ (.int .i64 (E k).it.id)).setCell ⟨w0.heap.size, k * 7 + 1, none⟩ (.int .i64 (E k).it.tags)).setCell ⟨w0.heap.size, k * 7 + 2, none⟩ (.slice (some ⟨gv, 0, none⟩) (E k).it.vec.length (E k).it.vec.length)).setCell ⟨w0.heap.size, k * 7 + 3, none⟩ (.slice (some ⟨g1, 0, none⟩) (E k).r1.length (E k).r1.length)).setCell ⟨w0.heap.size, k * 7 + 4, none⟩ (.slice (some ⟨g2, 0, none⟩) (E k).r2.length (E k).r2.length)).setCell ⟨w0.heap.size, k * 7 + 5, none⟩ (.slice (some ⟨g3, 0, none⟩) (E k).r3.length (E k).r3.length)).setCell ⟨w0.heap.size, k * 7 + 6, none⟩ (.bool (E k).is)) n (k + 1) E G := by
  refine ⟨_, World.rowIs.set (World.rowIs.set (World.rowIs.set (World.rowIs.set (World.rowIs.set (World.rowIs.set (World.rowIs.set h.row (k * 7) _) (k * 7 + 1) _) (k * 7 + 2) _) (k * 7 + 3) _) (k * 7 + 4) _) (k * 7 + 5) _) (k * 7 + 6) _, fun i hi => ?_,
    ((((((h.bel.setCell (Nat.le_refl _) _).setCell (Nat.le_refl _) _).setCell (Nat.le_refl _) _).setCell (Nat.le_refl _) _).setCell (Nat.le_refl _) _).setCell (Nat.le_refl _) _).setCell (Nat.le_refl _) _⟩
  rcases Nat.lt_succ_iff_lt_or_eq.1 hi with h' | rfl
  · obtain ⟨av, a1, a2, a3, hf, hq⟩ := h.pre i h'
    refine ⟨av, a1, a2, a3, ⟨?_, ?_, ?_, ?_, ?_, ?_, ?_⟩, (((((((hq.away _ _).away _ _).away _ _).away _ _).away _ _).away _ _).away _ _)⟩
    all_goals (repeat rw [if_neg (by omega)])
    · exact hf.c0
    · exact hf.c1
    · exact hf.c2
    · exact hf.c3
    · exact hf.c4
    · exact hf.c5
    · exact hf.c6
  · refine ⟨gv, g1, g2, g3, ⟨?_, ?_, ?_, ?_, ?_, ?_, ?_⟩, (((((((ho.away _ _).away _ _).away _ _).away _ _).away _ _).away _ _).away _ _)⟩
    all_goals (repeat rw [if_neg (by omega)])
    all_goals rw [if_pos rfl]

set_option maxHeartbeats 8000000 in
set_option maxRecDepth 4000 in
theorem toEntryS_any (a : Option Addr) (n cap : Nat) (E : EL) (w : World) (h : ERow w a n E) (hn : n ≤ 1048576) (hE : ∀ i, i < n → EnLe 1048576 (E i)) :
    Calls Try.prog 8 #[.slice a n cap] w fun e w' => ∃ g, e = .returned (.slice (some ⟨g, 0, none⟩) n n) ∧ w.heap.size ≤ g ∧ ERow w' (some ⟨g, 0, none⟩) n E ∧ Below w.heap.size w w' := by
  have hmk := run_make_cells (P := Try.prog) 29 46 (.agg #[.int .i64 0, .int .i64 0, .slice none 0 0, .slice none 0 0, .slice none 0 0, .slice none 0 0, .bool false]) #[.int .i64 0, .int .i64 0, .slice none 0 0, .slice none 0 0, .slice none 0 0, .slice none 0 0, .bool false] 120 rfl Try.underlying29 infoEntry .i64 .i64 n (by omega) (by omega)
  obtain ⟨F0, hF0⟩ := rowIs_ex w (madeCells #[.int .i64 0, .int .i64 0, .slice none 0 0, .slice none 0 0, .slice none 0 0, .slice none 0 0, .bool false] (n * 7)) 46 (n * 7) (size_madeCells _ _)
  have I0 : Hid (InE w (w.alloc (.cells (madeCells #[.int .i64 0, .int .i64 0, .slice none 0 0, .slice none 0 0, .slice none 0 0, .slice none 0 0, .bool false] (n * 7)) 46)) n 0 E F0) := hide ⟨hF0, fun i hi => absurd hi (by omega), balloc (Below.refl _ _) _⟩
  have TE := hide (fun x va vn vc r w1 (h0 : vn ≤ 1048576) (h1 : r.m1 ≤ 1048576) (h2 : r.m2 ≤ 1048576) (h3 : r.m3 ≤ 1048576) hv hr => toEntryM_any x va vn vc r w1 h0 h1 h2 h3 hv hr)
  unfold ToEM enV rowM at TE
  have HH := hide h
  have HE := hide hE
  clear hF0 h hE
  go_enter Try.func8, Try.ntmps8
  go_wp2_with fail
  go_loopw [4] (fun i wr => ∃ (k : Nat) (F : Nat → Value), k ≤ n ∧ i = .int .i64 k ∧ Hid (InE w wr n k E F)) (fun i _ => n - (intOf i).toNat)
  case atStart => exact ⟨0, F0, Nat.zero_le _, rfl, I0⟩
  case round =>
    clear I0
    obtain ⟨k, F, hk, rfl, HI⟩ := hrel
    by_cases hlt : k < n
    · have hlt' : (k : Int) < (n : Int) := by omega
      rcases HH.out.lies with h0 | ⟨b, off, rfl, hb, hc⟩
      · omega
      · have hcr := (hc k hlt).below hb HI.out.bel
        obtain ⟨va, vn, vc, r, e0, e1, e2, e3, e4, e5, e6, rv, rr⟩ := hcr.open
        have le := HE.out k hlt
        unfold EnLe at le
        rw [rv.len, rr.r1.len, rr.r2.len, rr.r3.len] at le
        have R := hide (TE.out (E k) va vn vc r wr (by omega) (by omega) (by omega) (by omega) rv rr)
        have lb : b < wr.heap.size := Nat.lt_of_lt_of_le hb HI.out.bel.size
        have lw := World.rowIs.lt HI.out.row
        clear hc hcr rv rr le
        go_wp2_with fail
        refine R.out.mono ?_
        rintro e w1 ⟨gv, g1, g2, g3, rfl, lv, l1, l2, l3, ov, o1, o2, o3, hb1⟩
        have HI1 := hide (HI.out.below hb1)
        have HO : Hid (EnO w1 w.heap.size (E k) gv g1 g2 g3) := hide ⟨by omega, by omega, by omega, by omega, ov, o1, o2, o3⟩
        have lw1 := World.rowIs.lt HI1.out.row
        have y0 := World.rowIs.cell HI1.out.row (i := k * 7) (by omega)
        have y1 := World.rowIs.cell HI1.out.row (i := k * 7 + 1) (by omega)
        have y2 := World.rowIs.cell HI1.out.row (i := k * 7 + 2) (by omega)
        have y3 := World.rowIs.cell HI1.out.row (i := k * 7 + 3) (by omega)
        have y4 := World.rowIs.cell HI1.out.row (i := k * 7 + 4) (by omega)
        have y5 := World.rowIs.cell HI1.out.row (i := k * 7 + 5) (by omega)
        have y6 := World.rowIs.cell HI1.out.row (i := k * 7 + 6) (by omega)
        have z0 := World.rowIs.frozen HI1.out.row (k * 7)
        have z1 := World.rowIs.frozen HI1.out.row (k * 7 + 1)
        have z2 := World.rowIs.frozen HI1.out.row (k * 7 + 2)
        have z3 := World.rowIs.frozen HI1.out.row (k * 7 + 3)
        have z4 := World.rowIs.frozen HI1.out.row (k * 7 + 4)
        have z5 := World.rowIs.frozen HI1.out.row (k * 7 + 5)
        have z6 := World.rowIs.frozen HI1.out.row (k * 7 + 6)
        clear ov o1 o2 o3 hb1 e0 e1 e2 e3 e4 e5 e6 R
        go_wp2_with fail
        go_roundw
        case rel =>
          obtain ⟨G, hG⟩ := HI1.out.put gv g1 g2 g3 HO.out
          exact ⟨k + 1, G, by omega, by go_num, hide hG⟩
        case measure => simp [intOf]; omega
    · obtain rfl : k = n := by omega
      go_wp2_with fail
      go_ret
      exact ⟨w.heap.size, rfl, Nat.le_refl _, HI.out.erow, HI.out.bel⟩
end Go.Proofs.Ythiklcldbjmgfaa

/- eqEntryS of the laws, where both are the same entries. -/
namespace Go.Proofs.Ythiklcldbjmgfaa
open Go.RowKit
set_option maxRecDepth 8000
set_option linter.unusedSimpArgs false
set_option linter.unusedVariables false

/-- An entry's seven cells at o. -/
structure EnC (w : World) (b o : Nat) (x : En) (va : Option Addr) (vn vc : Nat) (r : RowV) : Prop where
  lt : b < w.heap.size
  c0 : w.cell? ⟨b, o, none⟩ = some (.int .i64 x.it.id)
  c1 : w.cell? ⟨b, o + 1, none⟩ = some (.int .i64 x.it.tags)
  c2 : w.cell? ⟨b, o + 2, none⟩ = some (.slice va vn vc)
  c3 : w.cell? ⟨b, o + 3, none⟩ = some (.slice r.a1 r.m1 r.k1)
  c4 : w.cell? ⟨b, o + 4, none⟩ = some (.slice r.a2 r.m2 r.k2)
  c5 : w.cell? ⟨b, o + 5, none⟩ = some (.slice r.a3 r.m3 r.k3)
  c6 : w.cell? ⟨b, o + 6, none⟩ = some (.bool x.is)
  rv : Row w va vn x.it.vec
  rr : r.is w x.r1 x.r2 x.r3

theorem EnC.below {w w' : World} {b o : Nat} {x : En} {va : Option Addr} {vn vc : Nat} {r : RowV} (h : EnC w b o x va vn vc r) (hb : Below w.heap.size w w') : EnC w' b o x va vn vc r := by
  have q : ∀ j, w'.cell? ⟨b, j, none⟩ = w.cell? ⟨b, j, none⟩ := fun j => hb.cell (p := ⟨b, j, none⟩) h.lt
  exact ⟨Nat.lt_of_lt_of_le h.lt hb.size, (q _).trans h.c0, (q _).trans h.c1, (q _).trans h.c2, (q _).trans h.c3, (q _).trans h.c4, (q _).trans h.c5, (q _).trans h.c6, h.rv.below hb, h.rr.below hb⟩

theorem EAt.enc {w : World} {b o : Nat} {x : En} (h : EAt w b o x) (lt : b < w.heap.size) : ∃ va vn vc, ∃ r : RowV, EnC w b o x va vn vc r := by
  obtain ⟨va, vn, vc, r, e0, e1, e2, e3, e4, e5, e6, rv, rr⟩ := h.open
  exact ⟨va, vn, vc, r, lt, e0, e1, e2, e3, e4, e5, e6, rv, rr⟩
structure TwoC (w : World) (b o b1 o1 : Nat) (x : En) (va : Option Addr) (vn vc : Nat) (r : RowV) (ua : Option Addr) (un uc : Nat) (s : RowV) : Prop where
  one : EnC w b o x va vn vc r
  two : EnC w b1 o1 x ua un uc s

theorem TwoC.below {w w' : World} {b o b1 o1 : Nat} {x : En} {va : Option Addr} {vn vc : Nat} {r : RowV} {ua : Option Addr} {un uc : Nat} {s : RowV} (h : TwoC w b o b1 o1 x va vn vc r ua un uc s) (hb : Below w.heap.size w w') : TwoC w' b o b1 o1 x va vn vc r ua un uc s := ⟨h.one.below hb, h.two.below hb⟩

set_option maxHeartbeats 4000000 in
set_option maxRecDepth 4000 in
theorem eqEntryS_some (b off n cap b1 off1 cap1 : Nat) (E : EL) (w : World) (hn : n ≤ 1048576) (hE : ∀ i, i < n → EnLe 1048576 (E i)) (hb : b < w.heap.size) (hb1 : b1 < w.heap.size)
    (hc : ∀ i, i < n → EAt w b (off + i * 7) (E i)) (hc1 : ∀ i, i < n → EAt w b1 (off1 + i * 7) (E i)) :
    Calls Try.prog 11 #[.slice (some ⟨b, off, none⟩) n cap, .slice (some ⟨b1, off1, none⟩) n cap1] w fun e w' => e = .returned (.bool true) ∧ Below w.heap.size w w' := by
  have EE := hide (fun x va vn vc r ua un uc s w1 h0 h1 h2 h3 rv ru hr hs => eqEntry_self x va ua vn un vc uc r s w1 h0 h1 h2 h3 rv ru hr hs)
  unfold enV at EE
  have HC := hide hc
  have HC1 := hide hc1
  have HE := hide hE
  clear hc hc1 hE
  go_enter Try.func11, Try.ntmps11
  go_wp2
  go_loopw [5] (fun i wr => ∃ k : Nat, k ≤ n ∧ i = .int .i64 k ∧ Below w.heap.size w wr) (fun i _ => n - (intOf i).toNat)
  case atStart => exact ⟨0, Nat.zero_le _, rfl, (by repeat' first | with_reducible exact Below.refl _ _ | with_reducible assumption | with_reducible refine below_drewN ?_ _ | with_reducible refine balloc ?_ _ | with_reducible refine Below.drew ?_ | with_reducible refine Below.setCell ?_ (by first | (simp; done) | (simp; omega) | omega) _ | with_reducible refine bstep ?_ (by assumption))⟩
  case round =>
    obtain ⟨k, hk, rfl, hbel⟩ := hrel
    have HB := hide hbel
    by_cases hlt : k < n
    · obtain ⟨va, vn, vc, r, t1⟩ := ((HC.out k hlt).below hb hbel).enc (Nat.lt_of_lt_of_le hb hbel.size)
      obtain ⟨ua, un, uc, s, t2⟩ := ((HC1.out k hlt).below hb1 hbel).enc (Nat.lt_of_lt_of_le hb1 hbel.size)
      have le := HE.out k hlt
      unfold EnLe at le
      rw [t1.rv.len, t1.rr.r1.len, t1.rr.r2.len, t1.rr.r3.len] at le
      have T := hide (TwoC.mk t1 t2)
      have R := hide (fun w1 (t : TwoC w1 b (off + k * 7) b1 (off1 + k * 7) (E k) va vn vc r ua un uc s) => EE.out (E k) va vn vc r ua un uc s w1 (by omega) (by omega) (by omega) (by omega) t.one.rv t.two.rv t.one.rr t.two.rr)
      have hlt' : (k : Int) < (n : Int) := by omega
      have T0 : Hid (TwoC wr.drew b (off + k * 7) b1 (off1 + k * 7) (E k) va vn vc r ua un uc s) := hide (T.out.below (Below.drew (Below.refl _ _)))
      clear hbel t1 t2 le
      go_upto_region 6 with fail
      refine wp_region_held_drew (S := fun wx => TwoC wx b (off + k * 7) b1 (off1 + k * 7) (E k) va vn vc r ua un uc s) (by kernel_rfl) (T0.out) (fun hH0 => ?_)
      refine wpAnyH_take (i := 0) (oi := { dst := some 17, op := _, type := _, pos := _, after := _, guard := _ }) (v := ?_) rfl (by kernel_rfl) (by kernel_rfl) (by kernel_rfl) (fun _ _ _ h => h) (Or.inl ⟨by rfl, ?_⟩) (hH0) ?_
      rotate_left
      · (intro wx hSw; obtain ⟨⟨l0, q0, q1, q2, q3, q4, q5, q6, _, _⟩, ⟨l1, p0, p1, p2, p3, p4, p5, p6, _, _⟩⟩ := hSw; go_simp <;> with_reducible rfl)
      simp only [Act.put, List.setIfInBounds_toArray, List.set_cons_zero, List.set_cons_succ]
      refine wpAnyH_take (i := 1) (oi := { dst := some 18, op := _, type := _, pos := _, after := _, guard := _ }) (v := ?_) rfl (by kernel_rfl) (by kernel_rfl) (by kernel_rfl) (fun _ _ _ h => h) (Or.inl ⟨by rfl, ?_⟩) (hH0) ?_
      rotate_left
      · (intro wx hSw; obtain ⟨⟨l0, q0, q1, q2, q3, q4, q5, q6, _, _⟩, ⟨l1, p0, p1, p2, p3, p4, p5, p6, _, _⟩⟩ := hSw; go_simp <;> with_reducible rfl)
      simp only [Act.put, List.setIfInBounds_toArray, List.set_cons_zero, List.set_cons_succ]
      refine wpAnyH_take (i := 2) (oi := { dst := some 19, op := _, type := _, pos := _, after := _, guard := _ }) (v := ?_) rfl (by kernel_rfl) (by kernel_rfl) (by kernel_rfl) (fun _ _ _ h => h) (Or.inl ⟨by rfl, ?_⟩) (hH0) ?_
      rotate_left
      · (intro wx hSw; obtain ⟨⟨l0, q0, q1, q2, q3, q4, q5, q6, _, _⟩, ⟨l1, p0, p1, p2, p3, p4, p5, p6, _, _⟩⟩ := hSw; go_simp <;> with_reducible rfl)
      simp only [Act.put, List.setIfInBounds_toArray, List.set_cons_zero, List.set_cons_succ]
      refine wpAnyH_take (i := 3) (oi := { dst := some 20, op := _, type := _, pos := _, after := _, guard := _ }) (v := ?_) rfl (by kernel_rfl) (by kernel_rfl) (by kernel_rfl) (fun _ _ _ h => h) (Or.inl ⟨by rfl, ?_⟩) (hH0) ?_
      rotate_left
      · (intro wx hSw; obtain ⟨⟨l0, q0, q1, q2, q3, q4, q5, q6, _, _⟩, ⟨l1, p0, p1, p2, p3, p4, p5, p6, _, _⟩⟩ := hSw; go_simp <;> with_reducible rfl)
      simp only [Act.put, List.setIfInBounds_toArray, List.set_cons_zero, List.set_cons_succ]
      refine wpAnyH_take (i := 4) (oi := { dst := some 21, op := _, type := _, pos := _, after := _, guard := _ }) (v := ?_) rfl (by kernel_rfl) (by kernel_rfl) (by kernel_rfl) (fun _ _ _ h => h) (Or.inl ⟨by rfl, ?_⟩) (hH0) ?_
      rotate_left
      · (intro wx hSw; obtain ⟨⟨l0, q0, q1, q2, q3, q4, q5, q6, _, _⟩, ⟨l1, p0, p1, p2, p3, p4, p5, p6, _, _⟩⟩ := hSw; go_simp <;> with_reducible rfl)
      simp only [Act.put, List.setIfInBounds_toArray, List.set_cons_zero, List.set_cons_succ]
      refine wpAnyH_take (i := 5) (oi := { dst := some 22, op := _, type := _, pos := _, after := _, guard := _ }) (v := ?_) rfl (by kernel_rfl) (by kernel_rfl) (by kernel_rfl) (fun _ _ _ h => h) (Or.inl ⟨by rfl, ?_⟩) (hH0) ?_
      rotate_left
      · (intro wx hSw; obtain ⟨⟨l0, q0, q1, q2, q3, q4, q5, q6, _, _⟩, ⟨l1, p0, p1, p2, p3, p4, p5, p6, _, _⟩⟩ := hSw; go_simp <;> with_reducible rfl)
      simp only [Act.put, List.setIfInBounds_toArray, List.set_cons_zero, List.set_cons_succ]
      refine wpAnyH_take (i := 6) (oi := { dst := some 23, op := _, type := _, pos := _, after := _, guard := _ }) (v := ?_) rfl (by kernel_rfl) (by kernel_rfl) (by kernel_rfl) (fun _ _ _ h => h) (Or.inl ⟨by rfl, ?_⟩) (hH0) ?_
      rotate_left
      · (intro wx hSw; obtain ⟨⟨l0, q0, q1, q2, q3, q4, q5, q6, _, _⟩, ⟨l1, p0, p1, p2, p3, p4, p5, p6, _, _⟩⟩ := hSw; go_simp <;> with_reducible rfl)
      simp only [Act.put, List.setIfInBounds_toArray, List.set_cons_zero, List.set_cons_succ]
      refine wpAnyH_take (i := 7) (oi := { dst := some 24, op := _, type := _, pos := _, after := _, guard := _ }) (v := ?_) rfl (by kernel_rfl) (by kernel_rfl) (by kernel_rfl) (fun _ _ _ h => h) (Or.inl ⟨by rfl, ?_⟩) (hH0) ?_
      rotate_left
      · (intro wx hSw; obtain ⟨⟨l0, q0, q1, q2, q3, q4, q5, q6, _, _⟩, ⟨l1, p0, p1, p2, p3, p4, p5, p6, _, _⟩⟩ := hSw; go_simp <;> with_reducible rfl)
      simp only [Act.put, List.setIfInBounds_toArray, List.set_cons_zero, List.set_cons_succ]
      refine wpAnyH_ready (rs := [8]) (by kernel_rfl) (by simp) ?_
      refine AllReadyH.cons (o := { dst := some 25, op := _, type := _, pos := _, after := _, guard := _ }) rfl (fun K hK => ?_) AllReadyH.nil
      go_simp
      refine (R.out _ hH0).mono ?_
      rintro e w_c25_1 ⟨rfl, hb_c25_1⟩
      dsimp only
      refine hK.out _ _ (TwoC.below hH0 hb_c25_1) (fun hH1 => ?_)
      clear hK K
      refine wpAnyH_take (i := 9) (oi := { dst := some 26, op := _, type := _, pos := _, after := _, guard := _ }) (v := ?_) rfl (by kernel_rfl) (by kernel_rfl) (by kernel_rfl) (fun _ _ _ h => h) (Or.inl ⟨by rfl, ?_⟩) (hH1) ?_
      rotate_left
      · (intro wx hSw; obtain ⟨⟨l0, q0, q1, q2, q3, q4, q5, q6, _, _⟩, ⟨l1, p0, p1, p2, p3, p4, p5, p6, _, _⟩⟩ := hSw; go_simp <;> with_reducible rfl)
      simp only [Act.put, List.setIfInBounds_toArray, List.set_cons_zero, List.set_cons_succ]
      refine wpAnyH_done (by kernel_rfl) ?_ _
      -- behind it: go_wp2_with fail, then go_meet (a cut) or go_ret; the condition at the end: hH1
      go_wp2_with fail
      go_roundw
      case rel =>
        have hbel := HB.out
        exact ⟨k + 1, by omega, by go_num, (by repeat' first | with_reducible exact Below.refl _ _ | with_reducible assumption | with_reducible refine below_drewN ?_ _ | with_reducible refine balloc ?_ _ | with_reducible refine Below.drew ?_ | with_reducible refine Below.setCell ?_ (by first | (simp; done) | (simp; omega) | omega) _ | with_reducible refine bstep ?_ (by assumption))⟩
      case measure => simp [intOf]; omega
    · go_wp2
      go_ret
      exact ⟨rfl, HB.out⟩

set_option maxHeartbeats 400000 in
theorem eqEntryS_none (a a1 : Option Addr) (n cap cap1 : Nat) (w : World) (hn : n < 1) :
    Calls Try.prog 11 #[.slice a n cap, .slice a1 n cap1] w fun e w' => e = .returned (.bool true) ∧ Below w.heap.size w w' := by
  go_enter Try.func11, Try.ntmps11
  go_wp2
  refine wp_loop_rounds 1 ?_
  rw [rounds_succ]
  go_wp2
  go_ret
  exact ⟨rfl, (by repeat' first | with_reducible exact Below.refl _ _ | with_reducible assumption | with_reducible refine below_drewN ?_ _ | with_reducible refine balloc ?_ _ | with_reducible refine Below.drew ?_ | with_reducible refine Below.setCell ?_ (by first | (simp; done) | (simp; omega) | omega) _ | with_reducible refine bstep ?_ (by assumption))⟩

/-- Two slices of the same entries. -/
theorem eqEntryS_self (a a1 : Option Addr) (n cap cap1 : Nat) (E : EL) (w : World) (h : ERow w a n E) (h1 : ERow w a1 n E) (hn : n ≤ 1048576) (hE : ∀ i, i < n → EnLe 1048576 (E i)) :
    Calls Try.prog 11 #[.slice a n cap, .slice a1 n cap1] w fun e w' => e = .returned (.bool true) ∧ Below w.heap.size w w' := by
  by_cases h0 : n = 0
  · exact eqEntryS_none a a1 n cap cap1 w (by omega)
  · rcases h.lies with q | ⟨b, off, rfl, lt, hc⟩
    · omega
    · rcases h1.lies with q | ⟨b1, off1, rfl, lt1, hc1⟩
      · omega
      · exact eqEntryS_some b off n cap b1 off1 cap1 E w hn hE lt lt1 hc hc1
end Go.Proofs.Ythiklcldbjmgfaa
