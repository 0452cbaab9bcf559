/- The laws' small functions over entries: eqEntry, markEntry, heldEntry. -/
import Derived.Test.YtkogkgdoebdmgaaEA4
import Derived.Test.YtkogkgdoebdmgaaIC
import Derived.Test.YtkogkgdoebdmgaaIN
namespace Go.Proofs.Ytkogkgdoebdmgaa
open Go.RowKit
set_option linter.unusedSimpArgs false
set_option linter.unusedVariables false

/-- A box of seven cells that is read. -/
structure Sev (w : World) (b : Nat) (v0 v1 v2 v3 v4 v5 v6 : Value) : Prop where
  lt : b < w.heap.size
  c0 : w.cell? ⟨b, 0, none⟩ = some v0
  c1 : w.cell? ⟨b, 1, none⟩ = some v1
  c2 : w.cell? ⟨b, 2, none⟩ = some v2
  c3 : w.cell? ⟨b, 3, none⟩ = some v3
  c4 : w.cell? ⟨b, 4, none⟩ = some v4
  c5 : w.cell? ⟨b, 5, none⟩ = some v5
  c6 : w.cell? ⟨b, 6, none⟩ = some v6
theorem Sev.block {w w' : World} {b : Nat} {v0 v1 v2 v3 v4 v5 v6 : Value} (h : Sev w b v0 v1 v2 v3 v4 v5 v6) (hs : w.heap.size ≤ w'.heap.size) (e : w'.heap[b]? = w.heap[b]?) : Sev w' b v0 v1 v2 v3 v4 v5 v6 := by
  obtain ⟨h0, h1, h2, h3, h4, h5, h6, h7⟩ := h
  refine ⟨Nat.lt_of_lt_of_le h0 hs, ?_, ?_, ?_, ?_, ?_, ?_, ?_⟩ <;> simp only [World.cell?, e] at * <;> assumption
theorem Sev.below {w w' : World} {b : Nat} {v0 v1 v2 v3 v4 v5 v6 : Value} (h : Sev w b v0 v1 v2 v3 v4 v5 v6) (hb : Below w.heap.size w w') : Sev w' b v0 v1 v2 v3 v4 v5 v6 := h.block hb.size (hb.block b h.lt)
theorem Sev.far {w w' : World} {b B C : Nat} {v0 v1 v2 v3 v4 v5 v6 : Value} (h : Sev w b v0 v1 v2 v3 v4 v5 v6) (hf : Far B C w w') (hd : b < B ∨ C ≤ b) : Sev w' b v0 v1 v2 v3 v4 v5 v6 := h.block hf.size (hf.block b h.lt hd)
theorem Sev.new (w : World) (v0 v1 v2 v3 v4 v5 v6 : Value) (T : TypeId) (b : Nat) (hb : w.heap.size = b) : Sev (w.alloc (.cells #[v0, v1, v2, v3, v4, v5, v6] T)) b v0 v1 v2 v3 v4 v5 v6 := hb ▸ ⟨by simp, by simp, by simp, by simp, by simp, by simp, by simp, by simp⟩

set_option maxHeartbeats 4000000 in
theorem eqEntry_same (i t : Int) (xs : List Int) (is : Bool) (av bv : Option Addr) (cv dv : Nat) (a1 a2 a3 b1 b2 b3 : Option Addr) (m k1 k2 k3 q1 q2 q3 : Nat) (L1 L2 L3 : List Int) (w : World) (hx : xs.length ≤ 1048576) (hm : m ≤ 1048576)
    (ra : Row w av xs.length xs) (rb : Row w bv xs.length xs) (r1 : Row w a1 m L1) (r2 : Row w a2 m L2) (r3 : Row w a3 m L3) (s1 : Row w b1 m L1) (s2 : Row w b2 m L2) (s3 : Row w b3 m L3) :
    Calls Try.prog 10 #[.agg #[.int .i64 i, .int .i64 t, .slice av xs.length cv, .slice a1 m k1, .slice a2 m k2, .slice a3 m k3, .bool is], .agg #[.int .i64 i, .int .i64 t, .slice bv xs.length dv, .slice b1 m q1, .slice b2 m q2, .slice b3 m q3, .bool is]] w fun e w' => e = .returned (.bool true) ∧ Below w.heap.size w w' := by
  have EI := hide (fun w1 (hb : Below w.heap.size w w1) => eqItem_self ⟨i, t, xs⟩ av bv xs.length xs.length cv dv w1 (ra.below hb) (rb.below hb) hx)
  have ER := hide (fun w1 (hb : Below w.heap.size w w1) => eqRow_same a1 a2 a3 b1 b2 b3 m k1 k2 k3 q1 q2 q3 L1 L2 L3 w1 hm (r1.below hb) (r2.below hb) (r3.below hb) (s1.below hb) (s2.below hb) (s3.below hb))
  simp only at EI
  obtain ⟨n, hn⟩ : ∃ n, xs.length = n := ⟨_, rfl⟩
  rw [hn] at EI ⊢
  clear ra rb r1 r2 r3 s1 s2 s3 hn hx
  have hiv : (is != is) = false := by simp
  obtain ⟨W0, hW0⟩ : ∃ W, ((w.alloc (.cells #[.int .i64 i, .int .i64 t, .slice av n cv, .slice a1 m k1, .slice a2 m k2, .slice a3 m k3, .bool is] 32)).alloc (.cells #[.int .i64 i, .int .i64 t, .slice bv n dv, .slice b1 m q1, .slice b2 m q2, .slice b3 m q3, .bool is] 32)) = W := ⟨_, rfl⟩
  have T0 : Sev W0 w.heap.size (.int .i64 i) (.int .i64 t) (.slice av n cv) (.slice a1 m k1) (.slice a2 m k2) (.slice a3 m k3) (.bool is) := hW0 ▸ (Sev.new w _ _ _ _ _ _ _ _ _ rfl).below (balloc (Below.refl _ _) _)
  have U0 : Sev W0 (w.heap.size + 1) (.int .i64 i) (.int .i64 t) (.slice bv n dv) (.slice b1 m q1) (.slice b2 m q2) (.slice b3 m q3) (.bool is) := hW0 ▸ Sev.new (w.alloc _) _ _ _ _ _ _ _ _ _ (by simp)
  have B0 : Below w.heap.size w W0 := hW0 ▸ (by repeat' first | with_reducible exact Below.refl _ _ | with_reducible assumption | with_reducible refine below_drewN ?_ _ | with_reducible refine balloc ?_ _ | with_reducible refine Below.drew ?_ | with_reducible refine Below.setCell ?_ (by first | (simp; done) | (simp; omega) | omega) _ | with_reducible refine bstep ?_ (by assumption))
  have HW := hide hW0
  clear hW0
  go_enter Try.func10, Try.ntmps10
  go_wp2_with fail
  rw [HW.out]
  refine (EI.out _ B0).mono ?_
  rintro e w1 ⟨rfl, hb1⟩
  have T1 := T0.below hb1
  have U1 := U0.below hb1
  have B1 := bstep B0 hb1
  have HT := hide T1
  have HU := hide U1
  obtain ⟨_, t0, t1, t2, t3, t4, t5, t6⟩ := T1
  obtain ⟨_, u0, u1, u2, u3, u4, u5, u6⟩ := U1
  go_wp2_with fail
  refine (ER.out _ B1).mono ?_
  rintro e w2 ⟨rfl, hb2⟩
  have T2 := HT.out.below hb2
  have U2 := HU.out.below hb2
  have B2 := bstep B1 hb2
  clear t0 t1 t2 t3 t4 t5 t6 u0 u1 u2 u3 u4 u5 u6
  obtain ⟨_, t0, t1, t2, t3, t4, t5, t6⟩ := T2
  obtain ⟨_, u0, u1, u2, u3, u4, u5, u6⟩ := U2
  go_wp2_with fail
  go_ret
  exact ⟨rfl, B2⟩

set_option maxHeartbeats 4000000 in
theorem markEntry_any (B X C : Nat) (i t : Int) (is : Bool) (va : Value) (xs : List Int) (gv : Nat) (a1 a2 a3 : Option Addr) (m k1 k2 k3 : Nat) (L1 L2 L3 : List Int) (w : World) (hx : xs.length ≤ 1048576) (hm : m ≤ 8) (hBX : B ≤ X) (hXC : X ≤ C)
    (hv : VSl w B X va xs gv) (hr : Row3 X C w a1 a2 a3 m L1 L2 L3) (hC : C ≤ w.heap.size) :
    Calls Try.prog 15 #[.agg #[.int .i64 i, .int .i64 t, va, .slice a1 m k1, .slice a2 m k2, .slice a3 m k3, .bool is], .int .i64 1] w fun e w' => e = .returned (.int .i64 (1 + xs.length + m + m + m)) ∧ VSl w' B X va (marks 1 xs.length) gv ∧ Row3 X C w' a1 a2 a3 m (marks (1 + xs.length) m) (marks (1 + xs.length + m) m) (marks (1 + xs.length + m + m) m) ∧ Far B C w w' := by
  have ba : Below w.heap.size w (w.alloc (.cells #[.int .i64 i, .int .i64 t, va, .slice a1 m k1, .slice a2 m k2, .slice a3 m k3, .bool is] 32)) := balloc (Below.refl _ _) _
  have MI := hide (markItem_any i t 1 _ (hv.below ba) hx (by omega) (by omega))
  have HR := hide (hr.below ba)
  have fa : Far B C w (w.alloc (.cells #[.int .i64 i, .int .i64 t, va, .slice a1 m k1, .slice a2 m k2, .slice a3 m k3, .bool is] 32)) := Far.ofBelow ba
  have S0 := Sev.new w (.int .i64 i) (.int .i64 t) va (.slice a1 m k1) (.slice a2 m k2) (.slice a3 m k3) (.bool is) 32 _ rfl
  obtain ⟨ya, yc, rfl, _⟩ := id hv
  obtain ⟨n, hn⟩ : ∃ n, xs.length = n := ⟨_, rfl⟩
  rw [hn] at MI HR fa S0 hx ⊢
  clear hv hr hn ba
  have HS := hide S0
  clear S0
  go_enter Try.func15, Try.ntmps15
  go_wp2_with fail
  refine MI.out.mono ?_
  rintro e w1 ⟨rfl, v1, f1⟩
  have V1 := hide v1
  have R1 := hide (Row3.far (B' := B) (C' := X) HR.out f1 (by omega))
  have S1 := Sev.far (B := B) (C := X) HS.out f1 (by omega)
  have F1 := hide (fa.trans (f1.mono (Nat.le_refl _) hXC))
  obtain ⟨_, t0, t1, t2, t3, t4, t5, t6⟩ := S1
  clear v1 f1 HS HR
  go_wp2_with fail
  refine (markRow_any X C a1 a2 a3 m k1 k2 k3 (1 + (n : Int)) L1 L2 L3 _ hm (by omega) (by omega) R1.out).mono ?_
  rintro e w2 ⟨rfl, r2, f2⟩
  have R2 := hide r2
  have V2 := hide (VSl.far (B' := X) (C' := C) V1.out f2 (by omega))
  have F2 := hide (F1.out.trans (f2.mono hBX (Nat.le_refl _)))
  clear r2 f2
  go_wp2_with fail
  go_ret
  exact ⟨rfl, V2.out, R2.out, F2.out⟩

set_option maxHeartbeats 4000000 in
theorem heldEntry_any (B X C : Nat) (i t : Int) (is : Bool) (va : Value) (n : Nat) (gv : Nat) (a1 a2 a3 : Option Addr) (m k1 k2 k3 : Nat) (w : World) (hx : n ≤ 1048576) (hm : m ≤ 8)
    (hv : VSl w B X va (marks 1 n) gv) (hr : Row3 X C w a1 a2 a3 m (marks (1 + n) m) (marks (1 + n + m) m) (marks (1 + n + m + m) m)) :
    Calls Try.prog 16 #[.agg #[.int .i64 i, .int .i64 t, va, .slice a1 m k1, .slice a2 m k2, .slice a3 m k3, .bool is], .int .i64 1] w fun e w' => e = .returned (.int .i64 (1 + n + m + m + m)) ∧ Below w.heap.size w w' := by
  have ba : Below w.heap.size w (w.alloc (.cells #[.int .i64 i, .int .i64 t, va, .slice a1 m k1, .slice a2 m k2, .slice a3 m k3, .bool is] 32)) := balloc (Below.refl _ _) _
  have MI := hide (heldItem_any i t 1 _ (hv.below ba) hx (by omega) (by omega))
  have HR := hide (hr.below ba)
  have S0 := Sev.new w (.int .i64 i) (.int .i64 t) va (.slice a1 m k1) (.slice a2 m k2) (.slice a3 m k3) (.bool is) 32 _ rfl
  have hno : ¬ ((1 : Int) + (n : Int) < 0) := by omega
  have hno2 : ¬ ((1 : Int) + (n : Int) + (m : Int) + (m : Int) + (m : Int) < 0) := by omega
  obtain ⟨ya, yc, rfl, _⟩ := id hv
  simp only [marks_len] at MI S0 ba HR ⊢
  clear hv hr
  have HS := hide S0
  clear S0
  go_enter Try.func16, Try.ntmps16
  go_wp2_with fail
  refine MI.out.mono ?_
  rintro e w1 ⟨rfl, hb1⟩
  have R1 := hide (HR.out.below hb1)
  have S1 := HS.out.below hb1
  have B1 := bstep ba hb1
  obtain ⟨_, t0, t1, t2, t3, t4, t5, t6⟩ := S1
  clear hb1 HS HR
  go_wp2_with fail
  refine (heldRow_any X C a1 a2 a3 m k1 k2 k3 (1 + (n : Int)) _ hm (by omega) (by omega) R1.out).mono ?_
  rintro e w2 ⟨rfl, hb2⟩
  go_wp2_with fail
  go_ret
  exact ⟨rfl, bstep B1 hb2⟩
end Go.Proofs.Ytkogkgdoebdmgaa
