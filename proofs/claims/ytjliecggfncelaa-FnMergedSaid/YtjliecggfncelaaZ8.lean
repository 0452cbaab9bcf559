/- Drawn Nears: nearby, DrawNearLess. -/
import Derived.Test.YtjliecggfncelaaZ7
import Derived.Test.YtjliecggfncelaaZ4
namespace Go.Proofs.Ytjliecggfncelaa
open Go.RowKit
set_option maxRecDepth 8000
set_option linter.unusedSimpArgs false
set_option linter.unusedVariables false

def NearPost (B : Nat) (w : World) (rb : Nat) (a : Option Addr) (n c : Nat) (e : Ending) (w' : World) : Prop :=
  ∃ x y : Int, e = .returned (.agg #[.int .i64 x, .int .i64 y]) ∧ Rd B w' rb a n c ∧ But rb w w'

/-- A box of the call's own is written, and read into the result's. -/
theorem far2 {rb g : Nat} {w0 w : World} (h : But rb w0 w) (hg : w0.heap.size ≤ g) (v v' : Value) : But rb w0 ((w.setCell ⟨g, 0, none⟩ v).setCell ⟨g, 1, none⟩ v') := but_far (but_far h hg 0 v) hg 1 v'

theorem Rd.far {B : Nat} {w : World} {rb : Nat} {a : Option Addr} {n c : Nat} (h : Rd B w rb a n c) (g o : Nat) (v : Value) (hg : B ≤ g) (hne : rb ≠ g) : Rd B (w.setCell ⟨g, o, none⟩ v) rb a n c :=
  h.but ((But.refl g w).setCell o v) hg hne

set_option maxHeartbeats 2000000 in
theorem nearby_any (B rb n c : Nat) (a : Option Addr) (w : World) (h : Rd B w rb a n c) :
    Calls Try.prog 22 #[.pointer (some ⟨rb, 0, none⟩)] w fun e w' => NearPost B w rb a n c e w' := by
  have B30 := hide (fun w (h : Rd B w rb a n c) => below_any B rb n c a 30 w h (by omega) (by omega))
  have B40 := hide (fun w (h : Rd B w rb a n c) => below_any B rb n c a 40 w h (by omega) (by omega))
  have OI := hide (fun w (h : Rd B w rb a n c) => off_any B rb n c a 1 9999 w h (by omega) (by omega) (by omega) (by omega))
  have OD := hide (fun w (h : Rd B w rb a n c) => off_any B rb n c a 0 1125899906842624 w h (by omega) (by omega) (by omega) (by omega))
  have H := hide h
  have hlt := h.lt
  have hfr := h.from_
  clear h
  go_enter Try.func22, Try.ntmps22
  go_wp2_with fail
  refine (B30.out _ (H.out.alloc _)).mono ?_
  rintro e w1 ⟨x, rfl, x0, x1, hr1, hb1⟩
  go_wp2_with fail
  refine (B40.out _ hr1).mono ?_
  rintro e w2 ⟨y, rfl, y0, y1, hr2, hb2⟩
  have R2 := (Bx.new w (.int .i64 0) (.int .i64 0) 49).but (hb1.trans hb2) (by omega)
  have BT2 := ((But.refl rb w).alloc (.cells #[.int .i64 0, .int .i64 0] 49)).trans (hb1.trans hb2)
  have s2 := R2.lt
  clear hr1 hb1 hb2
  go_wp2_with fail
  refine (B40.out _ (hr2.alloc _)).mono ?_
  rintro e w3 ⟨u, rfl, u0, u1, hr3, hb3⟩
  have N3 := (Bx.new w2 (.int .i64 (1 + x)) (.int .i64 y) 49).but hb3 (by have := hr2.lt; omega)
  have R3 := (R2.alloc (.cells #[.int .i64 (1 + x), .int .i64 y] 49)).but hb3 (by omega)
  have BT3 := (BT2.alloc (.cells #[.int .i64 (1 + x), .int .i64 y] 49)).trans hb3
  have l2 := hr2.lt
  have s3 := N3.lt
  have RD3 := hide hr3
  clear hr2 hb3 R2 BT2 B30 B40 H hr3
  by_cases e0 : u = 0
  · have b0 : (u == 0) = true := by simp [e0]
    go_wp2_with fail
    refine (OI.out _ RD3.out).mono ?_
    rintro e w4 ⟨v, rfl, hr4, hb4⟩
    have N4 := N3.but hb4 (by omega)
    have R4 := R3.but hb4 (by omega)
    have BT4 := BT3.trans hb4
    obtain ⟨nl, n0, n1, nf0, nf1⟩ := N4
    obtain ⟨rl, r0, r1, rf0, rf1⟩ := R4
    have hne : ¬ w2.heap.size = w.heap.size := by omega
    have hne' : ¬ w.heap.size = w2.heap.size := by omega
    clear hb4 N3 R3 BT3
    go_wp2_with fail
    refine bodyPost_ret (v := .agg #[.int .i64 v, .int .i64 y]) ?_ rfl ⟨v, y, rfl, ?_, ?_⟩
    · simp [results, Try.results22, go_sem, *]
    · exact ((hr4.far _ _ _ (by omega) (by omega)).far _ _ _ (by omega) (by omega)).far _ _ _ (by omega) (by omega)
    · exact far2 (but_far BT4 (by omega) _ _) (by omega) _ _
  · have b0 : (u == 0) = false := by simp [e0]
    by_cases e1 : u = 1
    · have b1 : (u == 1) = true := by simp [e1]
      go_wp2_with fail
      refine (OD.out _ RD3.out).mono ?_
      rintro e w4 ⟨v, rfl, hr4, hb4⟩
      have N4 := N3.but hb4 (by omega)
      have R4 := R3.but hb4 (by omega)
      have BT4 := BT3.trans hb4
      obtain ⟨nl, n0, n1, nf0, nf1⟩ := N4
      obtain ⟨rl, r0, r1, rf0, rf1⟩ := R4
      have hne : ¬ w2.heap.size = w.heap.size := by omega
      have hne' : ¬ w.heap.size = w2.heap.size := by omega
      clear hb4 N3 R3 BT3
      go_wp2_with fail
      refine bodyPost_ret (v := .agg #[.int .i64 (1 + x), .int .i64 v]) ?_ rfl ⟨1 + x, v, rfl, ?_, ?_⟩
      · simp [results, Try.results22, go_sem, *]
      · exact ((hr4.far _ _ _ (by omega) (by omega)).far _ _ _ (by omega) (by omega)).far _ _ _ (by omega) (by omega)
      · exact far2 (but_far BT4 (by omega) _ _) (by omega) _ _
    · have b1 : (u == 1) = false := by simp [e1]
      obtain ⟨nl, n0, n1, nf0, nf1⟩ := N3
      obtain ⟨rl, r0, r1, rf0, rf1⟩ := R3
      go_wp2_with fail
      refine bodyPost_ret (v := .agg #[.int .i64 (1 + x), .int .i64 y]) ?_ rfl ⟨1 + x, y, rfl, ?_, ?_⟩
      · simp [results, Try.results22, go_sem, *]
      · exact (RD3.out.far _ _ _ (by omega) (by omega)).far _ _ _ (by omega) (by omega)
      · exact far2 BT3 (by omega) _ _

def DrawNL (w : World) (e : Ending) (w' : World) : Prop :=
  ∃ x y u v : Int, e = .returned (.tuple #[.agg #[.int .i64 x, .int .i64 y], .agg #[.int .i64 u, .int .i64 v]]) ∧ Below w.heap.size w w'
end Go.Proofs.Ytjliecggfncelaa
