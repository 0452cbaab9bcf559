/- The reader of drawn bytes: below, once, word. -/
import Derived.Test.YtobnlchlmhnnlaaZ7
import Derived.OpenShut
import Derived.Test.YtobnlchlmhnnlaaZ5
namespace Go.Proofs.Ytobnlchlmhnnlaa
open Go.RowKit
set_option maxRecDepth 8000
set_option linter.unusedSimpArgs false

set_option maxHeartbeats 1000000 in
theorem below_any (B rb n c : Nat) (a : Option Addr) (m : Int) (w : World) (h : Rd B w rb a n c) (h1 : 1 < m) (h2 : m ≤ 256) :
    Calls Try.prog 28 #[.pointer (some ⟨rb, 0, none⟩), .int .i64 m] w fun e w' => RdPost B w rb a n c .i64 0 (m - 1) e w' := by
  have N := hide (next_any B rb n c a w h)
  clear h
  go_enter Try.func28, Try.ntmps28
  go_wp2_with fail
  refine N.out.mono ?_
  rintro e w1 ⟨v, rfl, v0, v1, hr, hb⟩
  have m0 := Int.emod_nonneg v (show m ≠ 0 by omega)
  have m1 := Int.emod_lt_of_pos v (show 0 < m by omega)
  go_wp2
  go_ret
  exact ⟨v % m, rfl, m0, by omega, hr, hb⟩

def RdPostB (B : Nat) (w : World) (rb : Nat) (a : Option Addr) (n c : Nat) (e : Ending) (w' : World) : Prop :=
  ∃ v : Bool, e = .returned (.bool v) ∧ Rd B w' rb a n c ∧ But rb w w'

set_option maxHeartbeats 1000000 in
theorem once_any (B rb n c : Nat) (a : Option Addr) (m : Int) (w : World) (h : Rd B w rb a n c) (h1 : 1 < m) (h2 : m ≤ 256) :
    Calls Try.prog 29 #[.pointer (some ⟨rb, 0, none⟩), .int .i64 m] w fun e w' => RdPostB B w rb a n c e w' := by
  have N := hide (below_any B rb n c a m w h h1 h2)
  clear h
  go_enter Try.func29, Try.ntmps29
  go_wp2_with fail
  refine N.out.mono ?_
  rintro e w1 ⟨v, rfl, v0, v1, hr, hb⟩
  go_wp2
  go_ret
  exact ⟨_, rfl, hr, hb⟩

set_option maxHeartbeats 1000000 in
theorem word_any (B rb n c : Nat) (a : Option Addr) (w : World) (h : Rd B w rb a n c) :
    Calls Try.prog 43 #[.pointer (some ⟨rb, 0, none⟩)] w fun e w' => RdPost B w rb a n c .u64 0 18446744073709551615 e w' := by
  go_enter Try.func43, Try.ntmps43
  go_wp2_with fail
  go_loopw [3, 4] (fun s i wr => ∃ (k : Nat) (x : Int), k ≤ 8 ∧ i = .int .i64 k ∧ s = .int .u64 x ∧ (Lit.int .u64 x).wf = true ∧ Rd B wr rb a n c ∧ But rb w wr) (fun _ i _ => 8 - (intOf i).toNat)
  case atStart => exact ⟨0, 0, Nat.zero_le _, rfl, rfl, by decide, h, But.refl _ _⟩
  case round =>
    obtain ⟨k, x, hk, rfl, rfl, hx, hr, hb⟩ := hrel
    by_cases hlt : k < 8
    · have N := hide (next_any B rb n c a wr hr)
      have HX := hide hx
      have HBB := hide hb
      clear hr hb hx
      go_wp2_with fail
      refine N.out.mono ?_
      rintro e w1 ⟨v, rfl, v0, v1, hr1, hb1⟩
      go_wp2_with fail
      exact ⟨⟨k + 1, _, by omega, by go_num, rfl, wf_bits _ _ _ _, hr1, HBB.out.trans hb1⟩, by simp [intOf]; omega⟩
    · go_wp2
      go_ret
      have := bounds_u64 hx
      exact ⟨x, rfl, by omega, by omega, hr, hb⟩
end Go.Proofs.Ytobnlchlmhnnlaa

/- The reader of drawn bytes: comp, near, off. -/
namespace Go.Proofs.Ytobnlchlmhnnlaa
open Go.RowKit
set_option maxRecDepth 8000
set_option linter.unusedSimpArgs false

theorem Rd.alloc {B : Nat} {w : World} {rb : Nat} {a : Option Addr} {n c : Nat} (h : Rd B w rb a n c) (o : Obj) : Rd B (w.alloc o) rb a n c := h.stays (balloc (Below.refl _ _) o)

set_option maxHeartbeats 1000000 in
theorem comp_any (B rb n c : Nat) (a : Option Addr) (w : World) (h : Rd B w rb a n c) :
    Calls Try.prog 41 #[.pointer (some ⟨rb, 0, none⟩)] w fun e w' => RdPost B w rb a n c .i64 (-1048576) 1048576 e w' := by
  have N := hide (below_any B rb n c a 12 w h (by omega) (by omega))
  clear h
  go_enter Try.func41, Try.ntmps41
  go_wp2_with fail
  refine N.out.mono ?_
  rintro e w1 ⟨v, rfl, v0, v1, hr, hb⟩
  have B3 := hide (fun w (h : Rd B w rb a n c) => below_any B rb n c a 3 w h (by omega) (by omega))
  have B200 := hide (fun w (h : Rd B w rb a n c) => below_any B rb n c a 200 w h (by omega) (by omega))
  have W := hide (fun w (h : Rd B w rb a n c) => word_any B rb n c a w h)
  have HR := hide hr
  have HBB := hide hb
  have hlt := hr.lt
  clear hr hb
  by_cases e0 : v = 0
  · have b0 : (v == 0) = true := by simp [e0]
    go_wp2_with fail
    refine (B3.out _ (HR.out.alloc _)).mono ?_
    rintro e w2 ⟨u, rfl, u0, u1, hr2, hb2⟩
    have hlt2 : w1.heap.size < w2.heap.size := by have := hb2.size; simp at this; omega
    have k0 : w2.cell? ⟨w1.heap.size, 0, none⟩ = some (.int .i64 1048576) := (hb2.cell (p := ⟨w1.heap.size, 0, none⟩) (by simp) (by simp; omega)).trans (by simp [go_sem])
    have k1 : w2.cell? ⟨w1.heap.size, 1, none⟩ = some (.int .i64 (-1048576)) := (hb2.cell (p := ⟨w1.heap.size, 1, none⟩) (by simp) (by simp; omega)).trans (by simp [go_sem])
    have k2 : w2.cell? ⟨w1.heap.size, 2, none⟩ = some (.int .i64 1048575) := (hb2.cell (p := ⟨w1.heap.size, 2, none⟩) (by simp) (by simp; omega)).trans (by simp [go_sem])
    have HB2 := hide (HBB.out.alloc (.cells #[.int .i64 1048576, .int .i64 (-1048576), .int .i64 1048575] 2) |>.trans hb2)
    clear hb2
    rcases (show u = 0 ∨ u = 1 ∨ u = 2 by omega) with rfl | rfl | rfl
    · go_wp2
      go_ret
      exact ⟨_, rfl, by omega, by omega, hr2, HB2.out⟩
    · go_wp2
      go_ret
      exact ⟨_, rfl, by omega, by omega, hr2, HB2.out⟩
    · go_wp2
      go_ret
      exact ⟨_, rfl, by omega, by omega, hr2, HB2.out⟩
  · have b0 : (v == 0) = false := by simp [e0]
    by_cases e1 : v = 1
    · have b1 : (v == 1) = true := by simp [e1]
      go_wp2_with fail
      refine (W.out _ HR.out).mono ?_
      rintro e w2 ⟨u, rfl, u0, u1, hr2, hb2⟩
      have m0 := Int.emod_nonneg u (show (2097152 : Int) ≠ 0 by omega)
      have m1 := Int.emod_lt_of_pos u (show (0 : Int) < 2097152 by omega)
      go_wp2
      go_ret
      exact ⟨u % 2097152 - 1048576, rfl, by omega, by omega, hr2, HBB.out.trans hb2⟩
    · have b1 : (v == 1) = false := by simp [e1]
      go_wp2_with fail
      refine (B200.out _ HR.out).mono ?_
      rintro e w2 ⟨u, rfl, u0, u1, hr2, hb2⟩
      go_wp2
      go_ret
      exact ⟨u - 100, rfl, by omega, by omega, hr2, HBB.out.trans hb2⟩
end Go.Proofs.Ytobnlchlmhnnlaa

/- The reader of drawn bytes: near, off. -/
namespace Go.Proofs.Ytobnlchlmhnnlaa
open Go.RowKit
set_option maxRecDepth 8000
set_option linter.unusedSimpArgs false

def RdPostA (B : Nat) (w : World) (rb : Nat) (a : Option Addr) (n c : Nat) (e : Ending) (w' : World) : Prop :=
  ∃ v : Int, e = .returned (.int .i64 v) ∧ Rd B w' rb a n c ∧ But rb w w'





end Go.Proofs.Ytobnlchlmhnnlaa

/- The reader of drawn bytes: vec. -/
namespace Go.Proofs.Ytobnlchlmhnnlaa
open Go.RowKit
set_option maxRecDepth 8000
set_option linter.unusedSimpArgs false

theorem vals_snoc (f : Nat → Int) (k : Nat) (x : Int) : vals f k ++ [.int .i64 x] = vals (fun j => if j = k then x else f j) (k + 1) := by
  rw [vals_succ]
  congr 1
  · unfold vals
    exact List.map_congr_left fun j hj => by have := List.mem_range.1 hj; show _ = Value.int .i64 (if j = k then x else f j); rw [if_neg (by omega)]
  · simp

theorem owns_but {w wr w1 : World} {rb : Nat} {e : TypeId} {size : Nat} {v : Value} {k : Nat} {xs : List Value} (h : wr.ownsRow w.heap.size e size v k xs) (hb : But rb wr w1) (hlt : rb < w.heap.size) : w1.ownsRow w.heap.size e size v k xs := by
  refine ⟨h.1, ?_⟩
  rcases h.2 with h0 | ⟨g, cap, cur, hv, hg, hh, rest⟩
  · exact .inl h0
  · exact .inr ⟨g, cap, cur, hv, hg, (hb.block g (Array.getElem?_eq_some_iff.1 hh).1 (by omega)).trans hh, rest⟩

/-- Behind an append of one element onto what the call owns: all but the reader's block is as it was; the reader is right. -/
theorem but_app {w wr w2 : World} {rb : Nat} {o : Obj} {v : Value} {k : Nat} {e : TypeId} {size : Nat} {xs : List Value} (hb : But rb w wr) (ho : wr.ownsRow w.heap.size e size v k xs) (hg : (wr.alloc o).grownBy w2 v.ownBlock) : But rb w w2 := by
  have h1 := hb.alloc o
  refine ⟨hg.os.trans h1.os, hg.tape.trans h1.tape, hg.output.trans h1.output, Nat.le_trans h1.size hg.size, fun i hi hne => ?_⟩
  exact (hg.block i (Nat.lt_of_lt_of_le hi h1.size) (fun e => by have := (ho.lt i e.symm).1; omega)).trans (h1.block i hi hne)

theorem Rd.app {B : Nat} {w wr w2 : World} {rb : Nat} {a : Option Addr} {n c : Nat} {o : Obj} {v : Value} {k : Nat} {e : TypeId} {size : Nat} {xs : List Value} (h : Rd B wr rb a n c) (hlt : rb < w.heap.size) (hB : B ≤ w.heap.size) (ho : wr.ownsRow w.heap.size e size v k xs) (hg : (wr.alloc o).grownBy w2 v.ownBlock) : Rd B w2 rb a n c := by
  have h1 := h.alloc o
  have hs := h.lt
  refine ⟨h.from_, h.small, ?_, ?_⟩
  · obtain ⟨p, hp, he⟩ := h1.blk
    exact ⟨p, hp, (hg.block rb h1.lt (fun e => by have := (ho.lt rb e.symm).1; omega)).trans he⟩
  · rcases h1.code with h0 | ⟨b, off, e', lt, hc⟩
    · exact .inl h0
    · refine .inr ⟨b, off, e', lt, fun i hi => ?_⟩
      obtain ⟨z, z0, z1, hz⟩ := hc i hi
      exact ⟨z, z0, z1, (World.cell?_of_block (w := wr.alloc o) (a := ⟨b, off + i, none⟩) (hg.block b (show b < (wr.alloc o).heap.size by have := h.from_; simp; omega) (fun e => by have := (ho.lt b e.symm).1; omega))).trans hz⟩

def VecPost (B : Nat) (w : World) (rb : Nat) (a : Option Addr) (n c d : Nat) (e : Ending) (w' : World) : Prop :=
  ∃ (v : Value) (f : Nat → Int), e = .returned v ∧ w'.ownsRow w.heap.size 2 1 v d (vals f d) ∧ Rd B w' rb a n c ∧ But rb w w'

end Go.Proofs.Ytobnlchlmhnnlaa
/- A slice of bytes that came in; the reader is opened over it. -/
namespace Go.Proofs.Ytobnlchlmhnnlaa
open Go.RowKit
set_option maxRecDepth 8000
set_option linter.unusedSimpArgs false

/-- A slice of bytes that came in. -/
structure Code (w : World) (a : Option Addr) (n : Nat) : Prop where
  small : n ≤ 1048576
  lies : n = 0 ∨ ∃ b off, a = some ⟨b, off, none⟩ ∧ b < w.heap.size ∧ ∀ i, i < n → ∃ z : Int, 0 ≤ z ∧ z ≤ 255 ∧ w.cell? ⟨b, off + i, none⟩ = some (.int .u8 z)

theorem Code.below {w w' : World} {a : Option Addr} {n : Nat} (h : Code w a n) (hb : Below w.heap.size w w') : Code w' a n := by
  refine ⟨h.small, ?_⟩
  rcases h.lies with h0 | ⟨b, off, e, lt, hc⟩
  · exact .inl h0
  · refine .inr ⟨b, off, e, Nat.lt_of_lt_of_le lt hb.size, fun i hi => ?_⟩
    obtain ⟨z, z0, z1, hz⟩ := hc i hi
    exact ⟨z, z0, z1, (hb.cell (p := ⟨b, off + i, none⟩) lt).trans hz⟩

def OpenPost (w : World) (a : Option Addr) (n c : Nat) (e : Ending) (w' : World) : Prop :=
  e = .returned (.pointer (some ⟨w.heap.size, 0, none⟩)) ∧ Rd w.heap.size w' w.heap.size a n c ∧ Below w.heap.size w w' ∧ w'.heap.size = w.heap.size + 1

set_option maxHeartbeats 400000 in
theorem open_any (a : Option Addr) (n c : Nat) (w : World) (h : Code w a n) :
    Calls Try.prog 26 #[.slice a n c] w fun e w' => OpenPost w a n c e w' := by
  have H := hide h
  clear h
  go_enter Try.func26, Try.ntmps26
  go_wp2_with fail
  go_ret
  refine ⟨rfl, ⟨Nat.le_refl _, H.out.small, ⟨0, Nat.zero_le _, heap_alloc_new w _⟩, ?_⟩, (by repeat' first | with_reducible exact Below.refl _ _ | with_reducible assumption | with_reducible refine below_drewN ?_ _ | with_reducible refine balloc ?_ _ | with_reducible refine Below.drew ?_ | with_reducible refine Below.setCell ?_ (by first | (simp; done) | (simp; omega) | omega) _ | with_reducible refine bstep ?_ (by assumption)), by simp⟩
  rcases H.out.lies with h0 | ⟨b, off, e, lt, hc⟩
  · exact .inl h0
  · refine .inr ⟨b, off, e, lt, fun i hi => ?_⟩
    obtain ⟨z, z0, z1, hz⟩ := hc i hi
    exact ⟨z, z0, z1, ((balloc (Below.refl w.heap.size w) _).cell (p := ⟨b, off + i, none⟩) lt).trans hz⟩

end Go.Proofs.Ytobnlchlmhnnlaa

/- Drawn ranges: span. -/
namespace Go.Proofs.Ytobnlchlmhnnlaa
open Go.RowKit
set_option maxRecDepth 8000
set_option linter.unusedSimpArgs false
set_option linter.unusedVariables false

def SpanPost (B : Nat) (w : World) (rb : Nat) (a : Option Addr) (n c : Nat) (e : Ending) (w' : World) : Prop :=
  ∃ lo hi : Int, e = .returned (.agg #[.int .i64 lo, .int .i64 hi]) ∧ -4000000 ≤ lo ∧ lo ≤ 4000000 ∧ -4000000 ≤ hi ∧ hi ≤ 4000000 ∧ Rd B w' rb a n c ∧ But rb w w'

set_option maxHeartbeats 2000000 in
theorem span_any (B rb n c : Nat) (a : Option Addr) (w : World) (h : Rd B w rb a n c) :
    Calls Try.prog 36 #[.pointer (some ⟨rb, 0, none⟩)] w fun e w' => SpanPost B w rb a n c e w' := by
  have C := hide (fun w (h : Rd B w rb a n c) => comp_any B rb n c a w h)
  have O2 := hide (fun w (h : Rd B w rb a n c) => once_any B rb n c a 2 w h (by omega) (by omega))
  have O12 := hide (fun w (h : Rd B w rb a n c) => once_any B rb n c a 12 w h (by omega) (by omega))
  have B40 := hide (fun w (h : Rd B w rb a n c) => below_any B rb n c a 40 w h (by omega) (by omega))
  have H := hide h
  have hlt := h.lt
  clear h
  go_enter Try.func36, Try.ntmps36
  go_wp2_with fail
  refine (C.out _ (H.out.alloc _)).mono ?_
  rintro e w1 ⟨x, rfl, x0, x1, hr1, hb1⟩
  go_wp2_with fail
  refine (C.out _ hr1).mono ?_
  rintro e w2 ⟨y, rfl, y0, y1, hr2, hb2⟩
  go_wp2_with fail
  refine (O2.out _ hr2).mono ?_
  rintro e w3 ⟨v, rfl, hr3, hb3⟩
  have bb := hb1.trans (hb2.trans hb3)
  have z0 : w3.cell? ⟨w.heap.size, 0, none⟩ = some (.int .i64 0) := (bb.cell (p := ⟨w.heap.size, 0, none⟩) (by simp) (by simp; omega)).trans (by simp [go_sem])
  have z1 : w3.cell? ⟨w.heap.size, 1, none⟩ = some (.int .i64 0) := (bb.cell (p := ⟨w.heap.size, 1, none⟩) (by simp) (by simp; omega)).trans (by simp [go_sem])
  have f0 : w3.frozen? ⟨w.heap.size, 0, none⟩ = false := (bb.frozen (p := ⟨w.heap.size, 0, none⟩) (by simp) (by simp; omega)).trans (by simp [go_sem])
  have f1 : w3.frozen? ⟨w.heap.size, 1, none⟩ = false := (bb.frozen (p := ⟨w.heap.size, 1, none⟩) (by simp) (by simp; omega)).trans (by simp [go_sem])
  have s3 : w.heap.size < w3.heap.size := by have := bb.size; simp at this; omega
  have B3 := hide (((But.refl rb w).alloc (.cells #[.int .i64 0, .int .i64 0] 34)).trans bb)
  have R3 := hide hr3
  clear hr1 hr2 hr3 hb1 hb2 hb3 bb C O2 H
  have rne : rb ≠ w.heap.size := by omega
  have hBw : B ≤ w.heap.size := by have := R3.out.from_; omega
  cases v
  · skip
    by_cases hxy : y < x
    · go_wp2_with fail
      refine (O12.out _ (R3.out)).mono ?_
      rintro e w9 ⟨v9, rfl, hr9, hb9⟩
      have q0 : w9.cell? ⟨w.heap.size, 0, none⟩ = some (.int .i64 0) := (hb9.cell (p := ⟨w.heap.size, 0, none⟩) (by first | assumption | (simp; omega)) (by simp; omega)).trans z0
      have q1 : w9.cell? ⟨w.heap.size, 1, none⟩ = some (.int .i64 0) := (hb9.cell (p := ⟨w.heap.size, 1, none⟩) (by first | assumption | (simp; omega)) (by simp; omega)).trans z1
      have p0 : w9.frozen? ⟨w.heap.size, 0, none⟩ = false := (hb9.frozen (p := ⟨w.heap.size, 0, none⟩) (by first | assumption | (simp; omega)) (by simp; omega)).trans f0
      have p1 : w9.frozen? ⟨w.heap.size, 1, none⟩ = false := (hb9.frozen (p := ⟨w.heap.size, 1, none⟩) (by first | assumption | (simp; omega)) (by simp; omega)).trans f1
      have B9 := hide ((B3.out).trans hb9)
      have R9 := hide hr9
      clear hr9 hb9
      cases v9
      · skip
        go_wp2_with fail
        have hR := (R9.out).but (((But.refl w.heap.size w9).setCell 0 (.int .i64 (y))).setCell 1 (.int .i64 (x))) (by omega) (by omega)
        have hB := but_far (but_far (B9.out) (Nat.le_refl w.heap.size) 0 (.int .i64 (y))) (Nat.le_refl w.heap.size) 1 (.int .i64 (x))
        refine bodyPost_ret (v := .agg #[.int .i64 (y), .int .i64 (x)]) ?_ rfl ⟨y, x, rfl, by omega, by omega, by omega, by omega, hR, hB⟩
        simp [results, Try.results36, go_sem, q0, q1]
      · skip
        go_wp2_with fail
        have hR := (R9.out).but (((But.refl w.heap.size w9).setCell 0 (.int .i64 (x))).setCell 1 (.int .i64 (y))) (by omega) (by omega)
        have hB := but_far (but_far (B9.out) (Nat.le_refl w.heap.size) 0 (.int .i64 (x))) (Nat.le_refl w.heap.size) 1 (.int .i64 (y))
        refine bodyPost_ret (v := .agg #[.int .i64 (x), .int .i64 (y)]) ?_ rfl ⟨x, y, rfl, by omega, by omega, by omega, by omega, hR, hB⟩
        simp [results, Try.results36, go_sem, q0, q1]
    · skip
      go_wp2_with fail
      have hR := (R3.out).but (((But.refl w.heap.size w3).setCell 0 (.int .i64 (x))).setCell 1 (.int .i64 (y))) (by omega) (by omega)
      have hB := but_far (but_far (B3.out) (Nat.le_refl w.heap.size) 0 (.int .i64 (x))) (Nat.le_refl w.heap.size) 1 (.int .i64 (y))
      refine bodyPost_ret (v := .agg #[.int .i64 (x), .int .i64 (y)]) ?_ rfl ⟨x, y, rfl, by omega, by omega, by omega, by omega, hR, hB⟩
      simp [results, Try.results36, go_sem, z0, z1]
  · go_wp2_with fail
    refine (B40.out _ R3.out).mono ?_
    rintro e w4 ⟨u, rfl, u0, u1, hr4, hb4⟩
    have k0 : w4.cell? ⟨w.heap.size, 0, none⟩ = some (.int .i64 0) := (hb4.cell (p := ⟨w.heap.size, 0, none⟩) s3 (by simp; omega)).trans z0
    have k1 : w4.cell? ⟨w.heap.size, 1, none⟩ = some (.int .i64 0) := (hb4.cell (p := ⟨w.heap.size, 1, none⟩) s3 (by simp; omega)).trans z1
    have l0 : w4.frozen? ⟨w.heap.size, 0, none⟩ = false := (hb4.frozen (p := ⟨w.heap.size, 0, none⟩) s3 (by simp; omega)).trans f0
    have l1 : w4.frozen? ⟨w.heap.size, 1, none⟩ = false := (hb4.frozen (p := ⟨w.heap.size, 1, none⟩) s3 (by simp; omega)).trans f1
    have s4 : w.heap.size < w4.heap.size := by have := hb4.size; omega
    have B4 := hide (B3.out.trans hb4)
    have R4 := hide hr4
    clear hr4 hb4 z0 z1 f0 f1 B3 R3 s3
    by_cases hmin : x + u ≤ 1048576
    · have hge : ¬ x + u < x := by omega
      go_wp2_with fail
      have hR := (R4.out).but (((But.refl w.heap.size w4).setCell 0 (.int .i64 (x))).setCell 1 (.int .i64 (x + u))) (by omega) (by omega)
      have hB := but_far (but_far (B4.out) (Nat.le_refl w.heap.size) 0 (.int .i64 (x))) (Nat.le_refl w.heap.size) 1 (.int .i64 (x + u))
      refine bodyPost_ret (v := .agg #[.int .i64 (x), .int .i64 (x + u)]) ?_ rfl ⟨x, x + u, rfl, by omega, by omega, by omega, by omega, hR, hB⟩
      simp [results, Try.results36, go_sem, k0, k1]
    · have hm' : 1048576 < x + u := by omega
      have hge : ¬ 1048576 < x := by omega
      go_wp2_with fail
      have hR := (R4.out).but (((But.refl w.heap.size w4).setCell 0 (.int .i64 (x))).setCell 1 (.int .i64 (1048576))) (by omega) (by omega)
      have hB := but_far (but_far (B4.out) (Nat.le_refl w.heap.size) 0 (.int .i64 (x))) (Nat.le_refl w.heap.size) 1 (.int .i64 (1048576))
      refine bodyPost_ret (v := .agg #[.int .i64 (x), .int .i64 (1048576)]) ?_ rfl ⟨x, 1048576, rfl, by omega, by omega, by omega, by omega, hR, hB⟩
      simp [results, Try.results36, go_sem, k0, k1]
end Go.Proofs.Ytobnlchlmhnnlaa
