/- The reader of drawn bytes: below, once, word. -/
import Derived.Test.YtggjcccdeaadbaaGreatDoorZ8
import Derived.OpenShut
import Derived.Test.YtggjcccdeaadbaaGreatDoorZ4
namespace Go.Proofs.YtggjcccdeaadbaaGreatDoor
open Go.RowKit
set_option maxRecDepth 8000
set_option linter.unusedSimpArgs false

set_option maxHeartbeats 1000000 in
theorem below_any (B rb n c : Nat) (a : Option Addr) (m : Int) (w : World) (h : Rd B w rb a n c) (h1 : 1 < m) (h2 : m ≤ 256) :
    Calls Tryz.prog 21 #[.pointer (some ⟨rb, 0, none⟩), .int .i64 m] w fun e w' => RdPost B w rb a n c .i64 0 (m - 1) e w' := by
  have N := hide (next_any B rb n c a w h)
  clear h
  go_enter Tryz.func21, Tryz.ntmps21
  go_wp2_with fail
  refine N.out.mono ?_
  rintro e w1 ⟨v, rfl, v0, v1, hr, hb⟩
  have m0 := Int.emod_nonneg v (show m ≠ 0 by omega)
  have m1 := Int.emod_lt_of_pos v (show 0 < m by omega)
  go_wp2
  go_ret
  exact ⟨v % m, rfl, m0, by omega, hr, hb⟩

def RdPostB (B : Nat) (w : World) (rb : Nat) (a : Option Addr) (n c : Nat) (e : Ending) (w' : World) : Prop :=
  ∃ v : Bool, e = .returned (.bool v) ∧ Rd B w' rb a n c ∧ But rb w w'

set_option maxHeartbeats 1000000 in
theorem once_any (B rb n c : Nat) (a : Option Addr) (m : Int) (w : World) (h : Rd B w rb a n c) (h1 : 1 < m) (h2 : m ≤ 256) :
    Calls Tryz.prog 48 #[.pointer (some ⟨rb, 0, none⟩), .int .i64 m] w fun e w' => RdPostB B w rb a n c e w' := by
  have N := hide (below_any B rb n c a m w h h1 h2)
  clear h
  go_enter Tryz.func48, Tryz.ntmps48
  go_wp2_with fail
  refine N.out.mono ?_
  rintro e w1 ⟨v, rfl, v0, v1, hr, hb⟩
  go_wp2
  go_ret
  exact ⟨_, rfl, hr, hb⟩

set_option maxHeartbeats 1000000 in
theorem word_any (B rb n c : Nat) (a : Option Addr) (w : World) (h : Rd B w rb a n c) :
    Calls Tryz.prog 73 #[.pointer (some ⟨rb, 0, none⟩)] w fun e w' => RdPost B w rb a n c .u64 0 18446744073709551615 e w' := by
  go_enter Tryz.func73, Tryz.ntmps73
  go_wp2_with fail
  go_loopw [3, 4] (fun s i wr => ∃ (k : Nat) (x : Int), k ≤ 8 ∧ i = .int .i64 k ∧ s = .int .u64 x ∧ (Lit.int .u64 x).wf = true ∧ Rd B wr rb a n c ∧ But rb w wr) (fun _ i _ => 8 - (intOf i).toNat)
  case atStart => exact ⟨0, 0, Nat.zero_le _, rfl, rfl, by decide, h, But.refl _ _⟩
  case round =>
    obtain ⟨k, x, hk, rfl, rfl, hx, hr, hb⟩ := hrel
    by_cases hlt : k < 8
    · have N := hide (next_any B rb n c a wr hr)
      have HX := hide hx
      have HBB := hide hb
      clear hr hb hx
      go_wp2_with fail
      refine N.out.mono ?_
      rintro e w1 ⟨v, rfl, v0, v1, hr1, hb1⟩
      go_wp2_with fail
      exact ⟨⟨k + 1, _, by omega, by go_num, rfl, wf_bits _ _ _ _, hr1, HBB.out.trans hb1⟩, by simp [intOf]; omega⟩
    · go_wp2
      go_ret
      have := bounds_u64 hx
      exact ⟨x, rfl, by omega, by omega, hr, hb⟩
end Go.Proofs.YtggjcccdeaadbaaGreatDoor

/- The reader of drawn bytes: below of whatever number, size. -/
namespace Go.Proofs.YtggjcccdeaadbaaGreatDoor
open Go.RowKit
set_option maxRecDepth 8000
set_option linter.unusedSimpArgs false
set_option linter.unusedVariables false

set_option maxHeartbeats 1000000 in
set_option maxRecDepth 8000 in
theorem below_one (rb : Nat) (m : Int) (w : World) (h1 : m ≤ 1) :
    Calls Tryz.prog 21 #[.pointer (some ⟨rb, 0, none⟩), .int .i64 m] w fun e w' => e = .returned (.int .i64 0) ∧ w' = w := by
  go_enter Tryz.func21, Tryz.ntmps21
  go_wp2
  go_ret
  exact ⟨rfl, rfl⟩
/-- below, of any number that is no more than 256: one that is less, or 0. -/
theorem below_all (B rb n c : Nat) (a : Option Addr) (m : Int) (w : World) (h : Rd B w rb a n c) (h2 : m ≤ 256) :
    Calls Tryz.prog 21 #[.pointer (some ⟨rb, 0, none⟩), .int .i64 m] w fun e w' => RdPost B w rb a n c .i64 0 (max 0 (m - 1)) e w' := by
  by_cases h1 : 1 < m
  · exact (below_any B rb n c a m w h h1 h2).mono fun e w' ⟨v, he, v0, v1, hr, hb⟩ => ⟨v, he, v0, by omega, hr, hb⟩
  · refine (below_one rb m w (by omega)).mono fun e w' ⟨he, hw⟩ => ?_
    subst hw
    exact ⟨0, he, by omega, by omega, h, But.refl _ _⟩

end Go.Proofs.YtggjcccdeaadbaaGreatDoor
/- The reader of drawn bytes: comp, near, off. -/
namespace Go.Proofs.YtggjcccdeaadbaaGreatDoor
open Go.RowKit
set_option maxRecDepth 8000
set_option linter.unusedSimpArgs false

theorem Rd.alloc {B : Nat} {w : World} {rb : Nat} {a : Option Addr} {n c : Nat} (h : Rd B w rb a n c) (o : Obj) : Rd B (w.alloc o) rb a n c := h.stays (balloc (Below.refl _ _) o)

set_option maxHeartbeats 1000000 in
theorem comp_any (B rb n c : Nat) (a : Option Addr) (w : World) (h : Rd B w rb a n c) :
    Calls Tryz.prog 63 #[.pointer (some ⟨rb, 0, none⟩)] w fun e w' => RdPost B w rb a n c .i64 (-1048576) 1048576 e w' := by
  have N := hide (below_any B rb n c a 12 w h (by omega) (by omega))
  clear h
  go_enter Tryz.func63, Tryz.ntmps63
  go_wp2_with fail
  refine N.out.mono ?_
  rintro e w1 ⟨v, rfl, v0, v1, hr, hb⟩
  have B3 := hide (fun w (h : Rd B w rb a n c) => below_any B rb n c a 3 w h (by omega) (by omega))
  have B200 := hide (fun w (h : Rd B w rb a n c) => below_any B rb n c a 200 w h (by omega) (by omega))
  have W := hide (fun w (h : Rd B w rb a n c) => word_any B rb n c a w h)
  have HR := hide hr
  have HBB := hide hb
  have hlt := hr.lt
  clear hr hb
  by_cases e0 : v = 0
  · have b0 : (v == 0) = true := by simp [e0]
    go_wp2_with fail
    refine (B3.out _ (HR.out.alloc _)).mono ?_
    rintro e w2 ⟨u, rfl, u0, u1, hr2, hb2⟩
    have hlt2 : w1.heap.size < w2.heap.size := by have := hb2.size; simp at this; omega
    have k0 : w2.cell? ⟨w1.heap.size, 0, none⟩ = some (.int .i64 1048576) := (hb2.cell (p := ⟨w1.heap.size, 0, none⟩) (by simp) (by simp; omega)).trans (by simp [go_sem])
    have k1 : w2.cell? ⟨w1.heap.size, 1, none⟩ = some (.int .i64 (-1048576)) := (hb2.cell (p := ⟨w1.heap.size, 1, none⟩) (by simp) (by simp; omega)).trans (by simp [go_sem])
    have k2 : w2.cell? ⟨w1.heap.size, 2, none⟩ = some (.int .i64 1048575) := (hb2.cell (p := ⟨w1.heap.size, 2, none⟩) (by simp) (by simp; omega)).trans (by simp [go_sem])
    have HB2 := hide (HBB.out.alloc (.cells #[.int .i64 1048576, .int .i64 (-1048576), .int .i64 1048575] 2) |>.trans hb2)
    clear hb2
    rcases (show u = 0 ∨ u = 1 ∨ u = 2 by omega) with rfl | rfl | rfl
    · go_wp2
      go_ret
      exact ⟨_, rfl, by omega, by omega, hr2, HB2.out⟩
    · go_wp2
      go_ret
      exact ⟨_, rfl, by omega, by omega, hr2, HB2.out⟩
    · go_wp2
      go_ret
      exact ⟨_, rfl, by omega, by omega, hr2, HB2.out⟩
  · have b0 : (v == 0) = false := by simp [e0]
    by_cases e1 : v = 1
    · have b1 : (v == 1) = true := by simp [e1]
      go_wp2_with fail
      refine (W.out _ HR.out).mono ?_
      rintro e w2 ⟨u, rfl, u0, u1, hr2, hb2⟩
      have m0 := Int.emod_nonneg u (show (2097152 : Int) ≠ 0 by omega)
      have m1 := Int.emod_lt_of_pos u (show (0 : Int) < 2097152 by omega)
      go_wp2
      go_ret
      exact ⟨u % 2097152 - 1048576, rfl, by omega, by omega, hr2, HBB.out.trans hb2⟩
    · have b1 : (v == 1) = false := by simp [e1]
      go_wp2_with fail
      refine (B200.out _ HR.out).mono ?_
      rintro e w2 ⟨u, rfl, u0, u1, hr2, hb2⟩
      go_wp2
      go_ret
      exact ⟨u - 100, rfl, by omega, by omega, hr2, HBB.out.trans hb2⟩
end Go.Proofs.YtggjcccdeaadbaaGreatDoor

/- The reader of drawn bytes: near, off. -/
namespace Go.Proofs.YtggjcccdeaadbaaGreatDoor
open Go.RowKit
set_option maxRecDepth 8000
set_option linter.unusedSimpArgs false

def RdPostA (B : Nat) (w : World) (rb : Nat) (a : Option Addr) (n c : Nat) (e : Ending) (w' : World) : Prop :=
  ∃ v : Int, e = .returned (.int .i64 v) ∧ Rd B w' rb a n c ∧ But rb w w'

set_option maxHeartbeats 1000000 in
theorem near_any (B rb n c : Nat) (a : Option Addr) (lo hi : Int) (w : World) (h : Rd B w rb a n c) (l0 : -2251799813685248 ≤ lo) (l1 : lo ≤ 2251799813685248) (g0 : -2251799813685248 ≤ hi) (g1 : hi ≤ 2251799813685248) :
    Calls Tryz.prog 68 #[.pointer (some ⟨rb, 0, none⟩), .int .i64 lo, .int .i64 hi] w fun e w' => RdPostA B w rb a n c e w' := by
  have N := hide (below_any B rb n c a 8 w h (by omega) (by omega))
  clear h
  go_enter Tryz.func68, Tryz.ntmps68
  go_wp2_with fail
  refine N.out.mono ?_
  rintro e w1 ⟨v, rfl, v0, v1, hr, hb⟩
  by_cases e0 : v = 0
  · have b0 : (v == 0) = true := by simp [e0]
    go_wp2
    go_ret
    exact ⟨_, rfl, hr, hb⟩
  · have b0 : (v == 0) = false := by simp [e0]
    by_cases e1 : v = 1
    · have b1 : (v == 1) = true := by simp [e1]
      go_wp2
      go_ret
      exact ⟨_, rfl, hr, hb⟩
    · have b1 : (v == 1) = false := by simp [e1]
      by_cases e2 : hi < lo
      · go_wp2
        go_ret
        exact ⟨_, rfl, hr, hb⟩
      · have W := hide (word_any B rb n c a w1 hr)
        have HBB := hide hb
        clear hr hb N
        go_wp2_with fail
        refine W.out.mono ?_
        rintro e w2 ⟨u, rfl, u0, u1, hr2, hb2⟩
        go_wp2
        go_ret
        exact ⟨_, rfl, hr2, HBB.out.trans hb2⟩

set_option maxHeartbeats 1000000 in
theorem off_any (B rb n c : Nat) (a : Option Addr) (lo hi : Int) (w : World) (h : Rd B w rb a n c) (l0 : -2251799813685248 ≤ lo) (l1 : lo ≤ 2251799813685248) (g0 : -2251799813685248 ≤ hi) (g1 : hi ≤ 2251799813685248) :
    Calls Tryz.prog 57 #[.pointer (some ⟨rb, 0, none⟩), .int .i64 lo, .int .i64 hi] w fun e w' => RdPostA B w rb a n c e w' := by
  have N := hide (once_any B rb n c a 24 w h (by omega) (by omega))
  clear h
  go_enter Tryz.func57, Tryz.ntmps57
  go_wp2_with fail
  refine N.out.mono ?_
  rintro e w1 ⟨v, rfl, hr, hb⟩
  have B4 := hide (fun w (h : Rd B w rb a n c) => below_any B rb n c a 4 w h (by omega) (by omega))
  have NE := hide (near_any B rb n c a lo hi w1 hr l0 l1 g0 g1)
  have HR := hide hr
  have HBB := hide hb
  have hlt := hr.lt
  clear hr hb N
  cases v
  · go_wp2_with fail
    refine NE.out.mono ?_
    rintro e w2 ⟨u, rfl, hr2, hb2⟩
    go_wp2
    go_ret
    exact ⟨_, rfl, hr2, HBB.out.trans hb2⟩
  · go_wp2_with fail
    refine (B4.out _ (HR.out.alloc _)).mono ?_
    rintro e w2 ⟨u, rfl, u0, u1, hr2, hb2⟩
    have hlt2 : w1.heap.size < w2.heap.size := by have := hb2.size; simp at this; omega
    have k0 : w2.cell? ⟨w1.heap.size, 0, none⟩ = some (.int .i64 (lo - 1)) := (hb2.cell (p := ⟨w1.heap.size, 0, none⟩) (by simp) (by simp; omega)).trans (by simp [go_sem])
    have k1 : w2.cell? ⟨w1.heap.size, 1, none⟩ = some (.int .i64 (hi + 1)) := (hb2.cell (p := ⟨w1.heap.size, 1, none⟩) (by simp) (by simp; omega)).trans (by simp [go_sem])
    obtain ⟨q2, k2⟩ : ∃ q, w2.cell? ⟨w1.heap.size, 2, none⟩ = some (.int .i64 q) := ⟨_, (hb2.cell (p := ⟨w1.heap.size, 2, none⟩) (by simp) (by simp; omega)).trans (by simp [go_sem]; rfl)⟩
    obtain ⟨q3, k3⟩ : ∃ q, w2.cell? ⟨w1.heap.size, 3, none⟩ = some (.int .i64 q) := ⟨_, (hb2.cell (p := ⟨w1.heap.size, 3, none⟩) (by simp) (by simp; omega)).trans (by simp [go_sem]; rfl)⟩
    have HB2 := hide ((HBB.out.alloc _).trans hb2)
    clear hb2
    rcases (show u = 0 ∨ u = 1 ∨ u = 2 ∨ u = 3 by omega) with rfl | rfl | rfl | rfl
    all_goals
      go_wp2
      go_ret
      exact ⟨_, rfl, hr2, HB2.out⟩

end Go.Proofs.YtggjcccdeaadbaaGreatDoor

/- The reader of drawn bytes: vec. -/
namespace Go.Proofs.YtggjcccdeaadbaaGreatDoor
open Go.RowKit
set_option maxRecDepth 8000
set_option linter.unusedSimpArgs false

theorem vals_snoc (f : Nat → Int) (k : Nat) (x : Int) : vals f k ++ [.int .i64 x] = vals (fun j => if j = k then x else f j) (k + 1) := by
  rw [vals_succ]
  congr 1
  · unfold vals
    exact List.map_congr_left fun j hj => by have := List.mem_range.1 hj; show _ = Value.int .i64 (if j = k then x else f j); rw [if_neg (by omega)]
  · simp

theorem owns_but {w wr w1 : World} {rb : Nat} {e : TypeId} {size : Nat} {v : Value} {k : Nat} {xs : List Value} (h : wr.ownsRow w.heap.size e size v k xs) (hb : But rb wr w1) (hlt : rb < w.heap.size) : w1.ownsRow w.heap.size e size v k xs := by
  refine ⟨h.1, ?_⟩
  rcases h.2 with h0 | ⟨g, cap, cur, hv, hg, hh, rest⟩
  · exact .inl h0
  · exact .inr ⟨g, cap, cur, hv, hg, (hb.block g (Array.getElem?_eq_some_iff.1 hh).1 (by omega)).trans hh, rest⟩

/-- Behind an append of one element onto what the call owns: all but the reader's block is as it was; the reader is right. -/
theorem but_app {w wr w2 : World} {rb : Nat} {o : Obj} {v : Value} {k : Nat} {e : TypeId} {size : Nat} {xs : List Value} (hb : But rb w wr) (ho : wr.ownsRow w.heap.size e size v k xs) (hg : (wr.alloc o).grownBy w2 v.ownBlock) : But rb w w2 := by
  have h1 := hb.alloc o
  refine ⟨hg.os.trans h1.os, hg.tape.trans h1.tape, hg.output.trans h1.output, Nat.le_trans h1.size hg.size, fun i hi hne => ?_⟩
  exact (hg.block i (Nat.lt_of_lt_of_le hi h1.size) (fun e => by have := (ho.lt i e.symm).1; omega)).trans (h1.block i hi hne)

theorem Rd.app {B : Nat} {w wr w2 : World} {rb : Nat} {a : Option Addr} {n c : Nat} {o : Obj} {v : Value} {k : Nat} {e : TypeId} {size : Nat} {xs : List Value} (h : Rd B wr rb a n c) (hlt : rb < w.heap.size) (hB : B ≤ w.heap.size) (ho : wr.ownsRow w.heap.size e size v k xs) (hg : (wr.alloc o).grownBy w2 v.ownBlock) : Rd B w2 rb a n c := by
  have h1 := h.alloc o
  have hs := h.lt
  refine ⟨h.from_, h.small, ?_, ?_⟩
  · obtain ⟨p, hp, he⟩ := h1.blk
    exact ⟨p, hp, (hg.block rb h1.lt (fun e => by have := (ho.lt rb e.symm).1; omega)).trans he⟩
  · rcases h1.code with h0 | ⟨b, off, e', lt, hc⟩
    · exact .inl h0
    · refine .inr ⟨b, off, e', lt, fun i hi => ?_⟩
      obtain ⟨z, z0, z1, hz⟩ := hc i hi
      exact ⟨z, z0, z1, (World.cell?_of_block (w := wr.alloc o) (a := ⟨b, off + i, none⟩) (hg.block b (show b < (wr.alloc o).heap.size by have := h.from_; simp; omega) (fun e => by have := (ho.lt b e.symm).1; omega))).trans hz⟩

def VecPost (B : Nat) (w : World) (rb : Nat) (a : Option Addr) (n c d : Nat) (e : Ending) (w' : World) : Prop :=
  ∃ (v : Value) (f : Nat → Int), e = .returned v ∧ w'.ownsRow w.heap.size 2 1 v d (vals f d) ∧ Rd B w' rb a n c ∧ But rb w w'

set_option maxHeartbeats 1000000 in
theorem vec_any (B rb n c : Nat) (a : Option Addr) (d : Nat) (w : World) (h : Rd B w rb a n c) (hB : B ≤ w.heap.size) (hd : d ≤ 100) :
    Calls Tryz.prog 47 #[.pointer (some ⟨rb, 0, none⟩), .int .i64 d] w fun e w' => VecPost B w rb a n c d e w' := by
  obtain ⟨i0, hi, hz0, hz1, hz2⟩ := info_parts Tryz.infoI64
  have HH := hide h
  have hltw := h.lt
  clear h
  go_enter Tryz.func47, Tryz.ntmps47
  go_wp2_with fail
  go_loopw [5, 6] (fun v i wr => ∃ (k : Nat) (f : Nat → Int), k ≤ d ∧ i = .int .i64 k ∧ wr.ownsRow w.heap.size 2 1 v k (vals f k) ∧ Rd B wr rb a n c ∧ But rb w wr) (fun _ i _ => d - (intOf i).toNat)
  case atStart => exact ⟨0, fun _ => 0, Nat.zero_le _, rfl, World.ownsRow_made w #[] 0 (Nat.le_refl _) (Nat.zero_le _) rfl, HH.out.alloc _, (But.refl _ _).alloc _⟩
  case round =>
    obtain ⟨k, f, hk, rfl, hown, hr, hb⟩ := hrel
    by_cases hlt : k < d
    · have C := hide (comp_any B rb n c a wr hr)
      have HO := hide hown
      have HBB := hide hb
      clear hr hb hown
      go_wp2_with fail
      refine C.out.mono ?_
      rintro e w1 ⟨x, rfl, x0, x1, hr1, hb1⟩
      have hob : w1.ownsRow w.heap.size 2 1 _ k (vals f k) := owns_but HO.out hb1 hltw
      have HO1 := hide hob
      have HB1 := hide (HBB.out.trans hb1)
      have HR1 := hide hr1
      have s1 := HB1.out.size
      clear hob hb1 hr1 HO HBB
      go_wp2_with (at_builtin; refine wpList_append_own _ rfl _ _ 24 rfl w.heap.size 2 i0 (.int .i64 0) 1 8 Tryz.underlying24 hi hz0 hz1 hz2 rfl (by decide) _ _ _ rfl (HO1.out.alloc _) ⟨_, 0, none⟩ 1 1 [.int .i64 x] rfl rfl ?c1 ?c2 ?c3 ?c4 ?c5 ?_)
      case c1 => exact one_new _ _ _
      case c2 => intro u hu; simp at hu; subst hu; rfl
      case c3 => unfold maxLen; omega
      case c4 => omega
      case c5 => simp; omega
      intro v' w2 hown2 hgrow _
      rw [vals_snoc] at hown2
      have hB2 := but_app HB1.out HO1.out hgrow
      have hR2 := HR1.out.app hltw hB HO1.out hgrow
      have HO2 := hide hown2
      have HB2 := hide hB2
      have HR2 := hide hR2
      clear hgrow hown2 hB2 hR2 HO1
      go_wp2_with fail
      go_roundw
      case rel => exact ⟨k + 1, _, by omega, by go_num, HO2.out, HR2.out, HB2.out⟩
      case measure => simp [intOf]; omega
    · have hkn : k = d := by omega
      subst hkn
      go_wp2_with fail
      go_ret
      exact ⟨_, f, rfl, hown, hr, hb⟩
end Go.Proofs.YtggjcccdeaadbaaGreatDoor

/- A slice of bytes that came in; the reader is opened over it. -/
namespace Go.Proofs.YtggjcccdeaadbaaGreatDoor
open Go.RowKit
set_option maxRecDepth 8000
set_option linter.unusedSimpArgs false

/-- A slice of bytes that came in. -/
structure Code (w : World) (a : Option Addr) (n : Nat) : Prop where
  small : n ≤ 1048576
  lies : n = 0 ∨ ∃ b off, a = some ⟨b, off, none⟩ ∧ b < w.heap.size ∧ ∀ i, i < n → ∃ z : Int, 0 ≤ z ∧ z ≤ 255 ∧ w.cell? ⟨b, off + i, none⟩ = some (.int .u8 z)

theorem Code.below {w w' : World} {a : Option Addr} {n : Nat} (h : Code w a n) (hb : Below w.heap.size w w') : Code w' a n := by
  refine ⟨h.small, ?_⟩
  rcases h.lies with h0 | ⟨b, off, e, lt, hc⟩
  · exact .inl h0
  · refine .inr ⟨b, off, e, Nat.lt_of_lt_of_le lt hb.size, fun i hi => ?_⟩
    obtain ⟨z, z0, z1, hz⟩ := hc i hi
    exact ⟨z, z0, z1, (hb.cell (p := ⟨b, off + i, none⟩) lt).trans hz⟩

def OpenPost (w : World) (a : Option Addr) (n c : Nat) (e : Ending) (w' : World) : Prop :=
  e = .returned (.pointer (some ⟨w.heap.size, 0, none⟩)) ∧ Rd w.heap.size w' w.heap.size a n c ∧ Below w.heap.size w w' ∧ w'.heap.size = w.heap.size + 1

set_option maxHeartbeats 400000 in
theorem open_any (a : Option Addr) (n c : Nat) (w : World) (h : Code w a n) :
    Calls Tryz.prog 19 #[.slice a n c] w fun e w' => OpenPost w a n c e w' := by
  have H := hide h
  clear h
  go_enter Tryz.func19, Tryz.ntmps19
  go_wp2_with fail
  go_ret
  refine ⟨rfl, ⟨Nat.le_refl _, H.out.small, ⟨0, Nat.zero_le _, heap_alloc_new w _⟩, ?_⟩, (by repeat' first | with_reducible exact Below.refl _ _ | with_reducible assumption | with_reducible refine below_drewN ?_ _ | with_reducible refine balloc ?_ _ | with_reducible refine Below.drew ?_ | with_reducible refine Below.setCell ?_ (by first | (simp; done) | (simp; omega) | omega) _ | with_reducible refine bstep ?_ (by assumption)), by simp⟩
  rcases H.out.lies with h0 | ⟨b, off, e, lt, hc⟩
  · exact .inl h0
  · refine .inr ⟨b, off, e, lt, fun i hi => ?_⟩
    obtain ⟨z, z0, z1, hz⟩ := hc i hi
    exact ⟨z, z0, z1, ((balloc (Below.refl w.heap.size w) _).cell (p := ⟨b, off + i, none⟩) lt).trans hz⟩

end Go.Proofs.YtggjcccdeaadbaaGreatDoor
