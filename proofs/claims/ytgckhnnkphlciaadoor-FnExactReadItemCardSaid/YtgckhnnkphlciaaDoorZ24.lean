/- The walk of the law FnExactReadItem. -/
import Derived.Test.YtgckhnnkphlciaaDoorZ23
import Derived.Test.YtgckhnnkphlciaaDoorZ22
import Derived.Test.YtgckhnnkphlciaaDoorZ9
import Derived.Test.YtgckhnnkphlciaaDoorZ4
namespace Go.Proofs.YtgckhnnkphlciaaDoor
open Go.RowKit
set_option maxRecDepth 8000
set_option linter.unusedSimpArgs false
set_option linter.unusedVariables false

set_option maxHeartbeats 800000 in
theorem markItem_mine (B C n cap : Nat) (a : Option Addr) (i t q : Int) (xs : List Int) (w : World) (hm : Mine B w a n xs) (hC : ∀ b off, a = some ⟨b, off, none⟩ → b < C) (hn : n ≤ 1048576) (hq : 0 ≤ q) (hq2 : q ≤ 100000000) :
    Calls Tryd.prog 14 #[.agg #[.int .i64 i, .int .i64 t, .slice a n cap], .int .i64 q] w fun e w' => e = .returned (.int .i64 (q + (n : Int))) ∧ Mine B w' a n (marks q n) ∧ Far B C w w' := by
  have hb : Below w.heap.size w (w.alloc (.cells #[.int .i64 i, .int .i64 t, .slice a n cap] 27)) := balloc (Below.refl _ _) _
  rcases hm.lies with ⟨rfl, h0⟩ | ⟨g, rfl, hg, ho⟩
  · subst h0
    have MM := hide (markInts_none none 0 cap q (w.alloc (.cells #[.int .i64 i, .int .i64 t, .slice none 0 cap] 27)) (by omega))
    have HB := hide hb
    clear hm hb hC
    go_enter Tryd.func14, Tryd.ntmps14
    go_wp2_with fail
    refine MM.out.mono ?_
    rintro e w1 ⟨rfl, hw⟩
    have F1 : Hid (Far B C w w1) := hide (by rw [hw]; exact .ofBelow HB.out)
    clear hw MM HB
    go_wp2_with fail
    go_ret
    exact ⟨by simp, ⟨marks_len q 0, .inl ⟨rfl, rfl⟩⟩, F1.out⟩
  · have hc := hC g 0 rfl
    have MM := hide (markInts_any g n cap q xs _ (ho.below hb) hm.len hn hq hq2)
    have HB := hide hb
    clear hm hb hC ho
    go_enter Tryd.func14, Tryd.ntmps14
    go_wp2_with fail
    refine MM.out.mono ?_
    rintro e w1 ⟨rfl, ho', hbut⟩
    have O1 := hide ho'
    have F1 := hide ((Far.ofBelow (B := B) (C := C) HB.out).trans (Far.ofBut hbut hg hc))
    clear ho' hbut
    go_wp2_with fail
    go_ret
    exact ⟨rfl, ⟨marks_len q n, .inr ⟨g, rfl, hg, O1.out⟩⟩, F1.out⟩

set_option maxHeartbeats 800000 in
theorem heldItem_mine (B n cap : Nat) (a : Option Addr) (i t q : Int) (w : World) (hm : Mine B w a n (marks q n)) (hn : n ≤ 1048576) (hq : 0 ≤ q) (hq2 : q ≤ 100000000) :
    Calls Tryd.prog 15 #[.agg #[.int .i64 i, .int .i64 t, .slice a n cap], .int .i64 q] w fun e w' => e = .returned (.int .i64 (q + (n : Int))) ∧ Below w.heap.size w w' := by
  have hb : Below w.heap.size w (w.alloc (.cells #[.int .i64 i, .int .i64 t, .slice a n cap] 27)) := balloc (Below.refl _ _) _
  have M := hide (heldMine_any B n cap a q _ (hm.below hb) hn hq hq2)
  have hno : ¬ (q + (n : Int)) < 0 := by omega
  clear hm hb
  go_enter Tryd.func15, Tryd.ntmps15
  go_wp2_with fail
  refine M.out.mono ?_
  rintro e w1 ⟨rfl, hw⟩
  obtain rfl := hw.symm
  clear hw
  go_wp2_with fail
  go_ret
  exact ⟨rfl, (by repeat' first | with_reducible exact Below.refl _ _ | with_reducible assumption | with_reducible refine below_drewN ?_ _ | with_reducible refine balloc ?_ _ | with_reducible refine Below.drew ?_ | with_reducible refine Below.setCell ?_ (by first | (simp; done) | (simp; omega) | omega) _ | with_reducible refine bstep ?_ (by assumption))⟩

/-- The model's item and the program's, in their boxes. -/
structure RdJ (w w2 wx : World) (b1 : Nat) (x : It) (a2 : Option Addr) (n2 c2 : Nat) (a : Option Addr) (n c : Nat) (ys : List Int) : Prop where
  lt0 : w2.heap.size < b1
  e0 : wx.cell? ⟨w2.heap.size, 0, none⟩ = some (.int .i64 x.id)
  e1 : wx.cell? ⟨w2.heap.size, 1, none⟩ = some (.int .i64 x.tags)
  e2 : wx.cell? ⟨w2.heap.size, 2, none⟩ = some (.slice a2 n2 c2)
  row2 : Row w2 a2 n2 x.vec
  row : Row wx a2 n2 x.vec
  lt1 : b1 < wx.heap.size
  d0 : wx.cell? ⟨b1, 0, none⟩ = some (.int .i64 x.id)
  d1 : wx.cell? ⟨b1, 1, none⟩ = some (.int .i64 x.tags)
  d2 : wx.cell? ⟨b1, 2, none⟩ = some (.slice a n c)
  mine : Mine (w2.heap.size + 1) wx a n ys
  up : ∀ b off, a = some ⟨b, off, none⟩ → b < b1
  bel : Below w.heap.size w wx
  lew : w.heap.size ≤ w2.heap.size

theorem RdJ.below {w w2 wx wy : World} {b1 : Nat} {x : It} {a2 : Option Addr} {n2 c2 : Nat} {a : Option Addr} {n c : Nat} {ys : List Int} (h : RdJ w w2 wx b1 x a2 n2 c2 a n c ys) (hb : Below wx.heap.size wx wy) : RdJ w w2 wy b1 x a2 n2 c2 a n c ys :=
  have l := h.lt1
  have l0 := h.lt0
  ⟨h.lt0, (hb.cell (p := ⟨w2.heap.size, 0, none⟩) (by show w2.heap.size < _; omega)).trans h.e0, (hb.cell (p := ⟨w2.heap.size, 1, none⟩) (by show w2.heap.size < _; omega)).trans h.e1, (hb.cell (p := ⟨w2.heap.size, 2, none⟩) (by show w2.heap.size < _; omega)).trans h.e2, h.row2, h.row.below hb, Nat.lt_of_lt_of_le l hb.size,
   (hb.cell (p := ⟨b1, 0, none⟩) l).trans h.d0, (hb.cell (p := ⟨b1, 1, none⟩) l).trans h.d1, (hb.cell (p := ⟨b1, 2, none⟩) l).trans h.d2, h.mine.below hb, h.up, bstep h.bel hb, h.lew⟩

theorem RdJ.far {w w2 wx wy : World} {b1 : Nat} {x : It} {a2 : Option Addr} {n2 c2 : Nat} {a : Option Addr} {n c : Nat} {ys zs : List Int} (h : RdJ w w2 wx b1 x a2 n2 c2 a n c ys) (hf : Far (w2.heap.size + 1) b1 wx wy) (hm : Mine (w2.heap.size + 1) wy a n zs) : RdJ w w2 wy b1 x a2 n2 c2 a n c zs :=
  have l := h.lt1
  have l0 := h.lt0
  have fb : Below (w2.heap.size + 1) wx wy := hf.below (Nat.le_refl _) (by omega)
  ⟨h.lt0, (fb.cell (p := ⟨w2.heap.size, 0, none⟩) (Nat.lt_succ_self _)).trans h.e0, (fb.cell (p := ⟨w2.heap.size, 1, none⟩) (Nat.lt_succ_self _)).trans h.e1, (fb.cell (p := ⟨w2.heap.size, 2, none⟩) (Nat.lt_succ_self _)).trans h.e2, h.row2, h.row2.belowFrom h.row fb (Nat.le_succ _), Nat.lt_of_lt_of_le l hf.size,
   (World.cell?_of_block (hf.block b1 l (.inr (Nat.le_refl _)))).trans h.d0, (World.cell?_of_block (hf.block b1 l (.inr (Nat.le_refl _)))).trans h.d1, (World.cell?_of_block (hf.block b1 l (.inr (Nat.le_refl _)))).trans h.d2, hm, h.up, h.bel.trans (fb.mono (by have := h.lew; omega)), h.lew⟩

theorem mine_lt {B n : Nat} {w : World} {a : Option Addr} {xs : List Int} (h : Mine B w a n xs) : ∀ b off, a = some ⟨b, off, none⟩ → b < w.heap.size := by
  intro b off e
  rcases h.lies with ⟨rfl, _⟩ | ⟨g, rfl, _, ho⟩
  · cases e
  · cases e; exact World.rowIs.lt ho

set_option maxHeartbeats 4000000 in
theorem exactReadItem_walk (s : ByteArray) (w : World) (V : Vars w) (M : Mlen w) :
    Calls Tryd.prog 4 #[.string s] w fun e w' => e = .returned (.bool true) ∧ Below w.heap.size w w' := by
  by_cases hs : s.size ≤ 1048576
  · have SR := hide (sReadItem_any s w hs)
    have IR := hide (fun w1 V M => iReadItem_any s w1 hs V M)
    have HV := hide V
    have HM := hide M
    clear V M
    unfold SReadI at SR
    unfold IReadI at IR
    obtain ⟨x, hx⟩ : ∃ x, rdItem s.data.toList = x := ⟨_, rfl⟩
    obtain ⟨b, hb⟩ : ∃ b, rdItB s.data.toList = b := ⟨_, rfl⟩
    rw [hx, hb] at SR
    simp only [hx, hb] at IR
    clear hx hb
    have t1 : (b != b) = false := by cases b <;> rfl
    go_enter Tryd.func4, Tryd.ntmps4
    go_wp2_with fail
    refine SR.out.mono ?_
    rintro e w2 ⟨a2, n2, c2, rfl, hr2, hn2, hb2⟩
    have R2 := hide hr2
    have B2 := hide hb2
    have I2 := hide (IQ.new w2 x a2 n2 c2 27 hr2)
    have B3 : Hid (Below w.heap.size w (w2.alloc (.cells #[.int .i64 x.id, .int .i64 x.tags, .slice a2 n2 c2] 27))) := hide (bstep hb2 (balloc (Below.refl _ _) _))
    have L2 := hide hb2.size
    clear hr2 hb2
    go_wp2_with fail
    refine (IR.out _ (HV.out.below B3.out) (HM.out.below B3.out)).mono ?_
    rintro e w4 ⟨a, n, c, rfl, hm4, hn8, hb4⟩
    have I4 := hide (I2.out.below hb4)
    have B4 := hide (bstep B3.out hb4)
    have M4 := hide hm4
    have J5 : Hid (RdJ w w2 (w4.alloc (.cells #[.int .i64 x.id, .int .i64 x.tags, .slice a n c] 27)) w4.heap.size x a2 n2 c2 a n c x.vec) := hide (by
      have nb : Below w4.heap.size w4 (w4.alloc (.cells #[.int .i64 x.id, .int .i64 x.tags, .slice a n c] 27)) := balloc (Below.refl _ _) _
      have I5 := I4.out.below nb
      exact ⟨I4.out.lt, I5.c0, I5.c1, I5.c2, R2.out, I5.row, by simp, by simp, by simp, by simp, (by simpa using M4.out : Mine (w2.heap.size + 1) w4 a n x.vec).below nb, mine_lt M4.out, bstep B4.out nb, L2.out⟩)
    have hl : x.vec.length = n := M4.out.len
    have HLN := hide hl
    clear hm4 hb4 I2 I4 B3 B4 M4 hl
    have EQ := hide (eqItem_self x a a2 n n2 c c2 _ J5.out.mine.row J5.out.row (by omega))
    obtain ⟨_, e0, e1, e2, _, _, _, d0, d1, d2, _, _, _, _⟩ := J5.out
    go_wp2_with fail
    refine EQ.out.mono ?_
    rintro e w6 ⟨rfl, hb6⟩
    have J6 := hide (J5.out.below hb6)
    clear EQ J5 hb6 e0 e1 e2 d0 d1 d2
    obtain ⟨_, e0, e1, e2, _, _, _, d0, d1, d2, _, _, _, _⟩ := J6.out
    go_wp2_with fail
    refine (markItem_mine (w2.heap.size + 1) w4.heap.size n c a x.id x.tags 1 x.vec w6 J6.out.mine J6.out.up (by omega) (by omega) (by omega)).mono ?_
    rintro e w7 ⟨rfl, hm7, hf7⟩
    have J7 := hide (J6.out.far hf7 hm7)
    have V7 := hide (HV.out.below J7.out.bel)
    have M7 := hide (HM.out.below J7.out.bel)
    clear J6 hm7 hf7 e0 e1 e2 d0 d1 d2
    obtain ⟨_, e0, e1, e2, _, _, _, d0, d1, d2, _, _, _, _⟩ := J7.out
    go_wp2_with fail
    refine (heldItem_mine (w2.heap.size + 1) n c a x.id x.tags 1 w7 J7.out.mine (by omega) (by omega) (by omega)).mono ?_
    rintro e w8 ⟨rfl, hb8⟩
    have J8 := hide (J7.out.below hb8)
    have V8 := hide (HV.out.below J8.out.bel)
    have M8 := hide (HM.out.below J8.out.bel)
    have hne : ((1 : Int) + (n : Int) != 1 + (n : Int)) = false := by simp
    have hno : ¬ ((1 : Int) + (n : Int)) < 0 := by omega
    clear J7 hb8 e0 e1 e2 d0 d1 d2 V7 M7
    go_wp2_with fail
    refine (IR.out w8 V8.out M8.out).mono ?_
    rintro e w9 ⟨a9, n9, c9, rfl, hm9, hn9, hb9⟩
    have J9 := hide (J8.out.below hb9)
    have I9 := hide (IQ.new w9 x a9 n9 c9 27 hm9.row)
    have J10 := hide (J9.out.below I9.out.bel)
    clear J8 J9 hb9 hm9 V8 M8
    have EQ := hide (eqItem_self x a9 a2 n9 n2 c9 c2 _ I9.out.row J10.out.row (by omega))
    obtain ⟨_, e0, e1, e2, _, _, _, d0, d1, d2, _, _, _, _⟩ := J10.out
    obtain ⟨_, y0, y1, y2, _, _⟩ := I9.out
    go_wp2_with fail
    refine EQ.out.mono ?_
    rintro e w11 ⟨rfl, hb11⟩
    have J11 := hide (J10.out.below hb11)
    clear EQ J10 I9 hb11 e0 e1 e2 d0 d1 d2 y0 y1 y2
    obtain ⟨_, e0, e1, e2, _, _, _, d0, d1, d2, _, _, _, _⟩ := J11.out
    go_wp2_with fail
    refine (heldItem_mine (w2.heap.size + 1) n c a x.id x.tags 1 w11 J11.out.mine (by omega) (by omega) (by omega)).mono ?_
    rintro e w12 ⟨rfl, hb12⟩
    have J12 := hide (J11.out.below hb12)
    clear J11 hb12 e0 e1 e2 d0 d1 d2
    go_wp2_with fail
    go_ret
    exact ⟨rfl, J12.out.bel⟩
  · have hn' : (1048576 : Int) < s.size := by omega
    go_enter Tryd.func4, Tryd.ntmps4
    go_wp2
    go_ret
    exact ⟨rfl, (by repeat' first | with_reducible exact Below.refl _ _ | with_reducible assumption | with_reducible refine below_drewN ?_ _ | with_reducible refine balloc ?_ _ | with_reducible refine Below.drew ?_ | with_reducible refine Below.setCell ?_ (by first | (simp; done) | (simp; omega) | omega) _ | with_reducible refine bstep ?_ (by assumption))⟩
end Go.Proofs.YtgckhnnkphlciaaDoor
