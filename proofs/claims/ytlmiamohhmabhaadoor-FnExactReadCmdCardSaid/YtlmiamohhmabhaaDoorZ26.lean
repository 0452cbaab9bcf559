/- The walk of the law FnExactReadCmd. -/
import Derived.Test.YtlmiamohhmabhaaDoorZ25
import Derived.Test.YtlmiamohhmabhaaDoorZ8
import Derived.Test.YtlmiamohhmabhaaDoorZ16
import Derived.Test.YtlmiamohhmabhaaDoorZ23
import Derived.Test.YtlmiamohhmabhaaDoorZ11
import Derived.Test.YtlmiamohhmabhaaDoorZ5
namespace Go.Proofs.YtlmiamohhmabhaaDoor
open Go.RowKit
set_option maxRecDepth 8000
set_option linter.unusedSimpArgs false
set_option linter.unusedVariables false

theorem mine_ltC {B n : Nat} {w : World} {a : Option Addr} {xs : List Int} (h : Mine B w a n xs) : ∀ b off, a = some ⟨b, off, none⟩ → b < w.heap.size := by
  intro b off e
  rcases h.lies with ⟨rfl, _⟩ | ⟨g, rfl, _, ho⟩
  · cases e
  · cases e; exact World.rowIs.lt ho

set_option maxHeartbeats 800000 in
theorem markCmd_mine (B C n cap : Nat) (va : Option Addr) (k a b c q : Int) (xs : List Int) (w : World) (hm : Mine B w va n xs) (hC : ∀ b off, va = some ⟨b, off, none⟩ → b < C) (hn : n ≤ 1048576) (hq : 0 ≤ q) (hq2 : q ≤ 100000000) :
    Calls Tryd.prog 15 #[.agg #[.int .i64 k, .int .i64 a, .int .i64 b, .int .i64 c, .slice va n cap], .int .i64 q] w fun e w' => e = .returned (.int .i64 (q + (n : Int))) ∧ Mine B w' va n (marks q n) ∧ Far B C w w' := by
  have hb : Below w.heap.size w (w.alloc (.cells #[.int .i64 k, .int .i64 a, .int .i64 b, .int .i64 c, .slice va n cap] 27)) := balloc (Below.refl _ _) _
  rcases hm.lies with ⟨rfl, h0⟩ | ⟨g, rfl, hg, ho⟩
  · subst h0
    have MM := hide (markInts_none none 0 cap q (w.alloc (.cells #[.int .i64 k, .int .i64 a, .int .i64 b, .int .i64 c, .slice none 0 cap] 27)) (by omega))
    have HB := hide hb
    clear hm hb hC
    go_enter Tryd.func15, Tryd.ntmps15
    go_wp2_with fail
    refine MM.out.mono ?_
    rintro e w1 ⟨rfl, hw⟩
    have F1 : Hid (Far B C w w1) := hide (by rw [hw]; exact .ofBelow HB.out)
    clear hw MM HB
    go_wp2_with fail
    go_ret
    exact ⟨by simp, ⟨marks_len q 0, .inl ⟨rfl, rfl⟩⟩, F1.out⟩
  · have hc := hC g 0 rfl
    have MM := hide (markInts_any g n cap q xs _ (ho.below hb) hm.len hn hq hq2)
    have HB := hide hb
    clear hm hb hC ho
    go_enter Tryd.func15, Tryd.ntmps15
    go_wp2_with fail
    refine MM.out.mono ?_
    rintro e w1 ⟨rfl, ho', hbut⟩
    have O1 := hide ho'
    have F1 := hide ((Far.ofBelow (B := B) (C := C) HB.out).trans (Far.ofBut hbut hg hc))
    clear ho' hbut
    go_wp2_with fail
    go_ret
    exact ⟨rfl, ⟨marks_len q n, .inr ⟨g, rfl, hg, O1.out⟩⟩, F1.out⟩

set_option maxHeartbeats 800000 in
theorem heldCmd_mine (B n cap : Nat) (va : Option Addr) (k a b c q : Int) (w : World) (hm : Mine B w va n (marks q n)) (hn : n ≤ 1048576) (hq : 0 ≤ q) (hq2 : q ≤ 100000000) :
    Calls Tryd.prog 16 #[.agg #[.int .i64 k, .int .i64 a, .int .i64 b, .int .i64 c, .slice va n cap], .int .i64 q] w fun e w' => e = .returned (.int .i64 (q + (n : Int))) ∧ Below w.heap.size w w' := by
  have hb : Below w.heap.size w (w.alloc (.cells #[.int .i64 k, .int .i64 a, .int .i64 b, .int .i64 c, .slice va n cap] 27)) := balloc (Below.refl _ _) _
  have M := hide (heldMine_any B n cap va q _ (hm.below hb) hn hq hq2)
  have hno : ¬ (q + (n : Int)) < 0 := by omega
  clear hm hb
  go_enter Tryd.func16, Tryd.ntmps16
  go_wp2_with fail
  refine M.out.mono ?_
  rintro e w1 ⟨rfl, hw⟩
  obtain rfl := hw.symm
  clear hw
  go_wp2_with fail
  go_ret
  exact ⟨rfl, (by repeat' first | with_reducible exact Below.refl _ _ | with_reducible assumption | with_reducible refine below_drewN ?_ _ | with_reducible refine balloc ?_ _ | with_reducible refine Below.drew ?_ | with_reducible refine Below.setCell ?_ (by first | (simp; done) | (simp; omega) | omega) _ | with_reducible refine bstep ?_ (by assumption))⟩

/-- The model's command and the program's, in their boxes. -/
structure RdK (w w2 wx : World) (b1 : Nat) (x : Cm) (a2 : Option Addr) (n2 c2 : Nat) (a : Option Addr) (n c : Nat) (ys : List Int) : Prop where
  lt0 : w2.heap.size < b1
  e0 : wx.cell? ⟨w2.heap.size, 0, none⟩ = some (.int .i64 x.k)
  e1 : wx.cell? ⟨w2.heap.size, 1, none⟩ = some (.int .i64 x.a)
  e2 : wx.cell? ⟨w2.heap.size, 2, none⟩ = some (.int .i64 x.b)
  e3 : wx.cell? ⟨w2.heap.size, 3, none⟩ = some (.int .i64 x.c)
  e4 : wx.cell? ⟨w2.heap.size, 4, none⟩ = some (.slice a2 n2 c2)
  row2 : Row w2 a2 n2 x.xs
  row : Row wx a2 n2 x.xs
  lt1 : b1 < wx.heap.size
  d0 : wx.cell? ⟨b1, 0, none⟩ = some (.int .i64 x.k)
  d1 : wx.cell? ⟨b1, 1, none⟩ = some (.int .i64 x.a)
  d2 : wx.cell? ⟨b1, 2, none⟩ = some (.int .i64 x.b)
  d3 : wx.cell? ⟨b1, 3, none⟩ = some (.int .i64 x.c)
  d4 : wx.cell? ⟨b1, 4, none⟩ = some (.slice a n c)
  mine : Mine (w2.heap.size + 1) wx a n ys
  up : ∀ b off, a = some ⟨b, off, none⟩ → b < b1
  bel : Below w.heap.size w wx
  lew : w.heap.size ≤ w2.heap.size

theorem RdK.below {w w2 wx wy : World} {b1 : Nat} {x : Cm} {a2 : Option Addr} {n2 c2 : Nat} {a : Option Addr} {n c : Nat} {ys : List Int} (h : RdK w w2 wx b1 x a2 n2 c2 a n c ys) (hb : Below wx.heap.size wx wy) : RdK w w2 wy b1 x a2 n2 c2 a n c ys :=
  have l := h.lt1
  have l0 := h.lt0
  have q : ∀ j, wy.cell? ⟨w2.heap.size, j, none⟩ = wx.cell? ⟨w2.heap.size, j, none⟩ := fun j => hb.cell (p := ⟨w2.heap.size, j, none⟩) (by show w2.heap.size < _; omega)
  have r : ∀ j, wy.cell? ⟨b1, j, none⟩ = wx.cell? ⟨b1, j, none⟩ := fun j => hb.cell (p := ⟨b1, j, none⟩) l
  ⟨h.lt0, (q 0).trans h.e0, (q 1).trans h.e1, (q 2).trans h.e2, (q 3).trans h.e3, (q 4).trans h.e4, h.row2, h.row.below hb, Nat.lt_of_lt_of_le l hb.size,
   (r 0).trans h.d0, (r 1).trans h.d1, (r 2).trans h.d2, (r 3).trans h.d3, (r 4).trans h.d4, h.mine.below hb, h.up, bstep h.bel hb, h.lew⟩

theorem RdK.far {w w2 wx wy : World} {b1 : Nat} {x : Cm} {a2 : Option Addr} {n2 c2 : Nat} {a : Option Addr} {n c : Nat} {ys zs : List Int} (h : RdK w w2 wx b1 x a2 n2 c2 a n c ys) (hf : Far (w2.heap.size + 1) b1 wx wy) (hm : Mine (w2.heap.size + 1) wy a n zs) : RdK w w2 wy b1 x a2 n2 c2 a n c zs :=
  have l := h.lt1
  have l0 := h.lt0
  have fb : Below (w2.heap.size + 1) wx wy := hf.below (Nat.le_refl _) (by omega)
  have q : ∀ j, wy.cell? ⟨w2.heap.size, j, none⟩ = wx.cell? ⟨w2.heap.size, j, none⟩ := fun j => fb.cell (p := ⟨w2.heap.size, j, none⟩) (Nat.lt_succ_self _)
  have r : ∀ j, wy.cell? ⟨b1, j, none⟩ = wx.cell? ⟨b1, j, none⟩ := fun j => World.cell?_of_block (hf.block b1 l (.inr (Nat.le_refl _)))
  ⟨h.lt0, (q 0).trans h.e0, (q 1).trans h.e1, (q 2).trans h.e2, (q 3).trans h.e3, (q 4).trans h.e4, h.row2, h.row2.belowFrom h.row fb (Nat.le_succ _), Nat.lt_of_lt_of_le l hf.size,
   (r 0).trans h.d0, (r 1).trans h.d1, (r 2).trans h.d2, (r 3).trans h.d3, (r 4).trans h.d4, hm, h.up, h.bel.trans (fb.mono (by have := h.lew; omega)), h.lew⟩

set_option maxHeartbeats 4000000 in
set_option maxRecDepth 4000 in
theorem exactReadCmd_walk (s : ByteArray) (w : World) (F : Forms w) (V : Vars w) (M : Mlen w) :
    Calls Tryd.prog 5 #[.string s] w fun e w' => e = .returned (.bool true) ∧ Below w.heap.size w w' := by
  by_cases hs : s.size ≤ 1048576
  · have SR := hide (sReadCmd_any s w hs)
    have IR := hide (fun w1 F V M => iReadCmd_any s w1 hs F V M)
    have HV := hide V
    have HM := hide M
    have HF := hide F
    clear V M F
    unfold SRdC at SR
    unfold IRdC at IR
    obtain ⟨x, hx⟩ : ∃ x, readC s.data.toList = x := ⟨_, rfl⟩
    obtain ⟨b, hb⟩ : ∃ b, rdCB s.data.toList = b := ⟨_, rfl⟩
    rw [hx, hb] at SR
    simp only [hx, hb] at IR
    clear hx hb
    have t1 : (b != b) = false := by cases b <;> rfl
    go_enter Tryd.func5, Tryd.ntmps5
    go_wp2_with fail
    refine SR.out.mono ?_
    rintro e w2 ⟨a2, n2, c2, rfl, hr2, hn2, hb2⟩
    have R2 := hide hr2
    have B2 := hide hb2
    have I2 := hide (v5_new w2 (.int .i64 x.k) (.int .i64 x.a) (.int .i64 x.b) (.int .i64 x.c) (.slice a2 n2 c2) 27)
    have B3 : Hid (Below w.heap.size w (w2.alloc (.cells #[.int .i64 x.k, .int .i64 x.a, .int .i64 x.b, .int .i64 x.c, .slice a2 n2 c2] 27))) := hide (bstep hb2 (balloc (Below.refl _ _) _))
    have L2 := hide hb2.size
    clear hr2 hb2
    go_wp2_with fail
    refine (IR.out _ (HF.out.below B3.out) (HV.out.below B3.out) (HM.out.below B3.out)).mono ?_
    rintro e w4 ⟨a, n, c, rfl, hm4, hn8, hb4⟩
    have en : n = n2 := by have e1 := hm4.len; have e2 := R2.out.len; omega
    subst en
    have I4 := hide (row_belowC (row_belowC I2.out (Below.refl _ _)) hb4)
    have L4 := hide hb4.size
    have B4 := hide (bstep B3.out hb4)
    have M4 := hide hm4
    have R5R := hide ((R2.out.below (balloc (Below.refl _ _) (.cells #[.int .i64 x.k, .int .i64 x.a, .int .i64 x.b, .int .i64 x.c, .slice a2 n c2] 27))).below hb4)
    have J5 : Hid (RdK w w2 (w4.alloc (.cells #[.int .i64 x.k, .int .i64 x.a, .int .i64 x.b, .int .i64 x.c, .slice a n c] 27)) w4.heap.size x a2 n c2 a n c x.xs) := hide (by
      have nb : Below w4.heap.size w4 (w4.alloc (.cells #[.int .i64 x.k, .int .i64 x.a, .int .i64 x.b, .int .i64 x.c, .slice a n c] 27)) := balloc (Below.refl _ _) _
      have I5 := row_belowC I4.out nb
      obtain ⟨_, i0, i1, i2, i3, i4, _⟩ := v5_facts I5
      have l4 : w2.heap.size < w4.heap.size := World.rowIs.lt I4.out
      have R5 : Row (w4.alloc (.cells #[.int .i64 x.k, .int .i64 x.a, .int .i64 x.b, .int .i64 x.c, .slice a n c] 27)) a2 n x.xs := R5R.out.below nb
      exact ⟨l4, i0, i1, i2, i3, i4, R2.out, R5, by simp, by simp, by simp, by simp, by simp, by simp, (by simpa using M4.out : Mine (w2.heap.size + 1) w4 a n x.xs).below nb, mine_ltC M4.out, bstep B4.out nb, L2.out⟩)
    have hl : x.xs.length = n := M4.out.len
    have HLN := hide hl
    clear hm4 hb4 I2 I4 B3 B4 M4 hl L4 R5R
    have EQ := hide (eqCmd_self x.k x.a x.b x.c a n c x.xs a2 c2 _ J5.out.mine.row J5.out.row (by omega))
    obtain ⟨_, e0, e1, e2, e3, e4, _, _, _, d0, d1, d2, d3, d4, _, _, _, _⟩ := J5.out
    go_wp2_with fail
    refine EQ.out.mono ?_
    rintro e w6 ⟨rfl, hb6⟩
    have J6 := hide (J5.out.below hb6)
    clear EQ J5 hb6 e0 e1 e2 e3 e4 d0 d1 d2 d3 d4
    obtain ⟨_, e0, e1, e2, e3, e4, _, _, _, d0, d1, d2, d3, d4, _, _, _, _⟩ := J6.out
    go_wp2_with fail
    refine (markCmd_mine (w2.heap.size + 1) w4.heap.size n c a x.k x.a x.b x.c 1 x.xs w6 J6.out.mine J6.out.up (by omega) (by omega) (by omega)).mono ?_
    rintro e w7 ⟨rfl, hm7, hf7⟩
    have J7 := hide (J6.out.far hf7 hm7)
    have F7 := hide (HF.out.below J7.out.bel)
    have V7 := hide (HV.out.below J7.out.bel)
    have M7 := hide (HM.out.below J7.out.bel)
    clear J6 hm7 hf7 e0 e1 e2 e3 e4 d0 d1 d2 d3 d4
    obtain ⟨_, e0, e1, e2, e3, e4, _, _, _, d0, d1, d2, d3, d4, _, _, _, _⟩ := J7.out
    go_wp2_with fail
    refine (heldCmd_mine (w2.heap.size + 1) n c a x.k x.a x.b x.c 1 w7 J7.out.mine (by omega) (by omega) (by omega)).mono ?_
    rintro e w8 ⟨rfl, hb8⟩
    have J8 := hide (J7.out.below hb8)
    have F8 := hide (HF.out.below J8.out.bel)
    have V8 := hide (HV.out.below J8.out.bel)
    have M8 := hide (HM.out.below J8.out.bel)
    have hne : ((1 : Int) + (n : Int) != 1 + (n : Int)) = false := by simp
    have hno : ¬ ((1 : Int) + (n : Int)) < 0 := by omega
    clear J7 hb8 e0 e1 e2 e3 e4 d0 d1 d2 d3 d4 V7 M7 F7
    go_wp2_with fail
    refine (IR.out w8 F8.out V8.out M8.out).mono ?_
    rintro e w9 ⟨a9, n9, c9, rfl, hm9, hn9, hb9⟩
    have en : n = n9 := by have e1 := hm9.len; have e2 := HLN.out; omega
    subst en
    have J9 := hide (J8.out.below hb9)
    have I9 := hide (v5_new w9 (.int .i64 x.k) (.int .i64 x.a) (.int .i64 x.b) (.int .i64 x.c) (.slice a9 n c9) 27)
    have nb9 := balloc (Below.refl w9.heap.size w9) (.cells #[.int .i64 x.k, .int .i64 x.a, .int .i64 x.b, .int .i64 x.c, .slice a9 n c9] 27)
    have J10 := hide (J9.out.below nb9)
    have R9 := hide (hm9.row.below nb9)
    clear J8 J9 hb9 nb9 hm9 V8 M8 F8
    have EQ := hide (eqCmd_self x.k x.a x.b x.c a9 n c9 x.xs a2 c2 _ R9.out J10.out.row (by omega))
    obtain ⟨_, e0, e1, e2, e3, e4, _, _, _, d0, d1, d2, d3, d4, _, _, _, _⟩ := J10.out
    obtain ⟨_, y0, y1, y2, y3, y4, _⟩ := v5_facts I9.out
    go_wp2_with fail
    refine EQ.out.mono ?_
    rintro e w11 ⟨rfl, hb11⟩
    have J11 := hide (J10.out.below hb11)
    clear EQ J10 I9 hb11 e0 e1 e2 e3 e4 d0 d1 d2 d3 d4 y0 y1 y2 y3 y4 R9
    obtain ⟨_, e0, e1, e2, e3, e4, _, _, _, d0, d1, d2, d3, d4, _, _, _, _⟩ := J11.out
    go_wp2_with fail
    refine (heldCmd_mine (w2.heap.size + 1) n c a x.k x.a x.b x.c 1 w11 J11.out.mine (by omega) (by omega) (by omega)).mono ?_
    rintro e w12 ⟨rfl, hb12⟩
    have J12 := hide (J11.out.below hb12)
    clear J11 hb12 e0 e1 e2 e3 e4 d0 d1 d2 d3 d4
    go_wp2_with fail
    go_ret
    exact ⟨rfl, J12.out.bel⟩
  · have hn' : (1048576 : Int) < s.size := by omega
    go_enter Tryd.func5, Tryd.ntmps5
    go_wp2
    go_ret
    exact ⟨rfl, (by repeat' first | with_reducible exact Below.refl _ _ | with_reducible assumption | with_reducible refine below_drewN ?_ _ | with_reducible refine balloc ?_ _ | with_reducible refine Below.drew ?_ | with_reducible refine Below.setCell ?_ (by first | (simp; done) | (simp; omega) | omega) _ | with_reducible refine bstep ?_ (by assumption))⟩
end Go.Proofs.YtlmiamohhmabhaaDoor
