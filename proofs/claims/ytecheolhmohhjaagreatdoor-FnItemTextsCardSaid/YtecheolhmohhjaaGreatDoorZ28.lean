/- Drawn items and texts of items: DrawItemText, DrawReadItem. -/
import Derived.Test.YtecheolhmohhjaaGreatDoorZ18
import Derived.Test.YtecheolhmohhjaaGreatDoorZ22
import Derived.Test.YtecheolhmohhjaaGreatDoorZ27
import Derived.Test.YtecheolhmohhjaaGreatDoorZ10
import Derived.Test.YtecheolhmohhjaaGreatDoorZ26
import Derived.Test.YtecheolhmohhjaaGreatDoorZ11
import Derived.Test.YtecheolhmohhjaaGreatDoorZ15
namespace Go.Proofs.YtecheolhmohhjaaGreatDoor
open Go.RowKit
set_option maxRecDepth 8000
set_option linter.unusedSimpArgs false
set_option linter.unusedVariables false

/-- A drawn item. -/
def DrawI (w : World) (e : Ending) (w' : World) : Prop :=
  ∃ (x : It) (a2 : Option Addr) (n2 c2 : Nat), e = .returned (.agg #[.int .i64 x.id, .int .i64 x.tags, .slice a2 n2 c2]) ∧ Row w' a2 n2 x.vec ∧ n2 ≤ 200 ∧ Below w.heap.size w w'

set_option maxHeartbeats 4000000 in
theorem drawItemText_any (a : Option Addr) (n c : Nat) (w : World) (h : Code w a n) :
    Calls Tryz.prog 5 #[.slice a n c] w fun e w' => DrawI w e w' := by
  have hb0 : Below w.heap.size w (w.alloc (.cells #[.int .i64 0, .int .i64 0, .slice none 0 0] 26)) := balloc (Below.refl _ _) _
  have O := hide (open_any a n c _ (h.below hb0))
  have Z0 := hide (v3_new w (.int .i64 0) (.int .i64 0) (.slice none 0 0) 26)
  have B0 := hide hb0
  clear h hb0
  go_enter Tryz.func5, Tryz.ntmps5
  go_wp2_with fail
  refine O.out.mono ?_
  rintro e w1 ⟨rfl, hr1, hb1, hs1⟩
  have Z1 := hide (Z0.out.of_block (hb1.block _ (World.rowIs.lt Z0.out)))
  have B1 := hide (bstep B0.out hb1)
  have R1 := hide hr1
  clear hr1 hb1 O Z0
  simp only [World.size_alloc] at R1 hs1 ⊢
  go_wp2_with fail
  refine (below_any _ _ n c a 4 w1 R1.out (by omega) (by omega)).mono ?_
  rintro e w2 ⟨v, rfl, v0, v1, hr2, hb2⟩
  obtain ⟨d, hd⟩ : ∃ d : Nat, 1 + v = (d : Int) := ⟨(1 + v).toNat, by omega⟩
  have Z2 := hide (Z1.out.of_block (hb2.block _ (World.rowIs.lt Z1.out) (by omega)))
  have B2 := hide (B1.out.trans (hb2.below (B := w.heap.size) (by omega) (by omega)))
  have R2 := hide hr2
  have s2 := hb2.size
  clear hr2 hb2 R1 Z1 B1 B0
  go_wp2_with fail
  refine (item_any _ _ n c a d w2 R2.out (by omega) (by omega) (by omega)).mono ?_
  rintro e w3 ⟨i, t, g, k, f, rfl, ho3, hr3, hb3⟩
  have O3 := hide ho3
  have R3 := hide hr3
  have T3 := hide hb3
  have s3 := hb3.size
  clear hr3 hb3 ho3 R2
  go_wp2_with fail
  refine (hurtItem_any _ _ n c a i t d k g f w2 w3 R3.out (by omega) (by omega) T3.out (by omega) (by omega) O3.out).mono ?_
  rintro e w4 ⟨i4, t4, v4, d4, f4, rfl, hd4, ho4, hr4, hb4, _⟩
  obtain ⟨a4, c4, rfl, row4, fr4⟩ := row_of_owns ho4
  have Z4 := hide (Z2.out.of_block (hb4.block _ (World.rowIs.lt Z2.out) (by omega)))
  have B4 := hide (B2.out.trans (hb4.below (B := w.heap.size) (by omega) (by omega)))
  have W4 := hide row4
  have F4 : Hid (∀ b off, a4 = some ⟨b, off, none⟩ → b ≠ w.heap.size) := hide fun b off e => by have := fr4 b off e; omega
  clear hr4 hb4 ho4 row4 fr4 Z2 B2 R3 T3 O3
  have lr := World.rowIs.lt Z4.out
  have d0 := World.rowIs.cell Z4.out (show 0 < 3 by omega)
  have d1 := World.rowIs.cell Z4.out (show 1 < 3 by omega)
  have d2 := World.rowIs.cell Z4.out (show 2 < 3 by omega)
  have k0 := World.rowIs.frozen Z4.out 0
  have k1 := World.rowIs.frozen Z4.out 1
  have k2 := World.rowIs.frozen Z4.out 2
  go_wp2_with fail
  obtain ⟨s0, s1, s2⟩ := three_set Z4.out (.int .i64 i4) (.int .i64 t4) (.slice a4 d4 c4)
  exact bodyPost_ret (v := .agg #[.int .i64 i4, .int .i64 t4, .slice a4 d4 c4]) (by simp [results, Tryz.results5, go_sem, s0, s1, s2]) rfl ⟨⟨i4, t4, ints f4 d4⟩, a4, d4, c4, rfl, (But.set3 _ _ _ _ _).row W4.out F4.out, hd4, set3_bel B4.out _ _ _⟩

/-- A drawn text. -/
def DrawJ (w : World) (e : Ending) (w' : World) : Prop := ∃ t : ByteArray, e = .returned (.string t) ∧ t.size ≤ 1000 ∧ Below w.heap.size w w'

theorem itemTB_len (x : It) : (bs (itemTB x)).size ≤ 120 := by
  rw [bs_size]
  unfold itemTB
  cases h : itemB x.vec.length x
  · simp
  · obtain ⟨a1, a2, a3, a4, hv⟩ := item_parts h
    obtain ⟨⟨n1, n8⟩, hm⟩ := vecOk_mem hv
    have i1 := itoa17 (x := x.id) (by omega) (by omega)
    have i2 := itoa17 (x := x.tags) (by omega) (by omega)
    have vl := vecT_len9 _ x.vec rfl hm
    rw [if_pos rfl]
    unfold itemT
    simp
    omega

theorem eight (v : Int) (h0 : 0 ≤ v) (h1 : v ≤ 7) : v = 0 ∨ v = 1 ∨ v = 2 ∨ v = 3 ∨ v = 4 ∨ v = 5 ∨ v = 6 ∨ v = 7 := by omega

set_option maxHeartbeats 4000000 in
set_option maxRecDepth 8000 in
theorem drawReadItem_any (a : Option Addr) (n c : Nat) (w : World) (h : Code w a n) :
    Calls Tryz.prog 7 #[.slice a n c] w fun e w' => DrawJ w e w' := by
  have O := hide (open_any a n c w h)
  clear h
  go_enter Tryz.func7, Tryz.ntmps7
  go_wp2_with fail
  refine O.out.mono ?_
  rintro e w1 ⟨rfl, hr1, hb1, hs1⟩
  go_wp2_with fail
  refine (below_any _ _ n c a 4 w1 hr1 (by omega) (by omega)).mono ?_
  rintro e w2 ⟨v, rfl, v0, v1, hr2, hb2⟩
  obtain ⟨d, hd⟩ : ∃ d : Nat, 1 + v = (d : Int) := ⟨(1 + v).toNat, by omega⟩
  have s2 := hb2.size
  have R2 := hide hr2
  have B2 := hide (hb1.trans (hb2.below (Nat.le_refl _) (by omega)))
  clear hr1 hb1 hb2 hr2 O
  go_wp2_with fail
  refine (item_any _ _ n c a d w2 R2.out (by omega) (by omega) (by omega)).mono ?_
  rintro e w3 ⟨i, t, g, k, f, rfl, ho3, hr3, hb3⟩
  obtain ⟨a3, c3, e3, row3, _⟩ := row_of_owns ho3
  have R3 := hide hr3
  have B3 := hide (B2.out.trans (hb3.below (Nat.le_refl _) (by omega)))
  have s3 := hb3.size
  cases e3
  clear hr3 hb3 ho3 R2 B2
  have ST := hide (sItemText_any ⟨i, t, ints f d⟩ (some ⟨g, 0, none⟩) d k w3 row3 (by omega))
  clear row3
  go_wp2_with fail
  refine ST.out.mono ?_
  rintro e w6 ⟨rfl, hb6⟩
  have R6 := hide (R3.out.stays hb6)
  have B6 := hide (bstep B3.out hb6)
  have s6 := hb6.size
  have sl := itemTB_len ⟨i, t, ints f d⟩
  obtain ⟨S, hS⟩ : ∃ S, bs (itemTB ⟨i, t, ints f d⟩) = S := ⟨_, rfl⟩
  rw [hS] at sl
  rw [hS]
  clear hS hb6 B3 R3 ST
  go_wp2_with fail
  refine (below_any _ _ n c a 5 w6 R6.out (by omega) (by omega)).mono ?_
  rintro e w7 ⟨x, rfl, x0, x1, hr7, hb7⟩
  have R7 := hide hr7
  have B7 := hide (B6.out.trans (hb7.below (Nat.le_refl _) (by omega)))
  have s7 := hb7.size
  clear hr7 hb7 R6 B6
  have hD : x = 0 ∨ x = 1 ∨ ((x == 0) = false ∧ (x == 1) = false) := by
    simp only [beq_eq_false_iff_ne]; omega
  rcases hD with rfl | rfl | ⟨q0, q1⟩
  · go_wp2_with fail
    refine (hurtStr_any _ _ n c a S w7 R7.out (by omega) (by omega)).mono ?_
    rintro e w8 ⟨t, rfl, ht, hr8, hb8⟩
    have B8 := hide (B7.out.trans (hb8.below (Nat.le_refl _) (by omega)))
    clear hr8 hb8
    go_wp2_with fail
    go_ret
    exact ⟨_, rfl, by omega, B8.out⟩
  · go_wp2_with fail
    refine (below_any _ _ n c a 8 _ (R7.out.alloc _) (by omega) (by omega)).mono ?_
    rintro e w8 ⟨y, rfl, y0, y1, hr8, hb8⟩
    have B8 := hide ((balloc B7.out (_)).trans (hb8.below (Nat.le_refl _) (by simp; omega)))
    have ne : ¬ w7.heap.size = w.heap.size := by omega
    clear hr8
    rcases eight y y0 (by omega) with rfl | rfl | rfl | rfl | rfl | rfl | rfl | rfl
    · have z := hb8.cell (p := ⟨w7.heap.size, 0, none⟩) (by simp) ne
      simp at z
      clear hb8
      go_wp2_with fail
      go_ret
      exact ⟨_, rfl, by decide, B8.out⟩
    · have z := hb8.cell (p := ⟨w7.heap.size, 1, none⟩) (by simp) ne
      simp at z
      clear hb8
      go_wp2_with fail
      go_ret
      exact ⟨_, rfl, by decide, B8.out⟩
    · have z := hb8.cell (p := ⟨w7.heap.size, 2, none⟩) (by simp) ne
      simp at z
      clear hb8
      go_wp2_with fail
      go_ret
      exact ⟨_, rfl, by decide, B8.out⟩
    · have z := hb8.cell (p := ⟨w7.heap.size, 3, none⟩) (by simp) ne
      simp at z
      clear hb8
      go_wp2_with fail
      go_ret
      exact ⟨_, rfl, by decide, B8.out⟩
    · have z := hb8.cell (p := ⟨w7.heap.size, 4, none⟩) (by simp) ne
      simp at z
      clear hb8
      go_wp2_with fail
      go_ret
      exact ⟨_, rfl, by decide, B8.out⟩
    · have z := hb8.cell (p := ⟨w7.heap.size, 5, none⟩) (by simp) ne
      simp at z
      clear hb8
      go_wp2_with fail
      go_ret
      exact ⟨_, rfl, by decide, B8.out⟩
    · have z := hb8.cell (p := ⟨w7.heap.size, 6, none⟩) (by simp) ne
      simp at z
      clear hb8
      go_wp2_with fail
      go_ret
      exact ⟨_, rfl, by decide, B8.out⟩
    · have z := hb8.cell (p := ⟨w7.heap.size, 7, none⟩) (by simp) ne
      simp at z
      clear hb8
      go_wp2_with fail
      go_ret
      exact ⟨_, rfl, by decide, B8.out⟩
  · go_wp2_with fail
    go_ret
    exact ⟨_, rfl, by omega, B7.out⟩
end Go.Proofs.YtecheolhmohhjaaGreatDoor

/- The walk of the law FnItemTexts. -/
namespace Go.Proofs.YtecheolhmohhjaaGreatDoor
open Go.RowKit
set_option maxRecDepth 8000
set_option linter.unusedSimpArgs false
set_option linter.unusedVariables false

/-- An item's text is read as that item. -/
theorem item_read (x : It) : rdItB (itemTB x) = itemB x.vec.length x ∧ (itemB x.vec.length x = true → rdItem (itemTB x) = x ∧ itemTB x ≠ []) ∧ (itemB x.vec.length x = false → itemTB x = [] ∧ rdItem (itemTB x) = ⟨0, 0, []⟩) := by
  cases h : itemB x.vec.length x
  · have e : itemTB x = [] := by unfold itemTB; rw [h]; rfl
    have r : rdItB [] = false := rfl
    rw [e]
    exact ⟨r, fun q => (by cases q), fun _ => ⟨rfl, by unfold rdItem; rw [r]; rfl⟩⟩
  · have e : itemTB x = itemT x := by unfold itemTB; rw [h, if_pos rfl]
    obtain ⟨a1, a2, a3, a4, hv⟩ := item_parts h
    obtain ⟨c1, c2, c3⟩ := itemT_cuts (x := x) (by omega) a3
    have n1 := numV_itoa (x := x.id) (by omega) (by omega)
    have n2 := numV_itoa (x := x.tags) (by omega) (by omega)
    have vt : vecTB x.vec = vecT x.vec := by unfold vecTB; rw [hv, if_pos rfl]
    have rv := (read_back x.vec).2
    rw [hv, if_pos rfl, vt] at rv
    have ri : rdIt (itemT x) = x := by unfold rdIt; rw [c1, c2, c3, n1.1, n2.1, rv]
    have ne : itemT x ≠ [] := by unfold itemT; simp
    have r : rdItB (itemT x) = true := by rw [rdIt_iff, ri]; exact ⟨ne, e⟩
    rw [e]
    exact ⟨r, fun _ => ⟨by unfold rdItem; rw [r, if_pos rfl, ri], ne⟩, fun q => (by cases q)⟩
/-- What is read, written again, is that text. -/
theorem rdItem_text {l : List UInt8} (h : rdItB l = true) : itemTB (rdItem l) = l := by
  unfold rdItem
  rw [h, if_pos rfl]
  exact (rdIt_iff.1 h).2

set_option maxHeartbeats 8000000 in
set_option maxRecDepth 8000 in
theorem itemTexts_walk (a : Option Addr) (n cap : Nat) (zs : List Int) (w : World) (V : Vars w) (M : Mlen w) (h : IsRow .u8 w a n cap zs) :
    Calls Tryz.prog 3 #[.slice a n cap] w fun e w' => e = .returned (.bool true) ∧ Below w.heap.size w w' := by
  have BG := hide (big_any a n cap w)
  by_cases hn : n ≤ 1048576
  · rw [decide_eq_false (show ¬ 1048576 < n by omega)] at BG
    have HC := hide (h.code hn)
    have HV := hide V
    have HM := hide M
    clear h V M
    go_enter Tryz.func3, Tryz.ntmps3
    go_wp2_with fail
    refine BG.out.mono ?_
    rintro e w' ⟨rfl, hw⟩
    obtain rfl := hw.symm
    clear BG hw
    go_wp2_with fail
    refine (drawItemText_any a n cap w HC.out).mono ?_
    rintro e w1 ⟨x, a1, n1, c1, rfl, hr1, hn1, hb1⟩
    have X1 := hide (IQ.new w1 x a1 n1 c1 26 hr1)
    have B1 := hide (bstep hb1 (balloc (Below.refl w1.heap.size w1) (.cells #[.int .i64 x.id, .int .i64 x.tags, .slice a1 n1 c1] 26)))
    have IT := hide (fun w1 h T => iItemText_any x a1 n1 c1 w1 h (by omega) T)
    have ST := hide (fun w1 h => sItemText_any x a1 n1 c1 w1 h (by omega))
    obtain ⟨rb, rt, rf⟩ := item_read x
    have RB := hide rb
    have RT := hide rt
    have RF := hide rf
    have sl := itemTB_len x
    obtain ⟨S, hS⟩ : ∃ S, bs (itemTB x) = S := ⟨_, rfl⟩
    have SL : Hid (S.data.toList = itemTB x) := hide (by rw [← hS, bs_list])
    simp only [hS] at IT ST sl
    clear hb1 hr1 rb rt rf hS
    obtain ⟨_, y0, y1, y2, _, _⟩ := X1.out
    go_wp2_with fail
    refine (IT.out _ X1.out.row (HV.out.below B1.out).tab).mono ?_
    rintro e w2 ⟨rfl, hb2⟩
    have B2 := hide (bstep B1.out hb2)
    have X2 := hide (X1.out.below hb2)
    clear hb2 IT X1 y0 y1 y2
    go_wp2_with fail
    refine (drawReadItem_any a n cap w2 (HC.out.below B2.out)).mono ?_
    rintro e w3 ⟨t, rfl, ht, hb3⟩
    have B3 := hide (bstep B2.out hb3)
    have X3 := hide (X2.out.below hb3)
    have IR := hide (fun w1 V M => iReadItem_any t w1 (by omega) V M)
    have SR := hide (fun w1 => sReadItem_any t w1 (by omega))
    unfold IReadI at IR
    unfold SReadI at SR
    have TB := hide (fun h => rdItem_text (l := t.data.toList) h)
    obtain ⟨X, hX⟩ : ∃ p, rdItem t.data.toList = p := ⟨_, rfl⟩
    obtain ⟨b, hb⟩ : ∃ b, rdItB t.data.toList = b := ⟨_, rfl⟩
    simp only [hX, hb] at IR SR TB
    clear hb3 hX hb X2
    go_wp2_with fail
    refine (IR.out w3 (HV.out.below B3.out) (HM.out.below B3.out)).mono ?_
    rintro e w4 ⟨a4, n4, c4, rfl, hm4, hn4, hb4⟩
    have nb4 := balloc (Below.refl w4.heap.size w4) (.cells #[.int .i64 X.id, .int .i64 X.tags, .slice a4 n4 c4] 26)
    have B4 := hide (bstep (bstep B3.out hb4) nb4)
    have X4 := hide ((X3.out.below hb4).below nb4)
    have P4 := hide (IQ.new w4 X a4 n4 c4 26 hm4.row)
    clear hb4 X3 nb4 hm4
    go_wp2_with fail
    refine (SR.out _).mono ?_
    rintro e w5 ⟨a5, n5, c5, rfl, hr5, hn5, hb5⟩
    have nb5 := balloc (Below.refl w5.heap.size w5) (.cells #[.int .i64 X.id, .int .i64 X.tags, .slice a5 n5 c5] 26)
    have B5 := hide (bstep (bstep B4.out hb5) nb5)
    have X5 := hide ((X4.out.below hb5).below nb5)
    have P5 := hide ((P4.out.below hb5).below nb5)
    have Q5 := hide (IQ.new w5 X a5 n5 c5 26 hr5)
    clear hb5 X4 P4 nb5 hr5
    have q1 : (S.toList == S.toList) = true := by simp
    have q2 : (b != b) = false := by cases b <;> rfl
    obtain ⟨_, y0, y1, y2, _, _⟩ := X5.out
    go_wp2_with fail
    refine (ST.out _ X5.out.row).mono ?_
    rintro e w6 ⟨rfl, hb6⟩
    have B6 := hide (bstep B5.out hb6)
    have X6 := hide (X5.out.below hb6)
    have P6 := hide (P5.out.below hb6)
    have Q6 := hide (Q5.out.below hb6)
    clear hb6 X5 P5 Q5 y0 y1 y2
    obtain ⟨_, d0, d1, d2, _, _⟩ := P6.out
    obtain ⟨_, e0, e1, e2, _, _⟩ := Q6.out
    go_wp2_with fail
    refine (sameItem_self X a4 a5 n4 n5 c4 c5 w6 P6.out.row Q6.out.row (by omega)).mono ?_
    rintro e w7 ⟨rfl, hb7⟩
    have B7 := hide (bstep B6.out hb7)
    have X7 := hide (X6.out.below hb7)
    have P7 := hide (P6.out.below hb7)
    clear hb7 X6 P6 Q6 d0 d1 d2 e0 e1 e2
    cases b
    · clear P7
      have IS := hide (iReadItem_any S w7 (by omega) (HV.out.below B7.out) (HM.out.below B7.out))
      unfold IReadI at IS
      rw [SL.out, RB.out] at IS
      cases vo : itemB x.vec.length x
      · obtain ⟨z1, g0⟩ := RF.out vo
        rw [vo, g0] at IS
        have zS : S.toList = [] := by rw [ByteArray.toList_eq, SL.out, z1]
        clear z1 g0 vo RT RF RB SL
        go_wp2_with fail
        refine IS.out.mono ?_
        rintro e w9 ⟨a9, n9, c9, rfl, hm9, hn9, hb9⟩
        have nb9 := balloc (Below.refl w9.heap.size w9) (.cells #[.int .i64 0, .int .i64 0, .slice a9 n9 c9] 26)
        have B9 := hide (bstep (bstep B7.out hb9) nb9)
        clear hb9 nb9 hm9
        go_wp2_with fail
        go_ret
        exact ⟨rfl, B9.out⟩
      · obtain ⟨g0, z1⟩ := RT.out vo
        rw [vo, g0] at IS
        have zS : ¬ S.toList = [] := by rw [ByteArray.toList_eq, SL.out]; exact z1
        have zT : (S.toList == []) = false := by simpa using zS
        clear z1 g0 vo RT RF RB SL
        go_wp2_with fail
        refine IS.out.mono ?_
        rintro e w9 ⟨a9, n9, c9, rfl, hm9, hn9, hb9⟩
        have nb9 := balloc (Below.refl w9.heap.size w9) (.cells #[.int .i64 x.id, .int .i64 x.tags, .slice a9 n9 c9] 26)
        have B9 := hide (bstep (bstep B7.out hb9) nb9)
        have X9 := hide ((X7.out.below hb9).below nb9)
        have Y9 := hide (IQ.new w9 x a9 n9 c9 26 hm9.row)
        clear hb9 nb9 hm9
        obtain ⟨_, m0, m1, m2, _, _⟩ := X9.out
        obtain ⟨_, o0, o1, o2, _, _⟩ := Y9.out
        go_wp2_with fail
        refine (sameItem_self x a9 a1 n9 n1 c9 c1 _ Y9.out.row X9.out.row (by omega)).mono ?_
        rintro e w10 ⟨rfl, hb10⟩
        have B10 := hide (bstep B9.out hb10)
        clear hb10
        go_wp2_with fail
        go_ret
        exact ⟨rfl, B10.out⟩
    · have q3 : ((bs (itemTB X)).toList == t.toList) = true := sEq (by rw [bs_list]; exact TB.out rfl)
      have XT := hide (iItemText_any X a4 n4 c4 w7 P7.out.row (by omega) (HV.out.below B7.out).tab)
      obtain ⟨_, d0, d1, d2, _, _⟩ := P7.out
      go_wp2_with fail
      refine XT.out.mono ?_
      rintro e w8 ⟨rfl, hb8⟩
      have B8 := hide (bstep B7.out hb8)
      have X8 := hide (X7.out.below hb8)
      clear hb8 d0 d1 d2 P7 B7 X7
      have IS := hide (iReadItem_any S w8 (by omega) (HV.out.below B8.out) (HM.out.below B8.out))
      unfold IReadI at IS
      rw [SL.out, RB.out] at IS
      cases vo : itemB x.vec.length x
      · obtain ⟨z1, g0⟩ := RF.out vo
        rw [vo, g0] at IS
        have zS : S.toList = [] := by rw [ByteArray.toList_eq, SL.out, z1]
        clear z1 g0 vo RT RF RB SL
        go_wp2_with fail
        refine IS.out.mono ?_
        rintro e w9 ⟨a9, n9, c9, rfl, hm9, hn9, hb9⟩
        have nb9 := balloc (Below.refl w9.heap.size w9) (.cells #[.int .i64 0, .int .i64 0, .slice a9 n9 c9] 26)
        have B9 := hide (bstep (bstep B8.out hb9) nb9)
        clear hb9 nb9 hm9
        go_wp2_with fail
        go_ret
        exact ⟨rfl, B9.out⟩
      · obtain ⟨g0, z1⟩ := RT.out vo
        rw [vo, g0] at IS
        have zS : ¬ S.toList = [] := by rw [ByteArray.toList_eq, SL.out]; exact z1
        have zT : (S.toList == []) = false := by simpa using zS
        clear z1 g0 vo RT RF RB SL
        go_wp2_with fail
        refine IS.out.mono ?_
        rintro e w9 ⟨a9, n9, c9, rfl, hm9, hn9, hb9⟩
        have nb9 := balloc (Below.refl w9.heap.size w9) (.cells #[.int .i64 x.id, .int .i64 x.tags, .slice a9 n9 c9] 26)
        have B9 := hide (bstep (bstep B8.out hb9) nb9)
        have X9 := hide ((X8.out.below hb9).below nb9)
        have Y9 := hide (IQ.new w9 x a9 n9 c9 26 hm9.row)
        clear hb9 nb9 hm9
        obtain ⟨_, m0, m1, m2, _, _⟩ := X9.out
        obtain ⟨_, o0, o1, o2, _, _⟩ := Y9.out
        go_wp2_with fail
        refine (sameItem_self x a9 a1 n9 n1 c9 c1 _ Y9.out.row X9.out.row (by omega)).mono ?_
        rintro e w10 ⟨rfl, hb10⟩
        have B10 := hide (bstep B9.out hb10)
        clear hb10
        go_wp2_with fail
        go_ret
        exact ⟨rfl, B10.out⟩
  · rw [decide_eq_true (show 1048576 < n by omega)] at BG
    go_enter Tryz.func3, Tryz.ntmps3
    go_wp2_with fail
    refine BG.out.mono ?_
    rintro e w' ⟨rfl, rfl⟩
    go_wp2
    go_ret
    exact ⟨rfl, (by repeat' first | with_reducible exact Below.refl _ _ | with_reducible assumption | with_reducible refine below_drewN ?_ _ | with_reducible refine balloc ?_ _ | with_reducible refine Below.drew ?_ | with_reducible refine Below.setCell ?_ (by first | (simp; done) | (simp; omega) | omega) _ | with_reducible refine bstep ?_ (by assumption))⟩
end Go.Proofs.YtecheolhmohhjaaGreatDoor
