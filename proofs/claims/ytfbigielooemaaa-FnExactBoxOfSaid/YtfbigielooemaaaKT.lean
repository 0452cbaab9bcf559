/- The walk of FnExactBoxOf. -/
import Derived.Test.YtfbigielooemaaaKR
namespace Go.Proofs.Ytfbigielooemaaa
open Go.RowKit
set_option linter.unusedSimpArgs false
set_option linter.unusedVariables false

set_option maxHeartbeats 8000000 in
set_option maxRecDepth 4000 in
theorem exactBoxOf_walk (a : Option Addr) (n cap : Nat) (f g : Nat → Int) (a1 : Option Addr) (m1 k1 : Nat) (z1 : List Int) (a2 : Option Addr) (m2 k2 : Nat) (z2 : List Int) (a3 : Option Addr) (m3 k3 : Nat) (z3 : List Int) (t : Int) (w : World) (h : IsPairs w a n f g) (h1 : IsRow .i64 w a1 m1 k1 z1) (h2 : IsRow .i64 w a2 m2 k2 z2) (h3 : IsRow .i64 w a3 m3 k3 z3) (_ : (Lit.int .i64 t).wf = true) :
    Calls Try.prog 3 #[.slice a n cap, .agg #[.slice a1 m1 k1, .slice a2 m2 k2, .slice a3 m3 k3], .int .i64 t] w fun e w' => e = .returned (.bool true) ∧ Below w.heap.size w w' := by
  obtain ⟨hp, hl⟩ := h
  have hL1 : m1 ≤ 9223372036854775807 := h1.le
  have hL2 : m2 ≤ 9223372036854775807 := h2.le
  have hL3 : m3 ≤ 9223372036854775807 := h3.le
  have hr : (⟨a1, a2, a3, m1, m2, m3, k1, k2, k3⟩ : RowV).is w (z1.take m1) (z2.take m2) (z3.take m3) := ⟨h1.row, h2.row, h3.row⟩
  generalize z1.take m1 = L1 at hr
  generalize z2.take m2 = L2 at hr
  generalize z3.take m3 = L3 at hr
  clear h1 h2 h3 z1 z2 z3
  have e1 := hr.r1.len
  have e2 := hr.r2.len
  have e3 := hr.r3.len
  simp only at e1 e2 e3
  subst e1 e2 e3
  have SZ := hide (szRangeS_any a n cap 1048576)
  have T0 := TriW.new w (.slice a1 L1.length k1) (.slice a2 L2.length k2) (.slice a3 L3.length k3) 25 _ rfl
  have b0 : Below w.heap.size w (w.alloc (.cells #[.slice a1 L1.length k1, .slice a2 L2.length k2, .slice a3 L3.length k3] 25)) := (by repeat' first | with_reducible exact Below.refl _ _ | with_reducible assumption | with_reducible refine below_drewN ?_ _ | with_reducible refine balloc ?_ _ | with_reducible refine Below.drew ?_ | with_reducible refine Below.setCell ?_ (by first | (simp; done) | (simp; omega) | omega) _ | with_reducible refine bstep ?_ (by assumption))
  obtain ⟨W, hW⟩ : ∃ W, w.alloc (.cells #[.slice a1 L1.length k1, .slice a2 L2.length k2, .slice a3 L3.length k3] 25) = W := ⟨_, rfl⟩
  rw [hW] at T0 b0
  have HW := hide hW
  have HT0 := hide T0
  clear T0 hW
  by_cases hn : n ≤ 1048576
  · have SZ := hide (fun w' => SZ.out w' (by omega) (by omega) hl)
    rw [if_neg (show ¬ (1048576 : Int) - (n : Int) < 0 by omega)] at SZ
    have hnl : ¬ (1048576 : Int) - (n : Int) < 0 := by omega
    have SR := hide (fun w' => szRow_any ⟨a1, a2, a3, L1.length, L2.length, L3.length, k1, k2, k3⟩ (1048576 - (n : Int)) w' (by omega) (by omega) hL1 hL2 hL3)
    simp only [RowV.v, szRowV] at SR
    by_cases hs : (1048576 : Int) - (n : Int) - (L1.length : Int) - (L2.length : Int) - (L3.length : Int) < 0
    · rw [if_pos hs] at SR
      clear hs
      go_enter Try.func3, Try.ntmps3
      go_wp2_with fail
      rw [HW.out]
      refine (SZ.out _).mono ?_
      rintro e w0 ⟨rfl, hw0⟩
      obtain rfl := hw0.symm
      obtain ⟨_, t0, t1, t2, _, _, _⟩ := HT0.out
      go_wp2_with fail
      refine (SR.out _).mono ?_
      rintro e w1 ⟨rfl, hb1⟩
      go_wp2_with fail
      go_ret
      exact ⟨rfl, bstep b0 hb1⟩
    · rw [if_neg hs] at SR
      have q1 : L1.length ≤ 1048576 := by omega
      have q2 : L2.length ≤ 1048576 := by omega
      have q3 : L3.length ≤ 1048576 := by omega
      have TR := hide (fun w1 (hb : Below w.heap.size w w1) => toRangeS_any a n cap f g w1 (hp.below hb) hn)
      have TO := hide (fun w1 (hb : Below w.heap.size w w1) => toRow_any _ L1 L2 L3 w1 (hr.below hb) q1 q2 q3)
      have SP := hide (fun b B C g1 g2 g3 w1 (o : OwnP w1 b n f g) (o' : Mine3 B C w1 g1 g2 g3 L1 L2 L3) => sBoxOf_any (some ⟨b, 0, none⟩) n n f g _ L1 L2 L3 t w1 o.prow o'.is hn)
      have IM := hide (fun b B C g1 g2 g3 w1 (o : OwnP w1 b n f g) (o' : Mine3 B C w1 g1 g2 g3 L1 L2 L3) => iBoxOf_any (some ⟨b, 0, none⟩) n n f g _ L1 L2 L3 t w1 o.prow o'.is)
      have EQ := hide (fun b b' w1 (o : OwnP w1 b n f g) (o' : OwnP w1 b' n f g) => eqRangeS_self (some ⟨b, 0, none⟩) (some ⟨b', 0, none⟩) n n n f g w1 o.prow o'.prow hn)
      have ER := hide (fun B C g1 g2 g3 B' C' d1 d2 d3 w1 (o : Mine3 B C w1 g1 g2 g3 L1 L2 L3) (o' : Mine3 B' C' w1 d1 d2 d3 L1 L2 L3) => eqRowV_same _ _ L1 L2 L3 w1 o.is o'.is q1 q2 q3)
      have h8 : (if (rowOkB n f g L1 L2 L3 && tierB t) = true then n else 0) ≤ 8 := by
        cases hv : rowOkB n f g L1 L2 L3
        · simp
        · simp only [rowOkB, Bool.and_eq_true] at hv
          have := (boxB_num' hv.1).2
          split <;> omega
      generalize boxF f g t (tierL t L1 L2 L3) = F at SP IM
      generalize boxG f g t (tierL t L1 L2 L3) = G at SP IM
      generalize (rowOkB n f g L1 L2 L3 && tierB t) = v at SP IM h8
      have hvv : (v != v) = false := by simp
      obtain ⟨m, hm⟩ : ∃ m, (if v then n else 0) = m := ⟨_, rfl⟩
      unfold SBoxT at SP
      unfold IBox at IM
      rw [hm] at SP IM h8
      clear hm
      simp only [RowV.v, rowM] at TO SP IM ER
      unfold ToRow at TO
      simp only [RowV.v, rowM] at TO
      clear hp hr hl
      go_enter Try.func3, Try.ntmps3
      go_wp2_with fail
      rw [HW.out]
      refine (SZ.out _).mono ?_
      rintro e w0 ⟨rfl, hw0⟩
      obtain rfl := hw0.symm
      obtain ⟨_, t0, t1, t2, _, _, _⟩ := HT0.out
      go_wp2_with fail
      refine (SR.out _).mono ?_
      rintro e w1 ⟨rfl, hb1⟩
      have T1 := hide (HT0.out.below hb1)
      have B1 := bstep b0 hb1
      clear t0 t1 t2 HT0 hb1 HW SR SZ b0
      go_wp2_with fail
      refine wp_region_held_drew (S := fun wx => TriW wx w.heap.size (.slice a1 L1.length k1) (.slice a2 L2.length k2) (.slice a3 L3.length k3)) (by kernel_rfl) (T1.out.drew) (fun hH0 => ?_)
      refine wpAnyH_take (i := 0) (oi := { dst := some 30, op := _, type := _, pos := _, after := _, guard := _ }) (v := ?_) rfl (by kernel_rfl) (by kernel_rfl) (by kernel_rfl) (fun _ _ _ h => h) (Or.inl ⟨by rfl, ?_⟩) (hH0) ?_
      rotate_left
      · (intro wx hSw; obtain ⟨_, q0, q1, q2, _, _, _⟩ := hSw; go_simp <;> with_reducible rfl)
      simp only [Act.put, List.setIfInBounds_toArray, List.set_cons_zero, List.set_cons_succ]
      refine wpAnyH_take (i := 2) (oi := { dst := some 32, op := _, type := _, pos := _, after := _, guard := _ }) (v := ?_) rfl (by kernel_rfl) (by kernel_rfl) (by kernel_rfl) (fun _ _ _ h => h) (Or.inl ⟨by rfl, ?_⟩) (hH0) ?_
      rotate_left
      · (intro wx hSw; obtain ⟨_, q0, q1, q2, _, _, _⟩ := hSw; go_simp <;> with_reducible rfl)
      simp only [Act.put, List.setIfInBounds_toArray, List.set_cons_zero, List.set_cons_succ]
      refine wpAnyH_take (i := 4) (oi := { dst := some 34, op := _, type := _, pos := _, after := _, guard := _ }) (v := ?_) rfl (by kernel_rfl) (by kernel_rfl) (by kernel_rfl) (fun _ _ _ h => h) (Or.inl ⟨by rfl, ?_⟩) (hH0) ?_
      rotate_left
      · (intro wx hSw; obtain ⟨_, q0, q1, q2, _, _, _⟩ := hSw; go_simp <;> with_reducible rfl)
      simp only [Act.put, List.setIfInBounds_toArray, List.set_cons_zero, List.set_cons_succ]
      refine wpAnyH_ready (rs := [1]) (by kernel_rfl) (by simp) ?_
      refine AllReadyH.cons (o := { dst := some 31, op := _, type := _, pos := _, after := _, guard := _ }) rfl (fun K hK => ?_) AllReadyH.nil
      go_simp
      refine (TR.out _ (Below.drew B1)).mono ?_
      rintro e w2 ⟨b2, rfl, l2, o2, hb2⟩
      dsimp only
      refine hK.out _ _ (TriW.below hH0 hb2) (fun hH1 => ?_)
      clear hK K
      refine wpAnyH_ready (rs := [3]) (by kernel_rfl) (by simp) ?_
      refine AllReadyH.cons (o := { dst := some 33, op := _, type := _, pos := _, after := _, guard := _ }) rfl (fun K hK => ?_) AllReadyH.nil
      go_simp
      refine (TO.out _ (bstep (Below.drew B1) hb2)).mono ?_
      rintro e w3 ⟨g1, g2, g3, rfl, o3, hb3⟩
      dsimp only
      refine hK.out _ _ (TriW.below hH1 hb3) (fun hH2 => ?_)
      clear hK K
      refine wpAnyH_ready (rs := [5]) (by kernel_rfl) (by simp) ?_
      refine AllReadyH.cons (o := { dst := some 35, op := _, type := _, pos := _, after := _, guard := _ }) rfl (fun K hK => ?_) AllReadyH.nil
      go_simp
      refine (SP.out _ _ _ _ _ _ _ (o2.below hb3) o3).mono ?_
      rintro e w4 ⟨sa, m4, sc, rfl, hm4, r4, hb4⟩
      dsimp only
      refine hK.out _ _ (TriW.below hH2 hb4) (fun hH3 => ?_)
      clear hK K
      refine wpAnyH_take (i := 6) (oi := { dst := some 29, op := _, type := _, pos := _, after := _, guard := _ }) (v := ?_) rfl (by kernel_rfl) (by kernel_rfl) (by kernel_rfl) (fun _ _ _ h => h) (Or.inl ⟨by rfl, ?_⟩) (hH3) ?_
      rotate_left
      · (intro wx hSw; obtain ⟨_, q0, q1, q2, _, _, _⟩ := hSw; go_simp <;> with_reducible rfl)
      simp only [Act.put, List.setIfInBounds_toArray, List.set_cons_zero, List.set_cons_succ]
      refine wpAnyH_take (i := 7) (oi := { dst := some 36, op := _, type := _, pos := _, after := _, guard := _ }) (v := ?_) rfl (by kernel_rfl) (by kernel_rfl) (by kernel_rfl) (fun _ _ _ h => h) (Or.inl ⟨by rfl, ?_⟩) (hH3) ?_
      rotate_left
      · (intro wx hSw; obtain ⟨_, q0, q1, q2, _, _, _⟩ := hSw; go_simp <;> with_reducible rfl)
      simp only [Act.put, List.setIfInBounds_toArray, List.set_cons_zero, List.set_cons_succ]
      refine wpAnyH_take (i := 8) (oi := { dst := some 37, op := _, type := _, pos := _, after := _, guard := _ }) (v := ?_) rfl (by kernel_rfl) (by kernel_rfl) (by kernel_rfl) (fun _ _ _ h => h) (Or.inl ⟨by rfl, ?_⟩) (hH3) ?_
      rotate_left
      · (intro wx hSw; obtain ⟨_, q0, q1, q2, _, _, _⟩ := hSw; go_simp <;> with_reducible rfl)
      simp only [Act.put, List.setIfInBounds_toArray, List.set_cons_zero, List.set_cons_succ]
      refine wpAnyH_take (i := 9) (oi := { dst := some 8, op := _, type := _, pos := _, after := _, guard := _ }) (v := ?_) rfl (by kernel_rfl) (by kernel_rfl) (by kernel_rfl) (fun _ _ _ h => h) (Or.inl ⟨by rfl, ?_⟩) (hH3) ?_
      rotate_left
      · (intro wx hSw; obtain ⟨_, q0, q1, q2, _, _, _⟩ := hSw; go_simp <;> with_reducible rfl)
      simp only [Act.put, List.setIfInBounds_toArray, List.set_cons_zero, List.set_cons_succ]
      refine wpAnyH_take (i := 10) (oi := { dst := some 9, op := _, type := _, pos := _, after := _, guard := _ }) (v := ?_) rfl (by kernel_rfl) (by kernel_rfl) (by kernel_rfl) (fun _ _ _ h => h) (Or.inl ⟨by rfl, ?_⟩) (hH3) ?_
      rotate_left
      · (intro wx hSw; obtain ⟨_, q0, q1, q2, _, _, _⟩ := hSw; go_simp <;> with_reducible rfl)
      simp only [Act.put, List.setIfInBounds_toArray, List.set_cons_zero, List.set_cons_succ]
      refine wpAnyH_done (by kernel_rfl) ?_ _
      -- behind it: go_wp2_with fail, then go_meet (a cut) or go_ret; the condition at the end: hH3
      subst hm4
      have T4 := hide hH3
      have R4 := hide r4
      have B4 := bstep (bstep (bstep (Below.drew B1) hb2) hb3) hb4
      have lw4 := hH3.lt
      clear hH0 hH1 hH2 hH3 hb2 hb3 hb4 o2 o3 l2 T1 B1 SP r4
      go_wp2_with fail
      refine (TR.out _ B4).mono ?_
      rintro e w5 ⟨b5, rfl, l5, o5, hb5⟩
      have T5 := hide (T4.out.below hb5)
      have R5 := hide (R4.out.below hb5)
      have B5 := bstep B4 hb5
      have s5 := hb5.size
      have y5 := o5.lt
      obtain ⟨_, t0, t1, t2, _, _, _⟩ := T5.out
      clear T4 B4 hb5
      go_wp2_with fail
      refine (TO.out _ B5).mono ?_
      rintro e w6 ⟨x1, x2, x3, rfl, o6, hb6⟩
      have T6 := hide (T5.out.below hb6)
      have B6 := bstep B5 hb6
      have s6 := hb6.size
      have o5 := o5.below hb6
      have R6 := hide (R5.out.below hb6)
      obtain ⟨W7, hW7⟩ : ∃ X, w6.alloc (.cells #[.slice (some ⟨x1, 0, none⟩) L1.length L1.length, .slice (some ⟨x2, 0, none⟩) L2.length L2.length, .slice (some ⟨x3, 0, none⟩) L3.length L3.length] 32) = X := ⟨_, rfl⟩
      have ba : Below w6.heap.size w6 W7 := hW7 ▸ (by repeat' first | with_reducible exact Below.refl _ _ | with_reducible assumption | with_reducible refine below_drewN ?_ _ | with_reducible refine balloc ?_ _ | with_reducible refine Below.drew ?_ | with_reducible refine Below.setCell ?_ (by first | (simp; done) | (simp; omega) | omega) _ | with_reducible refine bstep ?_ (by assumption))
      have TX : TriW W7 w6.heap.size (.slice (some ⟨x1, 0, none⟩) L1.length L1.length) (.slice (some ⟨x2, 0, none⟩) L2.length L2.length) (.slice (some ⟨x3, 0, none⟩) L3.length L3.length) := hW7 ▸ TriW.new _ _ _ _ _ _ rfl
      have s7 : W7.heap.size = w6.heap.size + 1 := hW7 ▸ World.size_alloc _ _
      have T7 := hide (T6.out.below ba)
      have R7 := hide (R6.out.below ba)
      have o5 := o5.below ba
      have o6 := o6.below ba
      have B7 := bstep B6 ba
      have HW7 := hide hW7
      have HTX := hide TX
      clear TX hW7 T5 T6 t0 t1 t2 ba hb6 B5 B6 R5 R6
      go_wp2_with fail
      rw [HW7.out]
      refine (IM.out _ _ _ _ _ _ _ o5 o6).mono ?_
      rintro e w8 ⟨ia, m8, rfl, hm8, io8, hb8⟩
      subst hm8
      have s8 := hb8.size
      have BS8 : BS w w8 (.slice a1 L1.length k1) (.slice a2 L2.length k2) (.slice a3 L3.length k3) w4.heap.size W7.heap.size w8.heap.size sa ia m8 F G F G :=
        ⟨bstep B7 hb8, T7.out.below hb8, R7.out.below hb8, fun b off e p => R4.out.lt p b off e, io8, lw4, by omega⟩
      have H8 := hide BS8
      have TX := hide (HTX.out.below hb8)
      have O5 := hide (o5.below hb8)
      have O6 := hide (o6.below hb8)
      clear BS8 HTX o5 o6 hb8 T7 R7 R4 B7 io8 HW7
      go_wp2_with fail
      refine (eqRangeS_self ia sa m8 m8 sc F G _ H8.out.prow H8.out.r (by omega)).mono ?_
      rintro e w9 ⟨rfl, hb9⟩
      have H9 := hide (H8.out.below hb9)
      have TX := hide (TX.out.below hb9)
      have O5 := hide (O5.out.below hb9)
      have O6 := hide (O6.out.below hb9)
      clear H8 hb9
      go_wp2_with fail
      refine (TR.out _ H9.out.bel).mono ?_
      rintro e w10 ⟨b10, rfl, l10, o10, hb10⟩
      have H10 := hide (H9.out.below hb10)
      have TX := hide (TX.out.below hb10)
      have O5 := hide (O5.out.below hb10)
      have O6 := hide (O6.out.below hb10)
      clear H9 hb10
      go_wp2_with fail
      refine (EQ.out _ _ _ O5.out o10).mono ?_
      rintro e w11 ⟨rfl, hb11⟩
      have H11 := hide (H10.out.below hb11)
      have TX := hide (TX.out.below hb11)
      have O5 := hide (O5.out.below hb11)
      have O6 := hide (O6.out.below hb11)
      clear H10 hb11 o10 l10
      have bd : Below w11.heap.size w11 w11.drew := Below.drew (Below.refl _ _)
      have S11 : Hid (Two3 w11.drew w6.heap.size w.heap.size (.slice (some ⟨x1, 0, none⟩) L1.length L1.length) (.slice (some ⟨x2, 0, none⟩) L2.length L2.length) (.slice (some ⟨x3, 0, none⟩) L3.length L3.length) (.slice a1 L1.length k1) (.slice a2 L2.length k2) (.slice a3 L3.length k3)) := hide ⟨TX.out.below bd, H11.out.bx.below bd⟩
      have B11 := bstep H11.out.bel bd
      go_wp2_with fail
      refine wp_region_held_drew (S := fun wx => Two3 wx w6.heap.size w.heap.size (.slice (some ⟨x1, 0, none⟩) L1.length L1.length) (.slice (some ⟨x2, 0, none⟩) L2.length L2.length) (.slice (some ⟨x3, 0, none⟩) L3.length L3.length) (.slice a1 L1.length k1) (.slice a2 L2.length k2) (.slice a3 L3.length k3)) (by kernel_rfl) (S11.out) (fun hH0 => ?_)
      refine wpAnyH_take (i := 0) (oi := { dst := some 63, op := _, type := _, pos := _, after := _, guard := _ }) (v := ?_) rfl (by kernel_rfl) (by kernel_rfl) (by kernel_rfl) (fun _ _ _ h => h) (Or.inl ⟨by rfl, ?_⟩) (hH0) ?_
      rotate_left
      · (intro wx hSw; obtain ⟨⟨_, q0, q1, q2, _, _, _⟩, ⟨_, p0, p1, p2, _, _, _⟩⟩ := hSw; go_simp <;> with_reducible rfl)
      simp only [Act.put, List.setIfInBounds_toArray, List.set_cons_zero, List.set_cons_succ]
      refine wpAnyH_take (i := 1) (oi := { dst := some 64, op := _, type := _, pos := _, after := _, guard := _ }) (v := ?_) rfl (by kernel_rfl) (by kernel_rfl) (by kernel_rfl) (fun _ _ _ h => h) (Or.inl ⟨by rfl, ?_⟩) (hH0) ?_
      rotate_left
      · (intro wx hSw; obtain ⟨⟨_, q0, q1, q2, _, _, _⟩, ⟨_, p0, p1, p2, _, _, _⟩⟩ := hSw; go_simp <;> with_reducible rfl)
      simp only [Act.put, List.setIfInBounds_toArray, List.set_cons_zero, List.set_cons_succ]
      refine wpAnyH_ready (rs := [2]) (by kernel_rfl) (by simp) ?_
      refine AllReadyH.cons (o := { dst := some 65, op := _, type := _, pos := _, after := _, guard := _ }) rfl (fun K hK => ?_) AllReadyH.nil
      go_simp
      refine (TO.out _ B11).mono ?_
      rintro e w12 ⟨y1, y2, y3, rfl, o12, hb12⟩
      dsimp only
      refine hK.out _ _ (Two3.below hH0 hb12) (fun hH1 => ?_)
      clear hK K
      refine wpAnyH_ready (rs := [3]) (by kernel_rfl) (by simp) ?_
      refine AllReadyH.cons (o := { dst := some 66, op := _, type := _, pos := _, after := _, guard := _ }) rfl (fun K hK => ?_) AllReadyH.nil
      go_simp
      refine (ER.out _ _ _ _ _ _ _ _ _ _ _ ((O6.out.below bd).below hb12) o12).mono ?_
      rintro e w13 ⟨rfl, hb13⟩
      dsimp only
      refine hK.out _ _ (Two3.below hH1 hb13) (fun hH2 => ?_)
      clear hK K
      refine wpAnyH_take (i := 4) (oi := { dst := some 67, op := _, type := _, pos := _, after := _, guard := _ }) (v := ?_) rfl (by kernel_rfl) (by kernel_rfl) (by kernel_rfl) (fun _ _ _ h => h) (Or.inl ⟨by rfl, ?_⟩) (hH2) ?_
      rotate_left
      · (intro wx hSw; obtain ⟨⟨_, q0, q1, q2, _, _, _⟩, ⟨_, p0, p1, p2, _, _, _⟩⟩ := hSw; go_simp <;> with_reducible rfl)
      simp only [Act.put, List.setIfInBounds_toArray, List.set_cons_zero, List.set_cons_succ]
      refine wpAnyH_done (by kernel_rfl) ?_ _
      -- behind it: go_wp2_with fail, then go_meet (a cut) or go_ret; the condition at the end: hH2
      have H13 := hide (((H11.out.below bd).below hb12).below hb13)
      have TX := hide (((TX.out.below bd).below hb12).below hb13)
      have O5 := hide (((O5.out.below bd).below hb12).below hb13)
      have O6 := hide (((O6.out.below bd).below hb12).below hb13)
      clear H11 hb12 hb13 o12 hH0 hH1 hH2 S11 B11 bd
      go_wp2_with fail
      refine (markRangeS_own b5 n n 1 f g _ O5.out hn (by omega) (by omega)).mono ?_
      rintro e w14 ⟨rfl, _, hb14⟩
      have f14 : Far b5 (b5 + 1) w13 w14 := Far.ofBut hb14 (by omega) (by omega)
      have H14 := hide (H13.out.far f14 (by omega) (by omega))
      have TX := hide (TX.out.far' f14 (by omega))
      have O6 := hide (O6.out.far f14 (by omega))
      obtain ⟨_, t0, t1, t2, _, _, _⟩ := TX.out
      clear hb14 f14 H13 O5
      go_wp2_with fail
      refine (markRowM_any w5.heap.size w6.heap.size x1 x2 x3 _ L1 L2 L3 _ q1 q2 q3 (by omega) (by omega) O6.out).mono ?_
      rintro e w15 ⟨rfl, f15⟩
      have H15 := hide (H14.out.far f15 (by omega) (by omega))
      clear f15 H14 O6 TX t0 t1 t2
      have hk0 : ¬ ((1 : Int) + 2 * (n : Int) + (L1.length : Int) + (L2.length : Int) + (L3.length : Int) < 0) := by omega
      go_wp2_with fail
      refine (eqRangeS_self ia sa m8 m8 sc F G _ H15.out.prow H15.out.r (by omega)).mono ?_
      rintro e w16 ⟨rfl, hb16⟩
      have H16 := hide (H15.out.below hb16)
      clear H15 hb16
      go_wp2_with fail
      refine (H16.out.mark h8).mono ?_
      rintro e w17 ⟨rfl, h17⟩
      have H17 := hide h17
      clear h17 H16
      go_wp2_with fail
      refine (H17.out.held h8).mono ?_
      rintro e w18 ⟨rfl, hw18⟩
      obtain rfl := hw18.symm
      clear hw18
      have hk1 : ¬ ((1 : Int) + 2 * (m8 : Int) < 0) := by omega
      have hk2 : ((1 : Int) + 2 * (m8 : Int) != (1 : Int) + 2 * (m8 : Int)) = false := by simp
      have bd : Below w17.heap.size w17 w17.drew := Below.drew (Below.refl _ _)
      have S18 := hide (H17.out.bx.below bd)
      have B18 := bstep H17.out.bel bd
      go_wp2_with fail
      refine wp_region_held_drew (S := fun wx => TriW wx w.heap.size (.slice a1 L1.length k1) (.slice a2 L2.length k2) (.slice a3 L3.length k3)) (by kernel_rfl) (S18.out) (fun hH0 => ?_)
      refine wpAnyH_take (i := 0) (oi := { dst := some 99, op := _, type := _, pos := _, after := _, guard := _ }) (v := ?_) rfl (by kernel_rfl) (by kernel_rfl) (by kernel_rfl) (fun _ _ _ h => h) (Or.inl ⟨by rfl, ?_⟩) (hH0) ?_
      rotate_left
      · (intro wx hSw; obtain ⟨_, q0, q1, q2, _, _, _⟩ := hSw; go_simp <;> with_reducible rfl)
      simp only [Act.put, List.setIfInBounds_toArray, List.set_cons_zero, List.set_cons_succ]
      refine wpAnyH_take (i := 2) (oi := { dst := some 101, op := _, type := _, pos := _, after := _, guard := _ }) (v := ?_) rfl (by kernel_rfl) (by kernel_rfl) (by kernel_rfl) (fun _ _ _ h => h) (Or.inl ⟨by rfl, ?_⟩) (hH0) ?_
      rotate_left
      · (intro wx hSw; obtain ⟨_, q0, q1, q2, _, _, _⟩ := hSw; go_simp <;> with_reducible rfl)
      simp only [Act.put, List.setIfInBounds_toArray, List.set_cons_zero, List.set_cons_succ]
      refine wpAnyH_take (i := 4) (oi := { dst := some 103, op := _, type := _, pos := _, after := _, guard := _ }) (v := ?_) rfl (by kernel_rfl) (by kernel_rfl) (by kernel_rfl) (fun _ _ _ h => h) (Or.inl ⟨by rfl, ?_⟩) (hH0) ?_
      rotate_left
      · (intro wx hSw; obtain ⟨_, q0, q1, q2, _, _, _⟩ := hSw; go_simp <;> with_reducible rfl)
      simp only [Act.put, List.setIfInBounds_toArray, List.set_cons_zero, List.set_cons_succ]
      refine wpAnyH_ready (rs := [1]) (by kernel_rfl) (by simp) ?_
      refine AllReadyH.cons (o := { dst := some 100, op := _, type := _, pos := _, after := _, guard := _ }) rfl (fun K hK => ?_) AllReadyH.nil
      go_simp
      refine (TR.out _ B18).mono ?_
      rintro e w19 ⟨b19, rfl, l19, o19, hb19⟩
      dsimp only
      refine hK.out _ _ (TriW.below hH0 hb19) (fun hH1 => ?_)
      clear hK K
      refine wpAnyH_ready (rs := [3]) (by kernel_rfl) (by simp) ?_
      refine AllReadyH.cons (o := { dst := some 102, op := _, type := _, pos := _, after := _, guard := _ }) rfl (fun K hK => ?_) AllReadyH.nil
      go_simp
      refine (TO.out _ (bstep B18 hb19)).mono ?_
      rintro e w20 ⟨g1, g2, g3, rfl, o20, hb20⟩
      dsimp only
      refine hK.out _ _ (TriW.below hH1 hb20) (fun hH2 => ?_)
      clear hK K
      refine wpAnyH_ready (rs := [5]) (by kernel_rfl) (by simp) ?_
      refine AllReadyH.cons (o := { dst := some 104, op := _, type := _, pos := _, after := _, guard := _ }) rfl (fun K hK => ?_) AllReadyH.nil
      go_simp
      refine (IM.out _ _ _ _ _ _ _ (o19.below hb20) o20).mono ?_
      rintro e w21 ⟨ib, m21, rfl, hm21, io21, hb21⟩
      dsimp only
      refine hK.out _ _ (TriW.below hH2 hb21) (fun hH3 => ?_)
      clear hK K
      refine wpAnyH_take (i := 6) (oi := { dst := some 98, op := _, type := _, pos := _, after := _, guard := _ }) (v := ?_) rfl (by kernel_rfl) (by kernel_rfl) (by kernel_rfl) (fun _ _ _ h => h) (Or.inl ⟨by rfl, ?_⟩) (hH3) ?_
      rotate_left
      · (intro wx hSw; obtain ⟨_, q0, q1, q2, _, _, _⟩ := hSw; go_simp <;> with_reducible rfl)
      simp only [Act.put, List.setIfInBounds_toArray, List.set_cons_zero, List.set_cons_succ]
      refine wpAnyH_take (i := 7) (oi := { dst := some 105, op := _, type := _, pos := _, after := _, guard := _ }) (v := ?_) rfl (by kernel_rfl) (by kernel_rfl) (by kernel_rfl) (fun _ _ _ h => h) (Or.inl ⟨by rfl, ?_⟩) (hH3) ?_
      rotate_left
      · (intro wx hSw; obtain ⟨_, q0, q1, q2, _, _, _⟩ := hSw; go_simp <;> with_reducible rfl)
      simp only [Act.put, List.setIfInBounds_toArray, List.set_cons_zero, List.set_cons_succ]
      refine wpAnyH_take (i := 8) (oi := { dst := some 106, op := _, type := _, pos := _, after := _, guard := _ }) (v := ?_) rfl (by kernel_rfl) (by kernel_rfl) (by kernel_rfl) (fun _ _ _ h => h) (Or.inl ⟨by rfl, ?_⟩) (hH3) ?_
      rotate_left
      · (intro wx hSw; obtain ⟨_, q0, q1, q2, _, _, _⟩ := hSw; go_simp <;> with_reducible rfl)
      simp only [Act.put, List.setIfInBounds_toArray, List.set_cons_zero, List.set_cons_succ]
      refine wpAnyH_take (i := 9) (oi := { dst := some 17, op := _, type := _, pos := _, after := _, guard := _ }) (v := ?_) rfl (by kernel_rfl) (by kernel_rfl) (by kernel_rfl) (fun _ _ _ h => h) (Or.inl ⟨by rfl, ?_⟩) (hH3) ?_
      rotate_left
      · (intro wx hSw; obtain ⟨_, q0, q1, q2, _, _, _⟩ := hSw; go_simp <;> with_reducible rfl)
      simp only [Act.put, List.setIfInBounds_toArray, List.set_cons_zero, List.set_cons_succ]
      refine wpAnyH_take (i := 10) (oi := { dst := some 18, op := _, type := _, pos := _, after := _, guard := _ }) (v := ?_) rfl (by kernel_rfl) (by kernel_rfl) (by kernel_rfl) (fun _ _ _ h => h) (Or.inl ⟨by rfl, ?_⟩) (hH3) ?_
      rotate_left
      · (intro wx hSw; obtain ⟨_, q0, q1, q2, _, _, _⟩ := hSw; go_simp <;> with_reducible rfl)
      simp only [Act.put, List.setIfInBounds_toArray, List.set_cons_zero, List.set_cons_succ]
      refine wpAnyH_done (by kernel_rfl) ?_ _
      -- behind it: go_wp2_with fail, then go_meet (a cut) or go_ret; the condition at the end: hH3
      subst hm21
      have H21 := hide ((((H17.out.below bd).below hb19).below hb20).below hb21)
      have P21 : Hid (PRow w21 ib m21 F G) := hide (by
        rcases io21 with q | ⟨bb, rfl, _, _, oo⟩
        · exact ⟨.inl q⟩
        · exact oo.prow)
      clear H17 hb19 hb20 hb21 o19 o20 l19 io21 hH0 hH1 hH2 hH3 S18 B18 bd
      go_wp2_with fail
      refine (eqRangeS_self ib sa m21 m21 sc F G _ P21.out H21.out.r (by omega)).mono ?_
      rintro e w22 ⟨rfl, hb22⟩
      have H22 := hide (H21.out.below hb22)
      clear H21 hb22 P21
      go_wp2_with fail
      refine (H22.out.held h8).mono ?_
      rintro e w23 ⟨rfl, hw23⟩
      obtain rfl := hw23.symm
      go_wp2_with fail
      go_ret
      exact ⟨rfl, H22.out.bel⟩
  · have SZ := hide (fun w' => SZ.out w' (by omega) (by omega) hl)
    rw [if_pos (show (1048576 : Int) - (n : Int) < 0 by omega)] at SZ
    go_enter Try.func3, Try.ntmps3
    go_wp2_with fail
    rw [HW.out]
    refine (SZ.out _).mono ?_
    rintro e w0 ⟨rfl, hw0⟩
    obtain rfl := hw0.symm
    go_wp2_with fail
    go_ret
    exact ⟨rfl, b0⟩
end Go.Proofs.Ytfbigielooemaaa
