/- The walk of FnExactRowOk. -/
import Derived.Test.YtldfpkcdoppphaaKL
import Derived.Test.YtldfpkcdoppphaaBC
namespace Go.Proofs.Ytldfpkcdoppphaa
open Go.RowKit
set_option linter.unusedSimpArgs false
set_option linter.unusedVariables false

theorem IsRow.le {w : World} {a : Option Addr} {len cap : Nat} {zs : List Int} (h : IsRow .i64 w a len cap zs) : len ≤ 9223372036854775807 := by
  rcases h with ⟨_, rfl, _, _⟩ | ⟨x, _, hl, hm, _⟩
  · omega
  · unfold maxLen at hm; omega

/-- Two boxes of three cells. -/
structure Two3 (w : World) (b c : Nat) (v0 v1 v2 u0 u1 u2 : Value) : Prop where
  one : TriW w b v0 v1 v2
  two : TriW w c u0 u1 u2
theorem Two3.below {w w' : World} {b c : Nat} {v0 v1 v2 u0 u1 u2 : Value} (h : Two3 w b c v0 v1 v2 u0 u1 u2) (hb : Below w.heap.size w w') : Two3 w' b c v0 v1 v2 u0 u1 u2 := ⟨h.one.below hb, h.two.below hb⟩

set_option maxHeartbeats 8000000 in
set_option maxRecDepth 4000 in
theorem exactRowOk_walk (a : Option Addr) (n cap : Nat) (f g : Nat → Int) (a1 : Option Addr) (m1 k1 : Nat) (z1 : List Int) (a2 : Option Addr) (m2 k2 : Nat) (z2 : List Int) (a3 : Option Addr) (m3 k3 : Nat) (z3 : List Int) (w : World) (h : IsPairs w a n f g) (h1 : IsRow .i64 w a1 m1 k1 z1) (h2 : IsRow .i64 w a2 m2 k2 z2) (h3 : IsRow .i64 w a3 m3 k3 z3) :
    Calls Try.prog 3 #[.slice a n cap, .agg #[.slice a1 m1 k1, .slice a2 m2 k2, .slice a3 m3 k3]] w fun e w' => e = .returned (.bool true) ∧ Below w.heap.size w w' := by
  obtain ⟨hp, hl⟩ := h
  have hL1 : m1 ≤ 9223372036854775807 := h1.le
  have hL2 : m2 ≤ 9223372036854775807 := h2.le
  have hL3 : m3 ≤ 9223372036854775807 := h3.le
  have hr : (⟨a1, a2, a3, m1, m2, m3, k1, k2, k3⟩ : RowV).is w (z1.take m1) (z2.take m2) (z3.take m3) := ⟨h1.row, h2.row, h3.row⟩
  generalize z1.take m1 = L1 at hr
  generalize z2.take m2 = L2 at hr
  generalize z3.take m3 = L3 at hr
  clear h1 h2 h3 z1 z2 z3
  have e1 := hr.r1.len
  have e2 := hr.r2.len
  have e3 := hr.r3.len
  simp only at e1 e2 e3
  subst e1 e2 e3
  have SZ := hide (szRangeS_any a n cap 1048576)
  have T0 := TriW.new w (.slice a1 L1.length k1) (.slice a2 L2.length k2) (.slice a3 L3.length k3) 25 _ rfl
  have b0 : Below w.heap.size w (w.alloc (.cells #[.slice a1 L1.length k1, .slice a2 L2.length k2, .slice a3 L3.length k3] 25)) := (by repeat' first | with_reducible exact Below.refl _ _ | with_reducible assumption | with_reducible refine below_drewN ?_ _ | with_reducible refine balloc ?_ _ | with_reducible refine Below.drew ?_ | with_reducible refine Below.setCell ?_ (by first | (simp; done) | (simp; omega) | omega) _ | with_reducible refine bstep ?_ (by assumption))
  obtain ⟨W, hW⟩ : ∃ W, w.alloc (.cells #[.slice a1 L1.length k1, .slice a2 L2.length k2, .slice a3 L3.length k3] 25) = W := ⟨_, rfl⟩
  rw [hW] at T0 b0
  have HW := hide hW
  have HT0 := hide T0
  clear T0 hW
  by_cases hn : n ≤ 1048576
  · have SZ := hide (fun w' => SZ.out w' (by omega) (by omega) hl)
    rw [if_neg (show ¬ (1048576 : Int) - (n : Int) < 0 by omega)] at SZ
    have hnl : ¬ (1048576 : Int) - (n : Int) < 0 := by omega
    have SR := hide (fun w' => szRow_any ⟨a1, a2, a3, L1.length, L2.length, L3.length, k1, k2, k3⟩ (1048576 - (n : Int)) w' (by omega) (by omega) hL1 hL2 hL3)
    simp only [RowV.v, szRowV] at SR
    by_cases hs : (1048576 : Int) - (n : Int) - (L1.length : Int) - (L2.length : Int) - (L3.length : Int) < 0
    · rw [if_pos hs] at SR
      clear hs
      go_enter Try.func3, Try.ntmps3
      go_wp2_with fail
      rw [HW.out]
      refine (SZ.out _).mono ?_
      rintro e w0 ⟨rfl, hw0⟩
      obtain rfl := hw0.symm
      obtain ⟨_, t0, t1, t2, _, _, _⟩ := HT0.out
      go_wp2_with fail
      refine (SR.out _).mono ?_
      rintro e w1 ⟨rfl, hb1⟩
      go_wp2_with fail
      go_ret
      exact ⟨rfl, bstep b0 hb1⟩
    · rw [if_neg hs] at SR
      have q1 : L1.length ≤ 1048576 := by omega
      have q2 : L2.length ≤ 1048576 := by omega
      have q3 : L3.length ≤ 1048576 := by omega
      have TR := hide (fun w1 (hb : Below w.heap.size w w1) => toRangeS_any a n cap f g w1 (hp.below hb) hn)
      have TO := hide (fun w1 (hb : Below w.heap.size w w1) => toRow_any _ L1 L2 L3 w1 (hr.below hb) q1 q2 q3)
      have SP := hide (fun b B C g1 g2 g3 w1 (o : OwnP w1 b n f g) (o' : Mine3 B C w1 g1 g2 g3 L1 L2 L3) => sRowOk_any (some ⟨b, 0, none⟩) n n f g _ L1 L2 L3 w1 o.prow o'.is hn)
      have IM := hide (fun b B C g1 g2 g3 w1 (o : OwnP w1 b n f g) (o' : Mine3 B C w1 g1 g2 g3 L1 L2 L3) => iRowOk_any (some ⟨b, 0, none⟩) n n f g _ L1 L2 L3 w1 o.prow o'.is)
      have EQ := hide (fun b b' w1 (o : OwnP w1 b n f g) (o' : OwnP w1 b' n f g) => eqRangeS_self (some ⟨b, 0, none⟩) (some ⟨b', 0, none⟩) n n n f g w1 o.prow o'.prow hn)
      have ER := hide (fun B C g1 g2 g3 B' C' d1 d2 d3 w1 (o : Mine3 B C w1 g1 g2 g3 L1 L2 L3) (o' : Mine3 B' C' w1 d1 d2 d3 L1 L2 L3) => eqRowV_same _ _ L1 L2 L3 w1 o.is o'.is q1 q2 q3)
      generalize rowOkB n f g L1 L2 L3 = v at SP IM
      have hvv : (v != v) = false := by simp
      simp only [RowV.v, rowM] at TO SP IM ER
      unfold ToRow at TO
      simp only [RowV.v, rowM] at TO
      clear hp hr hl
      go_enter Try.func3, Try.ntmps3
      go_wp2_with fail
      rw [HW.out]
      refine (SZ.out _).mono ?_
      rintro e w0 ⟨rfl, hw0⟩
      obtain rfl := hw0.symm
      obtain ⟨_, t0, t1, t2, _, _, _⟩ := HT0.out
      go_wp2_with fail
      refine (SR.out _).mono ?_
      rintro e w1 ⟨rfl, hb1⟩
      have T1 := hide (HT0.out.below hb1)
      have B1 := bstep b0 hb1
      clear t0 t1 t2 HT0 hb1 HW SR SZ b0
      go_wp2_with fail
      refine wp_region_held_drew (S := fun wx => TriW wx w.heap.size (.slice a1 L1.length k1) (.slice a2 L2.length k2) (.slice a3 L3.length k3)) (by kernel_rfl) (T1.out.drew) (fun hH0 => ?_)
      refine wpAnyH_take (i := 0) (oi := { dst := some 20, op := _, type := _, pos := _, after := _, guard := _ }) (v := ?_) rfl (by kernel_rfl) (by kernel_rfl) (by kernel_rfl) (fun _ _ _ h => h) (Or.inl ⟨by rfl, ?_⟩) (hH0) ?_
      rotate_left
      · (intro wx hSw; obtain ⟨_, q0, q1, q2, _, _, _⟩ := hSw; go_simp <;> with_reducible rfl)
      simp only [Act.put, List.setIfInBounds_toArray, List.set_cons_zero, List.set_cons_succ]
      refine wpAnyH_take (i := 2) (oi := { dst := some 22, op := _, type := _, pos := _, after := _, guard := _ }) (v := ?_) rfl (by kernel_rfl) (by kernel_rfl) (by kernel_rfl) (fun _ _ _ h => h) (Or.inl ⟨by rfl, ?_⟩) (hH0) ?_
      rotate_left
      · (intro wx hSw; obtain ⟨_, q0, q1, q2, _, _, _⟩ := hSw; go_simp <;> with_reducible rfl)
      simp only [Act.put, List.setIfInBounds_toArray, List.set_cons_zero, List.set_cons_succ]
      refine wpAnyH_ready (rs := [1]) (by kernel_rfl) (by simp) ?_
      refine AllReadyH.cons (o := { dst := some 21, op := _, type := _, pos := _, after := _, guard := _ }) rfl (fun K hK => ?_) AllReadyH.nil
      go_simp
      refine (TR.out _ (Below.drew B1)).mono ?_
      rintro e w2 ⟨b2, rfl, l2, o2, hb2⟩
      dsimp only
      refine hK.out _ _ (TriW.below hH0 hb2) (fun hH1 => ?_)
      clear hK K
      refine wpAnyH_ready (rs := [3]) (by kernel_rfl) (by simp) ?_
      refine AllReadyH.cons (o := { dst := some 23, op := _, type := _, pos := _, after := _, guard := _ }) rfl (fun K hK => ?_) AllReadyH.nil
      go_simp
      refine (TO.out _ (bstep (Below.drew B1) hb2)).mono ?_
      rintro e w3 ⟨g1, g2, g3, rfl, o3, hb3⟩
      dsimp only
      refine hK.out _ _ (TriW.below hH1 hb3) (fun hH2 => ?_)
      clear hK K
      refine wpAnyH_ready (rs := [4]) (by kernel_rfl) (by simp) ?_
      refine AllReadyH.cons (o := { dst := some 24, op := _, type := _, pos := _, after := _, guard := _ }) rfl (fun K hK => ?_) AllReadyH.nil
      go_simp
      refine (SP.out _ _ _ _ _ _ _ (o2.below hb3) o3).mono ?_
      rintro e w4 ⟨rfl, hb4⟩
      dsimp only
      refine hK.out _ _ (TriW.below hH2 hb4) (fun hH3 => ?_)
      clear hK K
      refine wpAnyH_take (i := 5) (oi := { dst := some 6, op := _, type := _, pos := _, after := _, guard := _ }) (v := ?_) rfl (by kernel_rfl) (by kernel_rfl) (by kernel_rfl) (fun _ _ _ h => h) (Or.inl ⟨by rfl, ?_⟩) (hH3) ?_
      rotate_left
      · (intro wx hSw; obtain ⟨_, q0, q1, q2, _, _, _⟩ := hSw; go_simp <;> with_reducible rfl)
      simp only [Act.put, List.setIfInBounds_toArray, List.set_cons_zero, List.set_cons_succ]
      refine wpAnyH_done (by kernel_rfl) ?_ _
      -- behind it: go_wp2_with fail, then go_meet (a cut) or go_ret; the condition at the end: hH3
      have T4 := hide hH3
      have B4 := bstep (bstep (bstep (Below.drew B1) hb2) hb3) hb4
      clear hH0 hH1 hH2 hH3 hb2 hb3 hb4 o2 o3 l2 T1 B1 SP
      go_wp2_with fail
      refine (TR.out _ B4).mono ?_
      rintro e w5 ⟨b5, rfl, l5, o5, hb5⟩
      have T5 := hide (T4.out.below hb5)
      have B5 := bstep B4 hb5
      obtain ⟨_, t0, t1, t2, _, _, _⟩ := T5.out
      clear T4 B4 hb5
      go_wp2_with fail
      refine (TO.out _ B5).mono ?_
      rintro e w6 ⟨x1, x2, x3, rfl, o6, hb6⟩
      have T6 := hide (T5.out.below hb6)
      have B6 := bstep B5 hb6
      have o5 := o5.below hb6
      have ba : Below w6.heap.size w6 (w6.alloc (.cells #[.slice (some ⟨x1, 0, none⟩) L1.length L1.length, .slice (some ⟨x2, 0, none⟩) L2.length L2.length, .slice (some ⟨x3, 0, none⟩) L3.length L3.length] 31)) := (by repeat' first | with_reducible exact Below.refl _ _ | with_reducible assumption | with_reducible refine below_drewN ?_ _ | with_reducible refine balloc ?_ _ | with_reducible refine Below.drew ?_ | with_reducible refine Below.setCell ?_ (by first | (simp; done) | (simp; omega) | omega) _ | with_reducible refine bstep ?_ (by assumption))
      have D7 : Two3 (w6.alloc (.cells #[.slice (some ⟨x1, 0, none⟩) L1.length L1.length, .slice (some ⟨x2, 0, none⟩) L2.length L2.length, .slice (some ⟨x3, 0, none⟩) L3.length L3.length] 31)) w6.heap.size w.heap.size (.slice (some ⟨x1, 0, none⟩) L1.length L1.length) (.slice (some ⟨x2, 0, none⟩) L2.length L2.length) (.slice (some ⟨x3, 0, none⟩) L3.length L3.length) (.slice a1 L1.length k1) (.slice a2 L2.length k2) (.slice a3 L3.length k3) := ⟨TriW.new _ _ _ _ _ _ rfl, T6.out.alloc _⟩
      have H7 := hide D7
      have o5 := o5.below ba
      have o6 := o6.below ba
      have B7 := bstep B6 ba
      clear D7 T5 T6 t0 t1 t2 ba hb6 B5 B6 l5
      go_wp2_with fail
      refine (IM.out _ _ _ _ _ _ _ o5 o6).mono ?_
      rintro e w8 ⟨rfl, hb8⟩
      have H8 := hide (H7.out.below hb8)
      have o5 := o5.below hb8
      have o6 := o6.below hb8
      have B8 := bstep B7 hb8
      clear H7 hb8 B7
      go_wp2_with fail
      refine (TR.out _ B8).mono ?_
      rintro e w9 ⟨b9, rfl, l9, o9, hb9⟩
      have H9 := hide (H8.out.below hb9)
      have o5 := o5.below hb9
      have o6 := o6.below hb9
      have B9 := bstep B8 hb9
      clear H8 hb9 B8
      go_wp2_with fail
      refine (EQ.out _ _ _ o5 o9).mono ?_
      rintro e w10 ⟨rfl, hb10⟩
      have H10 := hide (H9.out.below hb10)
      have o6 := o6.below hb10
      have B10 := bstep B9 hb10
      clear H9 hb10 B9 o5 o9 l9
      have S10 : Hid (Two3 w10.drew w6.heap.size w.heap.size (.slice (some ⟨x1, 0, none⟩) L1.length L1.length) (.slice (some ⟨x2, 0, none⟩) L2.length L2.length) (.slice (some ⟨x3, 0, none⟩) L3.length L3.length) (.slice a1 L1.length k1) (.slice a2 L2.length k2) (.slice a3 L3.length k3)) := hide (H10.out.below (Below.drew (Below.refl _ _)))
      have o6 := o6.below (Below.drew (Below.refl _ _))
      go_wp2_with fail
      refine wp_region_held_drew (S := fun wx => Two3 wx w6.heap.size w.heap.size (.slice (some ⟨x1, 0, none⟩) L1.length L1.length) (.slice (some ⟨x2, 0, none⟩) L2.length L2.length) (.slice (some ⟨x3, 0, none⟩) L3.length L3.length) (.slice a1 L1.length k1) (.slice a2 L2.length k2) (.slice a3 L3.length k3)) (by kernel_rfl) (S10.out) (fun hH0 => ?_)
      refine wpAnyH_take (i := 0) (oi := { dst := some 40, op := _, type := _, pos := _, after := _, guard := _ }) (v := ?_) rfl (by kernel_rfl) (by kernel_rfl) (by kernel_rfl) (fun _ _ _ h => h) (Or.inl ⟨by rfl, ?_⟩) (hH0) ?_
      rotate_left
      · (intro wx hSw; obtain ⟨⟨_, q0, q1, q2, _, _, _⟩, ⟨_, p0, p1, p2, _, _, _⟩⟩ := hSw; go_simp <;> with_reducible rfl)
      simp only [Act.put, List.setIfInBounds_toArray, List.set_cons_zero, List.set_cons_succ]
      refine wpAnyH_take (i := 1) (oi := { dst := some 41, op := _, type := _, pos := _, after := _, guard := _ }) (v := ?_) rfl (by kernel_rfl) (by kernel_rfl) (by kernel_rfl) (fun _ _ _ h => h) (Or.inl ⟨by rfl, ?_⟩) (hH0) ?_
      rotate_left
      · (intro wx hSw; obtain ⟨⟨_, q0, q1, q2, _, _, _⟩, ⟨_, p0, p1, p2, _, _, _⟩⟩ := hSw; go_simp <;> with_reducible rfl)
      simp only [Act.put, List.setIfInBounds_toArray, List.set_cons_zero, List.set_cons_succ]
      refine wpAnyH_ready (rs := [2]) (by kernel_rfl) (by simp) ?_
      refine AllReadyH.cons (o := { dst := some 42, op := _, type := _, pos := _, after := _, guard := _ }) rfl (fun K hK => ?_) AllReadyH.nil
      go_simp
      refine (TO.out _ (Below.drew B10)).mono ?_
      rintro e w11 ⟨y1, y2, y3, rfl, o11, hb11⟩
      dsimp only
      refine hK.out _ _ (Two3.below hH0 hb11) (fun hH1 => ?_)
      clear hK K
      refine wpAnyH_ready (rs := [3]) (by kernel_rfl) (by simp) ?_
      refine AllReadyH.cons (o := { dst := some 43, op := _, type := _, pos := _, after := _, guard := _ }) rfl (fun K hK => ?_) AllReadyH.nil
      go_simp
      refine (ER.out _ _ _ _ _ _ _ _ _ _ _ (o6.below hb11) o11).mono ?_
      rintro e w12 ⟨rfl, hb12⟩
      dsimp only
      refine hK.out _ _ (Two3.below hH1 hb12) (fun hH2 => ?_)
      clear hK K
      refine wpAnyH_take (i := 4) (oi := { dst := some 44, op := _, type := _, pos := _, after := _, guard := _ }) (v := ?_) rfl (by kernel_rfl) (by kernel_rfl) (by kernel_rfl) (fun _ _ _ h => h) (Or.inl ⟨by rfl, ?_⟩) (hH2) ?_
      rotate_left
      · (intro wx hSw; obtain ⟨⟨_, q0, q1, q2, _, _, _⟩, ⟨_, p0, p1, p2, _, _, _⟩⟩ := hSw; go_simp <;> with_reducible rfl)
      simp only [Act.put, List.setIfInBounds_toArray, List.set_cons_zero, List.set_cons_succ]
      refine wpAnyH_done (by kernel_rfl) ?_ _
      -- behind it: go_wp2_with fail, then go_meet (a cut) or go_ret; the condition at the end: hH2
      go_wp2_with fail
      go_ret
      exact ⟨rfl, bstep (bstep (Below.drew B10) hb11) hb12⟩
  · have SZ := hide (fun w' => SZ.out w' (by omega) (by omega) hl)
    rw [if_pos (show (1048576 : Int) - (n : Int) < 0 by omega)] at SZ
    go_enter Try.func3, Try.ntmps3
    go_wp2_with fail
    rw [HW.out]
    refine (SZ.out _).mono ?_
    rintro e w0 ⟨rfl, hw0⟩
    obtain rfl := hw0.symm
    go_wp2_with fail
    go_ret
    exact ⟨rfl, b0⟩
end Go.Proofs.Ytldfpkcdoppphaa
