/- The walk of FnExactEntryOf. -/
import Derived.Test.YtkogkgdoebdmgaaEA6
import Derived.Test.YtkogkgdoebdmgaaBC
import Derived.Test.YtkogkgdoebdmgaaIO
namespace Go.Proofs.Ytkogkgdoebdmgaa
open Go.RowKit
set_option linter.unusedSimpArgs false
set_option linter.unusedVariables false

theorem VSl.rowAt {w : World} {B C : Nat} {ya : Option Addr} {k yc : Nat} {xs : List Int} {b : Nat} (h : VSl w B C (.slice ya k yc) xs b) : Row w ya xs.length xs := by
  obtain ⟨a, c, e, r⟩ := h.row
  cases e
  exact r
theorem own_vsl {w : World} {g : Nat} {xs : List Int} (h : Own w g xs) : VSl w g (g + 1) (.slice (some ⟨g, 0, none⟩) xs.length xs.length) xs g :=
  ⟨_, _, rfl, .inr ⟨rfl, Nat.le_refl _, by omega, h.arr⟩⟩
theorem ownFar {w w' : World} {B C b : Nat} {xs : List Int} (h : Own w b xs) (hf : Far B C w w') (hne : b < B ∨ C ≤ b) : Own w' b xs := World.rowIs.of_block h (hf.block b (World.rowIs.lt h) hne)
theorem OwnP.farE {w w' : World} {B C b n : Nat} {f g : Nat → Int} (h : OwnP w b n f g) (hf : Far B C w w') (hne : b < B ∨ C ≤ b) : OwnP w' b n f g := World.rowIs.of_block h (hf.block b (World.rowIs.lt h) hne)
/-- Two boxes of three cells. -/
structure TwoE (w : World) (b c : Nat) (v0 v1 v2 u0 u1 u2 : Value) : Prop where
  one : TriW w b v0 v1 v2
  two : TriW w c u0 u1 u2
theorem TwoE.below {w w' : World} {b c : Nat} {v0 v1 v2 u0 u1 u2 : Value} (h : TwoE w b c v0 v1 v2 u0 u1 u2) (hb : Below w.heap.size w w') : TwoE w' b c v0 v1 v2 u0 u1 u2 := ⟨h.one.below hb, h.two.below hb⟩

set_option maxHeartbeats 16000000 in
set_option maxRecDepth 8000 in
theorem exactEntryOf_walk (a : Option Addr) (n cap : Nat) (f g : Nat → Int) (a' : Option Addr) (n' cap' : Nat) (f' g' : Nat → Int) (x0 x1 : Int) (xv : Option Addr) (xn xc0 : Nat) (xs : List Int) (is : Bool) (w : World) (h : IsPairs w a n f g) (h' : IsPairs w a' n' f' g') (rx : Row w xv xn xs) (hxl : xn ≤ 9223372036854775807) :
    Calls Try.prog 3 #[.slice a n cap, .slice a' n' cap', .agg #[.int .i64 x0, .int .i64 x1, .slice xv xn xc0], .bool is] w fun e w' => e = .returned (.bool true) ∧ Below w.heap.size w w' := by
  obtain ⟨hp, hl⟩ := h
  obtain ⟨hp', hl'⟩ := h'
  have T0 := TriW.new w (.int .i64 x0) (.int .i64 x1) (.slice xv xn xc0) 25 _ rfl
  have b0 : Below w.heap.size w (w.alloc (.cells #[.int .i64 x0, .int .i64 x1, .slice xv xn xc0] 25)) := (by repeat' first | with_reducible exact Below.refl _ _ | with_reducible assumption | with_reducible refine below_drewN ?_ _ | with_reducible refine balloc ?_ _ | with_reducible refine Below.drew ?_ | with_reducible refine Below.setCell ?_ (by first | (simp; done) | (simp; omega) | omega) _ | with_reducible refine bstep ?_ (by assumption))
  obtain ⟨W, hW⟩ : ∃ W, w.alloc (.cells #[.int .i64 x0, .int .i64 x1, .slice xv xn xc0] 25) = W := ⟨_, rfl⟩
  rw [hW] at T0 b0
  have HW := hide hW
  have HT0 := hide T0
  clear T0 hW
  by_cases hn : n ≤ 1048576
  · have SZ := hide (fun w' => szRangeS_any a n cap 1048576 w' (by omega) (by omega) hl)
    rw [if_neg (show ¬ (1048576 : Int) - (n : Int) < 0 by omega)] at SZ
    have hnl : ¬ (1048576 : Int) - (n : Int) < 0 := by omega
    have SZ' := hide (fun w' => szRangeS_any a' n' cap' (1048576 - (n : Int)) w' (by omega) (by omega) hl')
    by_cases hs : (1048576 : Int) - (n : Int) - (n' : Int) < 0
    · rw [if_pos hs] at SZ'
      clear hs
      go_enter Try.func3, Try.ntmps3
      go_wp2_with fail
      rw [HW.out]
      refine (SZ.out _).mono ?_
      rintro e w0 ⟨rfl, hw0⟩
      obtain rfl := hw0.symm
      go_wp2_with fail
      refine (SZ'.out _).mono ?_
      rintro e w1 ⟨rfl, hw1⟩
      obtain rfl := hw1.symm
      go_wp2_with fail
      go_ret
      exact ⟨rfl, b0⟩
    · rw [if_neg hs] at SZ'
      have SI := hide (fun w' => szItem_any x0 x1 xv xn xc0 (1048576 - (n : Int) - (n' : Int)) w' (by omega) (by omega) hxl)
      by_cases hi : (1048576 : Int) - (n : Int) - (n' : Int) - (xn : Int) < 0
      · rw [show szN (1048576 - (n : Int) - (n' : Int)) xn = -1 from if_pos hi] at SI
        clear hi
        go_enter Try.func3, Try.ntmps3
        go_wp2_with fail
        rw [HW.out]
        refine (SZ.out _).mono ?_
        rintro e w0 ⟨rfl, hw0⟩
        obtain rfl := hw0.symm
        go_wp2_with fail
        refine (SZ'.out _).mono ?_
        rintro e w1 ⟨rfl, hw1⟩
        obtain rfl := hw1.symm
        obtain ⟨_, t0, t1, t2, _, _, _⟩ := HT0.out
        go_wp2_with fail
        refine (SI.out _).mono ?_
        rintro e w2 ⟨rfl, hb2⟩
        go_wp2_with fail
        go_ret
        exact ⟨rfl, bstep b0 hb2⟩
      · rw [show szN (1048576 - (n : Int) - (n' : Int)) xn = 1048576 - (n : Int) - (n' : Int) - (xn : Int) from if_neg hi] at SI
        have hn' : n' ≤ 1048576 := by omega
        have hxn : xn ≤ 1048576 := by omega
        have hxlen := rx.len
        subst hxlen
        have TR := hide (fun w1 (hb : Below w.heap.size w w1) => toRangeS_any a n cap f g w1 (hp.below hb) hn)
        have TR' := hide (fun w1 (hb : Below w.heap.size w w1) => toRangeS_any a' n' cap' f' g' w1 (hp'.below hb) hn')
        have TI := hide (fun w1 (hb : Below w.heap.size w w1) => toItem_any ⟨x0, x1, xs⟩ xv xs.length xc0 w1 (rx.below hb) hxn)
        have SP := hide (fun b b' gi w1 (o : OwnP w1 b n f g) (o' : OwnP w1 b' n' f' g') (oi : Own w1 gi xs) => sEntryOf_any (some ⟨b, 0, none⟩) (some ⟨b', 0, none⟩) n n n' n' f g f' g' ⟨x0, x1, xs⟩ (some ⟨gi, 0, none⟩) xs.length xs.length is w1 o.prow o'.prow oi.row hn hn' hxn)
        have IM := hide (fun b b' gi w1 (o : OwnP w1 b n f g) (o' : OwnP w1 b' n' f' g') (oi : Own w1 gi xs) => iEntryOf_any (some ⟨b, 0, none⟩) (some ⟨b', 0, none⟩) n n n' n' f g f' g' ⟨x0, x1, xs⟩ (some ⟨gi, 0, none⟩) xs.length xs.length is w1 o.prow o'.prow oi.row hxn)
        have EQ := hide (fun b b' w1 (o : OwnP w1 b n f g) (o' : OwnP w1 b' n f g) => eqRangeS_self (some ⟨b, 0, none⟩) (some ⟨b', 0, none⟩) n n n f g w1 o.prow o'.prow hn)
        have EQ' := hide (fun b b' w1 (o : OwnP w1 b n' f' g') (o' : OwnP w1 b' n' f' g') => eqRangeS_self (some ⟨b, 0, none⟩) (some ⟨b', 0, none⟩) n' n' n' f' g' w1 o.prow o'.prow hn')
        have EI := hide (fun b b' w1 (o : Own w1 b xs) (o' : Own w1 b' xs) => eqItem_self ⟨x0, x1, xs⟩ (some ⟨b, 0, none⟩) (some ⟨b', 0, none⟩) xs.length xs.length xs.length xs.length w1 o.row o'.row hxn)
        have h8 : (entOf (entB n f g n' f' g' ⟨x0, x1, xs⟩) n f g f' g' ⟨x0, x1, xs⟩ is).m ≤ 8 ∧ (entOf (entB n f g n' f' g' ⟨x0, x1, xs⟩) n f g f' g' ⟨x0, x1, xs⟩ is).vec.length ≤ 1048576 := by
          cases hv : entB n f g n' f' g' ⟨x0, x1, xs⟩
          · simp [entOf]
          · simp only [entB, alikeB, Bool.and_eq_true] at hv
            have := (boxB_num' hv.1.1.1).2
            simp only [entOf, if_true]
            exact ⟨this, hxn⟩
        generalize entOf (entB n f g n' f' g' ⟨x0, x1, xs⟩) n f g f' g' ⟨x0, x1, xs⟩ is = E at SP IM h8
        generalize entB n f g n' f' g' ⟨x0, x1, xs⟩ = v at SP IM
        have IS := hide (fun b b' gi w1 (o : OwnP w1 b n f g) (o' : OwnP w1 b' n' f' g') (oi : Own w1 gi xs) => (IM.out b b' gi w1 o o' oi).mono (fun e w' q => IEnt.sent q))
        unfold SEnt at SP IS
        unfold IEnt at IM
        unfold ToI at TI
        simp only at TI EI SP IM IS
        have hvv : (v != v) = false := by simp
        obtain ⟨h8, hE⟩ := h8
        clear hp hp' rx hl hl'
        go_enter Try.func3, Try.ntmps3
        go_wp2_with fail
        rw [HW.out]
        refine (SZ.out _).mono ?_
        rintro e w0 ⟨rfl, hw0⟩
        obtain rfl := hw0.symm
        clear hw0
        go_wp2_with fail
        refine (SZ'.out _).mono ?_
        rintro e w1 ⟨rfl, hw1⟩
        obtain rfl := hw1.symm
        clear hw1
        obtain ⟨_, t0, t1, t2, _, _, _⟩ := HT0.out
        go_wp2_with fail
        refine (SI.out _).mono ?_
        rintro e w3 ⟨rfl, hb3⟩
        have T3 := hide (HT0.out.below hb3)
        have B3 := bstep b0 hb3
        have lw3 : w.heap.size < w3.heap.size := T3.out.lt
        clear t0 t1 t2 HT0 hb3 HW SZ SZ' SI b0
        go_wp2_with fail
        go_cut [10, 11] (fun s10 s11 wx => ∃ z D av cv s1 s2 s3 j1 j2 j3, s10 = .pointer (some ⟨z, 0, none⟩) ∧ s11 = .bool v ∧ ES w wx (.int .i64 x0) (.int .i64 x1) (.slice xv xs.length xc0) z D E av cv s1 s2 s3 j1 j2 j3 ∧ Below w3.heap.size w3 wx)
        case first =>
          refine wp_region_held_drew (S := fun wx => TriW wx w.heap.size (.int .i64 x0) (.int .i64 x1) (.slice xv xs.length xc0)) (by kernel_rfl) (T3.out.drew) (fun hH0 => ?_)
          refine wpAnyH_take (i := 0) (oi := { dst := some 38, op := _, type := _, pos := _, after := _, guard := _ }) (v := ?_) rfl (by kernel_rfl) (by kernel_rfl) (by kernel_rfl) (fun _ _ _ h => h) (Or.inl ⟨by rfl, ?_⟩) (hH0) ?_
          rotate_left
          · (intro wx hSw; obtain ⟨_, q0, q1, q2, _, _, _⟩ := hSw; go_simp <;> with_reducible rfl)
          simp only [Act.put, List.setIfInBounds_toArray, List.set_cons_zero, List.set_cons_succ]
          refine wpAnyH_take (i := 2) (oi := { dst := some 40, op := _, type := _, pos := _, after := _, guard := _ }) (v := ?_) rfl (by kernel_rfl) (by kernel_rfl) (by kernel_rfl) (fun _ _ _ h => h) (Or.inl ⟨by rfl, ?_⟩) (hH0) ?_
          rotate_left
          · (intro wx hSw; obtain ⟨_, q0, q1, q2, _, _, _⟩ := hSw; go_simp <;> with_reducible rfl)
          simp only [Act.put, List.setIfInBounds_toArray, List.set_cons_zero, List.set_cons_succ]
          refine wpAnyH_take (i := 4) (oi := { dst := some 42, op := _, type := _, pos := _, after := _, guard := _ }) (v := ?_) rfl (by kernel_rfl) (by kernel_rfl) (by kernel_rfl) (fun _ _ _ h => h) (Or.inl ⟨by rfl, ?_⟩) (hH0) ?_
          rotate_left
          · (intro wx hSw; obtain ⟨_, q0, q1, q2, _, _, _⟩ := hSw; go_simp <;> with_reducible rfl)
          simp only [Act.put, List.setIfInBounds_toArray, List.set_cons_zero, List.set_cons_succ]
          refine wpAnyH_take (i := 6) (oi := { dst := some 44, op := _, type := _, pos := _, after := _, guard := _ }) (v := ?_) rfl (by kernel_rfl) (by kernel_rfl) (by kernel_rfl) (fun _ _ _ h => h) (Or.inl ⟨by rfl, ?_⟩) (hH0) ?_
          rotate_left
          · (intro wx hSw; obtain ⟨_, q0, q1, q2, _, _, _⟩ := hSw; go_simp <;> with_reducible rfl)
          simp only [Act.put, List.setIfInBounds_toArray, List.set_cons_zero, List.set_cons_succ]
          refine wpAnyH_ready (rs := [1, 11]) (by kernel_rfl) (by simp) ?_
          refine AllReadyH.cons (o := { dst := some 39, op := _, type := _, pos := _, after := _, guard := _ }) rfl (fun K hK => ?_) (AllReadyH.cons (o := { dst := some 10, op := _, type := _, pos := _, after := _, guard := _ }) rfl (fun K hK => ?_) AllReadyH.nil)
          · skip
            go_simp
            refine (TR.out _ ((Below.drew B3))).mono ?_
            rintro e xa ⟨b0, rfl, l0, o0, hb0⟩
            dsimp only
            refine hK.out _ _ (TriW.below hH0 hb0) (fun hH101 => ?_)
            clear hK K
            refine wpAnyH_ready (rs := [3, 11]) (by kernel_rfl) (by simp) ?_
            refine AllReadyH.cons (o := { dst := some 41, op := _, type := _, pos := _, after := _, guard := _ }) rfl (fun K hK => ?_) (AllReadyH.cons (o := { dst := some 10, op := _, type := _, pos := _, after := _, guard := _ }) rfl (fun K hK => ?_) AllReadyH.nil)
            · skip
              go_simp
              refine (TR'.out _ (bstep ((Below.drew B3)) hb0)).mono ?_
              rintro e xb ⟨b1, rfl, l1, o1, hb1⟩
              dsimp only
              refine hK.out _ _ (TriW.below hH101 hb1) (fun hH102 => ?_)
              clear hK K
              refine wpAnyH_ready (rs := [5, 11]) (by kernel_rfl) (by simp) ?_
              refine AllReadyH.cons (o := { dst := some 43, op := _, type := _, pos := _, after := _, guard := _ }) rfl (fun K hK => ?_) (AllReadyH.cons (o := { dst := some 10, op := _, type := _, pos := _, after := _, guard := _ }) rfl (fun K hK => ?_) AllReadyH.nil)
              · skip
                go_simp
                refine (TI.out _ (bstep (bstep ((Below.drew B3)) hb0) hb1)).mono ?_
                rintro e xc ⟨g2, rfl, l2, o2, hb2⟩
                dsimp only
                refine hK.out _ _ (TriW.below hH102 hb2) (fun hH103 => ?_)
                clear hK K
                refine wpAnyH_ready (rs := [7, 11]) (by kernel_rfl) (by simp) ?_
                refine AllReadyH.cons (o := { dst := some 45, op := _, type := _, pos := _, after := _, guard := _ }) rfl (fun K hK => ?_) (AllReadyH.cons (o := { dst := some 10, op := _, type := _, pos := _, after := _, guard := _ }) rfl (fun K hK => ?_) AllReadyH.nil)
                · skip
                  go_simp
                  refine (SP.out _ _ _ _ ((o0.below hb1).below hb2) (o1.below hb2) o2).mono ?_
                  rintro e xd ⟨av, cv, s1, s2, s3, j1, j2, j3, rfl, rv, r1, r2, r3, fr, hb3⟩
                  dsimp only
                  refine hK.out _ _ (TriW.below hH103 hb3) (fun hH104 => ?_)
                  clear hK K
                  refine wpAnyH_take (i := 8) (oi := { dst := some 37, op := _, type := _, pos := _, after := _, guard := _ }) (v := ?_) rfl (by kernel_rfl) (by kernel_rfl) (by kernel_rfl) (fun _ _ _ h => h) (Or.inl ⟨by rfl, ?_⟩) (hH104) ?_
                  rotate_left
                  · (intro wx hSw; obtain ⟨_, q0, q1, q2, _, _, _⟩ := hSw; go_simp <;> with_reducible rfl)
                  simp only [Act.put, List.setIfInBounds_toArray, List.set_cons_zero, List.set_cons_succ]
                  refine wpAnyH_take (i := 9) (oi := { dst := some 46, op := _, type := _, pos := _, after := _, guard := _ }) (v := ?_) rfl (by kernel_rfl) (by kernel_rfl) (by kernel_rfl) (fun _ _ _ h => h) (Or.inl ⟨by rfl, ?_⟩) (hH104) ?_
                  rotate_left
                  · (intro wx hSw; obtain ⟨_, q0, q1, q2, _, _, _⟩ := hSw; go_simp <;> with_reducible rfl)
                  simp only [Act.put, List.setIfInBounds_toArray, List.set_cons_zero, List.set_cons_succ]
                  refine wpAnyH_take (i := 10) (oi := { dst := some 47, op := _, type := _, pos := _, after := _, guard := _ }) (v := ?_) rfl (by kernel_rfl) (by kernel_rfl) (by kernel_rfl) (fun _ _ _ h => h) (Or.inl ⟨by rfl, ?_⟩) (hH104) ?_
                  rotate_left
                  · (intro wx hSw; obtain ⟨_, q0, q1, q2, _, _, _⟩ := hSw; go_simp <;> with_reducible rfl)
                  simp only [Act.put, List.setIfInBounds_toArray, List.set_cons_zero, List.set_cons_succ]
                  refine wpAnyH_ready (rs := [11]) (by kernel_rfl) (by simp) ?_
                  refine AllReadyH.cons (o := { dst := some 10, op := _, type := _, pos := _, after := _, guard := _ }) rfl (fun K hK => ?_) AllReadyH.nil
                  go_simp
                  refine hK.out _ _ (TriW.below hH104 (balloc (Below.refl _ _) _)) (fun hH105 => ?_)
                  clear hK K
                  have sz0 := hb0.size
                  have sz1 := hb1.size
                  have sz2 := hb2.size
                  have sz3 := hb3.size
                  simp only [World.size_alloc, World.size_drew] at sz0 sz1 sz2 sz3
                  have B0x : Below w.heap.size w xd := bstep (bstep (bstep (bstep ((Below.drew B3)) hb0) hb1) hb2) hb3
                  refine wpAnyH_ready (rs := [12]) (by kernel_rfl) (by simp) ?_
                  refine AllReadyH.cons (o := { dst := none, op := _, type := _, pos := _, after := _, guard := _ }) rfl (fun K hK => ?_) AllReadyH.nil
                  go_simp
                  refine hK.out _ _ (TriW.below hH104 (balloc (Below.refl _ _) _)) (fun hH90 => ?_)
                  clear hK K
                  refine wpAnyH_take (i := 13) (oi := { dst := some 11, op := _, type := _, pos := _, after := _, guard := _ }) (v := ?_) rfl (by kernel_rfl) (by kernel_rfl) (by kernel_rfl) (fun _ _ _ h => h) (Or.inl ⟨by rfl, ?_⟩) (hH90) ?_
                  rotate_left
                  · (intro wx hSw; obtain ⟨_, q0, q1, q2, _, _, _⟩ := hSw; go_simp <;> with_reducible rfl)
                  simp only [Act.put, List.setIfInBounds_toArray, List.set_cons_zero, List.set_cons_succ]
                  refine wpAnyH_done (by kernel_rfl) ?_ _
                  go_wp2_with fail
                  go_meet
                  exact ⟨_, _, av, cv, s1, s2, s3, j1, j2, j3, rfl, rfl, ES.ofAlloc _ B0x hH104 rv r1 r2 r3 (by omega), balloc (bstep (bstep (bstep (bstep ((Below.drew (Below.refl _ _))) hb0) hb1) hb2) hb3) _⟩
                · skip
                  go_simp
                  refine hK.out _ _ (TriW.below hH103 (balloc (Below.refl _ _) _)) (fun hH106 => ?_)
                  clear hK K
                  refine wpAnyH_ready (rs := [7]) (by kernel_rfl) (by simp) ?_
                  refine AllReadyH.cons (o := { dst := some 45, op := _, type := _, pos := _, after := _, guard := _ }) rfl (fun K hK => ?_) AllReadyH.nil
                  go_simp
                  refine (SP.out _ _ _ _ (((o0.below hb1).below hb2).below (balloc (Below.refl _ _) _)) ((o1.below hb2).below (balloc (Below.refl _ _) _)) (o2.below (balloc (Below.refl _ _) _))).mono ?_
                  rintro e xd ⟨av, cv, s1, s2, s3, j1, j2, j3, rfl, rv, r1, r2, r3, fr, hb3⟩
                  dsimp only
                  refine hK.out _ _ (TriW.below hH106 hb3) (fun hH107 => ?_)
                  clear hK K
                  refine wpAnyH_take (i := 8) (oi := { dst := some 37, op := _, type := _, pos := _, after := _, guard := _ }) (v := ?_) rfl (by kernel_rfl) (by kernel_rfl) (by kernel_rfl) (fun _ _ _ h => h) (Or.inl ⟨by rfl, ?_⟩) (hH107) ?_
                  rotate_left
                  · (intro wx hSw; obtain ⟨_, q0, q1, q2, _, _, _⟩ := hSw; go_simp <;> with_reducible rfl)
                  simp only [Act.put, List.setIfInBounds_toArray, List.set_cons_zero, List.set_cons_succ]
                  refine wpAnyH_take (i := 9) (oi := { dst := some 46, op := _, type := _, pos := _, after := _, guard := _ }) (v := ?_) rfl (by kernel_rfl) (by kernel_rfl) (by kernel_rfl) (fun _ _ _ h => h) (Or.inl ⟨by rfl, ?_⟩) (hH107) ?_
                  rotate_left
                  · (intro wx hSw; obtain ⟨_, q0, q1, q2, _, _, _⟩ := hSw; go_simp <;> with_reducible rfl)
                  simp only [Act.put, List.setIfInBounds_toArray, List.set_cons_zero, List.set_cons_succ]
                  refine wpAnyH_take (i := 10) (oi := { dst := some 47, op := _, type := _, pos := _, after := _, guard := _ }) (v := ?_) rfl (by kernel_rfl) (by kernel_rfl) (by kernel_rfl) (fun _ _ _ h => h) (Or.inl ⟨by rfl, ?_⟩) (hH107) ?_
                  rotate_left
                  · (intro wx hSw; obtain ⟨_, q0, q1, q2, _, _, _⟩ := hSw; go_simp <;> with_reducible rfl)
                  simp only [Act.put, List.setIfInBounds_toArray, List.set_cons_zero, List.set_cons_succ]
                  have AZ := ((Any7.new xc (.int .i64 0) (.int .i64 0) (.slice none 0 0) (.slice none 0 0) (.slice none 0 0) (.slice none 0 0) (.bool false) 32 _ rfl).below hb3)
                  obtain ⟨⟨v0, y0⟩, ⟨v1, y1⟩, ⟨v2, y2⟩, ⟨v3, y3⟩, ⟨v4, y4⟩, ⟨v5, y5⟩, ⟨v6, y6⟩, f0, f1, f2, f3, f4, f5, f6⟩ := AZ.at
                  have sz0 := hb0.size
                  have sz1 := hb1.size
                  have sz2 := hb2.size
                  have sz3 := hb3.size
                  simp only [World.size_alloc, World.size_drew] at sz0 sz1 sz2 sz3 y0 y1 y2 y3 y4 y5 y6 f0 f1 f2 f3 f4 f5 f6
                  have B0x : Below w.heap.size w xd := bstep (balloc (bstep (bstep (bstep ((Below.drew B3)) hb0) hb1) hb2) _) hb3
                  have lz : w.heap.size < xc.heap.size := by omega
                  have B0y : Below w3.heap.size w3 xd := bstep (balloc (bstep (bstep (bstep ((Below.drew (Below.refl _ _))) hb0) hb1) hb2) _) hb3
                  refine wpAnyH_ready (rs := [12]) (by kernel_rfl) (by simp) ?_
                  refine AllReadyH.cons (o := { dst := none, op := _, type := _, pos := _, after := _, guard := _ }) rfl (fun K hK => ?_) AllReadyH.nil
                  go_simp
                  refine hK.out _ _ (TriW.away (TriW.away (TriW.away (TriW.away (TriW.away (TriW.away (TriW.away (hH107) _ _ (by simp; omega)) _ _ (by simp; omega)) _ _ (by simp; omega)) _ _ (by simp; omega)) _ _ (by simp; omega)) _ _ (by simp; omega)) _ _ (by simp; omega)) (fun hH90 => ?_)
                  clear hK K
                  refine wpAnyH_take (i := 13) (oi := { dst := some 11, op := _, type := _, pos := _, after := _, guard := _ }) (v := ?_) rfl (by kernel_rfl) (by kernel_rfl) (by kernel_rfl) (fun _ _ _ h => h) (Or.inl ⟨by rfl, ?_⟩) (hH90) ?_
                  rotate_left
                  · (intro wx hSw; obtain ⟨_, q0, q1, q2, _, _, _⟩ := hSw; go_simp <;> with_reducible rfl)
                  simp only [Act.put, List.setIfInBounds_toArray, List.set_cons_zero, List.set_cons_succ]
                  refine wpAnyH_done (by kernel_rfl) ?_ _
                  go_wp2_with fail
                  go_meet
                  exact ⟨_, _, av, cv, s1, s2, s3, j1, j2, j3, rfl, rfl, ES.ofSet B0x hH107 AZ rv r1 r2 r3 fr (by first | (simp; done) | (simp; omega) | omega) lz, (((((((B0y.setCell (by first | (simp; done) | (simp; omega)) _).setCell (by first | (simp; done) | (simp; omega)) _).setCell (by first | (simp; done) | (simp; omega)) _).setCell (by first | (simp; done) | (simp; omega)) _).setCell (by first | (simp; done) | (simp; omega)) _).setCell (by first | (simp; done) | (simp; omega)) _).setCell (by first | (simp; done) | (simp; omega)) _)⟩
              · skip
                go_simp
                refine hK.out _ _ (TriW.below hH102 (balloc (Below.refl _ _) _)) (fun hH108 => ?_)
                clear hK K
                refine wpAnyH_ready (rs := [5]) (by kernel_rfl) (by simp) ?_
                refine AllReadyH.cons (o := { dst := some 43, op := _, type := _, pos := _, after := _, guard := _ }) rfl (fun K hK => ?_) AllReadyH.nil
                go_simp
                refine (TI.out _ (balloc (bstep (bstep ((Below.drew B3)) hb0) hb1) _)).mono ?_
                rintro e xc ⟨g2, rfl, l2, o2, hb2⟩
                dsimp only
                refine hK.out _ _ (TriW.below hH108 hb2) (fun hH109 => ?_)
                clear hK K
                refine wpAnyH_ready (rs := [7]) (by kernel_rfl) (by simp) ?_
                refine AllReadyH.cons (o := { dst := some 45, op := _, type := _, pos := _, after := _, guard := _ }) rfl (fun K hK => ?_) AllReadyH.nil
                go_simp
                refine (SP.out _ _ _ _ (((o0.below hb1).below (balloc (Below.refl _ _) _)).below hb2) ((o1.below (balloc (Below.refl _ _) _)).below hb2) o2).mono ?_
                rintro e xd ⟨av, cv, s1, s2, s3, j1, j2, j3, rfl, rv, r1, r2, r3, fr, hb3⟩
                dsimp only
                refine hK.out _ _ (TriW.below hH109 hb3) (fun hH110 => ?_)
                clear hK K
                refine wpAnyH_take (i := 8) (oi := { dst := some 37, op := _, type := _, pos := _, after := _, guard := _ }) (v := ?_) rfl (by kernel_rfl) (by kernel_rfl) (by kernel_rfl) (fun _ _ _ h => h) (Or.inl ⟨by rfl, ?_⟩) (hH110) ?_
                rotate_left
                · (intro wx hSw; obtain ⟨_, q0, q1, q2, _, _, _⟩ := hSw; go_simp <;> with_reducible rfl)
                simp only [Act.put, List.setIfInBounds_toArray, List.set_cons_zero, List.set_cons_succ]
                refine wpAnyH_take (i := 9) (oi := { dst := some 46, op := _, type := _, pos := _, after := _, guard := _ }) (v := ?_) rfl (by kernel_rfl) (by kernel_rfl) (by kernel_rfl) (fun _ _ _ h => h) (Or.inl ⟨by rfl, ?_⟩) (hH110) ?_
                rotate_left
                · (intro wx hSw; obtain ⟨_, q0, q1, q2, _, _, _⟩ := hSw; go_simp <;> with_reducible rfl)
                simp only [Act.put, List.setIfInBounds_toArray, List.set_cons_zero, List.set_cons_succ]
                refine wpAnyH_take (i := 10) (oi := { dst := some 47, op := _, type := _, pos := _, after := _, guard := _ }) (v := ?_) rfl (by kernel_rfl) (by kernel_rfl) (by kernel_rfl) (fun _ _ _ h => h) (Or.inl ⟨by rfl, ?_⟩) (hH110) ?_
                rotate_left
                · (intro wx hSw; obtain ⟨_, q0, q1, q2, _, _, _⟩ := hSw; go_simp <;> with_reducible rfl)
                simp only [Act.put, List.setIfInBounds_toArray, List.set_cons_zero, List.set_cons_succ]
                have AZ := (((Any7.new xb (.int .i64 0) (.int .i64 0) (.slice none 0 0) (.slice none 0 0) (.slice none 0 0) (.slice none 0 0) (.bool false) 32 _ rfl).below hb2).below hb3)
                obtain ⟨⟨v0, y0⟩, ⟨v1, y1⟩, ⟨v2, y2⟩, ⟨v3, y3⟩, ⟨v4, y4⟩, ⟨v5, y5⟩, ⟨v6, y6⟩, f0, f1, f2, f3, f4, f5, f6⟩ := AZ.at
                have sz0 := hb0.size
                have sz1 := hb1.size
                have sz2 := hb2.size
                have sz3 := hb3.size
                simp only [World.size_alloc, World.size_drew] at sz0 sz1 sz2 sz3 y0 y1 y2 y3 y4 y5 y6 f0 f1 f2 f3 f4 f5 f6
                have B0x : Below w.heap.size w xd := bstep (bstep (balloc (bstep (bstep ((Below.drew B3)) hb0) hb1) _) hb2) hb3
                have lz : w.heap.size < xb.heap.size := by omega
                have B0y : Below w3.heap.size w3 xd := bstep (bstep (balloc (bstep (bstep ((Below.drew (Below.refl _ _))) hb0) hb1) _) hb2) hb3
                refine wpAnyH_ready (rs := [12]) (by kernel_rfl) (by simp) ?_
                refine AllReadyH.cons (o := { dst := none, op := _, type := _, pos := _, after := _, guard := _ }) rfl (fun K hK => ?_) AllReadyH.nil
                go_simp
                refine hK.out _ _ (TriW.away (TriW.away (TriW.away (TriW.away (TriW.away (TriW.away (TriW.away (hH110) _ _ (by simp; omega)) _ _ (by simp; omega)) _ _ (by simp; omega)) _ _ (by simp; omega)) _ _ (by simp; omega)) _ _ (by simp; omega)) _ _ (by simp; omega)) (fun hH90 => ?_)
                clear hK K
                refine wpAnyH_take (i := 13) (oi := { dst := some 11, op := _, type := _, pos := _, after := _, guard := _ }) (v := ?_) rfl (by kernel_rfl) (by kernel_rfl) (by kernel_rfl) (fun _ _ _ h => h) (Or.inl ⟨by rfl, ?_⟩) (hH90) ?_
                rotate_left
                · (intro wx hSw; obtain ⟨_, q0, q1, q2, _, _, _⟩ := hSw; go_simp <;> with_reducible rfl)
                simp only [Act.put, List.setIfInBounds_toArray, List.set_cons_zero, List.set_cons_succ]
                refine wpAnyH_done (by kernel_rfl) ?_ _
                go_wp2_with fail
                go_meet
                exact ⟨_, _, av, cv, s1, s2, s3, j1, j2, j3, rfl, rfl, ES.ofSet B0x hH110 AZ rv r1 r2 r3 fr (by first | (simp; done) | (simp; omega) | omega) lz, (((((((B0y.setCell (by first | (simp; done) | (simp; omega)) _).setCell (by first | (simp; done) | (simp; omega)) _).setCell (by first | (simp; done) | (simp; omega)) _).setCell (by first | (simp; done) | (simp; omega)) _).setCell (by first | (simp; done) | (simp; omega)) _).setCell (by first | (simp; done) | (simp; omega)) _).setCell (by first | (simp; done) | (simp; omega)) _)⟩
            · skip
              go_simp
              refine hK.out _ _ (TriW.below hH101 (balloc (Below.refl _ _) _)) (fun hH111 => ?_)
              clear hK K
              refine wpAnyH_ready (rs := [3]) (by kernel_rfl) (by simp) ?_
              refine AllReadyH.cons (o := { dst := some 41, op := _, type := _, pos := _, after := _, guard := _ }) rfl (fun K hK => ?_) AllReadyH.nil
              go_simp
              refine (TR'.out _ (balloc (bstep ((Below.drew B3)) hb0) _)).mono ?_
              rintro e xb ⟨b1, rfl, l1, o1, hb1⟩
              dsimp only
              refine hK.out _ _ (TriW.below hH111 hb1) (fun hH112 => ?_)
              clear hK K
              refine wpAnyH_ready (rs := [5]) (by kernel_rfl) (by simp) ?_
              refine AllReadyH.cons (o := { dst := some 43, op := _, type := _, pos := _, after := _, guard := _ }) rfl (fun K hK => ?_) AllReadyH.nil
              go_simp
              refine (TI.out _ (bstep (balloc (bstep ((Below.drew B3)) hb0) _) hb1)).mono ?_
              rintro e xc ⟨g2, rfl, l2, o2, hb2⟩
              dsimp only
              refine hK.out _ _ (TriW.below hH112 hb2) (fun hH113 => ?_)
              clear hK K
              refine wpAnyH_ready (rs := [7]) (by kernel_rfl) (by simp) ?_
              refine AllReadyH.cons (o := { dst := some 45, op := _, type := _, pos := _, after := _, guard := _ }) rfl (fun K hK => ?_) AllReadyH.nil
              go_simp
              refine (SP.out _ _ _ _ (((o0.below (balloc (Below.refl _ _) _)).below hb1).below hb2) (o1.below hb2) o2).mono ?_
              rintro e xd ⟨av, cv, s1, s2, s3, j1, j2, j3, rfl, rv, r1, r2, r3, fr, hb3⟩
              dsimp only
              refine hK.out _ _ (TriW.below hH113 hb3) (fun hH114 => ?_)
              clear hK K
              refine wpAnyH_take (i := 8) (oi := { dst := some 37, op := _, type := _, pos := _, after := _, guard := _ }) (v := ?_) rfl (by kernel_rfl) (by kernel_rfl) (by kernel_rfl) (fun _ _ _ h => h) (Or.inl ⟨by rfl, ?_⟩) (hH114) ?_
              rotate_left
              · (intro wx hSw; obtain ⟨_, q0, q1, q2, _, _, _⟩ := hSw; go_simp <;> with_reducible rfl)
              simp only [Act.put, List.setIfInBounds_toArray, List.set_cons_zero, List.set_cons_succ]
              refine wpAnyH_take (i := 9) (oi := { dst := some 46, op := _, type := _, pos := _, after := _, guard := _ }) (v := ?_) rfl (by kernel_rfl) (by kernel_rfl) (by kernel_rfl) (fun _ _ _ h => h) (Or.inl ⟨by rfl, ?_⟩) (hH114) ?_
              rotate_left
              · (intro wx hSw; obtain ⟨_, q0, q1, q2, _, _, _⟩ := hSw; go_simp <;> with_reducible rfl)
              simp only [Act.put, List.setIfInBounds_toArray, List.set_cons_zero, List.set_cons_succ]
              refine wpAnyH_take (i := 10) (oi := { dst := some 47, op := _, type := _, pos := _, after := _, guard := _ }) (v := ?_) rfl (by kernel_rfl) (by kernel_rfl) (by kernel_rfl) (fun _ _ _ h => h) (Or.inl ⟨by rfl, ?_⟩) (hH114) ?_
              rotate_left
              · (intro wx hSw; obtain ⟨_, q0, q1, q2, _, _, _⟩ := hSw; go_simp <;> with_reducible rfl)
              simp only [Act.put, List.setIfInBounds_toArray, List.set_cons_zero, List.set_cons_succ]
              have AZ := ((((Any7.new xa (.int .i64 0) (.int .i64 0) (.slice none 0 0) (.slice none 0 0) (.slice none 0 0) (.slice none 0 0) (.bool false) 32 _ rfl).below hb1).below hb2).below hb3)
              obtain ⟨⟨v0, y0⟩, ⟨v1, y1⟩, ⟨v2, y2⟩, ⟨v3, y3⟩, ⟨v4, y4⟩, ⟨v5, y5⟩, ⟨v6, y6⟩, f0, f1, f2, f3, f4, f5, f6⟩ := AZ.at
              have sz0 := hb0.size
              have sz1 := hb1.size
              have sz2 := hb2.size
              have sz3 := hb3.size
              simp only [World.size_alloc, World.size_drew] at sz0 sz1 sz2 sz3 y0 y1 y2 y3 y4 y5 y6 f0 f1 f2 f3 f4 f5 f6
              have B0x : Below w.heap.size w xd := bstep (bstep (bstep (balloc (bstep ((Below.drew B3)) hb0) _) hb1) hb2) hb3
              have lz : w.heap.size < xa.heap.size := by omega
              have B0y : Below w3.heap.size w3 xd := bstep (bstep (bstep (balloc (bstep ((Below.drew (Below.refl _ _))) hb0) _) hb1) hb2) hb3
              refine wpAnyH_ready (rs := [12]) (by kernel_rfl) (by simp) ?_
              refine AllReadyH.cons (o := { dst := none, op := _, type := _, pos := _, after := _, guard := _ }) rfl (fun K hK => ?_) AllReadyH.nil
              go_simp
              refine hK.out _ _ (TriW.away (TriW.away (TriW.away (TriW.away (TriW.away (TriW.away (TriW.away (hH114) _ _ (by simp; omega)) _ _ (by simp; omega)) _ _ (by simp; omega)) _ _ (by simp; omega)) _ _ (by simp; omega)) _ _ (by simp; omega)) _ _ (by simp; omega)) (fun hH90 => ?_)
              clear hK K
              refine wpAnyH_take (i := 13) (oi := { dst := some 11, op := _, type := _, pos := _, after := _, guard := _ }) (v := ?_) rfl (by kernel_rfl) (by kernel_rfl) (by kernel_rfl) (fun _ _ _ h => h) (Or.inl ⟨by rfl, ?_⟩) (hH90) ?_
              rotate_left
              · (intro wx hSw; obtain ⟨_, q0, q1, q2, _, _, _⟩ := hSw; go_simp <;> with_reducible rfl)
              simp only [Act.put, List.setIfInBounds_toArray, List.set_cons_zero, List.set_cons_succ]
              refine wpAnyH_done (by kernel_rfl) ?_ _
              go_wp2_with fail
              go_meet
              exact ⟨_, _, av, cv, s1, s2, s3, j1, j2, j3, rfl, rfl, ES.ofSet B0x hH114 AZ rv r1 r2 r3 fr (by first | (simp; done) | (simp; omega) | omega) lz, (((((((B0y.setCell (by first | (simp; done) | (simp; omega)) _).setCell (by first | (simp; done) | (simp; omega)) _).setCell (by first | (simp; done) | (simp; omega)) _).setCell (by first | (simp; done) | (simp; omega)) _).setCell (by first | (simp; done) | (simp; omega)) _).setCell (by first | (simp; done) | (simp; omega)) _).setCell (by first | (simp; done) | (simp; omega)) _)⟩
          · skip
            go_simp
            refine hK.out _ _ (TriW.below hH0 (balloc (Below.refl _ _) _)) (fun hH115 => ?_)
            clear hK K
            refine wpAnyH_ready (rs := [1]) (by kernel_rfl) (by simp) ?_
            refine AllReadyH.cons (o := { dst := some 39, op := _, type := _, pos := _, after := _, guard := _ }) rfl (fun K hK => ?_) AllReadyH.nil
            go_simp
            refine (TR.out _ (balloc ((Below.drew B3)) _)).mono ?_
            rintro e xa ⟨b0, rfl, l0, o0, hb0⟩
            dsimp only
            refine hK.out _ _ (TriW.below hH115 hb0) (fun hH116 => ?_)
            clear hK K
            refine wpAnyH_ready (rs := [3]) (by kernel_rfl) (by simp) ?_
            refine AllReadyH.cons (o := { dst := some 41, op := _, type := _, pos := _, after := _, guard := _ }) rfl (fun K hK => ?_) AllReadyH.nil
            go_simp
            refine (TR'.out _ (bstep (balloc ((Below.drew B3)) _) hb0)).mono ?_
            rintro e xb ⟨b1, rfl, l1, o1, hb1⟩
            dsimp only
            refine hK.out _ _ (TriW.below hH116 hb1) (fun hH117 => ?_)
            clear hK K
            refine wpAnyH_ready (rs := [5]) (by kernel_rfl) (by simp) ?_
            refine AllReadyH.cons (o := { dst := some 43, op := _, type := _, pos := _, after := _, guard := _ }) rfl (fun K hK => ?_) AllReadyH.nil
            go_simp
            refine (TI.out _ (bstep (bstep (balloc ((Below.drew B3)) _) hb0) hb1)).mono ?_
            rintro e xc ⟨g2, rfl, l2, o2, hb2⟩
            dsimp only
            refine hK.out _ _ (TriW.below hH117 hb2) (fun hH118 => ?_)
            clear hK K
            refine wpAnyH_ready (rs := [7]) (by kernel_rfl) (by simp) ?_
            refine AllReadyH.cons (o := { dst := some 45, op := _, type := _, pos := _, after := _, guard := _ }) rfl (fun K hK => ?_) AllReadyH.nil
            go_simp
            refine (SP.out _ _ _ _ ((o0.below hb1).below hb2) (o1.below hb2) o2).mono ?_
            rintro e xd ⟨av, cv, s1, s2, s3, j1, j2, j3, rfl, rv, r1, r2, r3, fr, hb3⟩
            dsimp only
            refine hK.out _ _ (TriW.below hH118 hb3) (fun hH119 => ?_)
            clear hK K
            refine wpAnyH_take (i := 8) (oi := { dst := some 37, op := _, type := _, pos := _, after := _, guard := _ }) (v := ?_) rfl (by kernel_rfl) (by kernel_rfl) (by kernel_rfl) (fun _ _ _ h => h) (Or.inl ⟨by rfl, ?_⟩) (hH119) ?_
            rotate_left
            · (intro wx hSw; obtain ⟨_, q0, q1, q2, _, _, _⟩ := hSw; go_simp <;> with_reducible rfl)
            simp only [Act.put, List.setIfInBounds_toArray, List.set_cons_zero, List.set_cons_succ]
            refine wpAnyH_take (i := 9) (oi := { dst := some 46, op := _, type := _, pos := _, after := _, guard := _ }) (v := ?_) rfl (by kernel_rfl) (by kernel_rfl) (by kernel_rfl) (fun _ _ _ h => h) (Or.inl ⟨by rfl, ?_⟩) (hH119) ?_
            rotate_left
            · (intro wx hSw; obtain ⟨_, q0, q1, q2, _, _, _⟩ := hSw; go_simp <;> with_reducible rfl)
            simp only [Act.put, List.setIfInBounds_toArray, List.set_cons_zero, List.set_cons_succ]
            refine wpAnyH_take (i := 10) (oi := { dst := some 47, op := _, type := _, pos := _, after := _, guard := _ }) (v := ?_) rfl (by kernel_rfl) (by kernel_rfl) (by kernel_rfl) (fun _ _ _ h => h) (Or.inl ⟨by rfl, ?_⟩) (hH119) ?_
            rotate_left
            · (intro wx hSw; obtain ⟨_, q0, q1, q2, _, _, _⟩ := hSw; go_simp <;> with_reducible rfl)
            simp only [Act.put, List.setIfInBounds_toArray, List.set_cons_zero, List.set_cons_succ]
            have AZ := (((((Any7.new w3.drew (.int .i64 0) (.int .i64 0) (.slice none 0 0) (.slice none 0 0) (.slice none 0 0) (.slice none 0 0) (.bool false) 32 _ rfl).below hb0).below hb1).below hb2).below hb3)
            obtain ⟨⟨v0, y0⟩, ⟨v1, y1⟩, ⟨v2, y2⟩, ⟨v3, y3⟩, ⟨v4, y4⟩, ⟨v5, y5⟩, ⟨v6, y6⟩, f0, f1, f2, f3, f4, f5, f6⟩ := AZ.at
            have sz0 := hb0.size
            have sz1 := hb1.size
            have sz2 := hb2.size
            have sz3 := hb3.size
            simp only [World.size_alloc, World.size_drew] at sz0 sz1 sz2 sz3 y0 y1 y2 y3 y4 y5 y6 f0 f1 f2 f3 f4 f5 f6
            have B0x : Below w.heap.size w xd := bstep (bstep (bstep (bstep (balloc ((Below.drew B3)) _) hb0) hb1) hb2) hb3
            have lz : w.heap.size < w3.heap.size := by omega
            have B0y : Below w3.heap.size w3 xd := bstep (bstep (bstep (bstep (balloc ((Below.drew (Below.refl _ _))) _) hb0) hb1) hb2) hb3
            refine wpAnyH_ready (rs := [12]) (by kernel_rfl) (by simp) ?_
            refine AllReadyH.cons (o := { dst := none, op := _, type := _, pos := _, after := _, guard := _ }) rfl (fun K hK => ?_) AllReadyH.nil
            go_simp
            refine hK.out _ _ (TriW.away (TriW.away (TriW.away (TriW.away (TriW.away (TriW.away (TriW.away (hH119) _ _ (by simp; omega)) _ _ (by simp; omega)) _ _ (by simp; omega)) _ _ (by simp; omega)) _ _ (by simp; omega)) _ _ (by simp; omega)) _ _ (by simp; omega)) (fun hH90 => ?_)
            clear hK K
            refine wpAnyH_take (i := 13) (oi := { dst := some 11, op := _, type := _, pos := _, after := _, guard := _ }) (v := ?_) rfl (by kernel_rfl) (by kernel_rfl) (by kernel_rfl) (fun _ _ _ h => h) (Or.inl ⟨by rfl, ?_⟩) (hH90) ?_
            rotate_left
            · (intro wx hSw; obtain ⟨_, q0, q1, q2, _, _, _⟩ := hSw; go_simp <;> with_reducible rfl)
            simp only [Act.put, List.setIfInBounds_toArray, List.set_cons_zero, List.set_cons_succ]
            refine wpAnyH_done (by kernel_rfl) ?_ _
            go_wp2_with fail
            go_meet
            exact ⟨_, _, av, cv, s1, s2, s3, j1, j2, j3, rfl, rfl, ES.ofSet B0x hH119 AZ rv r1 r2 r3 fr (by first | (simp; done) | (simp; omega) | omega) lz, (((((((B0y.setCell (by first | (simp; done) | (simp; omega)) _).setCell (by first | (simp; done) | (simp; omega)) _).setCell (by first | (simp; done) | (simp; omega)) _).setCell (by first | (simp; done) | (simp; omega)) _).setCell (by first | (simp; done) | (simp; omega)) _).setCell (by first | (simp; done) | (simp; omega)) _).setCell (by first | (simp; done) | (simp; omega)) _)⟩
        case rest =>
          obtain ⟨z, D, av, cv, s1, s2, s3, j1, j2, j3, rfl, rfl, hES, _⟩ := hcut
          have H := hide hES
          have d4 := hES.DW
          clear hES T3 B3 SP
          go_wp2_with fail
          refine (TR.out _ H.out.bel).mono ?_
          rintro e w4 ⟨b4, rfl, l4, o4, hb4⟩
          have H4 := hide (H.out.below hb4)
          have y4 := o4.lt
          clear H hb4
          go_wp2_with fail
          refine (TR'.out _ H4.out.bel).mono ?_
          rintro e w5 ⟨b5, rfl, l5, o5, hb5⟩
          have H5 := hide (H4.out.below hb5)
          have o4 := o4.below hb5
          have y5 := o5.lt
          obtain ⟨_, t0, t1, t2, _, _, _⟩ := H5.out.bx
          clear H4 hb5
          go_wp2_with fail
          refine (TI.out _ H5.out.bel).mono ?_
          rintro e w6 ⟨g6, rfl, l6, o6, hb6⟩
          have H6 := hide (H5.out.below hb6)
          have o4 := o4.below hb6
          have o5 := o5.below hb6
          have y6 : g6 < w6.heap.size := World.rowIs.lt o6
          obtain ⟨W7, hW7⟩ : ∃ X, w6.alloc (.cells #[.int .i64 x0, .int .i64 x1, .slice (some ⟨g6, 0, none⟩) xs.length xs.length] 28) = X := ⟨_, rfl⟩
          have ba : Below w6.heap.size w6 W7 := hW7 ▸ (by repeat' first | with_reducible exact Below.refl _ _ | with_reducible assumption | with_reducible refine below_drewN ?_ _ | with_reducible refine balloc ?_ _ | with_reducible refine Below.drew ?_ | with_reducible refine Below.setCell ?_ (by first | (simp; done) | (simp; omega) | omega) _ | with_reducible refine bstep ?_ (by assumption))
          have TX : TriW W7 w6.heap.size (.int .i64 x0) (.int .i64 x1) (.slice (some ⟨g6, 0, none⟩) xs.length xs.length) := hW7 ▸ TriW.new _ _ _ _ _ _ rfl
          have s7 : W7.heap.size = w6.heap.size + 1 := hW7 ▸ World.size_alloc _ _
          have H7 := hide (H6.out.below ba)
          have o4 := o4.below ba
          have o5 := o5.below ba
          have o6 := Own.below o6 ba
          have HW7 := hide hW7
          have HTX := hide TX
          clear TX hW7 t0 t1 t2 ba hb6 H5 H6
          go_wp2_with fail
          rw [HW7.out]
          refine (IM.out _ _ _ _ o4 o5 o6).mono ?_
          rintro e w8 ⟨X, C, va, gv, a1, a2, a3, k1, k2, k3, rfl, v8, r8, lX, lC, lW, hb8⟩
          obtain ⟨ya, yc, rfl, _⟩ := id v8
          have s8 := hb8.size
          have H8 := hide (H7.out.below hb8)
          have TX8 := hide (HTX.out.below hb8)
          have O4 := hide (o4.below hb8)
          have O5 := hide (o5.below hb8)
          have O6 := hide (Own.below o6 hb8)
          obtain ⟨W9, hW9⟩ : ∃ Y, w8.alloc (.cells #[.int .i64 E.id, .int .i64 E.tags, .slice ya E.vec.length yc, .slice a1 E.m k1, .slice a2 E.m k2, .slice a3 E.m k3, .bool E.is] 32) = Y := ⟨_, rfl⟩
          have b9 : Below w8.heap.size w8 W9 := hW9 ▸ (by repeat' first | with_reducible exact Below.refl _ _ | with_reducible assumption | with_reducible refine below_drewN ?_ _ | with_reducible refine balloc ?_ _ | with_reducible refine Below.drew ?_ | with_reducible refine Below.setCell ?_ (by first | (simp; done) | (simp; omega) | omega) _ | with_reducible refine bstep ?_ (by assumption))
          have Y9 : Sev W9 w8.heap.size (.int .i64 E.id) (.int .i64 E.tags) (.slice ya E.vec.length yc) (.slice a1 E.m k1) (.slice a2 E.m k2) (.slice a3 E.m k3) (.bool E.is) := hW9 ▸ Sev.new _ _ _ _ _ _ _ _ _ _ rfl
          have s9 : W9.heap.size = w8.heap.size + 1 := hW9 ▸ World.size_alloc _ _
          have H9 := hide (H8.out.below b9)
          have TX9 := hide (TX8.out.below b9)
          have O4 := hide (O4.out.below b9)
          have O5 := hide (O5.out.below b9)
          have O6 := hide (Own.below O6.out b9)
          have V9 := hide (v8.below b9)
          have R9 := hide (r8.below b9)
          have HY9 := hide Y9
          have HW9 := hide hW9
          obtain ⟨_, e0, e1, e2, e3, e4, e5, e6⟩ := H8.out.sv
          clear hW9 Y9 b9 v8 r8 o4 o5 o6 hb8 H7 HTX HW7 TX8
          have EE := hide (fun W (hh : ES w W (.int .i64 x0) (.int .i64 x1) (.slice xv xs.length xc0) z D E av cv s1 s2 s3 j1 j2 j3) (hv : VSl W W7.heap.size X (.slice ya E.vec.length yc) E.vec gv) (hr : Row3 X C W a1 a2 a3 E.m (ints E.c1 E.m) (ints E.c2 E.m) (ints E.c3 E.m)) =>
            eqEntry_same E.id E.tags E.vec E.is ya av yc cv a1 a2 a3 s1 s2 s3 E.m k1 k2 k3 j1 j2 j3 _ _ _ W hE (by omega) hv.rowAt hh.rv hr.rows.1 hr.rows.2.1 hr.rows.2.2 hh.r1 hh.r2 hh.r3)
          go_wp2_with fail
          rw [HW9.out]
          refine (EE.out _ H9.out V9.out R9.out).mono ?_
          rintro e w10 ⟨rfl, hb10⟩
          have H10 := hide (H9.out.below hb10)
          have TX := hide (TX9.out.below hb10)
          have O4 := hide (O4.out.below hb10)
          have O5 := hide (O5.out.below hb10)
          have O6 := hide (Own.below O6.out hb10)
          have V := hide (V9.out.below hb10)
          have R := hide (R9.out.below hb10)
          have Y := hide (HY9.out.below hb10)
          have s10 := hb10.size
          clear hb10 H8 H9 TX9 V9 R9 HY9 HW9 e0 e1 e2 e3 e4 e5 e6
          go_wp2_with fail
          refine (TR.out _ H10.out.bel).mono ?_
          rintro e w11 ⟨b11, rfl, l11, o11, hb11⟩
          have H11 := hide (H10.out.below hb11)
          have TX := hide (TX.out.below hb11)
          have O4 := hide (O4.out.below hb11)
          have O5 := hide (O5.out.below hb11)
          have O6 := hide (Own.below O6.out hb11)
          have V := hide (V.out.below hb11)
          have R := hide (R.out.below hb11)
          have Y := hide (Y.out.below hb11)
          clear hb11 H10
          go_wp2_with fail
          refine (EQ.out _ _ _ O4.out o11).mono ?_
          rintro e w12 ⟨rfl, hb12⟩
          have H12 := hide (H11.out.below hb12)
          have TX := hide (TX.out.below hb12)
          have O4 := hide (O4.out.below hb12)
          have O5 := hide (O5.out.below hb12)
          have O6 := hide (Own.below O6.out hb12)
          have V := hide (V.out.below hb12)
          have R := hide (R.out.below hb12)
          have Y := hide (Y.out.below hb12)
          clear hb12 H11 o11 l11
          go_wp2_with fail
          refine (TR'.out _ H12.out.bel).mono ?_
          rintro e w13 ⟨b13, rfl, l13, o13, hb13⟩
          have H13 := hide (H12.out.below hb13)
          have TX := hide (TX.out.below hb13)
          have O4 := hide (O4.out.below hb13)
          have O5 := hide (O5.out.below hb13)
          have O6 := hide (Own.below O6.out hb13)
          have V := hide (V.out.below hb13)
          have R := hide (R.out.below hb13)
          have Y := hide (Y.out.below hb13)
          clear hb13 H12
          go_wp2_with fail
          refine (EQ'.out _ _ _ O5.out o13).mono ?_
          rintro e w14 ⟨rfl, hb14⟩
          have bd : Below w14.heap.size w14 w14.drew := Below.drew (Below.refl _ _)
          have H14 := hide ((H13.out.below hb14).below bd)
          have TX := hide ((TX.out.below hb14).below bd)
          have O4 := hide ((O4.out.below hb14).below bd)
          have O5 := hide ((O5.out.below hb14).below bd)
          have O6 := hide (Own.below (Own.below O6.out hb14) bd)
          have V := hide ((V.out.below hb14).below bd)
          have R := hide ((R.out.below hb14).below bd)
          have Y := hide ((Y.out.below hb14).below bd)
          clear hb14 H13 o13 l13 bd
          have S14 : Hid (TwoE w14.drew w6.heap.size w.heap.size (.int .i64 x0) (.int .i64 x1) (.slice (some ⟨g6, 0, none⟩) xs.length xs.length) (.int .i64 x0) (.int .i64 x1) (.slice xv xs.length xc0)) := hide ⟨TX.out, H14.out.bx⟩
          go_wp2_with fail
          refine wp_region_held_drew (S := fun wx => TwoE wx w6.heap.size w.heap.size (.int .i64 x0) (.int .i64 x1) (.slice (some ⟨g6, 0, none⟩) xs.length xs.length) (.int .i64 x0) (.int .i64 x1) (.slice xv xs.length xc0)) (by kernel_rfl) (S14.out) (fun hH0 => ?_)
          refine wpAnyH_take (i := 0) (oi := { dst := some 81, op := _, type := _, pos := _, after := _, guard := _ }) (v := ?_) rfl (by kernel_rfl) (by kernel_rfl) (by kernel_rfl) (fun _ _ _ h => h) (Or.inl ⟨by rfl, ?_⟩) (hH0) ?_
          rotate_left
          · (intro wx hSw; obtain ⟨⟨_, q0, q1, q2, _, _, _⟩, ⟨_, p0, p1, p2, _, _, _⟩⟩ := hSw; go_simp <;> with_reducible rfl)
          simp only [Act.put, List.setIfInBounds_toArray, List.set_cons_zero, List.set_cons_succ]
          refine wpAnyH_take (i := 1) (oi := { dst := some 82, op := _, type := _, pos := _, after := _, guard := _ }) (v := ?_) rfl (by kernel_rfl) (by kernel_rfl) (by kernel_rfl) (fun _ _ _ h => h) (Or.inl ⟨by rfl, ?_⟩) (hH0) ?_
          rotate_left
          · (intro wx hSw; obtain ⟨⟨_, q0, q1, q2, _, _, _⟩, ⟨_, p0, p1, p2, _, _, _⟩⟩ := hSw; go_simp <;> with_reducible rfl)
          simp only [Act.put, List.setIfInBounds_toArray, List.set_cons_zero, List.set_cons_succ]
          refine wpAnyH_ready (rs := [2]) (by kernel_rfl) (by simp) ?_
          refine AllReadyH.cons (o := { dst := some 83, op := _, type := _, pos := _, after := _, guard := _ }) rfl (fun K hK => ?_) AllReadyH.nil
          go_simp
          refine (TI.out _ H14.out.bel).mono ?_
          rintro e w15 ⟨g15, rfl, l15, o15, hb15⟩
          dsimp only
          refine hK.out _ _ (TwoE.below hH0 hb15) (fun hH1 => ?_)
          clear hK K
          refine wpAnyH_ready (rs := [3]) (by kernel_rfl) (by simp) ?_
          refine AllReadyH.cons (o := { dst := some 84, op := _, type := _, pos := _, after := _, guard := _ }) rfl (fun K hK => ?_) AllReadyH.nil
          go_simp
          refine (EI.out _ _ _ (Own.below O6.out hb15) o15).mono ?_
          rintro e w16 ⟨rfl, hb16⟩
          dsimp only
          refine hK.out _ _ (TwoE.below hH1 hb16) (fun hH2 => ?_)
          clear hK K
          refine wpAnyH_take (i := 4) (oi := { dst := some 85, op := _, type := _, pos := _, after := _, guard := _ }) (v := ?_) rfl (by kernel_rfl) (by kernel_rfl) (by kernel_rfl) (fun _ _ _ h => h) (Or.inl ⟨by rfl, ?_⟩) (hH2) ?_
          rotate_left
          · (intro wx hSw; obtain ⟨⟨_, q0, q1, q2, _, _, _⟩, ⟨_, p0, p1, p2, _, _, _⟩⟩ := hSw; go_simp <;> with_reducible rfl)
          simp only [Act.put, List.setIfInBounds_toArray, List.set_cons_zero, List.set_cons_succ]
          refine wpAnyH_done (by kernel_rfl) ?_ _
          -- behind it: go_wp2_with fail, then go_meet (a cut) or go_ret; the condition at the end: hH2
          have H16 := hide ((H14.out.below hb15).below hb16)
          have TX := hide ((TX.out.below hb15).below hb16)
          have O4 := hide ((O4.out.below hb15).below hb16)
          have O5 := hide ((O5.out.below hb15).below hb16)
          have O6 := hide (Own.below (Own.below O6.out hb15) hb16)
          have V := hide ((V.out.below hb15).below hb16)
          have R := hide ((R.out.below hb15).below hb16)
          have Y := hide ((Y.out.below hb15).below hb16)
          clear hb15 hb16 H14 o15 l15 S14 hH0 hH1 hH2
          go_wp2_with fail
          refine (markRangeS_own b4 n n 1 f g _ O4.out hn (by omega) (by omega)).mono ?_
          rintro e w17 ⟨rfl, _, hb17⟩
          have f17 : Far b4 (b4 + 1) w16 w17 := Far.ofBut hb17 (by omega) (by omega)
          have H17 := hide (H16.out.far f17 (by omega))
          have TX := hide (TX.out.farE f17 (by omega))
          have O5 := hide (O5.out.farE f17 (by omega))
          have O6 := hide (ownFar O6.out f17 (by omega))
          have V := hide (VSl.far (B' := b4) (C' := b4 + 1) V.out f17 (by omega))
          have R := hide (Row3.far (B' := b4) (C' := b4 + 1) R.out f17 (by omega))
          have Y := hide (Y.out.far f17 (by omega))
          clear f17 hb17 H16 O4
          go_wp2_with fail
          refine (markRangeS_own b5 n' n' _ f' g' _ O5.out hn' (by omega) (by omega)).mono ?_
          rintro e w18 ⟨rfl, _, hb18⟩
          have f18 : Far b5 (b5 + 1) w17 w18 := Far.ofBut hb18 (by omega) (by omega)
          have H18 := hide (H17.out.far f18 (by omega))
          have TX := hide (TX.out.farE f18 (by omega))
          have O6 := hide (ownFar O6.out f18 (by omega))
          have V := hide (VSl.far (B' := b5) (C' := b5 + 1) V.out f18 (by omega))
          have R := hide (Row3.far (B' := b5) (C' := b5 + 1) R.out f18 (by omega))
          have Y := hide (Y.out.far f18 (by omega))
          obtain ⟨_, t0, t1, t2, _, _, _⟩ := TX.out
          clear f18 hb18 H17 O5 TX
          go_wp2_with fail
          refine (markItem_any (B := g6) (C := g6 + 1) x0 x1 _ _ (own_vsl O6.out) hxn (by omega) (by omega)).mono ?_
          rintro e w19 ⟨rfl, _, f19⟩
          have H19 := hide (H18.out.far f19 (by omega))
          have V := hide (VSl.far (B' := g6) (C' := g6 + 1) V.out f19 (by omega))
          have R := hide (Row3.far (B' := g6) (C' := g6 + 1) R.out f19 (by omega))
          have Y := hide (Y.out.far f19 (by omega))
          have s19 : W9.heap.size ≤ w19.heap.size := by have := Y.out.lt; omega
          clear f19 H18 O6 t0 t1 t2
          have hk0 : ¬ ((1 : Int) + 2 * (n : Int) + 2 * (n' : Int) + (xs.length : Int) < 0) := by omega
          obtain ⟨_, e0, e1, e2, e3, e4, e5, e6⟩ := H19.out.sv
          obtain ⟨_, c0, c1, c2, c3, c4, c5, c6⟩ := Y.out
          go_wp2_with fail
          refine (EE.out _ H19.out V.out R.out).mono ?_
          rintro e w20 ⟨rfl, hb20⟩
          have H20 := hide (H19.out.below hb20)
          have V := hide (V.out.below hb20)
          have R := hide (R.out.below hb20)
          have Y := hide (Y.out.below hb20)
          have s20 := hb20.size
          clear hb20 H19 e0 e1 e2 e3 e4 e5 e6 c0 c1 c2 c3 c4 c5 c6
          obtain ⟨_, c0, c1, c2, c3, c4, c5, c6⟩ := Y.out
          go_wp2_with fail
          refine (markEntry_any W7.heap.size X C E.id E.tags E.is _ E.vec gv a1 a2 a3 E.m k1 k2 k3 _ _ _ _ hE h8 lX lC V.out R.out (by omega)).mono ?_
          rintro e w21 ⟨rfl, v21, r21, f21⟩
          have H21 := hide (H20.out.far f21 (by omega))
          have Y := hide (Y.out.far f21 (by omega))
          have V := hide v21
          have R := hide r21
          clear v21 r21 f21 H20 c0 c1 c2 c3 c4 c5 c6
          obtain ⟨_, c0, c1, c2, c3, c4, c5, c6⟩ := Y.out
          go_wp2_with fail
          refine (heldEntry_any W7.heap.size X C E.id E.tags E.is _ E.vec.length gv a1 a2 a3 E.m k1 k2 k3 _ hE h8 V.out R.out).mono ?_
          rintro e wl ⟨rfl, hbl⟩
          have HL := hide (H21.out.below hbl)
          have V := hide (V.out.below hbl)
          have R := hide (R.out.below hbl)
          have Y := hide (Y.out.below hbl)
          have lwl : w.heap.size < wl.heap.size := HL.out.bx.lt
          clear hbl H21 c0 c1 c2 c3 c4 c5 c6
          have hk1 : ¬ ((1 : Int) + (E.vec.length : Int) + (E.m : Int) + (E.m : Int) + (E.m : Int) < 0) := by omega
          have hk2 : ((1 : Int) + (E.vec.length : Int) + (E.m : Int) + (E.m : Int) + (E.m : Int) != (1 : Int) + (E.vec.length : Int) + (E.m : Int) + (E.m : Int) + (E.m : Int)) = false := by simp
          go_wp2_with fail
          go_cut [20, 21] (fun s20 s21 wx => ∃ z D av cv s1 s2 s3 j1 j2 j3, s20 = .pointer (some ⟨z, 0, none⟩) ∧ s21 = .bool v ∧ ES w wx (.int .i64 x0) (.int .i64 x1) (.slice xv xs.length xc0) z D E av cv s1 s2 s3 j1 j2 j3 ∧ Below wl.heap.size wl wx)
          case first =>
            refine wp_region_held_drew (S := fun wx => TriW wx w.heap.size (.int .i64 x0) (.int .i64 x1) (.slice xv xs.length xc0)) (by kernel_rfl) (HL.out.bx.drew) (fun hH0 => ?_)
            refine wpAnyH_take (i := 0) (oi := { dst := some 120, op := _, type := _, pos := _, after := _, guard := _ }) (v := ?_) rfl (by kernel_rfl) (by kernel_rfl) (by kernel_rfl) (fun _ _ _ h => h) (Or.inl ⟨by rfl, ?_⟩) (hH0) ?_
            rotate_left
            · (intro wx hSw; obtain ⟨_, q0, q1, q2, _, _, _⟩ := hSw; go_simp <;> with_reducible rfl)
            simp only [Act.put, List.setIfInBounds_toArray, List.set_cons_zero, List.set_cons_succ]
            refine wpAnyH_take (i := 2) (oi := { dst := some 122, op := _, type := _, pos := _, after := _, guard := _ }) (v := ?_) rfl (by kernel_rfl) (by kernel_rfl) (by kernel_rfl) (fun _ _ _ h => h) (Or.inl ⟨by rfl, ?_⟩) (hH0) ?_
            rotate_left
            · (intro wx hSw; obtain ⟨_, q0, q1, q2, _, _, _⟩ := hSw; go_simp <;> with_reducible rfl)
            simp only [Act.put, List.setIfInBounds_toArray, List.set_cons_zero, List.set_cons_succ]
            refine wpAnyH_take (i := 4) (oi := { dst := some 124, op := _, type := _, pos := _, after := _, guard := _ }) (v := ?_) rfl (by kernel_rfl) (by kernel_rfl) (by kernel_rfl) (fun _ _ _ h => h) (Or.inl ⟨by rfl, ?_⟩) (hH0) ?_
            rotate_left
            · (intro wx hSw; obtain ⟨_, q0, q1, q2, _, _, _⟩ := hSw; go_simp <;> with_reducible rfl)
            simp only [Act.put, List.setIfInBounds_toArray, List.set_cons_zero, List.set_cons_succ]
            refine wpAnyH_take (i := 6) (oi := { dst := some 126, op := _, type := _, pos := _, after := _, guard := _ }) (v := ?_) rfl (by kernel_rfl) (by kernel_rfl) (by kernel_rfl) (fun _ _ _ h => h) (Or.inl ⟨by rfl, ?_⟩) (hH0) ?_
            rotate_left
            · (intro wx hSw; obtain ⟨_, q0, q1, q2, _, _, _⟩ := hSw; go_simp <;> with_reducible rfl)
            simp only [Act.put, List.setIfInBounds_toArray, List.set_cons_zero, List.set_cons_succ]
            refine wpAnyH_ready (rs := [1, 11]) (by kernel_rfl) (by simp) ?_
            refine AllReadyH.cons (o := { dst := some 121, op := _, type := _, pos := _, after := _, guard := _ }) rfl (fun K hK => ?_) (AllReadyH.cons (o := { dst := some 20, op := _, type := _, pos := _, after := _, guard := _ }) rfl (fun K hK => ?_) AllReadyH.nil)
            · skip
              go_simp
              refine (TR.out _ ((Below.drew HL.out.bel))).mono ?_
              rintro e xa ⟨b0, rfl, l0, o0, hb0⟩
              dsimp only
              refine hK.out _ _ (TriW.below hH0 hb0) (fun hH101 => ?_)
              clear hK K
              refine wpAnyH_ready (rs := [3, 11]) (by kernel_rfl) (by simp) ?_
              refine AllReadyH.cons (o := { dst := some 123, op := _, type := _, pos := _, after := _, guard := _ }) rfl (fun K hK => ?_) (AllReadyH.cons (o := { dst := some 20, op := _, type := _, pos := _, after := _, guard := _ }) rfl (fun K hK => ?_) AllReadyH.nil)
              · skip
                go_simp
                refine (TR'.out _ (bstep ((Below.drew HL.out.bel)) hb0)).mono ?_
                rintro e xb ⟨b1, rfl, l1, o1, hb1⟩
                dsimp only
                refine hK.out _ _ (TriW.below hH101 hb1) (fun hH102 => ?_)
                clear hK K
                refine wpAnyH_ready (rs := [5, 11]) (by kernel_rfl) (by simp) ?_
                refine AllReadyH.cons (o := { dst := some 125, op := _, type := _, pos := _, after := _, guard := _ }) rfl (fun K hK => ?_) (AllReadyH.cons (o := { dst := some 20, op := _, type := _, pos := _, after := _, guard := _ }) rfl (fun K hK => ?_) AllReadyH.nil)
                · skip
                  go_simp
                  refine (TI.out _ (bstep (bstep ((Below.drew HL.out.bel)) hb0) hb1)).mono ?_
                  rintro e xc ⟨g2, rfl, l2, o2, hb2⟩
                  dsimp only
                  refine hK.out _ _ (TriW.below hH102 hb2) (fun hH103 => ?_)
                  clear hK K
                  refine wpAnyH_ready (rs := [7, 11]) (by kernel_rfl) (by simp) ?_
                  refine AllReadyH.cons (o := { dst := some 127, op := _, type := _, pos := _, after := _, guard := _ }) rfl (fun K hK => ?_) (AllReadyH.cons (o := { dst := some 20, op := _, type := _, pos := _, after := _, guard := _ }) rfl (fun K hK => ?_) AllReadyH.nil)
                  · skip
                    go_simp
                    refine (IS.out _ _ _ _ ((o0.below hb1).below hb2) (o1.below hb2) o2).mono ?_
                    rintro e xd ⟨av, cv, s1, s2, s3, j1, j2, j3, rfl, rv, r1, r2, r3, fr, hb3⟩
                    dsimp only
                    refine hK.out _ _ (TriW.below hH103 hb3) (fun hH104 => ?_)
                    clear hK K
                    refine wpAnyH_take (i := 8) (oi := { dst := some 119, op := _, type := _, pos := _, after := _, guard := _ }) (v := ?_) rfl (by kernel_rfl) (by kernel_rfl) (by kernel_rfl) (fun _ _ _ h => h) (Or.inl ⟨by rfl, ?_⟩) (hH104) ?_
                    rotate_left
                    · (intro wx hSw; obtain ⟨_, q0, q1, q2, _, _, _⟩ := hSw; go_simp <;> with_reducible rfl)
                    simp only [Act.put, List.setIfInBounds_toArray, List.set_cons_zero, List.set_cons_succ]
                    refine wpAnyH_take (i := 9) (oi := { dst := some 128, op := _, type := _, pos := _, after := _, guard := _ }) (v := ?_) rfl (by kernel_rfl) (by kernel_rfl) (by kernel_rfl) (fun _ _ _ h => h) (Or.inl ⟨by rfl, ?_⟩) (hH104) ?_
                    rotate_left
                    · (intro wx hSw; obtain ⟨_, q0, q1, q2, _, _, _⟩ := hSw; go_simp <;> with_reducible rfl)
                    simp only [Act.put, List.setIfInBounds_toArray, List.set_cons_zero, List.set_cons_succ]
                    refine wpAnyH_take (i := 10) (oi := { dst := some 129, op := _, type := _, pos := _, after := _, guard := _ }) (v := ?_) rfl (by kernel_rfl) (by kernel_rfl) (by kernel_rfl) (fun _ _ _ h => h) (Or.inl ⟨by rfl, ?_⟩) (hH104) ?_
                    rotate_left
                    · (intro wx hSw; obtain ⟨_, q0, q1, q2, _, _, _⟩ := hSw; go_simp <;> with_reducible rfl)
                    simp only [Act.put, List.setIfInBounds_toArray, List.set_cons_zero, List.set_cons_succ]
                    refine wpAnyH_ready (rs := [11]) (by kernel_rfl) (by simp) ?_
                    refine AllReadyH.cons (o := { dst := some 20, op := _, type := _, pos := _, after := _, guard := _ }) rfl (fun K hK => ?_) AllReadyH.nil
                    go_simp
                    refine hK.out _ _ (TriW.below hH104 (balloc (Below.refl _ _) _)) (fun hH105 => ?_)
                    clear hK K
                    have sz0 := hb0.size
                    have sz1 := hb1.size
                    have sz2 := hb2.size
                    have sz3 := hb3.size
                    simp only [World.size_alloc, World.size_drew] at sz0 sz1 sz2 sz3
                    have B0x : Below w.heap.size w xd := bstep (bstep (bstep (bstep ((Below.drew HL.out.bel)) hb0) hb1) hb2) hb3
                    refine wpAnyH_ready (rs := [12]) (by kernel_rfl) (by simp) ?_
                    refine AllReadyH.cons (o := { dst := none, op := _, type := _, pos := _, after := _, guard := _ }) rfl (fun K hK => ?_) AllReadyH.nil
                    go_simp
                    refine hK.out _ _ (TriW.below hH104 (balloc (Below.refl _ _) _)) (fun hH90 => ?_)
                    clear hK K
                    refine wpAnyH_take (i := 13) (oi := { dst := some 21, op := _, type := _, pos := _, after := _, guard := _ }) (v := ?_) rfl (by kernel_rfl) (by kernel_rfl) (by kernel_rfl) (fun _ _ _ h => h) (Or.inl ⟨by rfl, ?_⟩) (hH90) ?_
                    rotate_left
                    · (intro wx hSw; obtain ⟨_, q0, q1, q2, _, _, _⟩ := hSw; go_simp <;> with_reducible rfl)
                    simp only [Act.put, List.setIfInBounds_toArray, List.set_cons_zero, List.set_cons_succ]
                    refine wpAnyH_done (by kernel_rfl) ?_ _
                    go_wp2_with fail
                    go_meet
                    exact ⟨_, _, av, cv, s1, s2, s3, j1, j2, j3, rfl, rfl, ES.ofAlloc _ B0x hH104 rv r1 r2 r3 (by omega), balloc (bstep (bstep (bstep (bstep ((Below.drew (Below.refl _ _))) hb0) hb1) hb2) hb3) _⟩
                  · skip
                    go_simp
                    refine hK.out _ _ (TriW.below hH103 (balloc (Below.refl _ _) _)) (fun hH106 => ?_)
                    clear hK K
                    refine wpAnyH_ready (rs := [7]) (by kernel_rfl) (by simp) ?_
                    refine AllReadyH.cons (o := { dst := some 127, op := _, type := _, pos := _, after := _, guard := _ }) rfl (fun K hK => ?_) AllReadyH.nil
                    go_simp
                    refine (IS.out _ _ _ _ (((o0.below hb1).below hb2).below (balloc (Below.refl _ _) _)) ((o1.below hb2).below (balloc (Below.refl _ _) _)) (o2.below (balloc (Below.refl _ _) _))).mono ?_
                    rintro e xd ⟨av, cv, s1, s2, s3, j1, j2, j3, rfl, rv, r1, r2, r3, fr, hb3⟩
                    dsimp only
                    refine hK.out _ _ (TriW.below hH106 hb3) (fun hH107 => ?_)
                    clear hK K
                    refine wpAnyH_take (i := 8) (oi := { dst := some 119, op := _, type := _, pos := _, after := _, guard := _ }) (v := ?_) rfl (by kernel_rfl) (by kernel_rfl) (by kernel_rfl) (fun _ _ _ h => h) (Or.inl ⟨by rfl, ?_⟩) (hH107) ?_
                    rotate_left
                    · (intro wx hSw; obtain ⟨_, q0, q1, q2, _, _, _⟩ := hSw; go_simp <;> with_reducible rfl)
                    simp only [Act.put, List.setIfInBounds_toArray, List.set_cons_zero, List.set_cons_succ]
                    refine wpAnyH_take (i := 9) (oi := { dst := some 128, op := _, type := _, pos := _, after := _, guard := _ }) (v := ?_) rfl (by kernel_rfl) (by kernel_rfl) (by kernel_rfl) (fun _ _ _ h => h) (Or.inl ⟨by rfl, ?_⟩) (hH107) ?_
                    rotate_left
                    · (intro wx hSw; obtain ⟨_, q0, q1, q2, _, _, _⟩ := hSw; go_simp <;> with_reducible rfl)
                    simp only [Act.put, List.setIfInBounds_toArray, List.set_cons_zero, List.set_cons_succ]
                    refine wpAnyH_take (i := 10) (oi := { dst := some 129, op := _, type := _, pos := _, after := _, guard := _ }) (v := ?_) rfl (by kernel_rfl) (by kernel_rfl) (by kernel_rfl) (fun _ _ _ h => h) (Or.inl ⟨by rfl, ?_⟩) (hH107) ?_
                    rotate_left
                    · (intro wx hSw; obtain ⟨_, q0, q1, q2, _, _, _⟩ := hSw; go_simp <;> with_reducible rfl)
                    simp only [Act.put, List.setIfInBounds_toArray, List.set_cons_zero, List.set_cons_succ]
                    have AZ := ((Any7.new xc (.int .i64 0) (.int .i64 0) (.slice none 0 0) (.slice none 0 0) (.slice none 0 0) (.slice none 0 0) (.bool false) 32 _ rfl).below hb3)
                    obtain ⟨⟨v0, y0⟩, ⟨v1, y1⟩, ⟨v2, y2⟩, ⟨v3, y3⟩, ⟨v4, y4⟩, ⟨v5, y5⟩, ⟨v6, y6⟩, f0, f1, f2, f3, f4, f5, f6⟩ := AZ.at
                    have sz0 := hb0.size
                    have sz1 := hb1.size
                    have sz2 := hb2.size
                    have sz3 := hb3.size
                    simp only [World.size_alloc, World.size_drew] at sz0 sz1 sz2 sz3 y0 y1 y2 y3 y4 y5 y6 f0 f1 f2 f3 f4 f5 f6
                    have B0x : Below w.heap.size w xd := bstep (balloc (bstep (bstep (bstep ((Below.drew HL.out.bel)) hb0) hb1) hb2) _) hb3
                    have lz : w.heap.size < xc.heap.size := by omega
                    have B0y : Below wl.heap.size wl xd := bstep (balloc (bstep (bstep (bstep ((Below.drew (Below.refl _ _))) hb0) hb1) hb2) _) hb3
                    refine wpAnyH_ready (rs := [12]) (by kernel_rfl) (by simp) ?_
                    refine AllReadyH.cons (o := { dst := none, op := _, type := _, pos := _, after := _, guard := _ }) rfl (fun K hK => ?_) AllReadyH.nil
                    go_simp
                    refine hK.out _ _ (TriW.away (TriW.away (TriW.away (TriW.away (TriW.away (TriW.away (TriW.away (hH107) _ _ (by simp; omega)) _ _ (by simp; omega)) _ _ (by simp; omega)) _ _ (by simp; omega)) _ _ (by simp; omega)) _ _ (by simp; omega)) _ _ (by simp; omega)) (fun hH90 => ?_)
                    clear hK K
                    refine wpAnyH_take (i := 13) (oi := { dst := some 21, op := _, type := _, pos := _, after := _, guard := _ }) (v := ?_) rfl (by kernel_rfl) (by kernel_rfl) (by kernel_rfl) (fun _ _ _ h => h) (Or.inl ⟨by rfl, ?_⟩) (hH90) ?_
                    rotate_left
                    · (intro wx hSw; obtain ⟨_, q0, q1, q2, _, _, _⟩ := hSw; go_simp <;> with_reducible rfl)
                    simp only [Act.put, List.setIfInBounds_toArray, List.set_cons_zero, List.set_cons_succ]
                    refine wpAnyH_done (by kernel_rfl) ?_ _
                    go_wp2_with fail
                    go_meet
                    exact ⟨_, _, av, cv, s1, s2, s3, j1, j2, j3, rfl, rfl, ES.ofSet B0x hH107 AZ rv r1 r2 r3 fr (by first | (simp; done) | (simp; omega) | omega) lz, (((((((B0y.setCell (by first | (simp; done) | (simp; omega)) _).setCell (by first | (simp; done) | (simp; omega)) _).setCell (by first | (simp; done) | (simp; omega)) _).setCell (by first | (simp; done) | (simp; omega)) _).setCell (by first | (simp; done) | (simp; omega)) _).setCell (by first | (simp; done) | (simp; omega)) _).setCell (by first | (simp; done) | (simp; omega)) _)⟩
                · skip
                  go_simp
                  refine hK.out _ _ (TriW.below hH102 (balloc (Below.refl _ _) _)) (fun hH108 => ?_)
                  clear hK K
                  refine wpAnyH_ready (rs := [5]) (by kernel_rfl) (by simp) ?_
                  refine AllReadyH.cons (o := { dst := some 125, op := _, type := _, pos := _, after := _, guard := _ }) rfl (fun K hK => ?_) AllReadyH.nil
                  go_simp
                  refine (TI.out _ (balloc (bstep (bstep ((Below.drew HL.out.bel)) hb0) hb1) _)).mono ?_
                  rintro e xc ⟨g2, rfl, l2, o2, hb2⟩
                  dsimp only
                  refine hK.out _ _ (TriW.below hH108 hb2) (fun hH109 => ?_)
                  clear hK K
                  refine wpAnyH_ready (rs := [7]) (by kernel_rfl) (by simp) ?_
                  refine AllReadyH.cons (o := { dst := some 127, op := _, type := _, pos := _, after := _, guard := _ }) rfl (fun K hK => ?_) AllReadyH.nil
                  go_simp
                  refine (IS.out _ _ _ _ (((o0.below hb1).below (balloc (Below.refl _ _) _)).below hb2) ((o1.below (balloc (Below.refl _ _) _)).below hb2) o2).mono ?_
                  rintro e xd ⟨av, cv, s1, s2, s3, j1, j2, j3, rfl, rv, r1, r2, r3, fr, hb3⟩
                  dsimp only
                  refine hK.out _ _ (TriW.below hH109 hb3) (fun hH110 => ?_)
                  clear hK K
                  refine wpAnyH_take (i := 8) (oi := { dst := some 119, op := _, type := _, pos := _, after := _, guard := _ }) (v := ?_) rfl (by kernel_rfl) (by kernel_rfl) (by kernel_rfl) (fun _ _ _ h => h) (Or.inl ⟨by rfl, ?_⟩) (hH110) ?_
                  rotate_left
                  · (intro wx hSw; obtain ⟨_, q0, q1, q2, _, _, _⟩ := hSw; go_simp <;> with_reducible rfl)
                  simp only [Act.put, List.setIfInBounds_toArray, List.set_cons_zero, List.set_cons_succ]
                  refine wpAnyH_take (i := 9) (oi := { dst := some 128, op := _, type := _, pos := _, after := _, guard := _ }) (v := ?_) rfl (by kernel_rfl) (by kernel_rfl) (by kernel_rfl) (fun _ _ _ h => h) (Or.inl ⟨by rfl, ?_⟩) (hH110) ?_
                  rotate_left
                  · (intro wx hSw; obtain ⟨_, q0, q1, q2, _, _, _⟩ := hSw; go_simp <;> with_reducible rfl)
                  simp only [Act.put, List.setIfInBounds_toArray, List.set_cons_zero, List.set_cons_succ]
                  refine wpAnyH_take (i := 10) (oi := { dst := some 129, op := _, type := _, pos := _, after := _, guard := _ }) (v := ?_) rfl (by kernel_rfl) (by kernel_rfl) (by kernel_rfl) (fun _ _ _ h => h) (Or.inl ⟨by rfl, ?_⟩) (hH110) ?_
                  rotate_left
                  · (intro wx hSw; obtain ⟨_, q0, q1, q2, _, _, _⟩ := hSw; go_simp <;> with_reducible rfl)
                  simp only [Act.put, List.setIfInBounds_toArray, List.set_cons_zero, List.set_cons_succ]
                  have AZ := (((Any7.new xb (.int .i64 0) (.int .i64 0) (.slice none 0 0) (.slice none 0 0) (.slice none 0 0) (.slice none 0 0) (.bool false) 32 _ rfl).below hb2).below hb3)
                  obtain ⟨⟨v0, y0⟩, ⟨v1, y1⟩, ⟨v2, y2⟩, ⟨v3, y3⟩, ⟨v4, y4⟩, ⟨v5, y5⟩, ⟨v6, y6⟩, f0, f1, f2, f3, f4, f5, f6⟩ := AZ.at
                  have sz0 := hb0.size
                  have sz1 := hb1.size
                  have sz2 := hb2.size
                  have sz3 := hb3.size
                  simp only [World.size_alloc, World.size_drew] at sz0 sz1 sz2 sz3 y0 y1 y2 y3 y4 y5 y6 f0 f1 f2 f3 f4 f5 f6
                  have B0x : Below w.heap.size w xd := bstep (bstep (balloc (bstep (bstep ((Below.drew HL.out.bel)) hb0) hb1) _) hb2) hb3
                  have lz : w.heap.size < xb.heap.size := by omega
                  have B0y : Below wl.heap.size wl xd := bstep (bstep (balloc (bstep (bstep ((Below.drew (Below.refl _ _))) hb0) hb1) _) hb2) hb3
                  refine wpAnyH_ready (rs := [12]) (by kernel_rfl) (by simp) ?_
                  refine AllReadyH.cons (o := { dst := none, op := _, type := _, pos := _, after := _, guard := _ }) rfl (fun K hK => ?_) AllReadyH.nil
                  go_simp
                  refine hK.out _ _ (TriW.away (TriW.away (TriW.away (TriW.away (TriW.away (TriW.away (TriW.away (hH110) _ _ (by simp; omega)) _ _ (by simp; omega)) _ _ (by simp; omega)) _ _ (by simp; omega)) _ _ (by simp; omega)) _ _ (by simp; omega)) _ _ (by simp; omega)) (fun hH90 => ?_)
                  clear hK K
                  refine wpAnyH_take (i := 13) (oi := { dst := some 21, op := _, type := _, pos := _, after := _, guard := _ }) (v := ?_) rfl (by kernel_rfl) (by kernel_rfl) (by kernel_rfl) (fun _ _ _ h => h) (Or.inl ⟨by rfl, ?_⟩) (hH90) ?_
                  rotate_left
                  · (intro wx hSw; obtain ⟨_, q0, q1, q2, _, _, _⟩ := hSw; go_simp <;> with_reducible rfl)
                  simp only [Act.put, List.setIfInBounds_toArray, List.set_cons_zero, List.set_cons_succ]
                  refine wpAnyH_done (by kernel_rfl) ?_ _
                  go_wp2_with fail
                  go_meet
                  exact ⟨_, _, av, cv, s1, s2, s3, j1, j2, j3, rfl, rfl, ES.ofSet B0x hH110 AZ rv r1 r2 r3 fr (by first | (simp; done) | (simp; omega) | omega) lz, (((((((B0y.setCell (by first | (simp; done) | (simp; omega)) _).setCell (by first | (simp; done) | (simp; omega)) _).setCell (by first | (simp; done) | (simp; omega)) _).setCell (by first | (simp; done) | (simp; omega)) _).setCell (by first | (simp; done) | (simp; omega)) _).setCell (by first | (simp; done) | (simp; omega)) _).setCell (by first | (simp; done) | (simp; omega)) _)⟩
              · skip
                go_simp
                refine hK.out _ _ (TriW.below hH101 (balloc (Below.refl _ _) _)) (fun hH111 => ?_)
                clear hK K
                refine wpAnyH_ready (rs := [3]) (by kernel_rfl) (by simp) ?_
                refine AllReadyH.cons (o := { dst := some 123, op := _, type := _, pos := _, after := _, guard := _ }) rfl (fun K hK => ?_) AllReadyH.nil
                go_simp
                refine (TR'.out _ (balloc (bstep ((Below.drew HL.out.bel)) hb0) _)).mono ?_
                rintro e xb ⟨b1, rfl, l1, o1, hb1⟩
                dsimp only
                refine hK.out _ _ (TriW.below hH111 hb1) (fun hH112 => ?_)
                clear hK K
                refine wpAnyH_ready (rs := [5]) (by kernel_rfl) (by simp) ?_
                refine AllReadyH.cons (o := { dst := some 125, op := _, type := _, pos := _, after := _, guard := _ }) rfl (fun K hK => ?_) AllReadyH.nil
                go_simp
                refine (TI.out _ (bstep (balloc (bstep ((Below.drew HL.out.bel)) hb0) _) hb1)).mono ?_
                rintro e xc ⟨g2, rfl, l2, o2, hb2⟩
                dsimp only
                refine hK.out _ _ (TriW.below hH112 hb2) (fun hH113 => ?_)
                clear hK K
                refine wpAnyH_ready (rs := [7]) (by kernel_rfl) (by simp) ?_
                refine AllReadyH.cons (o := { dst := some 127, op := _, type := _, pos := _, after := _, guard := _ }) rfl (fun K hK => ?_) AllReadyH.nil
                go_simp
                refine (IS.out _ _ _ _ (((o0.below (balloc (Below.refl _ _) _)).below hb1).below hb2) (o1.below hb2) o2).mono ?_
                rintro e xd ⟨av, cv, s1, s2, s3, j1, j2, j3, rfl, rv, r1, r2, r3, fr, hb3⟩
                dsimp only
                refine hK.out _ _ (TriW.below hH113 hb3) (fun hH114 => ?_)
                clear hK K
                refine wpAnyH_take (i := 8) (oi := { dst := some 119, op := _, type := _, pos := _, after := _, guard := _ }) (v := ?_) rfl (by kernel_rfl) (by kernel_rfl) (by kernel_rfl) (fun _ _ _ h => h) (Or.inl ⟨by rfl, ?_⟩) (hH114) ?_
                rotate_left
                · (intro wx hSw; obtain ⟨_, q0, q1, q2, _, _, _⟩ := hSw; go_simp <;> with_reducible rfl)
                simp only [Act.put, List.setIfInBounds_toArray, List.set_cons_zero, List.set_cons_succ]
                refine wpAnyH_take (i := 9) (oi := { dst := some 128, op := _, type := _, pos := _, after := _, guard := _ }) (v := ?_) rfl (by kernel_rfl) (by kernel_rfl) (by kernel_rfl) (fun _ _ _ h => h) (Or.inl ⟨by rfl, ?_⟩) (hH114) ?_
                rotate_left
                · (intro wx hSw; obtain ⟨_, q0, q1, q2, _, _, _⟩ := hSw; go_simp <;> with_reducible rfl)
                simp only [Act.put, List.setIfInBounds_toArray, List.set_cons_zero, List.set_cons_succ]
                refine wpAnyH_take (i := 10) (oi := { dst := some 129, op := _, type := _, pos := _, after := _, guard := _ }) (v := ?_) rfl (by kernel_rfl) (by kernel_rfl) (by kernel_rfl) (fun _ _ _ h => h) (Or.inl ⟨by rfl, ?_⟩) (hH114) ?_
                rotate_left
                · (intro wx hSw; obtain ⟨_, q0, q1, q2, _, _, _⟩ := hSw; go_simp <;> with_reducible rfl)
                simp only [Act.put, List.setIfInBounds_toArray, List.set_cons_zero, List.set_cons_succ]
                have AZ := ((((Any7.new xa (.int .i64 0) (.int .i64 0) (.slice none 0 0) (.slice none 0 0) (.slice none 0 0) (.slice none 0 0) (.bool false) 32 _ rfl).below hb1).below hb2).below hb3)
                obtain ⟨⟨v0, y0⟩, ⟨v1, y1⟩, ⟨v2, y2⟩, ⟨v3, y3⟩, ⟨v4, y4⟩, ⟨v5, y5⟩, ⟨v6, y6⟩, f0, f1, f2, f3, f4, f5, f6⟩ := AZ.at
                have sz0 := hb0.size
                have sz1 := hb1.size
                have sz2 := hb2.size
                have sz3 := hb3.size
                simp only [World.size_alloc, World.size_drew] at sz0 sz1 sz2 sz3 y0 y1 y2 y3 y4 y5 y6 f0 f1 f2 f3 f4 f5 f6
                have B0x : Below w.heap.size w xd := bstep (bstep (bstep (balloc (bstep ((Below.drew HL.out.bel)) hb0) _) hb1) hb2) hb3
                have lz : w.heap.size < xa.heap.size := by omega
                have B0y : Below wl.heap.size wl xd := bstep (bstep (bstep (balloc (bstep ((Below.drew (Below.refl _ _))) hb0) _) hb1) hb2) hb3
                refine wpAnyH_ready (rs := [12]) (by kernel_rfl) (by simp) ?_
                refine AllReadyH.cons (o := { dst := none, op := _, type := _, pos := _, after := _, guard := _ }) rfl (fun K hK => ?_) AllReadyH.nil
                go_simp
                refine hK.out _ _ (TriW.away (TriW.away (TriW.away (TriW.away (TriW.away (TriW.away (TriW.away (hH114) _ _ (by simp; omega)) _ _ (by simp; omega)) _ _ (by simp; omega)) _ _ (by simp; omega)) _ _ (by simp; omega)) _ _ (by simp; omega)) _ _ (by simp; omega)) (fun hH90 => ?_)
                clear hK K
                refine wpAnyH_take (i := 13) (oi := { dst := some 21, op := _, type := _, pos := _, after := _, guard := _ }) (v := ?_) rfl (by kernel_rfl) (by kernel_rfl) (by kernel_rfl) (fun _ _ _ h => h) (Or.inl ⟨by rfl, ?_⟩) (hH90) ?_
                rotate_left
                · (intro wx hSw; obtain ⟨_, q0, q1, q2, _, _, _⟩ := hSw; go_simp <;> with_reducible rfl)
                simp only [Act.put, List.setIfInBounds_toArray, List.set_cons_zero, List.set_cons_succ]
                refine wpAnyH_done (by kernel_rfl) ?_ _
                go_wp2_with fail
                go_meet
                exact ⟨_, _, av, cv, s1, s2, s3, j1, j2, j3, rfl, rfl, ES.ofSet B0x hH114 AZ rv r1 r2 r3 fr (by first | (simp; done) | (simp; omega) | omega) lz, (((((((B0y.setCell (by first | (simp; done) | (simp; omega)) _).setCell (by first | (simp; done) | (simp; omega)) _).setCell (by first | (simp; done) | (simp; omega)) _).setCell (by first | (simp; done) | (simp; omega)) _).setCell (by first | (simp; done) | (simp; omega)) _).setCell (by first | (simp; done) | (simp; omega)) _).setCell (by first | (simp; done) | (simp; omega)) _)⟩
            · skip
              go_simp
              refine hK.out _ _ (TriW.below hH0 (balloc (Below.refl _ _) _)) (fun hH115 => ?_)
              clear hK K
              refine wpAnyH_ready (rs := [1]) (by kernel_rfl) (by simp) ?_
              refine AllReadyH.cons (o := { dst := some 121, op := _, type := _, pos := _, after := _, guard := _ }) rfl (fun K hK => ?_) AllReadyH.nil
              go_simp
              refine (TR.out _ (balloc ((Below.drew HL.out.bel)) _)).mono ?_
              rintro e xa ⟨b0, rfl, l0, o0, hb0⟩
              dsimp only
              refine hK.out _ _ (TriW.below hH115 hb0) (fun hH116 => ?_)
              clear hK K
              refine wpAnyH_ready (rs := [3]) (by kernel_rfl) (by simp) ?_
              refine AllReadyH.cons (o := { dst := some 123, op := _, type := _, pos := _, after := _, guard := _ }) rfl (fun K hK => ?_) AllReadyH.nil
              go_simp
              refine (TR'.out _ (bstep (balloc ((Below.drew HL.out.bel)) _) hb0)).mono ?_
              rintro e xb ⟨b1, rfl, l1, o1, hb1⟩
              dsimp only
              refine hK.out _ _ (TriW.below hH116 hb1) (fun hH117 => ?_)
              clear hK K
              refine wpAnyH_ready (rs := [5]) (by kernel_rfl) (by simp) ?_
              refine AllReadyH.cons (o := { dst := some 125, op := _, type := _, pos := _, after := _, guard := _ }) rfl (fun K hK => ?_) AllReadyH.nil
              go_simp
              refine (TI.out _ (bstep (bstep (balloc ((Below.drew HL.out.bel)) _) hb0) hb1)).mono ?_
              rintro e xc ⟨g2, rfl, l2, o2, hb2⟩
              dsimp only
              refine hK.out _ _ (TriW.below hH117 hb2) (fun hH118 => ?_)
              clear hK K
              refine wpAnyH_ready (rs := [7]) (by kernel_rfl) (by simp) ?_
              refine AllReadyH.cons (o := { dst := some 127, op := _, type := _, pos := _, after := _, guard := _ }) rfl (fun K hK => ?_) AllReadyH.nil
              go_simp
              refine (IS.out _ _ _ _ ((o0.below hb1).below hb2) (o1.below hb2) o2).mono ?_
              rintro e xd ⟨av, cv, s1, s2, s3, j1, j2, j3, rfl, rv, r1, r2, r3, fr, hb3⟩
              dsimp only
              refine hK.out _ _ (TriW.below hH118 hb3) (fun hH119 => ?_)
              clear hK K
              refine wpAnyH_take (i := 8) (oi := { dst := some 119, op := _, type := _, pos := _, after := _, guard := _ }) (v := ?_) rfl (by kernel_rfl) (by kernel_rfl) (by kernel_rfl) (fun _ _ _ h => h) (Or.inl ⟨by rfl, ?_⟩) (hH119) ?_
              rotate_left
              · (intro wx hSw; obtain ⟨_, q0, q1, q2, _, _, _⟩ := hSw; go_simp <;> with_reducible rfl)
              simp only [Act.put, List.setIfInBounds_toArray, List.set_cons_zero, List.set_cons_succ]
              refine wpAnyH_take (i := 9) (oi := { dst := some 128, op := _, type := _, pos := _, after := _, guard := _ }) (v := ?_) rfl (by kernel_rfl) (by kernel_rfl) (by kernel_rfl) (fun _ _ _ h => h) (Or.inl ⟨by rfl, ?_⟩) (hH119) ?_
              rotate_left
              · (intro wx hSw; obtain ⟨_, q0, q1, q2, _, _, _⟩ := hSw; go_simp <;> with_reducible rfl)
              simp only [Act.put, List.setIfInBounds_toArray, List.set_cons_zero, List.set_cons_succ]
              refine wpAnyH_take (i := 10) (oi := { dst := some 129, op := _, type := _, pos := _, after := _, guard := _ }) (v := ?_) rfl (by kernel_rfl) (by kernel_rfl) (by kernel_rfl) (fun _ _ _ h => h) (Or.inl ⟨by rfl, ?_⟩) (hH119) ?_
              rotate_left
              · (intro wx hSw; obtain ⟨_, q0, q1, q2, _, _, _⟩ := hSw; go_simp <;> with_reducible rfl)
              simp only [Act.put, List.setIfInBounds_toArray, List.set_cons_zero, List.set_cons_succ]
              have AZ := (((((Any7.new wl.drew (.int .i64 0) (.int .i64 0) (.slice none 0 0) (.slice none 0 0) (.slice none 0 0) (.slice none 0 0) (.bool false) 32 _ rfl).below hb0).below hb1).below hb2).below hb3)
              obtain ⟨⟨v0, y0⟩, ⟨v1, y1⟩, ⟨v2, y2⟩, ⟨v3, y3⟩, ⟨v4, y4⟩, ⟨v5, y5⟩, ⟨v6, y6⟩, f0, f1, f2, f3, f4, f5, f6⟩ := AZ.at
              have sz0 := hb0.size
              have sz1 := hb1.size
              have sz2 := hb2.size
              have sz3 := hb3.size
              simp only [World.size_alloc, World.size_drew] at sz0 sz1 sz2 sz3 y0 y1 y2 y3 y4 y5 y6 f0 f1 f2 f3 f4 f5 f6
              have B0x : Below w.heap.size w xd := bstep (bstep (bstep (bstep (balloc ((Below.drew HL.out.bel)) _) hb0) hb1) hb2) hb3
              have lz : w.heap.size < wl.heap.size := by omega
              have B0y : Below wl.heap.size wl xd := bstep (bstep (bstep (bstep (balloc ((Below.drew (Below.refl _ _))) _) hb0) hb1) hb2) hb3
              refine wpAnyH_ready (rs := [12]) (by kernel_rfl) (by simp) ?_
              refine AllReadyH.cons (o := { dst := none, op := _, type := _, pos := _, after := _, guard := _ }) rfl (fun K hK => ?_) AllReadyH.nil
              go_simp
              refine hK.out _ _ (TriW.away (TriW.away (TriW.away (TriW.away (TriW.away (TriW.away (TriW.away (hH119) _ _ (by simp; omega)) _ _ (by simp; omega)) _ _ (by simp; omega)) _ _ (by simp; omega)) _ _ (by simp; omega)) _ _ (by simp; omega)) _ _ (by simp; omega)) (fun hH90 => ?_)
              clear hK K
              refine wpAnyH_take (i := 13) (oi := { dst := some 21, op := _, type := _, pos := _, after := _, guard := _ }) (v := ?_) rfl (by kernel_rfl) (by kernel_rfl) (by kernel_rfl) (fun _ _ _ h => h) (Or.inl ⟨by rfl, ?_⟩) (hH90) ?_
              rotate_left
              · (intro wx hSw; obtain ⟨_, q0, q1, q2, _, _, _⟩ := hSw; go_simp <;> with_reducible rfl)
              simp only [Act.put, List.setIfInBounds_toArray, List.set_cons_zero, List.set_cons_succ]
              refine wpAnyH_done (by kernel_rfl) ?_ _
              go_wp2_with fail
              go_meet
              exact ⟨_, _, av, cv, s1, s2, s3, j1, j2, j3, rfl, rfl, ES.ofSet B0x hH119 AZ rv r1 r2 r3 fr (by first | (simp; done) | (simp; omega) | omega) lz, (((((((B0y.setCell (by first | (simp; done) | (simp; omega)) _).setCell (by first | (simp; done) | (simp; omega)) _).setCell (by first | (simp; done) | (simp; omega)) _).setCell (by first | (simp; done) | (simp; omega)) _).setCell (by first | (simp; done) | (simp; omega)) _).setCell (by first | (simp; done) | (simp; omega)) _).setCell (by first | (simp; done) | (simp; omega)) _)⟩
          case rest =>
            obtain ⟨z2, D2, av2, cv2, p1, p2, p3, i1, i2, i3, rfl, rfl, hE2, hb38⟩ := hcut
            have HM := hide (HL.out.below hb38)
            have V := hide (V.out.below hb38)
            have R := hide (R.out.below hb38)
            have Y := hide (Y.out.below hb38)
            have HN := hide hE2
            obtain ⟨_, e0, e1, e2, e3, e4, e5, e6⟩ := HM.out.sv
            obtain ⟨_, c0, c1, c2, c3, c4, c5, c6⟩ := hE2.sv
            clear hE2 hb38 HL
            go_wp2_with fail
            refine (eqEntry_same E.id E.tags E.vec E.is av2 av cv2 cv p1 p2 p3 s1 s2 s3 E.m i1 i2 i3 j1 j2 j3 _ _ _ _ hE (by omega) HN.out.rv HM.out.rv HN.out.r1 HN.out.r2 HN.out.r3 HM.out.r1 HM.out.r2 HM.out.r3).mono ?_
            rintro e w22 ⟨rfl, hb22⟩
            have B22 := hide (HM.out.below hb22).bel
            have V := hide (V.out.below hb22)
            have R := hide (R.out.below hb22)
            have Y := hide (Y.out.below hb22)
            clear hb22 HM HN e0 e1 e2 e3 e4 e5 e6 c0 c1 c2 c3 c4 c5 c6
            obtain ⟨_, c0, c1, c2, c3, c4, c5, c6⟩ := Y.out
            go_wp2_with fail
            refine (heldEntry_any W7.heap.size X C E.id E.tags E.is _ E.vec.length gv a1 a2 a3 E.m k1 k2 k3 _ hE h8 V.out R.out).mono ?_
            rintro e w23 ⟨rfl, hb23⟩
            go_wp2_with fail
            go_ret
            exact ⟨rfl, bstep B22.out hb23⟩
  · have SZ := hide (fun w' => szRangeS_any a n cap 1048576 w' (by omega) (by omega) hl)
    rw [if_pos (show (1048576 : Int) - (n : Int) < 0 by omega)] at SZ
    go_enter Try.func3, Try.ntmps3
    go_wp2_with fail
    rw [HW.out]
    refine (SZ.out _).mono ?_
    rintro e w0 ⟨rfl, hw0⟩
    obtain rfl := hw0.symm
    go_wp2_with fail
    go_ret
    exact ⟨rfl, b0⟩
end Go.Proofs.Ytkogkgdoebdmgaa
