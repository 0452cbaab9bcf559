/- The walk of the law FnRangeJoin. -/
import Derived.Test.YtnfonhebafhffaaLE
namespace Go.Proofs.Ytnfonhebafhffaa
open Go.RowKit
set_option linter.unusedSimpArgs false
set_option linter.unusedVariables false

theorem join_upper {al ah bl bh : Int} (ha : rightB al ah = true) (hb : rightB bl bh = true) : leqB al ah (min al bl) (max ah bh) = true ∧ leqB bl bh (min al bl) (max ah bh) = true := by
  simp only [leqB, rightB, compB, Bool.and_eq_true, decide_eq_true_eq] at ha hb ⊢
  omega
theorem join_least {al ah bl bh cl ch : Int} (h1 : leqB al ah cl ch = true) (h2 : leqB bl bh cl ch = true) : leqB (min al bl) (max ah bh) cl ch = true := by
  simp only [leqB, rightB, compB, Bool.and_eq_true, decide_eq_true_eq] at h1 h2 ⊢
  omega

/-- The four boxes of the law: a, b, c, j. -/
def Four (W : World) (p q r s : Nat) (al ah bl bh cl ch j1 j2 : Int) : Prop :=
  Bx W p (.int .i64 al) (.int .i64 ah) ∧ Bx W q (.int .i64 bl) (.int .i64 bh) ∧ Bx W r (.int .i64 cl) (.int .i64 ch) ∧ Bx W s (.int .i64 j1) (.int .i64 j2)
theorem Four.below {W W' : World} {p q r s : Nat} {al ah bl bh cl ch j1 j2 : Int} (h : Four W p q r s al ah bl bh cl ch j1 j2) (hb : Below W.heap.size W W') : Four W' p q r s al ah bl bh cl ch j1 j2 := ⟨h.1.below hb, h.2.1.below hb, h.2.2.1.below hb, h.2.2.2.below hb⟩
theorem Four.drew {W : World} {p q r s : Nat} {al ah bl bh cl ch j1 j2 : Int} (h : Four W p q r s al ah bl bh cl ch j1 j2) : Four W.drew p q r s al ah bl bh cl ch j1 j2 := ⟨h.1.drew, h.2.1.drew, h.2.2.1.drew, h.2.2.2.drew⟩

set_option maxRecDepth 4000 in
set_option maxHeartbeats 4000000 in
theorem rangeJoin_walk (a : Option Addr) (n cap : Nat) (zs : List Int) (a' : Option Addr) (n' cap' : Nat) (zs' : List Int) (w : World) (h : IsRow .u8 w a n cap zs) (h' : IsRow .u8 w a' n' cap' zs') :
    Calls Try.prog 3 #[.slice a n cap, .slice a' n' cap'] w fun e w' => e = .returned (.bool true) ∧ Below w.heap.size w w' := by
  have BG := hide (big_any a n cap w)
  have BG' := hide (big_any a' n' cap' w)
  by_cases hn : n ≤ 1048576
  · rw [decide_eq_false (show ¬ 1048576 < n by omega)] at BG
    by_cases hn' : n' ≤ 1048576
    · rw [decide_eq_false (show ¬ 1048576 < n' by omega)] at BG'
      have DR := hide (drawRangeJoin_any a n cap w (h.code hn))
      have hcode' := h'.code hn'
      have DL := hide (fun w1 (hb : Below w.heap.size w w1) => drawRangeLeq_any a' n' cap' w1 (hcode'.below hb))
      clear h h' hcode'
      go_enter Try.func3, Try.ntmps3
      go_wp2_with fail
      refine BG.out.mono ?_
      rintro e w' ⟨rfl, hw⟩
      obtain rfl := hw.symm
      clear BG hw
      go_wp2_with fail
      refine BG'.out.mono ?_
      rintro e w' ⟨rfl, hw⟩
      obtain rfl := hw.symm
      clear BG' hw
      go_wp2_with fail
      refine DR.out.mono ?_
      rintro e w1 ⟨al, ah, bl, bh, rfl, hb1⟩
      have XA := hide ((Bx.new w1 (.int .i64 al) (.int .i64 ah) 25).alloc (.cells #[.int .i64 bl, .int .i64 bh] 25))
      have XB : Hid (Bx ((w1.alloc (.cells #[.int .i64 al, .int .i64 ah] 25)).alloc (.cells #[.int .i64 bl, .int .i64 bh] 25)) (w1.heap.size + 1) (.int .i64 bl) (.int .i64 bh)) := by
        have := Bx.new (w1.alloc (.cells #[.int .i64 al, .int .i64 ah] 25)) (.int .i64 bl) (.int .i64 bh) 25
        rw [World.size_alloc] at this
        exact this
      clear DR
      go_wp2_with fail
      refine (DL.out _ (by repeat' first | with_reducible exact Below.refl _ _ | with_reducible assumption | with_reducible refine below_drewN ?_ _ | with_reducible refine balloc ?_ _ | with_reducible refine Below.drew ?_ | with_reducible refine Below.setCell ?_ (by first | (simp; done) | (simp; omega) | omega) _ | with_reducible refine bstep ?_ (by assumption))).mono ?_
      rintro e w2 ⟨ul, uh, cl, ch, rfl, hb2⟩
      have XA := hide (((XA.out.below hb2).alloc (.cells #[.int .i64 ul, .int .i64 uh] 25)).alloc (.cells #[.int .i64 cl, .int .i64 ch] 25))
      have XB := hide (((XB.out.below hb2).alloc (.cells #[.int .i64 ul, .int .i64 uh] 25)).alloc (.cells #[.int .i64 cl, .int .i64 ch] 25))
      have XC : Hid (Bx ((w2.alloc (.cells #[.int .i64 ul, .int .i64 uh] 25)).alloc (.cells #[.int .i64 cl, .int .i64 ch] 25)) (w2.heap.size + 1) (.int .i64 cl) (.int .i64 ch)) := by
        have := Bx.new (w2.alloc (.cells #[.int .i64 ul, .int .i64 uh] 25)) (.int .i64 cl) (.int .i64 ch) 25
        rw [World.size_alloc] at this
        exact this
      have Bw : Below w.heap.size w ((w2.alloc (.cells #[.int .i64 ul, .int .i64 uh] 25)).alloc (.cells #[.int .i64 cl, .int .i64 ch] 25)) := (by repeat' first | with_reducible exact Below.refl _ _ | with_reducible assumption | with_reducible refine below_drewN ?_ _ | with_reducible refine balloc ?_ _ | with_reducible refine Below.drew ?_ | with_reducible refine Below.setCell ?_ (by first | (simp; done) | (simp; omega) | omega) _ | with_reducible refine bstep ?_ (by assumption))
      clear DL hb1 hb2
      obtain ⟨j1, j2, hj, hjj⟩ : ∃ j1 j2 : Int, (if joinB al ah bl bh then Value.agg #[.int .i64 (min al bl), .int .i64 (max ah bh)] else .agg #[.int .i64 0, .int .i64 0]) = .agg #[.int .i64 j1, .int .i64 j2] ∧ (rightB al ah = true → rightB bl bh = true → j1 = min al bl ∧ j2 = max ah bh) := by
        cases hjb : joinB al ah bl bh
        · exact ⟨0, 0, rfl, fun p q => by unfold joinB at hjb; rw [p, q] at hjb; cases hjb⟩
        · exact ⟨_, _, rfl, fun _ _ => ⟨rfl, rfl⟩⟩
      have IJ := iRangeJoin_any al ah bl bh
      have SJ := sRangeJoin_any al ah bl bh
      have JI := iRangeJoin_any bl bh al ah
      have hc1 : joinB bl bh al ah = joinB al ah bl bh := by unfold joinB; exact Bool.and_comm _ _
      rw [hc1, show min bl al = min al bl by omega, show max bh ah = max ah bh by omega, hj] at JI
      rw [hj] at IJ SJ
      have KI := hide IJ
      have KS := hide SJ
      have KJ := hide JI
      have HJ := hide hjj
      clear IJ SJ JI hj hjj hc1
      obtain ⟨xa1, xa2, xa3, _, _⟩ := XA.out
      obtain ⟨xb1, xb2, xb3, _, _⟩ := XB.out
      go_wp2_with fail
      refine (KI.out _).mono ?_
      rintro e w3 ⟨rfl, hb3⟩
      have F3 : Hid (Four (w3.alloc (.cells #[.int .i64 j1, .int .i64 j2] 25)) w1.heap.size (w1.heap.size + 1) (w2.heap.size + 1) w3.heap.size al ah bl bh cl ch j1 j2) := ⟨(XA.out.below hb3).alloc _, (XB.out.below hb3).alloc _, (XC.out.below hb3).alloc _, Bx.new w3 _ _ _⟩
      have Bw : Below w.heap.size w (w3.alloc (.cells #[.int .i64 j1, .int .i64 j2] 25)) := (by repeat' first | with_reducible exact Below.refl _ _ | with_reducible assumption | with_reducible refine below_drewN ?_ _ | with_reducible refine balloc ?_ _ | with_reducible refine Below.drew ?_ | with_reducible refine Below.setCell ?_ (by first | (simp; done) | (simp; omega) | omega) _ | with_reducible refine bstep ?_ (by assumption))
      clear xa1 xa2 xa3 xb1 xb2 xb3 XA XB XC hb3
      have IL := hide (fun w => iRangeLeq_any al ah cl ch w)
      have SL := hide (fun w => sRangeLeq_any al ah cl ch w)
      have ILb := hide (fun w => iRangeLeq_any bl bh cl ch w)
      have SOa := hide (fun w => sRangeOk_any al ah w)
      have SOb := hide (fun w => sRangeOk_any bl bh w)
      have IOa := hide (fun w => iRangeOk_any al ah w)
      obtain ⟨pl, hpl⟩ : ∃ pl, leqB al ah cl ch = pl := ⟨_, rfl⟩
      obtain ⟨pm, hpm⟩ : ∃ pm, leqB bl bh cl ch = pm := ⟨_, rfl⟩
      rw [hpl] at IL SL
      rw [hpm] at ILb
      have hpp : (pl != pl) = false := by cases pl <;> rfl
      have hpe : (pl == pl) = true := by cases pl <;> rfl
      have hEq : ∀ w, (Op.equalIn 10000 25 (.agg #[.int .i64 j1, .int .i64 j2]) (.agg #[.int .i64 j1, .int .i64 j2])).run Try.prog w = .ok true w := fun w => by rw [eqRg]; simp
      have HPL := hide hpl
      have HPM := hide hpm
      clear hpl hpm
      go_upto_region 6 with fail
      go_cut [53] (fun s wx => s = .bool (!(rightB al ah && rightB bl bh)) ∧ Four wx w1.heap.size (w1.heap.size + 1) (w2.heap.size + 1) w3.heap.size al ah bl bh cl ch j1 j2 ∧ Below w.heap.size w wx)
      case first =>
        cases hra : rightB al ah
        · rw [hra] at SOa
          refine wp_region_held_drew (S := fun wx => Four wx w1.heap.size (w1.heap.size + 1) (w2.heap.size + 1) w3.heap.size al ah bl bh cl ch j1 j2) (by kernel_rfl) (F3.out.drew) (fun hH0 => ?_)
          refine wpAnyH_take (i := 0) (oi := { dst := some 30, op := _, type := _, pos := _, after := _, guard := _ }) (v := ?_) rfl (by kernel_rfl) (by kernel_rfl) (by kernel_rfl) (fun _ _ _ h => h) (Or.inl ⟨by rfl, ?_⟩) (hH0) ?_
          rotate_left
          · (intro wx hSw; obtain ⟨⟨_, q1, q2, _, _⟩, ⟨_, q3, q4, _, _⟩, ⟨_, q5, q6, _, _⟩, ⟨_, q7, q8, _, _⟩⟩ := hSw; go_simp <;> with_reducible rfl)
          simp only [Act.put, List.setIfInBounds_toArray, List.set_cons_zero, List.set_cons_succ]
          refine wpAnyH_take (i := 1) (oi := { dst := some 31, op := _, type := _, pos := _, after := _, guard := _ }) (v := ?_) rfl (by kernel_rfl) (by kernel_rfl) (by kernel_rfl) (fun _ _ _ h => h) (Or.inl ⟨by rfl, ?_⟩) (hH0) ?_
          rotate_left
          · (intro wx hSw; obtain ⟨⟨_, q1, q2, _, _⟩, ⟨_, q3, q4, _, _⟩, ⟨_, q5, q6, _, _⟩, ⟨_, q7, q8, _, _⟩⟩ := hSw; go_simp <;> with_reducible rfl)
          simp only [Act.put, List.setIfInBounds_toArray, List.set_cons_zero, List.set_cons_succ]
          refine wpAnyH_take (i := 2) (oi := { dst := some 32, op := _, type := _, pos := _, after := _, guard := _ }) (v := ?_) rfl (by kernel_rfl) (by kernel_rfl) (by kernel_rfl) (fun _ _ _ h => h) (Or.inl ⟨by rfl, ?_⟩) (hH0) ?_
          rotate_left
          · (intro wx hSw; obtain ⟨⟨_, q1, q2, _, _⟩, ⟨_, q3, q4, _, _⟩, ⟨_, q5, q6, _, _⟩, ⟨_, q7, q8, _, _⟩⟩ := hSw; go_simp <;> with_reducible rfl)
          simp only [Act.put, List.setIfInBounds_toArray, List.set_cons_zero, List.set_cons_succ]
          refine wpAnyH_ready (rs := [3]) (by kernel_rfl) (by simp) ?_
          refine AllReadyH.cons (o := { dst := some 33, op := _, type := _, pos := _, after := _, guard := _ }) rfl (fun K hK => ?_) AllReadyH.nil
          go_simp
          refine (KS.out _).mono ?_
          rintro e w_c33_1 ⟨rfl, hb_c33_1⟩
          dsimp only
          refine hK.out _ _ (Four.below hH0 hb_c33_1) (fun hH1 => ?_)
          clear hK K
          refine wpAnyH_take (i := 4) (oi := { dst := some 34, op := _, type := _, pos := _, after := _, guard := _ }) (v := ?_) rfl (by kernel_rfl) (by kernel_rfl) (by kernel_rfl) (fun _ _ _ h => h) (Or.inl ⟨by rfl, ?_⟩) (hH1) ?_
          rotate_left
          · (intro wx hSw; obtain ⟨⟨_, q1, q2, _, _⟩, ⟨_, q3, q4, _, _⟩, ⟨_, q5, q6, _, _⟩, ⟨_, q7, q8, _, _⟩⟩ := hSw; go_simp <;> with_reducible rfl)
          simp only [Act.put, List.setIfInBounds_toArray, List.set_cons_zero, List.set_cons_succ]
          refine wpAnyH_take (i := 5) (oi := { dst := some 35, op := _, type := _, pos := _, after := _, guard := _ }) (v := ?_) rfl (by kernel_rfl) (by kernel_rfl) (by kernel_rfl) (fun _ _ _ h => h) (Or.inl ⟨by rfl, ?_⟩) (hH1) ?_
          rotate_left
          · (intro wx hSw; obtain ⟨⟨_, q1, q2, _, _⟩, ⟨_, q3, q4, _, _⟩, ⟨_, q5, q6, _, _⟩, ⟨_, q7, q8, _, _⟩⟩ := hSw; go_simp <;> with_reducible rfl)
          simp only [Act.put, List.setIfInBounds_toArray, List.set_cons_zero, List.set_cons_succ]
          refine wpAnyH_take (i := 6) (oi := { dst := some 36, op := _, type := _, pos := _, after := _, guard := _ }) (v := ?_) rfl (by kernel_rfl) (by kernel_rfl) (by kernel_rfl) (fun _ _ _ h => h) (Or.inl ⟨by rfl, ?_⟩) (hH1) ?_
          rotate_left
          · (intro wx hSw; obtain ⟨⟨_, q1, q2, _, _⟩, ⟨_, q3, q4, _, _⟩, ⟨_, q5, q6, _, _⟩, ⟨_, q7, q8, _, _⟩⟩ := hSw; go_simp <;> with_reducible rfl)
          simp only [Act.put, List.setIfInBounds_toArray, List.set_cons_zero, List.set_cons_succ]
          refine wpAnyH_take (i := 7) (oi := { dst := some 37, op := _, type := _, pos := _, after := _, guard := _ }) (v := ?_) rfl (by kernel_rfl) (by kernel_rfl) (by kernel_rfl) (fun _ _ _ h => h) (Or.inl ⟨by rfl, ?_⟩) (hH1) ?_
          rotate_left
          · (intro wx hSw; obtain ⟨⟨_, q1, q2, _, _⟩, ⟨_, q3, q4, _, _⟩, ⟨_, q5, q6, _, _⟩, ⟨_, q7, q8, _, _⟩⟩ := hSw; go_simp <;> with_reducible rfl)
          simp only [Act.put, List.setIfInBounds_toArray, List.set_cons_zero, List.set_cons_succ]
          refine wpAnyH_take (i := 9) (oi := { dst := some 39, op := _, type := _, pos := _, after := _, guard := _ }) (v := ?_) rfl (by kernel_rfl) (by kernel_rfl) (by kernel_rfl) (fun _ _ _ h => h) (Or.inl ⟨by rfl, ?_⟩) (hH1) ?_
          rotate_left
          · (intro wx hSw; obtain ⟨⟨_, q1, q2, _, _⟩, ⟨_, q3, q4, _, _⟩, ⟨_, q5, q6, _, _⟩, ⟨_, q7, q8, _, _⟩⟩ := hSw; go_simp <;> with_reducible rfl)
          simp only [Act.put, List.setIfInBounds_toArray, List.set_cons_zero, List.set_cons_succ]
          refine wpAnyH_take (i := 10) (oi := { dst := some 40, op := _, type := _, pos := _, after := _, guard := _ }) (v := ?_) rfl (by kernel_rfl) (by kernel_rfl) (by kernel_rfl) (fun _ _ _ h => h) (Or.inl ⟨by rfl, ?_⟩) (hH1) ?_
          rotate_left
          · (intro wx hSw; obtain ⟨⟨_, q1, q2, _, _⟩, ⟨_, q3, q4, _, _⟩, ⟨_, q5, q6, _, _⟩, ⟨_, q7, q8, _, _⟩⟩ := hSw; go_simp <;> with_reducible rfl)
          simp only [Act.put, List.setIfInBounds_toArray, List.set_cons_zero, List.set_cons_succ]
          refine wpAnyH_ready (rs := [8]) (by kernel_rfl) (by simp) ?_
          refine AllReadyH.cons (o := { dst := some 38, op := _, type := _, pos := _, after := _, guard := _ }) rfl (fun K hK => ?_) AllReadyH.nil
          go_simp
          refine (IL.out _).mono ?_
          rintro e w_c38_2 ⟨rfl, hb_c38_2⟩
          dsimp only
          refine hK.out _ _ (Four.below hH1 hb_c38_2) (fun hH2 => ?_)
          clear hK K
          refine wpAnyH_ready (rs := [11]) (by kernel_rfl) (by simp) ?_
          refine AllReadyH.cons (o := { dst := some 41, op := _, type := _, pos := _, after := _, guard := _ }) rfl (fun K hK => ?_) AllReadyH.nil
          go_simp
          refine (SL.out _).mono ?_
          rintro e w_c41_3 ⟨rfl, hb_c41_3⟩
          dsimp only
          refine hK.out _ _ (Four.below hH2 hb_c41_3) (fun hH3 => ?_)
          clear hK K
          refine wpAnyH_take (i := 12) (oi := { dst := some 42, op := _, type := _, pos := _, after := _, guard := _ }) (v := ?_) rfl (by kernel_rfl) (by kernel_rfl) (by kernel_rfl) (fun _ _ _ h => h) (Or.inl ⟨by rfl, ?_⟩) (hH3) ?_
          rotate_left
          · (intro wx hSw; obtain ⟨⟨_, q1, q2, _, _⟩, ⟨_, q3, q4, _, _⟩, ⟨_, q5, q6, _, _⟩, ⟨_, q7, q8, _, _⟩⟩ := hSw; go_simp <;> with_reducible rfl)
          simp only [Act.put, List.setIfInBounds_toArray, List.set_cons_zero, List.set_cons_succ]
          refine wpAnyH_take (i := 13) (oi := { dst := some 43, op := _, type := _, pos := _, after := _, guard := _ }) (v := ?_) rfl (by kernel_rfl) (by kernel_rfl) (by kernel_rfl) (fun _ _ _ h => h) (Or.inl ⟨by rfl, ?_⟩) (hH3) ?_
          rotate_left
          · (intro wx hSw; obtain ⟨⟨_, q1, q2, _, _⟩, ⟨_, q3, q4, _, _⟩, ⟨_, q5, q6, _, _⟩, ⟨_, q7, q8, _, _⟩⟩ := hSw; go_simp <;> with_reducible rfl)
          simp only [Act.put, List.setIfInBounds_toArray, List.set_cons_zero, List.set_cons_succ]
          refine wpAnyH_take (i := 14) (oi := { dst := some 44, op := _, type := _, pos := _, after := _, guard := _ }) (v := ?_) rfl (by kernel_rfl) (by kernel_rfl) (by kernel_rfl) (fun _ _ _ h => h) (Or.inl ⟨by rfl, ?_⟩) (hH3) ?_
          rotate_left
          · (intro wx hSw; obtain ⟨⟨_, q1, q2, _, _⟩, ⟨_, q3, q4, _, _⟩, ⟨_, q5, q6, _, _⟩, ⟨_, q7, q8, _, _⟩⟩ := hSw; go_simp <;> with_reducible rfl)
          simp only [Act.put, List.setIfInBounds_toArray, List.set_cons_zero, List.set_cons_succ]
          refine wpAnyH_take (i := 15) (oi := { dst := some 45, op := _, type := _, pos := _, after := _, guard := _ }) (v := ?_) rfl (by kernel_rfl) (by kernel_rfl) (by kernel_rfl) (fun _ _ _ h => h) (Or.inl ⟨by rfl, ?_⟩) (hH3) ?_
          rotate_left
          · (intro wx hSw; obtain ⟨⟨_, q1, q2, _, _⟩, ⟨_, q3, q4, _, _⟩, ⟨_, q5, q6, _, _⟩, ⟨_, q7, q8, _, _⟩⟩ := hSw; go_simp <;> with_reducible rfl)
          simp only [Act.put, List.setIfInBounds_toArray, List.set_cons_zero, List.set_cons_succ]
          refine wpAnyH_ready (rs := [16]) (by kernel_rfl) (by simp) ?_
          refine AllReadyH.cons (o := { dst := some 46, op := _, type := _, pos := _, after := _, guard := _ }) rfl (fun K hK => ?_) AllReadyH.nil
          go_simp
          refine (SOa.out _).mono ?_
          rintro e w_c46_4 ⟨rfl, hb_c46_4⟩
          dsimp only
          refine hK.out _ _ (Four.below hH3 hb_c46_4) (fun hH4 => ?_)
          clear hK K
          refine wpAnyH_take (i := 17) (oi := { dst := some 47, op := _, type := _, pos := _, after := _, guard := _ }) (v := ?_) rfl (by kernel_rfl) (by kernel_rfl) (by kernel_rfl) (fun _ _ _ h => h) (Or.inl ⟨by rfl, ?_⟩) (hH4) ?_
          rotate_left
          · (intro wx hSw; obtain ⟨⟨_, q1, q2, _, _⟩, ⟨_, q3, q4, _, _⟩, ⟨_, q5, q6, _, _⟩, ⟨_, q7, q8, _, _⟩⟩ := hSw; go_simp <;> with_reducible rfl)
          simp only [Act.put, List.setIfInBounds_toArray, List.set_cons_zero, List.set_cons_succ]
          refine wpAnyH_take (i := 18) (oi := { dst := some 48, op := _, type := _, pos := _, after := _, guard := _ }) (v := ?_) rfl (by kernel_rfl) (by kernel_rfl) (by kernel_rfl) (fun _ _ _ h => h) (Or.inl ⟨by rfl, ?_⟩) (hH4) ?_
          rotate_left
          · (intro wx hSw; obtain ⟨⟨_, q1, q2, _, _⟩, ⟨_, q3, q4, _, _⟩, ⟨_, q5, q6, _, _⟩, ⟨_, q7, q8, _, _⟩⟩ := hSw; go_simp <;> with_reducible rfl)
          simp only [Act.put, List.setIfInBounds_toArray, List.set_cons_zero, List.set_cons_succ]
          refine wpAnyH_take (i := 19) (oi := { dst := some 49, op := _, type := _, pos := _, after := _, guard := _ }) (v := ?_) rfl (by kernel_rfl) (by kernel_rfl) (by kernel_rfl) (fun _ _ _ h => h) (Or.inl ⟨by rfl, ?_⟩) (hH4) ?_
          rotate_left
          · (intro wx hSw; obtain ⟨⟨_, q1, q2, _, _⟩, ⟨_, q3, q4, _, _⟩, ⟨_, q5, q6, _, _⟩, ⟨_, q7, q8, _, _⟩⟩ := hSw; go_simp <;> with_reducible rfl)
          simp only [Act.put, List.setIfInBounds_toArray, List.set_cons_zero, List.set_cons_succ]
          refine wpAnyH_take (i := 20) (oi := { dst := some 50, op := _, type := _, pos := _, after := _, guard := _ }) (v := _) rfl (by kernel_rfl) (by kernel_rfl) (by kernel_rfl) (fun _ _ _ h => h) (Or.inr ⟨by rfl, rfl⟩) (hH4) ?_
          simp only [Act.put, List.setIfInBounds_toArray, List.set_cons_zero, List.set_cons_succ]
          refine wpAnyH_take (i := 21) (oi := { dst := some 51, op := _, type := _, pos := _, after := _, guard := _ }) (v := _) rfl (by kernel_rfl) (by kernel_rfl) (by kernel_rfl) (fun _ _ _ h => h) (Or.inr ⟨by rfl, rfl⟩) (hH4) ?_
          simp only [Act.put, List.setIfInBounds_toArray, List.set_cons_zero, List.set_cons_succ]
          refine wpAnyH_take (i := 22) (oi := { dst := some 52, op := _, type := _, pos := _, after := _, guard := _ }) (v := _) rfl (by kernel_rfl) (by kernel_rfl) (by kernel_rfl) (fun _ _ _ h => h) (Or.inr ⟨by rfl, rfl⟩) (hH4) ?_
          simp only [Act.put, List.setIfInBounds_toArray, List.set_cons_zero, List.set_cons_succ]
          refine wpAnyH_take (i := 23) (oi := { dst := some 53, op := _, type := _, pos := _, after := _, guard := _ }) (v := ?_) rfl (by kernel_rfl) (by kernel_rfl) (by kernel_rfl) (fun _ _ _ h => h) (Or.inl ⟨by rfl, ?_⟩) (hH4) ?_
          rotate_left
          · (intro wx hSw; obtain ⟨⟨_, q1, q2, _, _⟩, ⟨_, q3, q4, _, _⟩, ⟨_, q5, q6, _, _⟩, ⟨_, q7, q8, _, _⟩⟩ := hSw; go_simp <;> with_reducible rfl)
          simp only [Act.put, List.setIfInBounds_toArray, List.set_cons_zero, List.set_cons_succ]
          refine wpAnyH_done (by kernel_rfl) ?_ _
          go_wp2_with fail
          go_meet
          exact ⟨by rw [hra]; rfl, hH4, (by repeat' first | with_reducible exact Below.refl _ _ | with_reducible assumption | with_reducible refine below_drewN ?_ _ | with_reducible refine balloc ?_ _ | with_reducible refine Below.drew ?_ | with_reducible refine Below.setCell ?_ (by first | (simp; done) | (simp; omega) | omega) _ | with_reducible refine bstep ?_ (by assumption))⟩
        · rw [hra] at SOa
          refine wp_region_held_drew (S := fun wx => Four wx w1.heap.size (w1.heap.size + 1) (w2.heap.size + 1) w3.heap.size al ah bl bh cl ch j1 j2) (by kernel_rfl) (F3.out.drew) (fun hH0 => ?_)
          refine wpAnyH_take (i := 0) (oi := { dst := some 30, op := _, type := _, pos := _, after := _, guard := _ }) (v := ?_) rfl (by kernel_rfl) (by kernel_rfl) (by kernel_rfl) (fun _ _ _ h => h) (Or.inl ⟨by rfl, ?_⟩) (hH0) ?_
          rotate_left
          · (intro wx hSw; obtain ⟨⟨_, q1, q2, _, _⟩, ⟨_, q3, q4, _, _⟩, ⟨_, q5, q6, _, _⟩, ⟨_, q7, q8, _, _⟩⟩ := hSw; go_simp <;> with_reducible rfl)
          simp only [Act.put, List.setIfInBounds_toArray, List.set_cons_zero, List.set_cons_succ]
          refine wpAnyH_take (i := 1) (oi := { dst := some 31, op := _, type := _, pos := _, after := _, guard := _ }) (v := ?_) rfl (by kernel_rfl) (by kernel_rfl) (by kernel_rfl) (fun _ _ _ h => h) (Or.inl ⟨by rfl, ?_⟩) (hH0) ?_
          rotate_left
          · (intro wx hSw; obtain ⟨⟨_, q1, q2, _, _⟩, ⟨_, q3, q4, _, _⟩, ⟨_, q5, q6, _, _⟩, ⟨_, q7, q8, _, _⟩⟩ := hSw; go_simp <;> with_reducible rfl)
          simp only [Act.put, List.setIfInBounds_toArray, List.set_cons_zero, List.set_cons_succ]
          refine wpAnyH_take (i := 2) (oi := { dst := some 32, op := _, type := _, pos := _, after := _, guard := _ }) (v := ?_) rfl (by kernel_rfl) (by kernel_rfl) (by kernel_rfl) (fun _ _ _ h => h) (Or.inl ⟨by rfl, ?_⟩) (hH0) ?_
          rotate_left
          · (intro wx hSw; obtain ⟨⟨_, q1, q2, _, _⟩, ⟨_, q3, q4, _, _⟩, ⟨_, q5, q6, _, _⟩, ⟨_, q7, q8, _, _⟩⟩ := hSw; go_simp <;> with_reducible rfl)
          simp only [Act.put, List.setIfInBounds_toArray, List.set_cons_zero, List.set_cons_succ]
          refine wpAnyH_ready (rs := [3]) (by kernel_rfl) (by simp) ?_
          refine AllReadyH.cons (o := { dst := some 33, op := _, type := _, pos := _, after := _, guard := _ }) rfl (fun K hK => ?_) AllReadyH.nil
          go_simp
          refine (KS.out _).mono ?_
          rintro e w_c33_1 ⟨rfl, hb_c33_1⟩
          dsimp only
          refine hK.out _ _ (Four.below hH0 hb_c33_1) (fun hH1 => ?_)
          clear hK K
          refine wpAnyH_take (i := 4) (oi := { dst := some 34, op := _, type := _, pos := _, after := _, guard := _ }) (v := ?_) rfl (by kernel_rfl) (by kernel_rfl) (by kernel_rfl) (fun _ _ _ h => h) (Or.inl ⟨by rfl, ?_⟩) (hH1) ?_
          rotate_left
          · (intro wx hSw; obtain ⟨⟨_, q1, q2, _, _⟩, ⟨_, q3, q4, _, _⟩, ⟨_, q5, q6, _, _⟩, ⟨_, q7, q8, _, _⟩⟩ := hSw; go_simp <;> with_reducible rfl)
          simp only [Act.put, List.setIfInBounds_toArray, List.set_cons_zero, List.set_cons_succ]
          refine wpAnyH_take (i := 5) (oi := { dst := some 35, op := _, type := _, pos := _, after := _, guard := _ }) (v := ?_) rfl (by kernel_rfl) (by kernel_rfl) (by kernel_rfl) (fun _ _ _ h => h) (Or.inl ⟨by rfl, ?_⟩) (hH1) ?_
          rotate_left
          · (intro wx hSw; obtain ⟨⟨_, q1, q2, _, _⟩, ⟨_, q3, q4, _, _⟩, ⟨_, q5, q6, _, _⟩, ⟨_, q7, q8, _, _⟩⟩ := hSw; go_simp <;> with_reducible rfl)
          simp only [Act.put, List.setIfInBounds_toArray, List.set_cons_zero, List.set_cons_succ]
          refine wpAnyH_take (i := 6) (oi := { dst := some 36, op := _, type := _, pos := _, after := _, guard := _ }) (v := ?_) rfl (by kernel_rfl) (by kernel_rfl) (by kernel_rfl) (fun _ _ _ h => h) (Or.inl ⟨by rfl, ?_⟩) (hH1) ?_
          rotate_left
          · (intro wx hSw; obtain ⟨⟨_, q1, q2, _, _⟩, ⟨_, q3, q4, _, _⟩, ⟨_, q5, q6, _, _⟩, ⟨_, q7, q8, _, _⟩⟩ := hSw; go_simp <;> with_reducible rfl)
          simp only [Act.put, List.setIfInBounds_toArray, List.set_cons_zero, List.set_cons_succ]
          refine wpAnyH_take (i := 7) (oi := { dst := some 37, op := _, type := _, pos := _, after := _, guard := _ }) (v := ?_) rfl (by kernel_rfl) (by kernel_rfl) (by kernel_rfl) (fun _ _ _ h => h) (Or.inl ⟨by rfl, ?_⟩) (hH1) ?_
          rotate_left
          · (intro wx hSw; obtain ⟨⟨_, q1, q2, _, _⟩, ⟨_, q3, q4, _, _⟩, ⟨_, q5, q6, _, _⟩, ⟨_, q7, q8, _, _⟩⟩ := hSw; go_simp <;> with_reducible rfl)
          simp only [Act.put, List.setIfInBounds_toArray, List.set_cons_zero, List.set_cons_succ]
          refine wpAnyH_take (i := 9) (oi := { dst := some 39, op := _, type := _, pos := _, after := _, guard := _ }) (v := ?_) rfl (by kernel_rfl) (by kernel_rfl) (by kernel_rfl) (fun _ _ _ h => h) (Or.inl ⟨by rfl, ?_⟩) (hH1) ?_
          rotate_left
          · (intro wx hSw; obtain ⟨⟨_, q1, q2, _, _⟩, ⟨_, q3, q4, _, _⟩, ⟨_, q5, q6, _, _⟩, ⟨_, q7, q8, _, _⟩⟩ := hSw; go_simp <;> with_reducible rfl)
          simp only [Act.put, List.setIfInBounds_toArray, List.set_cons_zero, List.set_cons_succ]
          refine wpAnyH_take (i := 10) (oi := { dst := some 40, op := _, type := _, pos := _, after := _, guard := _ }) (v := ?_) rfl (by kernel_rfl) (by kernel_rfl) (by kernel_rfl) (fun _ _ _ h => h) (Or.inl ⟨by rfl, ?_⟩) (hH1) ?_
          rotate_left
          · (intro wx hSw; obtain ⟨⟨_, q1, q2, _, _⟩, ⟨_, q3, q4, _, _⟩, ⟨_, q5, q6, _, _⟩, ⟨_, q7, q8, _, _⟩⟩ := hSw; go_simp <;> with_reducible rfl)
          simp only [Act.put, List.setIfInBounds_toArray, List.set_cons_zero, List.set_cons_succ]
          refine wpAnyH_ready (rs := [8]) (by kernel_rfl) (by simp) ?_
          refine AllReadyH.cons (o := { dst := some 38, op := _, type := _, pos := _, after := _, guard := _ }) rfl (fun K hK => ?_) AllReadyH.nil
          go_simp
          refine (IL.out _).mono ?_
          rintro e w_c38_2 ⟨rfl, hb_c38_2⟩
          dsimp only
          refine hK.out _ _ (Four.below hH1 hb_c38_2) (fun hH2 => ?_)
          clear hK K
          refine wpAnyH_ready (rs := [11]) (by kernel_rfl) (by simp) ?_
          refine AllReadyH.cons (o := { dst := some 41, op := _, type := _, pos := _, after := _, guard := _ }) rfl (fun K hK => ?_) AllReadyH.nil
          go_simp
          refine (SL.out _).mono ?_
          rintro e w_c41_3 ⟨rfl, hb_c41_3⟩
          dsimp only
          refine hK.out _ _ (Four.below hH2 hb_c41_3) (fun hH3 => ?_)
          clear hK K
          refine wpAnyH_take (i := 12) (oi := { dst := some 42, op := _, type := _, pos := _, after := _, guard := _ }) (v := ?_) rfl (by kernel_rfl) (by kernel_rfl) (by kernel_rfl) (fun _ _ _ h => h) (Or.inl ⟨by rfl, ?_⟩) (hH3) ?_
          rotate_left
          · (intro wx hSw; obtain ⟨⟨_, q1, q2, _, _⟩, ⟨_, q3, q4, _, _⟩, ⟨_, q5, q6, _, _⟩, ⟨_, q7, q8, _, _⟩⟩ := hSw; go_simp <;> with_reducible rfl)
          simp only [Act.put, List.setIfInBounds_toArray, List.set_cons_zero, List.set_cons_succ]
          refine wpAnyH_take (i := 13) (oi := { dst := some 43, op := _, type := _, pos := _, after := _, guard := _ }) (v := ?_) rfl (by kernel_rfl) (by kernel_rfl) (by kernel_rfl) (fun _ _ _ h => h) (Or.inl ⟨by rfl, ?_⟩) (hH3) ?_
          rotate_left
          · (intro wx hSw; obtain ⟨⟨_, q1, q2, _, _⟩, ⟨_, q3, q4, _, _⟩, ⟨_, q5, q6, _, _⟩, ⟨_, q7, q8, _, _⟩⟩ := hSw; go_simp <;> with_reducible rfl)
          simp only [Act.put, List.setIfInBounds_toArray, List.set_cons_zero, List.set_cons_succ]
          refine wpAnyH_take (i := 14) (oi := { dst := some 44, op := _, type := _, pos := _, after := _, guard := _ }) (v := ?_) rfl (by kernel_rfl) (by kernel_rfl) (by kernel_rfl) (fun _ _ _ h => h) (Or.inl ⟨by rfl, ?_⟩) (hH3) ?_
          rotate_left
          · (intro wx hSw; obtain ⟨⟨_, q1, q2, _, _⟩, ⟨_, q3, q4, _, _⟩, ⟨_, q5, q6, _, _⟩, ⟨_, q7, q8, _, _⟩⟩ := hSw; go_simp <;> with_reducible rfl)
          simp only [Act.put, List.setIfInBounds_toArray, List.set_cons_zero, List.set_cons_succ]
          refine wpAnyH_take (i := 15) (oi := { dst := some 45, op := _, type := _, pos := _, after := _, guard := _ }) (v := ?_) rfl (by kernel_rfl) (by kernel_rfl) (by kernel_rfl) (fun _ _ _ h => h) (Or.inl ⟨by rfl, ?_⟩) (hH3) ?_
          rotate_left
          · (intro wx hSw; obtain ⟨⟨_, q1, q2, _, _⟩, ⟨_, q3, q4, _, _⟩, ⟨_, q5, q6, _, _⟩, ⟨_, q7, q8, _, _⟩⟩ := hSw; go_simp <;> with_reducible rfl)
          simp only [Act.put, List.setIfInBounds_toArray, List.set_cons_zero, List.set_cons_succ]
          refine wpAnyH_ready (rs := [16]) (by kernel_rfl) (by simp) ?_
          refine AllReadyH.cons (o := { dst := some 46, op := _, type := _, pos := _, after := _, guard := _ }) rfl (fun K hK => ?_) AllReadyH.nil
          go_simp
          refine (SOa.out _).mono ?_
          rintro e w_c46_4 ⟨rfl, hb_c46_4⟩
          dsimp only
          refine hK.out _ _ (Four.below hH3 hb_c46_4) (fun hH4 => ?_)
          clear hK K
          refine wpAnyH_take (i := 17) (oi := { dst := some 47, op := _, type := _, pos := _, after := _, guard := _ }) (v := ?_) rfl (by kernel_rfl) (by kernel_rfl) (by kernel_rfl) (fun _ _ _ h => h) (Or.inl ⟨by rfl, ?_⟩) (hH4) ?_
          rotate_left
          · (intro wx hSw; obtain ⟨⟨_, q1, q2, _, _⟩, ⟨_, q3, q4, _, _⟩, ⟨_, q5, q6, _, _⟩, ⟨_, q7, q8, _, _⟩⟩ := hSw; go_simp <;> with_reducible rfl)
          simp only [Act.put, List.setIfInBounds_toArray, List.set_cons_zero, List.set_cons_succ]
          refine wpAnyH_take (i := 18) (oi := { dst := some 48, op := _, type := _, pos := _, after := _, guard := _ }) (v := ?_) rfl (by kernel_rfl) (by kernel_rfl) (by kernel_rfl) (fun _ _ _ h => h) (Or.inl ⟨by rfl, ?_⟩) (hH4) ?_
          rotate_left
          · (intro wx hSw; obtain ⟨⟨_, q1, q2, _, _⟩, ⟨_, q3, q4, _, _⟩, ⟨_, q5, q6, _, _⟩, ⟨_, q7, q8, _, _⟩⟩ := hSw; go_simp <;> with_reducible rfl)
          simp only [Act.put, List.setIfInBounds_toArray, List.set_cons_zero, List.set_cons_succ]
          refine wpAnyH_take (i := 19) (oi := { dst := some 49, op := _, type := _, pos := _, after := _, guard := _ }) (v := ?_) rfl (by kernel_rfl) (by kernel_rfl) (by kernel_rfl) (fun _ _ _ h => h) (Or.inl ⟨by rfl, ?_⟩) (hH4) ?_
          rotate_left
          · (intro wx hSw; obtain ⟨⟨_, q1, q2, _, _⟩, ⟨_, q3, q4, _, _⟩, ⟨_, q5, q6, _, _⟩, ⟨_, q7, q8, _, _⟩⟩ := hSw; go_simp <;> with_reducible rfl)
          simp only [Act.put, List.setIfInBounds_toArray, List.set_cons_zero, List.set_cons_succ]
          refine wpAnyH_take (i := 20) (oi := { dst := some 50, op := _, type := _, pos := _, after := _, guard := _ }) (v := ?_) rfl (by kernel_rfl) (by kernel_rfl) (by kernel_rfl) (fun _ _ _ h => h) (Or.inl ⟨by rfl, ?_⟩) (hH4) ?_
          rotate_left
          · (intro wx hSw; obtain ⟨⟨_, q1, q2, _, _⟩, ⟨_, q3, q4, _, _⟩, ⟨_, q5, q6, _, _⟩, ⟨_, q7, q8, _, _⟩⟩ := hSw; go_simp <;> with_reducible rfl)
          simp only [Act.put, List.setIfInBounds_toArray, List.set_cons_zero, List.set_cons_succ]
          refine wpAnyH_ready (rs := [21]) (by kernel_rfl) (by simp) ?_
          refine AllReadyH.cons (o := { dst := some 51, op := _, type := _, pos := _, after := _, guard := _ }) rfl (fun K hK => ?_) AllReadyH.nil
          go_simp
          refine (SOb.out _).mono ?_
          rintro e w_c51_5 ⟨rfl, hb_c51_5⟩
          dsimp only
          refine hK.out _ _ (Four.below hH4 hb_c51_5) (fun hH5 => ?_)
          clear hK K
          refine wpAnyH_take (i := 22) (oi := { dst := some 52, op := _, type := _, pos := _, after := _, guard := _ }) (v := ?_) rfl (by kernel_rfl) (by kernel_rfl) (by kernel_rfl) (fun _ _ _ h => h) (Or.inl ⟨by rfl, ?_⟩) (hH5) ?_
          rotate_left
          · (intro wx hSw; obtain ⟨⟨_, q1, q2, _, _⟩, ⟨_, q3, q4, _, _⟩, ⟨_, q5, q6, _, _⟩, ⟨_, q7, q8, _, _⟩⟩ := hSw; go_simp <;> with_reducible rfl)
          simp only [Act.put, List.setIfInBounds_toArray, List.set_cons_zero, List.set_cons_succ]
          refine wpAnyH_take (i := 23) (oi := { dst := some 53, op := _, type := _, pos := _, after := _, guard := _ }) (v := ?_) rfl (by kernel_rfl) (by kernel_rfl) (by kernel_rfl) (fun _ _ _ h => h) (Or.inl ⟨by rfl, ?_⟩) (hH5) ?_
          rotate_left
          · (intro wx hSw; obtain ⟨⟨_, q1, q2, _, _⟩, ⟨_, q3, q4, _, _⟩, ⟨_, q5, q6, _, _⟩, ⟨_, q7, q8, _, _⟩⟩ := hSw; go_simp <;> with_reducible rfl)
          simp only [Act.put, List.setIfInBounds_toArray, List.set_cons_zero, List.set_cons_succ]
          refine wpAnyH_done (by kernel_rfl) ?_ _
          go_wp2_with fail
          go_meet
          exact ⟨by rw [hra]; rfl, hH5, (by repeat' first | with_reducible exact Below.refl _ _ | with_reducible assumption | with_reducible refine below_drewN ?_ _ | with_reducible refine balloc ?_ _ | with_reducible refine Below.drew ?_ | with_reducible refine Below.setCell ?_ (by first | (simp; done) | (simp; omega) | omega) _ | with_reducible refine bstep ?_ (by assumption))⟩
      case rest =>
        obtain ⟨rfl, f6, Bw⟩ := hcut
        clear F3
        have F6 := hide f6
        clear f6
        cases hrr : (rightB al ah && rightB bl bh)
        · obtain ⟨ra, hra⟩ : ∃ ra, rightB al ah = ra := ⟨_, rfl⟩
          rw [hra] at SOa IOa
          have hre : (ra == ra) = true := by cases ra <;> rfl
          clear hrr hra
          go_upto_region 7 with fail
          refine wp_region_held_drew (S := fun wx => Four wx w1.heap.size (w1.heap.size + 1) (w2.heap.size + 1) w3.heap.size al ah bl bh cl ch j1 j2) (by kernel_rfl) (F6.out.drew) (fun hH0 => ?_)
          refine wpAnyH_take (i := 0) (oi := { dst := some 54, op := _, type := _, pos := _, after := _, guard := _ }) (v := ?_) rfl (by kernel_rfl) (by kernel_rfl) (by kernel_rfl) (fun _ _ _ h => h) (Or.inl ⟨by rfl, ?_⟩) (hH0) ?_
          rotate_left
          · (intro wx hSw; obtain ⟨⟨_, q1, q2, _, _⟩, ⟨_, q3, q4, _, _⟩, ⟨_, q5, q6, _, _⟩, ⟨_, q7, q8, _, _⟩⟩ := hSw; go_simp <;> with_reducible rfl)
          simp only [Act.put, List.setIfInBounds_toArray, List.set_cons_zero, List.set_cons_succ]
          refine wpAnyH_take (i := 1) (oi := { dst := some 55, op := _, type := _, pos := _, after := _, guard := _ }) (v := ?_) rfl (by kernel_rfl) (by kernel_rfl) (by kernel_rfl) (fun _ _ _ h => h) (Or.inl ⟨by rfl, ?_⟩) (hH0) ?_
          rotate_left
          · (intro wx hSw; obtain ⟨⟨_, q1, q2, _, _⟩, ⟨_, q3, q4, _, _⟩, ⟨_, q5, q6, _, _⟩, ⟨_, q7, q8, _, _⟩⟩ := hSw; go_simp <;> with_reducible rfl)
          simp only [Act.put, List.setIfInBounds_toArray, List.set_cons_zero, List.set_cons_succ]
          refine wpAnyH_take (i := 2) (oi := { dst := some 56, op := _, type := _, pos := _, after := _, guard := _ }) (v := ?_) rfl (by kernel_rfl) (by kernel_rfl) (by kernel_rfl) (fun _ _ _ h => h) (Or.inl ⟨by rfl, ?_⟩) (hH0) ?_
          rotate_left
          · (intro wx hSw; obtain ⟨⟨_, q1, q2, _, _⟩, ⟨_, q3, q4, _, _⟩, ⟨_, q5, q6, _, _⟩, ⟨_, q7, q8, _, _⟩⟩ := hSw; go_simp <;> with_reducible rfl)
          simp only [Act.put, List.setIfInBounds_toArray, List.set_cons_zero, List.set_cons_succ]
          refine wpAnyH_ready (rs := [3]) (by kernel_rfl) (by simp) ?_
          refine AllReadyH.cons (o := { dst := some 57, op := _, type := _, pos := _, after := _, guard := _ }) rfl (fun K hK => ?_) AllReadyH.nil
          go_simp
          refine (KS.out _).mono ?_
          rintro e w_c57_1 ⟨rfl, hb_c57_1⟩
          dsimp only
          refine hK.out _ _ (Four.below hH0 hb_c57_1) (fun hH1 => ?_)
          clear hK K
          refine wpAnyH_take (i := 4) (oi := { dst := some 58, op := _, type := _, pos := _, after := _, guard := _ }) (v := ?_) rfl (by kernel_rfl) (by kernel_rfl) (by kernel_rfl) (fun _ _ _ h => h) (Or.inl ⟨by rfl, ?_⟩) (hH1) ?_
          rotate_left
          · (intro wx hSw; obtain ⟨⟨_, q1, q2, _, _⟩, ⟨_, q3, q4, _, _⟩, ⟨_, q5, q6, _, _⟩, ⟨_, q7, q8, _, _⟩⟩ := hSw; go_simp <;> with_reducible rfl)
          simp only [Act.put, List.setIfInBounds_toArray, List.set_cons_zero, List.set_cons_succ]
          refine wpAnyH_take (i := 5) (oi := { dst := some 59, op := _, type := _, pos := _, after := _, guard := _ }) (v := ?_) rfl (by kernel_rfl) (by kernel_rfl) (by kernel_rfl) (fun _ _ _ h => h) (Or.inl ⟨by rfl, ?_⟩) (hH1) ?_
          rotate_left
          · (intro wx hSw; obtain ⟨⟨_, q1, q2, _, _⟩, ⟨_, q3, q4, _, _⟩, ⟨_, q5, q6, _, _⟩, ⟨_, q7, q8, _, _⟩⟩ := hSw; go_simp <;> with_reducible rfl)
          simp only [Act.put, List.setIfInBounds_toArray, List.set_cons_zero, List.set_cons_succ]
          refine wpAnyH_take (i := 6) (oi := { dst := some 60, op := _, type := _, pos := _, after := _, guard := _ }) (v := ?_) rfl (by kernel_rfl) (by kernel_rfl) (by kernel_rfl) (fun _ _ _ h => h) (Or.inl ⟨by rfl, ?_⟩) (hH1) ?_
          rotate_left
          · (intro wx hSw; obtain ⟨⟨_, q1, q2, _, _⟩, ⟨_, q3, q4, _, _⟩, ⟨_, q5, q6, _, _⟩, ⟨_, q7, q8, _, _⟩⟩ := hSw; go_simp <;> with_reducible rfl)
          simp only [Act.put, List.setIfInBounds_toArray, List.set_cons_zero, List.set_cons_succ]
          refine wpAnyH_take (i := 7) (oi := { dst := some 61, op := _, type := _, pos := _, after := _, guard := _ }) (v := ?_) rfl (by kernel_rfl) (by kernel_rfl) (by kernel_rfl) (fun _ _ _ h => h) (Or.inl ⟨by rfl, ?_⟩) (hH1) ?_
          rotate_left
          · (intro wx hSw; obtain ⟨⟨_, q1, q2, _, _⟩, ⟨_, q3, q4, _, _⟩, ⟨_, q5, q6, _, _⟩, ⟨_, q7, q8, _, _⟩⟩ := hSw; go_simp <;> with_reducible rfl)
          simp only [Act.put, List.setIfInBounds_toArray, List.set_cons_zero, List.set_cons_succ]
          refine wpAnyH_take (i := 9) (oi := { dst := some 63, op := _, type := _, pos := _, after := _, guard := _ }) (v := ?_) rfl (by kernel_rfl) (by kernel_rfl) (by kernel_rfl) (fun _ _ _ h => h) (Or.inl ⟨by rfl, ?_⟩) (hH1) ?_
          rotate_left
          · (intro wx hSw; obtain ⟨⟨_, q1, q2, _, _⟩, ⟨_, q3, q4, _, _⟩, ⟨_, q5, q6, _, _⟩, ⟨_, q7, q8, _, _⟩⟩ := hSw; go_simp <;> with_reducible rfl)
          simp only [Act.put, List.setIfInBounds_toArray, List.set_cons_zero, List.set_cons_succ]
          refine wpAnyH_take (i := 10) (oi := { dst := some 64, op := _, type := _, pos := _, after := _, guard := _ }) (v := ?_) rfl (by kernel_rfl) (by kernel_rfl) (by kernel_rfl) (fun _ _ _ h => h) (Or.inl ⟨by rfl, ?_⟩) (hH1) ?_
          rotate_left
          · (intro wx hSw; obtain ⟨⟨_, q1, q2, _, _⟩, ⟨_, q3, q4, _, _⟩, ⟨_, q5, q6, _, _⟩, ⟨_, q7, q8, _, _⟩⟩ := hSw; go_simp <;> with_reducible rfl)
          simp only [Act.put, List.setIfInBounds_toArray, List.set_cons_zero, List.set_cons_succ]
          refine wpAnyH_ready (rs := [8]) (by kernel_rfl) (by simp) ?_
          refine AllReadyH.cons (o := { dst := some 62, op := _, type := _, pos := _, after := _, guard := _ }) rfl (fun K hK => ?_) AllReadyH.nil
          go_simp
          refine (IL.out _).mono ?_
          rintro e w_c62_2 ⟨rfl, hb_c62_2⟩
          dsimp only
          refine hK.out _ _ (Four.below hH1 hb_c62_2) (fun hH2 => ?_)
          clear hK K
          refine wpAnyH_ready (rs := [11]) (by kernel_rfl) (by simp) ?_
          refine AllReadyH.cons (o := { dst := some 65, op := _, type := _, pos := _, after := _, guard := _ }) rfl (fun K hK => ?_) AllReadyH.nil
          go_simp
          refine (SL.out _).mono ?_
          rintro e w_c65_3 ⟨rfl, hb_c65_3⟩
          dsimp only
          refine hK.out _ _ (Four.below hH2 hb_c65_3) (fun hH3 => ?_)
          clear hK K
          refine wpAnyH_take (i := 12) (oi := { dst := some 66, op := _, type := _, pos := _, after := _, guard := _ }) (v := ?_) rfl (by kernel_rfl) (by kernel_rfl) (by kernel_rfl) (fun _ _ _ h => h) (Or.inl ⟨by rfl, ?_⟩) (hH3) ?_
          rotate_left
          · (intro wx hSw; obtain ⟨⟨_, q1, q2, _, _⟩, ⟨_, q3, q4, _, _⟩, ⟨_, q5, q6, _, _⟩, ⟨_, q7, q8, _, _⟩⟩ := hSw; go_simp <;> with_reducible rfl)
          simp only [Act.put, List.setIfInBounds_toArray, List.set_cons_zero, List.set_cons_succ]
          refine wpAnyH_take (i := 13) (oi := { dst := some 67, op := _, type := _, pos := _, after := _, guard := _ }) (v := ?_) rfl (by kernel_rfl) (by kernel_rfl) (by kernel_rfl) (fun _ _ _ h => h) (Or.inl ⟨by rfl, ?_⟩) (hH3) ?_
          rotate_left
          · (intro wx hSw; obtain ⟨⟨_, q1, q2, _, _⟩, ⟨_, q3, q4, _, _⟩, ⟨_, q5, q6, _, _⟩, ⟨_, q7, q8, _, _⟩⟩ := hSw; go_simp <;> with_reducible rfl)
          simp only [Act.put, List.setIfInBounds_toArray, List.set_cons_zero, List.set_cons_succ]
          refine wpAnyH_take (i := 14) (oi := { dst := some 68, op := _, type := _, pos := _, after := _, guard := _ }) (v := ?_) rfl (by kernel_rfl) (by kernel_rfl) (by kernel_rfl) (fun _ _ _ h => h) (Or.inl ⟨by rfl, ?_⟩) (hH3) ?_
          rotate_left
          · (intro wx hSw; obtain ⟨⟨_, q1, q2, _, _⟩, ⟨_, q3, q4, _, _⟩, ⟨_, q5, q6, _, _⟩, ⟨_, q7, q8, _, _⟩⟩ := hSw; go_simp <;> with_reducible rfl)
          simp only [Act.put, List.setIfInBounds_toArray, List.set_cons_zero, List.set_cons_succ]
          refine wpAnyH_take (i := 15) (oi := { dst := some 69, op := _, type := _, pos := _, after := _, guard := _ }) (v := ?_) rfl (by kernel_rfl) (by kernel_rfl) (by kernel_rfl) (fun _ _ _ h => h) (Or.inl ⟨by rfl, ?_⟩) (hH3) ?_
          rotate_left
          · (intro wx hSw; obtain ⟨⟨_, q1, q2, _, _⟩, ⟨_, q3, q4, _, _⟩, ⟨_, q5, q6, _, _⟩, ⟨_, q7, q8, _, _⟩⟩ := hSw; go_simp <;> with_reducible rfl)
          simp only [Act.put, List.setIfInBounds_toArray, List.set_cons_zero, List.set_cons_succ]
          refine wpAnyH_take (i := 17) (oi := { dst := some 71, op := _, type := _, pos := _, after := _, guard := _ }) (v := ?_) rfl (by kernel_rfl) (by kernel_rfl) (by kernel_rfl) (fun _ _ _ h => h) (Or.inl ⟨by rfl, ?_⟩) (hH3) ?_
          rotate_left
          · (intro wx hSw; obtain ⟨⟨_, q1, q2, _, _⟩, ⟨_, q3, q4, _, _⟩, ⟨_, q5, q6, _, _⟩, ⟨_, q7, q8, _, _⟩⟩ := hSw; go_simp <;> with_reducible rfl)
          simp only [Act.put, List.setIfInBounds_toArray, List.set_cons_zero, List.set_cons_succ]
          refine wpAnyH_ready (rs := [16]) (by kernel_rfl) (by simp) ?_
          refine AllReadyH.cons (o := { dst := some 70, op := _, type := _, pos := _, after := _, guard := _ }) rfl (fun K hK => ?_) AllReadyH.nil
          go_simp
          refine (IOa.out _).mono ?_
          rintro e w_c70_4 ⟨rfl, hb_c70_4⟩
          dsimp only
          refine hK.out _ _ (Four.below hH3 hb_c70_4) (fun hH4 => ?_)
          clear hK K
          refine wpAnyH_ready (rs := [18]) (by kernel_rfl) (by simp) ?_
          refine AllReadyH.cons (o := { dst := some 72, op := _, type := _, pos := _, after := _, guard := _ }) rfl (fun K hK => ?_) AllReadyH.nil
          go_simp
          refine (SOa.out _).mono ?_
          rintro e w_c72_5 ⟨rfl, hb_c72_5⟩
          dsimp only
          refine hK.out _ _ (Four.below hH4 hb_c72_5) (fun hH5 => ?_)
          clear hK K
          refine wpAnyH_take (i := 19) (oi := { dst := some 73, op := _, type := _, pos := _, after := _, guard := _ }) (v := ?_) rfl (by kernel_rfl) (by kernel_rfl) (by kernel_rfl) (fun _ _ _ h => h) (Or.inl ⟨by rfl, ?_⟩) (hH5) ?_
          rotate_left
          · (intro wx hSw; obtain ⟨⟨_, q1, q2, _, _⟩, ⟨_, q3, q4, _, _⟩, ⟨_, q5, q6, _, _⟩, ⟨_, q7, q8, _, _⟩⟩ := hSw; go_simp <;> with_reducible rfl)
          simp only [Act.put, List.setIfInBounds_toArray, List.set_cons_zero, List.set_cons_succ]
          refine wpAnyH_take (i := 20) (oi := { dst := some 74, op := _, type := _, pos := _, after := _, guard := _ }) (v := ?_) rfl (by kernel_rfl) (by kernel_rfl) (by kernel_rfl) (fun _ _ _ h => h) (Or.inl ⟨by rfl, ?_⟩) (hH5) ?_
          rotate_left
          · (intro wx hSw; obtain ⟨⟨_, q1, q2, _, _⟩, ⟨_, q3, q4, _, _⟩, ⟨_, q5, q6, _, _⟩, ⟨_, q7, q8, _, _⟩⟩ := hSw; go_simp <;> with_reducible rfl)
          simp only [Act.put, List.setIfInBounds_toArray, List.set_cons_zero, List.set_cons_succ]
          refine wpAnyH_take (i := 21) (oi := { dst := some 4, op := _, type := _, pos := _, after := _, guard := _ }) (v := ?_) rfl (by kernel_rfl) (by kernel_rfl) (by kernel_rfl) (fun _ _ _ h => h) (Or.inl ⟨by rfl, ?_⟩) (hH5) ?_
          rotate_left
          · (intro wx hSw; obtain ⟨⟨_, q1, q2, _, _⟩, ⟨_, q3, q4, _, _⟩, ⟨_, q5, q6, _, _⟩, ⟨_, q7, q8, _, _⟩⟩ := hSw; go_simp <;> with_reducible rfl)
          simp only [Act.put, List.setIfInBounds_toArray, List.set_cons_zero, List.set_cons_succ]
          refine wpAnyH_done (by kernel_rfl) ?_ _
          go_wp2_with fail
          go_ret
          exact ⟨rfl, (by repeat' first | with_reducible exact Below.refl _ _ | with_reducible assumption | with_reducible refine below_drewN ?_ _ | with_reducible refine balloc ?_ _ | with_reducible refine Below.drew ?_ | with_reducible refine Below.setCell ?_ (by first | (simp; done) | (simp; omega) | omega) _ | with_reducible refine bstep ?_ (by assumption))⟩
        · obtain ⟨hra, hrb⟩ := Bool.and_eq_true_iff.mp hrr
          obtain ⟨hj1, hj2⟩ := HJ.out hra hrb
          have up := join_upper hra hrb
          rw [← hj1, ← hj2] at up
          have IJa := hide (fun w => iRangeLeq_any al ah j1 j2 w)
          have IJb := hide (fun w => iRangeLeq_any bl bh j1 j2 w)
          rw [up.1] at IJa
          rw [up.2] at IJb
          have LE := hide (fun (h1 : leqB al ah cl ch = true) (h2 : leqB bl bh cl ch = true) => join_least h1 h2)
          rw [← hj1, ← hj2] at LE
          clear hrr hra hrb hj1 hj2 up HJ
          obtain ⟨⟨_, q1, q2, _, _⟩, ⟨_, q3, q4, _, _⟩, ⟨_, q5, q6, _, _⟩, _⟩ := F6.out
          go_wp2_with fail
          refine (IL.out _).mono ?_
          rintro e w7 ⟨rfl, hb7⟩
          have F7 := hide (F6.out.below hb7)
          clear q1 q2 q3 q4 q5 q6
          cases pl
          · go_upto_region 9 with fail
            refine wp_region_held_drew (S := fun wx => Four wx w1.heap.size (w1.heap.size + 1) (w2.heap.size + 1) w3.heap.size al ah bl bh cl ch j1 j2) (by kernel_rfl) (F7.out.drew) (fun hH0 => ?_)
            refine wpAnyH_take (i := 0) (oi := { dst := some 83, op := _, type := _, pos := _, after := _, guard := _ }) (v := ?_) rfl (by kernel_rfl) (by kernel_rfl) (by kernel_rfl) (fun _ _ _ h => h) (Or.inl ⟨by rfl, ?_⟩) (hH0) ?_
            rotate_left
            · (intro wx hSw; obtain ⟨⟨_, q1, q2, _, _⟩, ⟨_, q3, q4, _, _⟩, ⟨_, q5, q6, _, _⟩, ⟨_, q7, q8, _, _⟩⟩ := hSw; go_simp <;> with_reducible rfl)
            simp only [Act.put, List.setIfInBounds_toArray, List.set_cons_zero, List.set_cons_succ]
            refine wpAnyH_take (i := 1) (oi := { dst := some 84, op := _, type := _, pos := _, after := _, guard := _ }) (v := ?_) rfl (by kernel_rfl) (by kernel_rfl) (by kernel_rfl) (fun _ _ _ h => h) (Or.inl ⟨by rfl, ?_⟩) (hH0) ?_
            rotate_left
            · (intro wx hSw; obtain ⟨⟨_, q1, q2, _, _⟩, ⟨_, q3, q4, _, _⟩, ⟨_, q5, q6, _, _⟩, ⟨_, q7, q8, _, _⟩⟩ := hSw; go_simp <;> with_reducible rfl)
            simp only [Act.put, List.setIfInBounds_toArray, List.set_cons_zero, List.set_cons_succ]
            refine wpAnyH_ready (rs := [2]) (by kernel_rfl) (by simp) ?_
            refine AllReadyH.cons (o := { dst := some 85, op := _, type := _, pos := _, after := _, guard := _ }) rfl (fun K hK => ?_) AllReadyH.nil
            go_simp
            refine (IJa.out _).mono ?_
            rintro e w_c85_1 ⟨rfl, hb_c85_1⟩
            dsimp only
            refine hK.out _ _ (Four.below hH0 hb_c85_1) (fun hH1 => ?_)
            clear hK K
            refine wpAnyH_take (i := 3) (oi := { dst := some 86, op := _, type := _, pos := _, after := _, guard := _ }) (v := ?_) rfl (by kernel_rfl) (by kernel_rfl) (by kernel_rfl) (fun _ _ _ h => h) (Or.inl ⟨by rfl, ?_⟩) (hH1) ?_
            rotate_left
            · (intro wx hSw; obtain ⟨⟨_, q1, q2, _, _⟩, ⟨_, q3, q4, _, _⟩, ⟨_, q5, q6, _, _⟩, ⟨_, q7, q8, _, _⟩⟩ := hSw; go_simp <;> with_reducible rfl)
            simp only [Act.put, List.setIfInBounds_toArray, List.set_cons_zero, List.set_cons_succ]
            refine wpAnyH_take (i := 4) (oi := { dst := some 87, op := _, type := _, pos := _, after := _, guard := _ }) (v := ?_) rfl (by kernel_rfl) (by kernel_rfl) (by kernel_rfl) (fun _ _ _ h => h) (Or.inl ⟨by rfl, ?_⟩) (hH1) ?_
            rotate_left
            · (intro wx hSw; obtain ⟨⟨_, q1, q2, _, _⟩, ⟨_, q3, q4, _, _⟩, ⟨_, q5, q6, _, _⟩, ⟨_, q7, q8, _, _⟩⟩ := hSw; go_simp <;> with_reducible rfl)
            simp only [Act.put, List.setIfInBounds_toArray, List.set_cons_zero, List.set_cons_succ]
            refine wpAnyH_take (i := 5) (oi := { dst := some 88, op := _, type := _, pos := _, after := _, guard := _ }) (v := ?_) rfl (by kernel_rfl) (by kernel_rfl) (by kernel_rfl) (fun _ _ _ h => h) (Or.inl ⟨by rfl, ?_⟩) (hH1) ?_
            rotate_left
            · (intro wx hSw; obtain ⟨⟨_, q1, q2, _, _⟩, ⟨_, q3, q4, _, _⟩, ⟨_, q5, q6, _, _⟩, ⟨_, q7, q8, _, _⟩⟩ := hSw; go_simp <;> with_reducible rfl)
            simp only [Act.put, List.setIfInBounds_toArray, List.set_cons_zero, List.set_cons_succ]
            refine wpAnyH_ready (rs := [6]) (by kernel_rfl) (by simp) ?_
            refine AllReadyH.cons (o := { dst := some 89, op := _, type := _, pos := _, after := _, guard := _ }) rfl (fun K hK => ?_) AllReadyH.nil
            go_simp
            refine (IJb.out _).mono ?_
            rintro e w_c89_2 ⟨rfl, hb_c89_2⟩
            dsimp only
            refine hK.out _ _ (Four.below hH1 hb_c89_2) (fun hH2 => ?_)
            clear hK K
            refine wpAnyH_take (i := 7) (oi := { dst := some 90, op := _, type := _, pos := _, after := _, guard := _ }) (v := ?_) rfl (by kernel_rfl) (by kernel_rfl) (by kernel_rfl) (fun _ _ _ h => h) (Or.inl ⟨by rfl, ?_⟩) (hH2) ?_
            rotate_left
            · (intro wx hSw; obtain ⟨⟨_, q1, q2, _, _⟩, ⟨_, q3, q4, _, _⟩, ⟨_, q5, q6, _, _⟩, ⟨_, q7, q8, _, _⟩⟩ := hSw; go_simp <;> with_reducible rfl)
            simp only [Act.put, List.setIfInBounds_toArray, List.set_cons_zero, List.set_cons_succ]
            refine wpAnyH_take (i := 8) (oi := { dst := some 91, op := _, type := _, pos := _, after := _, guard := _ }) (v := ?_) rfl (by kernel_rfl) (by kernel_rfl) (by kernel_rfl) (fun _ _ _ h => h) (Or.inl ⟨by rfl, ?_⟩) (hH2) ?_
            rotate_left
            · (intro wx hSw; obtain ⟨⟨_, q1, q2, _, _⟩, ⟨_, q3, q4, _, _⟩, ⟨_, q5, q6, _, _⟩, ⟨_, q7, q8, _, _⟩⟩ := hSw; go_simp <;> with_reducible rfl)
            simp only [Act.put, List.setIfInBounds_toArray, List.set_cons_zero, List.set_cons_succ]
            refine wpAnyH_take (i := 9) (oi := { dst := some 92, op := _, type := _, pos := _, after := _, guard := _ }) (v := ?_) rfl (by kernel_rfl) (by kernel_rfl) (by kernel_rfl) (fun _ _ _ h => h) (Or.inl ⟨by rfl, ?_⟩) (hH2) ?_
            rotate_left
            · (intro wx hSw; obtain ⟨⟨_, q1, q2, _, _⟩, ⟨_, q3, q4, _, _⟩, ⟨_, q5, q6, _, _⟩, ⟨_, q7, q8, _, _⟩⟩ := hSw; go_simp <;> with_reducible rfl)
            simp only [Act.put, List.setIfInBounds_toArray, List.set_cons_zero, List.set_cons_succ]
            refine wpAnyH_take (i := 10) (oi := { dst := some 93, op := _, type := _, pos := _, after := _, guard := _ }) (v := ?_) rfl (by kernel_rfl) (by kernel_rfl) (by kernel_rfl) (fun _ _ _ h => h) (Or.inl ⟨by rfl, ?_⟩) (hH2) ?_
            rotate_left
            · (intro wx hSw; obtain ⟨⟨_, q1, q2, _, _⟩, ⟨_, q3, q4, _, _⟩, ⟨_, q5, q6, _, _⟩, ⟨_, q7, q8, _, _⟩⟩ := hSw; go_simp <;> with_reducible rfl)
            simp only [Act.put, List.setIfInBounds_toArray, List.set_cons_zero, List.set_cons_succ]
            refine wpAnyH_take (i := 12) (oi := { dst := some 95, op := _, type := _, pos := _, after := _, guard := _ }) (v := ?_) rfl (by kernel_rfl) (by kernel_rfl) (by kernel_rfl) (fun _ _ _ h => h) (Or.inl ⟨by rfl, ?_⟩) (hH2) ?_
            rotate_left
            · (intro wx hSw; obtain ⟨⟨_, q1, q2, _, _⟩, ⟨_, q3, q4, _, _⟩, ⟨_, q5, q6, _, _⟩, ⟨_, q7, q8, _, _⟩⟩ := hSw; go_simp <;> with_reducible rfl)
            simp only [Act.put, List.setIfInBounds_toArray, List.set_cons_zero, List.set_cons_succ]
            refine wpAnyH_ready (rs := [11]) (by kernel_rfl) (by simp) ?_
            refine AllReadyH.cons (o := { dst := some 94, op := _, type := _, pos := _, after := _, guard := _ }) rfl (fun K hK => ?_) AllReadyH.nil
            go_simp
            refine (KJ.out _).mono ?_
            rintro e w_c94_3 ⟨rfl, hb_c94_3⟩
            dsimp only
            refine hK.out _ _ (Four.below hH2 hb_c94_3) (fun hH3 => ?_)
            clear hK K
            refine wpAnyH_take (i := 13) (oi := { dst := some 96, op := _, type := _, pos := _, after := _, guard := _ }) (v := ?_) rfl (by kernel_rfl) (by kernel_rfl) (by kernel_rfl) (fun _ _ _ h => h) (Or.inl ⟨by rfl, ?_⟩) (hH3) ?_
            rotate_left
            · (intro wx hSw; obtain ⟨⟨_, q1, q2, _, _⟩, ⟨_, q3, q4, _, _⟩, ⟨_, q5, q6, _, _⟩, ⟨_, q7, q8, _, _⟩⟩ := hSw; go_simp <;> with_reducible rfl)
            simp only [Act.put, List.setIfInBounds_toArray, List.set_cons_zero, List.set_cons_succ]
            refine wpAnyH_take (i := 14) (oi := { dst := some 97, op := _, type := _, pos := _, after := _, guard := _ }) (v := ?_) rfl (by kernel_rfl) (by kernel_rfl) (by kernel_rfl) (fun _ _ _ h => h) (Or.inl ⟨by rfl, ?_⟩) (hH3) ?_
            rotate_left
            · (intro wx hSw; obtain ⟨⟨_, q1, q2, _, _⟩, ⟨_, q3, q4, _, _⟩, ⟨_, q5, q6, _, _⟩, ⟨_, q7, q8, _, _⟩⟩ := hSw; go_simp <;> with_reducible rfl)
            simp only [Act.put, List.setIfInBounds_toArray, List.set_cons_zero, List.set_cons_succ]
            refine wpAnyH_take (i := 15) (oi := { dst := some 98, op := _, type := _, pos := _, after := _, guard := _ }) (v := ?_) rfl (by kernel_rfl) (by kernel_rfl) (by kernel_rfl) (fun _ _ _ h => h) (Or.inl ⟨by rfl, ?_⟩) (hH3) ?_
            rotate_left
            · (intro wx hSw; obtain ⟨⟨_, q1, q2, _, _⟩, ⟨_, q3, q4, _, _⟩, ⟨_, q5, q6, _, _⟩, ⟨_, q7, q8, _, _⟩⟩ := hSw; go_simp <;> with_reducible rfl)
            simp only [Act.put, List.setIfInBounds_toArray, List.set_cons_zero, List.set_cons_succ]
            refine wpAnyH_take (i := 16) (oi := { dst := some 99, op := _, type := _, pos := _, after := _, guard := _ }) (v := ?_) rfl (by kernel_rfl) (by kernel_rfl) (by kernel_rfl) (fun _ _ _ h => h) (Or.inl ⟨by rfl, ?_⟩) (hH3) ?_
            rotate_left
            · (intro wx hSw; obtain ⟨⟨_, q1, q2, _, _⟩, ⟨_, q3, q4, _, _⟩, ⟨_, q5, q6, _, _⟩, ⟨_, q7, q8, _, _⟩⟩ := hSw; go_simp <;> with_reducible rfl)
            simp only [Act.put, List.setIfInBounds_toArray, List.set_cons_zero, List.set_cons_succ]
            refine wpAnyH_take (i := 17) (oi := { dst := some 100, op := _, type := _, pos := _, after := _, guard := _ }) (v := ?_) rfl (by kernel_rfl) (by kernel_rfl) (by kernel_rfl) (fun _ _ _ h => h) (Or.inl ⟨by rfl, ?_⟩) (hH3) ?_
            rotate_left
            · (intro wx hSw; obtain ⟨⟨_, q1, q2, _, _⟩, ⟨_, q3, q4, _, _⟩, ⟨_, q5, q6, _, _⟩, ⟨_, q7, q8, _, _⟩⟩ := hSw; go_simp <;> with_reducible rfl)
            simp only [Act.put, List.setIfInBounds_toArray, List.set_cons_zero, List.set_cons_succ]
            refine wpAnyH_take (i := 18) (oi := { dst := some 101, op := _, type := _, pos := _, after := _, guard := _ }) (v := ?_) rfl (by kernel_rfl) (by kernel_rfl) (by kernel_rfl) (fun _ _ _ h => h) (Or.inl ⟨by rfl, ?_⟩) (hH3) ?_
            rotate_left
            · (intro wx hSw; obtain ⟨⟨_, q1, q2, _, _⟩, ⟨_, q3, q4, _, _⟩, ⟨_, q5, q6, _, _⟩, ⟨_, q7, q8, _, _⟩⟩ := hSw; go_simp <;> with_reducible rfl)
            simp only [Act.put, List.setIfInBounds_toArray, List.set_cons_zero, List.set_cons_succ]
            refine wpAnyH_take (i := 19) (oi := { dst := some 102, op := _, type := _, pos := _, after := _, guard := _ }) (v := _) rfl (by kernel_rfl) (by kernel_rfl) (by kernel_rfl) (fun _ _ _ h => h) (Or.inr ⟨by rfl, rfl⟩) (hH3) ?_
            simp only [Act.put, List.setIfInBounds_toArray, List.set_cons_zero, List.set_cons_succ]
            refine wpAnyH_take (i := 20) (oi := { dst := some 103, op := _, type := _, pos := _, after := _, guard := _ }) (v := _) rfl (by kernel_rfl) (by kernel_rfl) (by kernel_rfl) (fun _ _ _ h => h) (Or.inr ⟨by rfl, rfl⟩) (hH3) ?_
            simp only [Act.put, List.setIfInBounds_toArray, List.set_cons_zero, List.set_cons_succ]
            refine wpAnyH_take (i := 21) (oi := { dst := some 104, op := _, type := _, pos := _, after := _, guard := _ }) (v := _) rfl (by kernel_rfl) (by kernel_rfl) (by kernel_rfl) (fun _ _ _ h => h) (Or.inr ⟨by rfl, rfl⟩) (hH3) ?_
            simp only [Act.put, List.setIfInBounds_toArray, List.set_cons_zero, List.set_cons_succ]
            refine wpAnyH_take (i := 22) (oi := { dst := some 105, op := _, type := _, pos := _, after := _, guard := _ }) (v := ?_) rfl (by kernel_rfl) (by kernel_rfl) (by kernel_rfl) (fun _ _ _ h => h) (Or.inl ⟨by rfl, ?_⟩) (hH3) ?_
            rotate_left
            · (intro wx hSw; obtain ⟨⟨_, q1, q2, _, _⟩, ⟨_, q3, q4, _, _⟩, ⟨_, q5, q6, _, _⟩, ⟨_, q7, q8, _, _⟩⟩ := hSw; go_simp <;> with_reducible rfl)
            simp only [Act.put, List.setIfInBounds_toArray, List.set_cons_zero, List.set_cons_succ]
            refine wpAnyH_take (i := 23) (oi := { dst := some 106, op := _, type := _, pos := _, after := _, guard := _ }) (v := ?_) rfl (by kernel_rfl) (by kernel_rfl) (by kernel_rfl) (fun _ _ _ h => h) (Or.inl ⟨by rfl, ?_⟩) (hH3) ?_
            rotate_left
            · (intro wx hSw; obtain ⟨⟨_, q1, q2, _, _⟩, ⟨_, q3, q4, _, _⟩, ⟨_, q5, q6, _, _⟩, ⟨_, q7, q8, _, _⟩⟩ := hSw; go_simp <;> with_reducible rfl)
            simp only [Act.put, List.setIfInBounds_toArray, List.set_cons_zero, List.set_cons_succ]
            refine wpAnyH_take (i := 24) (oi := { dst := some 4, op := _, type := _, pos := _, after := _, guard := _ }) (v := ?_) rfl (by kernel_rfl) (by kernel_rfl) (by kernel_rfl) (fun _ _ _ h => h) (Or.inl ⟨by rfl, ?_⟩) (hH3) ?_
            rotate_left
            · (intro wx hSw; obtain ⟨⟨_, q1, q2, _, _⟩, ⟨_, q3, q4, _, _⟩, ⟨_, q5, q6, _, _⟩, ⟨_, q7, q8, _, _⟩⟩ := hSw; go_simp <;> with_reducible rfl)
            simp only [Act.put, List.setIfInBounds_toArray, List.set_cons_zero, List.set_cons_succ]
            refine wpAnyH_done (by kernel_rfl) ?_ _
            go_wp2_with fail
            go_ret
            exact ⟨rfl, (by repeat' first | with_reducible exact Below.refl _ _ | with_reducible assumption | with_reducible refine below_drewN ?_ _ | with_reducible refine balloc ?_ _ | with_reducible refine Below.drew ?_ | with_reducible refine Below.setCell ?_ (by first | (simp; done) | (simp; omega) | omega) _ | with_reducible refine bstep ?_ (by assumption))⟩
          · obtain ⟨⟨_, q1, q2, _, _⟩, ⟨_, q3, q4, _, _⟩, ⟨_, q5, q6, _, _⟩, _⟩ := F7.out
            go_wp2_with fail
            refine (ILb.out _).mono ?_
            rintro e w8 ⟨rfl, hb8⟩
            have F8 := hide (F7.out.below hb8)
            clear q1 q2 q3 q4 q5 q6
            cases pm
            · go_upto_region 9 with fail
              refine wp_region_held_drew (S := fun wx => Four wx w1.heap.size (w1.heap.size + 1) (w2.heap.size + 1) w3.heap.size al ah bl bh cl ch j1 j2) (by kernel_rfl) (F8.out.drew) (fun hH0 => ?_)
              refine wpAnyH_take (i := 0) (oi := { dst := some 83, op := _, type := _, pos := _, after := _, guard := _ }) (v := ?_) rfl (by kernel_rfl) (by kernel_rfl) (by kernel_rfl) (fun _ _ _ h => h) (Or.inl ⟨by rfl, ?_⟩) (hH0) ?_
              rotate_left
              · (intro wx hSw; obtain ⟨⟨_, q1, q2, _, _⟩, ⟨_, q3, q4, _, _⟩, ⟨_, q5, q6, _, _⟩, ⟨_, q7, q8, _, _⟩⟩ := hSw; go_simp <;> with_reducible rfl)
              simp only [Act.put, List.setIfInBounds_toArray, List.set_cons_zero, List.set_cons_succ]
              refine wpAnyH_take (i := 1) (oi := { dst := some 84, op := _, type := _, pos := _, after := _, guard := _ }) (v := ?_) rfl (by kernel_rfl) (by kernel_rfl) (by kernel_rfl) (fun _ _ _ h => h) (Or.inl ⟨by rfl, ?_⟩) (hH0) ?_
              rotate_left
              · (intro wx hSw; obtain ⟨⟨_, q1, q2, _, _⟩, ⟨_, q3, q4, _, _⟩, ⟨_, q5, q6, _, _⟩, ⟨_, q7, q8, _, _⟩⟩ := hSw; go_simp <;> with_reducible rfl)
              simp only [Act.put, List.setIfInBounds_toArray, List.set_cons_zero, List.set_cons_succ]
              refine wpAnyH_ready (rs := [2]) (by kernel_rfl) (by simp) ?_
              refine AllReadyH.cons (o := { dst := some 85, op := _, type := _, pos := _, after := _, guard := _ }) rfl (fun K hK => ?_) AllReadyH.nil
              go_simp
              refine (IJa.out _).mono ?_
              rintro e w_c85_1 ⟨rfl, hb_c85_1⟩
              dsimp only
              refine hK.out _ _ (Four.below hH0 hb_c85_1) (fun hH1 => ?_)
              clear hK K
              refine wpAnyH_take (i := 3) (oi := { dst := some 86, op := _, type := _, pos := _, after := _, guard := _ }) (v := ?_) rfl (by kernel_rfl) (by kernel_rfl) (by kernel_rfl) (fun _ _ _ h => h) (Or.inl ⟨by rfl, ?_⟩) (hH1) ?_
              rotate_left
              · (intro wx hSw; obtain ⟨⟨_, q1, q2, _, _⟩, ⟨_, q3, q4, _, _⟩, ⟨_, q5, q6, _, _⟩, ⟨_, q7, q8, _, _⟩⟩ := hSw; go_simp <;> with_reducible rfl)
              simp only [Act.put, List.setIfInBounds_toArray, List.set_cons_zero, List.set_cons_succ]
              refine wpAnyH_take (i := 4) (oi := { dst := some 87, op := _, type := _, pos := _, after := _, guard := _ }) (v := ?_) rfl (by kernel_rfl) (by kernel_rfl) (by kernel_rfl) (fun _ _ _ h => h) (Or.inl ⟨by rfl, ?_⟩) (hH1) ?_
              rotate_left
              · (intro wx hSw; obtain ⟨⟨_, q1, q2, _, _⟩, ⟨_, q3, q4, _, _⟩, ⟨_, q5, q6, _, _⟩, ⟨_, q7, q8, _, _⟩⟩ := hSw; go_simp <;> with_reducible rfl)
              simp only [Act.put, List.setIfInBounds_toArray, List.set_cons_zero, List.set_cons_succ]
              refine wpAnyH_take (i := 5) (oi := { dst := some 88, op := _, type := _, pos := _, after := _, guard := _ }) (v := ?_) rfl (by kernel_rfl) (by kernel_rfl) (by kernel_rfl) (fun _ _ _ h => h) (Or.inl ⟨by rfl, ?_⟩) (hH1) ?_
              rotate_left
              · (intro wx hSw; obtain ⟨⟨_, q1, q2, _, _⟩, ⟨_, q3, q4, _, _⟩, ⟨_, q5, q6, _, _⟩, ⟨_, q7, q8, _, _⟩⟩ := hSw; go_simp <;> with_reducible rfl)
              simp only [Act.put, List.setIfInBounds_toArray, List.set_cons_zero, List.set_cons_succ]
              refine wpAnyH_ready (rs := [6]) (by kernel_rfl) (by simp) ?_
              refine AllReadyH.cons (o := { dst := some 89, op := _, type := _, pos := _, after := _, guard := _ }) rfl (fun K hK => ?_) AllReadyH.nil
              go_simp
              refine (IJb.out _).mono ?_
              rintro e w_c89_2 ⟨rfl, hb_c89_2⟩
              dsimp only
              refine hK.out _ _ (Four.below hH1 hb_c89_2) (fun hH2 => ?_)
              clear hK K
              refine wpAnyH_take (i := 7) (oi := { dst := some 90, op := _, type := _, pos := _, after := _, guard := _ }) (v := ?_) rfl (by kernel_rfl) (by kernel_rfl) (by kernel_rfl) (fun _ _ _ h => h) (Or.inl ⟨by rfl, ?_⟩) (hH2) ?_
              rotate_left
              · (intro wx hSw; obtain ⟨⟨_, q1, q2, _, _⟩, ⟨_, q3, q4, _, _⟩, ⟨_, q5, q6, _, _⟩, ⟨_, q7, q8, _, _⟩⟩ := hSw; go_simp <;> with_reducible rfl)
              simp only [Act.put, List.setIfInBounds_toArray, List.set_cons_zero, List.set_cons_succ]
              refine wpAnyH_take (i := 8) (oi := { dst := some 91, op := _, type := _, pos := _, after := _, guard := _ }) (v := ?_) rfl (by kernel_rfl) (by kernel_rfl) (by kernel_rfl) (fun _ _ _ h => h) (Or.inl ⟨by rfl, ?_⟩) (hH2) ?_
              rotate_left
              · (intro wx hSw; obtain ⟨⟨_, q1, q2, _, _⟩, ⟨_, q3, q4, _, _⟩, ⟨_, q5, q6, _, _⟩, ⟨_, q7, q8, _, _⟩⟩ := hSw; go_simp <;> with_reducible rfl)
              simp only [Act.put, List.setIfInBounds_toArray, List.set_cons_zero, List.set_cons_succ]
              refine wpAnyH_take (i := 9) (oi := { dst := some 92, op := _, type := _, pos := _, after := _, guard := _ }) (v := ?_) rfl (by kernel_rfl) (by kernel_rfl) (by kernel_rfl) (fun _ _ _ h => h) (Or.inl ⟨by rfl, ?_⟩) (hH2) ?_
              rotate_left
              · (intro wx hSw; obtain ⟨⟨_, q1, q2, _, _⟩, ⟨_, q3, q4, _, _⟩, ⟨_, q5, q6, _, _⟩, ⟨_, q7, q8, _, _⟩⟩ := hSw; go_simp <;> with_reducible rfl)
              simp only [Act.put, List.setIfInBounds_toArray, List.set_cons_zero, List.set_cons_succ]
              refine wpAnyH_take (i := 10) (oi := { dst := some 93, op := _, type := _, pos := _, after := _, guard := _ }) (v := ?_) rfl (by kernel_rfl) (by kernel_rfl) (by kernel_rfl) (fun _ _ _ h => h) (Or.inl ⟨by rfl, ?_⟩) (hH2) ?_
              rotate_left
              · (intro wx hSw; obtain ⟨⟨_, q1, q2, _, _⟩, ⟨_, q3, q4, _, _⟩, ⟨_, q5, q6, _, _⟩, ⟨_, q7, q8, _, _⟩⟩ := hSw; go_simp <;> with_reducible rfl)
              simp only [Act.put, List.setIfInBounds_toArray, List.set_cons_zero, List.set_cons_succ]
              refine wpAnyH_take (i := 12) (oi := { dst := some 95, op := _, type := _, pos := _, after := _, guard := _ }) (v := ?_) rfl (by kernel_rfl) (by kernel_rfl) (by kernel_rfl) (fun _ _ _ h => h) (Or.inl ⟨by rfl, ?_⟩) (hH2) ?_
              rotate_left
              · (intro wx hSw; obtain ⟨⟨_, q1, q2, _, _⟩, ⟨_, q3, q4, _, _⟩, ⟨_, q5, q6, _, _⟩, ⟨_, q7, q8, _, _⟩⟩ := hSw; go_simp <;> with_reducible rfl)
              simp only [Act.put, List.setIfInBounds_toArray, List.set_cons_zero, List.set_cons_succ]
              refine wpAnyH_ready (rs := [11]) (by kernel_rfl) (by simp) ?_
              refine AllReadyH.cons (o := { dst := some 94, op := _, type := _, pos := _, after := _, guard := _ }) rfl (fun K hK => ?_) AllReadyH.nil
              go_simp
              refine (KJ.out _).mono ?_
              rintro e w_c94_3 ⟨rfl, hb_c94_3⟩
              dsimp only
              refine hK.out _ _ (Four.below hH2 hb_c94_3) (fun hH3 => ?_)
              clear hK K
              refine wpAnyH_take (i := 13) (oi := { dst := some 96, op := _, type := _, pos := _, after := _, guard := _ }) (v := ?_) rfl (by kernel_rfl) (by kernel_rfl) (by kernel_rfl) (fun _ _ _ h => h) (Or.inl ⟨by rfl, ?_⟩) (hH3) ?_
              rotate_left
              · (intro wx hSw; obtain ⟨⟨_, q1, q2, _, _⟩, ⟨_, q3, q4, _, _⟩, ⟨_, q5, q6, _, _⟩, ⟨_, q7, q8, _, _⟩⟩ := hSw; go_simp <;> with_reducible rfl)
              simp only [Act.put, List.setIfInBounds_toArray, List.set_cons_zero, List.set_cons_succ]
              refine wpAnyH_take (i := 14) (oi := { dst := some 97, op := _, type := _, pos := _, after := _, guard := _ }) (v := ?_) rfl (by kernel_rfl) (by kernel_rfl) (by kernel_rfl) (fun _ _ _ h => h) (Or.inl ⟨by rfl, ?_⟩) (hH3) ?_
              rotate_left
              · (intro wx hSw; obtain ⟨⟨_, q1, q2, _, _⟩, ⟨_, q3, q4, _, _⟩, ⟨_, q5, q6, _, _⟩, ⟨_, q7, q8, _, _⟩⟩ := hSw; go_simp <;> with_reducible rfl)
              simp only [Act.put, List.setIfInBounds_toArray, List.set_cons_zero, List.set_cons_succ]
              refine wpAnyH_take (i := 15) (oi := { dst := some 98, op := _, type := _, pos := _, after := _, guard := _ }) (v := ?_) rfl (by kernel_rfl) (by kernel_rfl) (by kernel_rfl) (fun _ _ _ h => h) (Or.inl ⟨by rfl, ?_⟩) (hH3) ?_
              rotate_left
              · (intro wx hSw; obtain ⟨⟨_, q1, q2, _, _⟩, ⟨_, q3, q4, _, _⟩, ⟨_, q5, q6, _, _⟩, ⟨_, q7, q8, _, _⟩⟩ := hSw; go_simp <;> with_reducible rfl)
              simp only [Act.put, List.setIfInBounds_toArray, List.set_cons_zero, List.set_cons_succ]
              refine wpAnyH_take (i := 16) (oi := { dst := some 99, op := _, type := _, pos := _, after := _, guard := _ }) (v := ?_) rfl (by kernel_rfl) (by kernel_rfl) (by kernel_rfl) (fun _ _ _ h => h) (Or.inl ⟨by rfl, ?_⟩) (hH3) ?_
              rotate_left
              · (intro wx hSw; obtain ⟨⟨_, q1, q2, _, _⟩, ⟨_, q3, q4, _, _⟩, ⟨_, q5, q6, _, _⟩, ⟨_, q7, q8, _, _⟩⟩ := hSw; go_simp <;> with_reducible rfl)
              simp only [Act.put, List.setIfInBounds_toArray, List.set_cons_zero, List.set_cons_succ]
              refine wpAnyH_take (i := 17) (oi := { dst := some 100, op := _, type := _, pos := _, after := _, guard := _ }) (v := ?_) rfl (by kernel_rfl) (by kernel_rfl) (by kernel_rfl) (fun _ _ _ h => h) (Or.inl ⟨by rfl, ?_⟩) (hH3) ?_
              rotate_left
              · (intro wx hSw; obtain ⟨⟨_, q1, q2, _, _⟩, ⟨_, q3, q4, _, _⟩, ⟨_, q5, q6, _, _⟩, ⟨_, q7, q8, _, _⟩⟩ := hSw; go_simp <;> with_reducible rfl)
              simp only [Act.put, List.setIfInBounds_toArray, List.set_cons_zero, List.set_cons_succ]
              refine wpAnyH_take (i := 18) (oi := { dst := some 101, op := _, type := _, pos := _, after := _, guard := _ }) (v := ?_) rfl (by kernel_rfl) (by kernel_rfl) (by kernel_rfl) (fun _ _ _ h => h) (Or.inl ⟨by rfl, ?_⟩) (hH3) ?_
              rotate_left
              · (intro wx hSw; obtain ⟨⟨_, q1, q2, _, _⟩, ⟨_, q3, q4, _, _⟩, ⟨_, q5, q6, _, _⟩, ⟨_, q7, q8, _, _⟩⟩ := hSw; go_simp <;> with_reducible rfl)
              simp only [Act.put, List.setIfInBounds_toArray, List.set_cons_zero, List.set_cons_succ]
              refine wpAnyH_take (i := 19) (oi := { dst := some 102, op := _, type := _, pos := _, after := _, guard := _ }) (v := _) rfl (by kernel_rfl) (by kernel_rfl) (by kernel_rfl) (fun _ _ _ h => h) (Or.inr ⟨by rfl, rfl⟩) (hH3) ?_
              simp only [Act.put, List.setIfInBounds_toArray, List.set_cons_zero, List.set_cons_succ]
              refine wpAnyH_take (i := 20) (oi := { dst := some 103, op := _, type := _, pos := _, after := _, guard := _ }) (v := _) rfl (by kernel_rfl) (by kernel_rfl) (by kernel_rfl) (fun _ _ _ h => h) (Or.inr ⟨by rfl, rfl⟩) (hH3) ?_
              simp only [Act.put, List.setIfInBounds_toArray, List.set_cons_zero, List.set_cons_succ]
              refine wpAnyH_take (i := 21) (oi := { dst := some 104, op := _, type := _, pos := _, after := _, guard := _ }) (v := _) rfl (by kernel_rfl) (by kernel_rfl) (by kernel_rfl) (fun _ _ _ h => h) (Or.inr ⟨by rfl, rfl⟩) (hH3) ?_
              simp only [Act.put, List.setIfInBounds_toArray, List.set_cons_zero, List.set_cons_succ]
              refine wpAnyH_take (i := 22) (oi := { dst := some 105, op := _, type := _, pos := _, after := _, guard := _ }) (v := ?_) rfl (by kernel_rfl) (by kernel_rfl) (by kernel_rfl) (fun _ _ _ h => h) (Or.inl ⟨by rfl, ?_⟩) (hH3) ?_
              rotate_left
              · (intro wx hSw; obtain ⟨⟨_, q1, q2, _, _⟩, ⟨_, q3, q4, _, _⟩, ⟨_, q5, q6, _, _⟩, ⟨_, q7, q8, _, _⟩⟩ := hSw; go_simp <;> with_reducible rfl)
              simp only [Act.put, List.setIfInBounds_toArray, List.set_cons_zero, List.set_cons_succ]
              refine wpAnyH_take (i := 23) (oi := { dst := some 106, op := _, type := _, pos := _, after := _, guard := _ }) (v := ?_) rfl (by kernel_rfl) (by kernel_rfl) (by kernel_rfl) (fun _ _ _ h => h) (Or.inl ⟨by rfl, ?_⟩) (hH3) ?_
              rotate_left
              · (intro wx hSw; obtain ⟨⟨_, q1, q2, _, _⟩, ⟨_, q3, q4, _, _⟩, ⟨_, q5, q6, _, _⟩, ⟨_, q7, q8, _, _⟩⟩ := hSw; go_simp <;> with_reducible rfl)
              simp only [Act.put, List.setIfInBounds_toArray, List.set_cons_zero, List.set_cons_succ]
              refine wpAnyH_take (i := 24) (oi := { dst := some 4, op := _, type := _, pos := _, after := _, guard := _ }) (v := ?_) rfl (by kernel_rfl) (by kernel_rfl) (by kernel_rfl) (fun _ _ _ h => h) (Or.inl ⟨by rfl, ?_⟩) (hH3) ?_
              rotate_left
              · (intro wx hSw; obtain ⟨⟨_, q1, q2, _, _⟩, ⟨_, q3, q4, _, _⟩, ⟨_, q5, q6, _, _⟩, ⟨_, q7, q8, _, _⟩⟩ := hSw; go_simp <;> with_reducible rfl)
              simp only [Act.put, List.setIfInBounds_toArray, List.set_cons_zero, List.set_cons_succ]
              refine wpAnyH_done (by kernel_rfl) ?_ _
              go_wp2_with fail
              go_ret
              exact ⟨rfl, (by repeat' first | with_reducible exact Below.refl _ _ | with_reducible assumption | with_reducible refine below_drewN ?_ _ | with_reducible refine balloc ?_ _ | with_reducible refine Below.drew ?_ | with_reducible refine Below.setCell ?_ (by first | (simp; done) | (simp; omega) | omega) _ | with_reducible refine bstep ?_ (by assumption))⟩
            · have IJc := hide (fun w => iRangeLeq_any j1 j2 cl ch w)
              rw [LE.out HPL.out HPM.out] at IJc
              go_upto_region 9 with fail
              refine wp_region_held_drew (S := fun wx => Four wx w1.heap.size (w1.heap.size + 1) (w2.heap.size + 1) w3.heap.size al ah bl bh cl ch j1 j2) (by kernel_rfl) (F8.out.drew) (fun hH0 => ?_)
              refine wpAnyH_take (i := 0) (oi := { dst := some 83, op := _, type := _, pos := _, after := _, guard := _ }) (v := ?_) rfl (by kernel_rfl) (by kernel_rfl) (by kernel_rfl) (fun _ _ _ h => h) (Or.inl ⟨by rfl, ?_⟩) (hH0) ?_
              rotate_left
              · (intro wx hSw; obtain ⟨⟨_, q1, q2, _, _⟩, ⟨_, q3, q4, _, _⟩, ⟨_, q5, q6, _, _⟩, ⟨_, q7, q8, _, _⟩⟩ := hSw; go_simp <;> with_reducible rfl)
              simp only [Act.put, List.setIfInBounds_toArray, List.set_cons_zero, List.set_cons_succ]
              refine wpAnyH_take (i := 1) (oi := { dst := some 84, op := _, type := _, pos := _, after := _, guard := _ }) (v := ?_) rfl (by kernel_rfl) (by kernel_rfl) (by kernel_rfl) (fun _ _ _ h => h) (Or.inl ⟨by rfl, ?_⟩) (hH0) ?_
              rotate_left
              · (intro wx hSw; obtain ⟨⟨_, q1, q2, _, _⟩, ⟨_, q3, q4, _, _⟩, ⟨_, q5, q6, _, _⟩, ⟨_, q7, q8, _, _⟩⟩ := hSw; go_simp <;> with_reducible rfl)
              simp only [Act.put, List.setIfInBounds_toArray, List.set_cons_zero, List.set_cons_succ]
              refine wpAnyH_ready (rs := [2]) (by kernel_rfl) (by simp) ?_
              refine AllReadyH.cons (o := { dst := some 85, op := _, type := _, pos := _, after := _, guard := _ }) rfl (fun K hK => ?_) AllReadyH.nil
              go_simp
              refine (IJa.out _).mono ?_
              rintro e w_c85_1 ⟨rfl, hb_c85_1⟩
              dsimp only
              refine hK.out _ _ (Four.below hH0 hb_c85_1) (fun hH1 => ?_)
              clear hK K
              refine wpAnyH_take (i := 3) (oi := { dst := some 86, op := _, type := _, pos := _, after := _, guard := _ }) (v := ?_) rfl (by kernel_rfl) (by kernel_rfl) (by kernel_rfl) (fun _ _ _ h => h) (Or.inl ⟨by rfl, ?_⟩) (hH1) ?_
              rotate_left
              · (intro wx hSw; obtain ⟨⟨_, q1, q2, _, _⟩, ⟨_, q3, q4, _, _⟩, ⟨_, q5, q6, _, _⟩, ⟨_, q7, q8, _, _⟩⟩ := hSw; go_simp <;> with_reducible rfl)
              simp only [Act.put, List.setIfInBounds_toArray, List.set_cons_zero, List.set_cons_succ]
              refine wpAnyH_take (i := 4) (oi := { dst := some 87, op := _, type := _, pos := _, after := _, guard := _ }) (v := ?_) rfl (by kernel_rfl) (by kernel_rfl) (by kernel_rfl) (fun _ _ _ h => h) (Or.inl ⟨by rfl, ?_⟩) (hH1) ?_
              rotate_left
              · (intro wx hSw; obtain ⟨⟨_, q1, q2, _, _⟩, ⟨_, q3, q4, _, _⟩, ⟨_, q5, q6, _, _⟩, ⟨_, q7, q8, _, _⟩⟩ := hSw; go_simp <;> with_reducible rfl)
              simp only [Act.put, List.setIfInBounds_toArray, List.set_cons_zero, List.set_cons_succ]
              refine wpAnyH_take (i := 5) (oi := { dst := some 88, op := _, type := _, pos := _, after := _, guard := _ }) (v := ?_) rfl (by kernel_rfl) (by kernel_rfl) (by kernel_rfl) (fun _ _ _ h => h) (Or.inl ⟨by rfl, ?_⟩) (hH1) ?_
              rotate_left
              · (intro wx hSw; obtain ⟨⟨_, q1, q2, _, _⟩, ⟨_, q3, q4, _, _⟩, ⟨_, q5, q6, _, _⟩, ⟨_, q7, q8, _, _⟩⟩ := hSw; go_simp <;> with_reducible rfl)
              simp only [Act.put, List.setIfInBounds_toArray, List.set_cons_zero, List.set_cons_succ]
              refine wpAnyH_ready (rs := [6]) (by kernel_rfl) (by simp) ?_
              refine AllReadyH.cons (o := { dst := some 89, op := _, type := _, pos := _, after := _, guard := _ }) rfl (fun K hK => ?_) AllReadyH.nil
              go_simp
              refine (IJb.out _).mono ?_
              rintro e w_c89_2 ⟨rfl, hb_c89_2⟩
              dsimp only
              refine hK.out _ _ (Four.below hH1 hb_c89_2) (fun hH2 => ?_)
              clear hK K
              refine wpAnyH_take (i := 7) (oi := { dst := some 90, op := _, type := _, pos := _, after := _, guard := _ }) (v := ?_) rfl (by kernel_rfl) (by kernel_rfl) (by kernel_rfl) (fun _ _ _ h => h) (Or.inl ⟨by rfl, ?_⟩) (hH2) ?_
              rotate_left
              · (intro wx hSw; obtain ⟨⟨_, q1, q2, _, _⟩, ⟨_, q3, q4, _, _⟩, ⟨_, q5, q6, _, _⟩, ⟨_, q7, q8, _, _⟩⟩ := hSw; go_simp <;> with_reducible rfl)
              simp only [Act.put, List.setIfInBounds_toArray, List.set_cons_zero, List.set_cons_succ]
              refine wpAnyH_take (i := 8) (oi := { dst := some 91, op := _, type := _, pos := _, after := _, guard := _ }) (v := ?_) rfl (by kernel_rfl) (by kernel_rfl) (by kernel_rfl) (fun _ _ _ h => h) (Or.inl ⟨by rfl, ?_⟩) (hH2) ?_
              rotate_left
              · (intro wx hSw; obtain ⟨⟨_, q1, q2, _, _⟩, ⟨_, q3, q4, _, _⟩, ⟨_, q5, q6, _, _⟩, ⟨_, q7, q8, _, _⟩⟩ := hSw; go_simp <;> with_reducible rfl)
              simp only [Act.put, List.setIfInBounds_toArray, List.set_cons_zero, List.set_cons_succ]
              refine wpAnyH_take (i := 9) (oi := { dst := some 92, op := _, type := _, pos := _, after := _, guard := _ }) (v := ?_) rfl (by kernel_rfl) (by kernel_rfl) (by kernel_rfl) (fun _ _ _ h => h) (Or.inl ⟨by rfl, ?_⟩) (hH2) ?_
              rotate_left
              · (intro wx hSw; obtain ⟨⟨_, q1, q2, _, _⟩, ⟨_, q3, q4, _, _⟩, ⟨_, q5, q6, _, _⟩, ⟨_, q7, q8, _, _⟩⟩ := hSw; go_simp <;> with_reducible rfl)
              simp only [Act.put, List.setIfInBounds_toArray, List.set_cons_zero, List.set_cons_succ]
              refine wpAnyH_take (i := 10) (oi := { dst := some 93, op := _, type := _, pos := _, after := _, guard := _ }) (v := ?_) rfl (by kernel_rfl) (by kernel_rfl) (by kernel_rfl) (fun _ _ _ h => h) (Or.inl ⟨by rfl, ?_⟩) (hH2) ?_
              rotate_left
              · (intro wx hSw; obtain ⟨⟨_, q1, q2, _, _⟩, ⟨_, q3, q4, _, _⟩, ⟨_, q5, q6, _, _⟩, ⟨_, q7, q8, _, _⟩⟩ := hSw; go_simp <;> with_reducible rfl)
              simp only [Act.put, List.setIfInBounds_toArray, List.set_cons_zero, List.set_cons_succ]
              refine wpAnyH_take (i := 12) (oi := { dst := some 95, op := _, type := _, pos := _, after := _, guard := _ }) (v := ?_) rfl (by kernel_rfl) (by kernel_rfl) (by kernel_rfl) (fun _ _ _ h => h) (Or.inl ⟨by rfl, ?_⟩) (hH2) ?_
              rotate_left
              · (intro wx hSw; obtain ⟨⟨_, q1, q2, _, _⟩, ⟨_, q3, q4, _, _⟩, ⟨_, q5, q6, _, _⟩, ⟨_, q7, q8, _, _⟩⟩ := hSw; go_simp <;> with_reducible rfl)
              simp only [Act.put, List.setIfInBounds_toArray, List.set_cons_zero, List.set_cons_succ]
              refine wpAnyH_ready (rs := [11]) (by kernel_rfl) (by simp) ?_
              refine AllReadyH.cons (o := { dst := some 94, op := _, type := _, pos := _, after := _, guard := _ }) rfl (fun K hK => ?_) AllReadyH.nil
              go_simp
              refine (KJ.out _).mono ?_
              rintro e w_c94_3 ⟨rfl, hb_c94_3⟩
              dsimp only
              refine hK.out _ _ (Four.below hH2 hb_c94_3) (fun hH3 => ?_)
              clear hK K
              refine wpAnyH_take (i := 13) (oi := { dst := some 96, op := _, type := _, pos := _, after := _, guard := _ }) (v := ?_) rfl (by kernel_rfl) (by kernel_rfl) (by kernel_rfl) (fun _ _ _ h => h) (Or.inl ⟨by rfl, ?_⟩) (hH3) ?_
              rotate_left
              · (intro wx hSw; obtain ⟨⟨_, q1, q2, _, _⟩, ⟨_, q3, q4, _, _⟩, ⟨_, q5, q6, _, _⟩, ⟨_, q7, q8, _, _⟩⟩ := hSw; go_simp <;> with_reducible rfl)
              simp only [Act.put, List.setIfInBounds_toArray, List.set_cons_zero, List.set_cons_succ]
              refine wpAnyH_take (i := 14) (oi := { dst := some 97, op := _, type := _, pos := _, after := _, guard := _ }) (v := ?_) rfl (by kernel_rfl) (by kernel_rfl) (by kernel_rfl) (fun _ _ _ h => h) (Or.inl ⟨by rfl, ?_⟩) (hH3) ?_
              rotate_left
              · (intro wx hSw; obtain ⟨⟨_, q1, q2, _, _⟩, ⟨_, q3, q4, _, _⟩, ⟨_, q5, q6, _, _⟩, ⟨_, q7, q8, _, _⟩⟩ := hSw; go_simp <;> with_reducible rfl)
              simp only [Act.put, List.setIfInBounds_toArray, List.set_cons_zero, List.set_cons_succ]
              refine wpAnyH_take (i := 15) (oi := { dst := some 98, op := _, type := _, pos := _, after := _, guard := _ }) (v := ?_) rfl (by kernel_rfl) (by kernel_rfl) (by kernel_rfl) (fun _ _ _ h => h) (Or.inl ⟨by rfl, ?_⟩) (hH3) ?_
              rotate_left
              · (intro wx hSw; obtain ⟨⟨_, q1, q2, _, _⟩, ⟨_, q3, q4, _, _⟩, ⟨_, q5, q6, _, _⟩, ⟨_, q7, q8, _, _⟩⟩ := hSw; go_simp <;> with_reducible rfl)
              simp only [Act.put, List.setIfInBounds_toArray, List.set_cons_zero, List.set_cons_succ]
              refine wpAnyH_take (i := 16) (oi := { dst := some 99, op := _, type := _, pos := _, after := _, guard := _ }) (v := ?_) rfl (by kernel_rfl) (by kernel_rfl) (by kernel_rfl) (fun _ _ _ h => h) (Or.inl ⟨by rfl, ?_⟩) (hH3) ?_
              rotate_left
              · (intro wx hSw; obtain ⟨⟨_, q1, q2, _, _⟩, ⟨_, q3, q4, _, _⟩, ⟨_, q5, q6, _, _⟩, ⟨_, q7, q8, _, _⟩⟩ := hSw; go_simp <;> with_reducible rfl)
              simp only [Act.put, List.setIfInBounds_toArray, List.set_cons_zero, List.set_cons_succ]
              refine wpAnyH_take (i := 17) (oi := { dst := some 100, op := _, type := _, pos := _, after := _, guard := _ }) (v := ?_) rfl (by kernel_rfl) (by kernel_rfl) (by kernel_rfl) (fun _ _ _ h => h) (Or.inl ⟨by rfl, ?_⟩) (hH3) ?_
              rotate_left
              · (intro wx hSw; obtain ⟨⟨_, q1, q2, _, _⟩, ⟨_, q3, q4, _, _⟩, ⟨_, q5, q6, _, _⟩, ⟨_, q7, q8, _, _⟩⟩ := hSw; go_simp <;> with_reducible rfl)
              simp only [Act.put, List.setIfInBounds_toArray, List.set_cons_zero, List.set_cons_succ]
              refine wpAnyH_take (i := 18) (oi := { dst := some 101, op := _, type := _, pos := _, after := _, guard := _ }) (v := ?_) rfl (by kernel_rfl) (by kernel_rfl) (by kernel_rfl) (fun _ _ _ h => h) (Or.inl ⟨by rfl, ?_⟩) (hH3) ?_
              rotate_left
              · (intro wx hSw; obtain ⟨⟨_, q1, q2, _, _⟩, ⟨_, q3, q4, _, _⟩, ⟨_, q5, q6, _, _⟩, ⟨_, q7, q8, _, _⟩⟩ := hSw; go_simp <;> with_reducible rfl)
              simp only [Act.put, List.setIfInBounds_toArray, List.set_cons_zero, List.set_cons_succ]
              refine wpAnyH_take (i := 19) (oi := { dst := some 102, op := _, type := _, pos := _, after := _, guard := _ }) (v := ?_) rfl (by kernel_rfl) (by kernel_rfl) (by kernel_rfl) (fun _ _ _ h => h) (Or.inl ⟨by rfl, ?_⟩) (hH3) ?_
              rotate_left
              · (intro wx hSw; obtain ⟨⟨_, q1, q2, _, _⟩, ⟨_, q3, q4, _, _⟩, ⟨_, q5, q6, _, _⟩, ⟨_, q7, q8, _, _⟩⟩ := hSw; go_simp <;> with_reducible rfl)
              simp only [Act.put, List.setIfInBounds_toArray, List.set_cons_zero, List.set_cons_succ]
              refine wpAnyH_take (i := 20) (oi := { dst := some 103, op := _, type := _, pos := _, after := _, guard := _ }) (v := ?_) rfl (by kernel_rfl) (by kernel_rfl) (by kernel_rfl) (fun _ _ _ h => h) (Or.inl ⟨by rfl, ?_⟩) (hH3) ?_
              rotate_left
              · (intro wx hSw; obtain ⟨⟨_, q1, q2, _, _⟩, ⟨_, q3, q4, _, _⟩, ⟨_, q5, q6, _, _⟩, ⟨_, q7, q8, _, _⟩⟩ := hSw; go_simp <;> with_reducible rfl)
              simp only [Act.put, List.setIfInBounds_toArray, List.set_cons_zero, List.set_cons_succ]
              refine wpAnyH_ready (rs := [21]) (by kernel_rfl) (by simp) ?_
              refine AllReadyH.cons (o := { dst := some 104, op := _, type := _, pos := _, after := _, guard := _ }) rfl (fun K hK => ?_) AllReadyH.nil
              go_simp
              refine (IJc.out _).mono ?_
              rintro e w_c104_4 ⟨rfl, hb_c104_4⟩
              dsimp only
              refine hK.out _ _ (Four.below hH3 hb_c104_4) (fun hH4 => ?_)
              clear hK K
              refine wpAnyH_take (i := 22) (oi := { dst := some 105, op := _, type := _, pos := _, after := _, guard := _ }) (v := ?_) rfl (by kernel_rfl) (by kernel_rfl) (by kernel_rfl) (fun _ _ _ h => h) (Or.inl ⟨by rfl, ?_⟩) (hH4) ?_
              rotate_left
              · (intro wx hSw; obtain ⟨⟨_, q1, q2, _, _⟩, ⟨_, q3, q4, _, _⟩, ⟨_, q5, q6, _, _⟩, ⟨_, q7, q8, _, _⟩⟩ := hSw; go_simp <;> with_reducible rfl)
              simp only [Act.put, List.setIfInBounds_toArray, List.set_cons_zero, List.set_cons_succ]
              refine wpAnyH_take (i := 23) (oi := { dst := some 106, op := _, type := _, pos := _, after := _, guard := _ }) (v := ?_) rfl (by kernel_rfl) (by kernel_rfl) (by kernel_rfl) (fun _ _ _ h => h) (Or.inl ⟨by rfl, ?_⟩) (hH4) ?_
              rotate_left
              · (intro wx hSw; obtain ⟨⟨_, q1, q2, _, _⟩, ⟨_, q3, q4, _, _⟩, ⟨_, q5, q6, _, _⟩, ⟨_, q7, q8, _, _⟩⟩ := hSw; go_simp <;> with_reducible rfl)
              simp only [Act.put, List.setIfInBounds_toArray, List.set_cons_zero, List.set_cons_succ]
              refine wpAnyH_take (i := 24) (oi := { dst := some 4, op := _, type := _, pos := _, after := _, guard := _ }) (v := ?_) rfl (by kernel_rfl) (by kernel_rfl) (by kernel_rfl) (fun _ _ _ h => h) (Or.inl ⟨by rfl, ?_⟩) (hH4) ?_
              rotate_left
              · (intro wx hSw; obtain ⟨⟨_, q1, q2, _, _⟩, ⟨_, q3, q4, _, _⟩, ⟨_, q5, q6, _, _⟩, ⟨_, q7, q8, _, _⟩⟩ := hSw; go_simp <;> with_reducible rfl)
              simp only [Act.put, List.setIfInBounds_toArray, List.set_cons_zero, List.set_cons_succ]
              refine wpAnyH_done (by kernel_rfl) ?_ _
              go_wp2_with fail
              go_ret
              exact ⟨rfl, (by repeat' first | with_reducible exact Below.refl _ _ | with_reducible assumption | with_reducible refine below_drewN ?_ _ | with_reducible refine balloc ?_ _ | with_reducible refine Below.drew ?_ | with_reducible refine Below.setCell ?_ (by first | (simp; done) | (simp; omega) | omega) _ | with_reducible refine bstep ?_ (by assumption))⟩
    · rw [decide_eq_true (show 1048576 < n' by omega)] at BG'
      go_enter Try.func3, Try.ntmps3
      go_wp2_with fail
      refine BG.out.mono ?_
      rintro e w' ⟨rfl, hw⟩
      obtain rfl := hw.symm
      clear BG hw
      go_wp2_with fail
      refine BG'.out.mono ?_
      rintro e w' ⟨rfl, hw⟩
      obtain rfl := hw.symm
      clear BG' hw
      go_wp2
      go_ret
      exact ⟨rfl, (by repeat' first | with_reducible exact Below.refl _ _ | with_reducible assumption | with_reducible refine below_drewN ?_ _ | with_reducible refine balloc ?_ _ | with_reducible refine Below.drew ?_ | with_reducible refine Below.setCell ?_ (by first | (simp; done) | (simp; omega) | omega) _ | with_reducible refine bstep ?_ (by assumption))⟩
  · rw [decide_eq_true (show 1048576 < n by omega)] at BG
    go_enter Try.func3, Try.ntmps3
    go_wp2_with fail
    refine BG.out.mono ?_
    rintro e w' ⟨rfl, rfl⟩
    go_wp2
    go_ret
    exact ⟨rfl, (by repeat' first | with_reducible exact Below.refl _ _ | with_reducible assumption | with_reducible refine below_drewN ?_ _ | with_reducible refine balloc ?_ _ | with_reducible refine Below.drew ?_ | with_reducible refine Below.setCell ?_ (by first | (simp; done) | (simp; omega) | omega) _ | with_reducible refine bstep ?_ (by assumption))⟩
end Go.Proofs.Ytnfonhebafhffaa
