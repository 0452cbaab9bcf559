/- HitText of the model; toHit of the laws; the walk of the law FnExactHitText. -/
import Derived.Test.YtfjhgagpmhedfaaDoorSG1
import Derived.Test.YtfjhgagpmhedfaaDoorWN
namespace Go.Proofs.YtfjhgagpmhedfaaDoor
open Go.RowKit
set_option maxRecDepth 8000
set_option linter.unusedSimpArgs false
set_option linter.unusedVariables false

set_option maxHeartbeats 4000000 in
set_option maxRecDepth 4000 in
theorem sHitText_any (id lo hi : Int) (w : World) :
    Calls Tryd.prog 15 #[.agg #[.int .i64 id, .int .i64 lo, .int .i64 hi]] w fun e w' => e = .returned (.string (bs (hitTB id lo hi))) ∧ Below w.heap.size w w' := by
  have IO := hide (l6Id_any id)
  have IN := hide (fun w => l1In_any lo 0 hi w)
  unfold hitTB
  cases hB : hitB id lo hi
  · rw [if_neg (by decide)]
    cases h1 : inB id 1 9999
    · rw [h1] at IO
      go_enter Tryd.func15, Tryd.ntmps15
      go_wp2_with fail
      refine (IO.out _).mono ?_
      rintro e w1 ⟨rfl, hw⟩
      have hw' := hw.symm
      subst hw'
      clear hw
      go_wp2_with fail
      go_ret
      exact ⟨rfl, (by repeat' first | with_reducible exact Below.refl _ _ | with_reducible assumption | with_reducible refine below_drewN ?_ _ | with_reducible refine balloc ?_ _ | with_reducible refine Below.drew ?_ | with_reducible refine Below.setCell ?_ (by first | (simp; done) | (simp; omega) | omega) _ | with_reducible refine bstep ?_ (by assumption))⟩
    · rw [h1] at IO
      have hD : inB lo 0 hi = false ∨ (inB lo 0 hi = true ∧ 1125899906842624 < hi) := by
        unfold hitB at hB
        rw [h1] at hB
        simp only [Bool.true_and, Bool.and_eq_false_iff, decide_eq_false_iff_not] at hB
        unfold inB
        simp only [decide_eq_false_iff_not, decide_eq_true_eq]
        omega
      clear hB h1
      rcases hD with g1 | ⟨g1, g2⟩
      all_goals
        rw [g1] at IN
        clear g1
        go_enter Tryd.func15, Tryd.ntmps15
        go_wp2_with fail
        refine (IO.out _).mono ?_
        rintro e w1 ⟨rfl, hw⟩
        have hw' := hw.symm
        subst hw'
        clear hw
        go_wp2_with fail
        refine (IN.out _).mono ?_
        rintro e w1 ⟨rfl, hw⟩
        have hw' := hw.symm
        subst hw'
        clear hw
        go_wp2_with fail
        go_ret
        exact ⟨rfl, (by repeat' first | with_reducible exact Below.refl _ _ | with_reducible assumption | with_reducible refine below_drewN ?_ _ | with_reducible refine balloc ?_ _ | with_reducible refine Below.drew ?_ | with_reducible refine Below.setCell ?_ (by first | (simp; done) | (simp; omega) | omega) _ | with_reducible refine bstep ?_ (by assumption))⟩
  · rw [if_pos rfl]
    obtain ⟨h1, a1, a2, a3, a4, a5⟩ := hit_parts hB
    rw [h1] at IO
    have gi : inB lo 0 hi = true := decide_eq_true (by omega)
    rw [gi] at IN
    clear gi
    have g3 : ¬ 1125899906842624 < hi := by omega
    have N0 := hide (fun x h0 h1 w1 (q : HQ w w1 w.heap.size id lo hi) => l1Dec_bs x w1 h0 h1)
    have N1 := hide (N0.out id (by omega) (by omega))
    have N2 := hide (N0.out lo (by omega) (by omega))
    have N3 := hide (N0.out hi (by omega) (by omega))
    have s1 := itoa_len21 (x := id) (by omega) (by omega)
    have s2 := itoa_len21 (x := lo) (by omega) (by omega)
    have s3 := itoa_len21 (x := hi) (by omega) (by omega)
    have E1 := hide (bs_list (Lib.itoa id))
    have E2 := hide (bs_list (Lib.itoa lo))
    have E3 := hide (bs_list (Lib.itoa hi))
    obtain ⟨A, hA⟩ : ∃ A, bs (Lib.itoa id) = A := ⟨_, rfl⟩
    obtain ⟨B, hBB⟩ : ∃ A, bs (Lib.itoa lo) = A := ⟨_, rfl⟩
    obtain ⟨C, hC⟩ : ∃ A, bs (Lib.itoa hi) = A := ⟨_, rfl⟩
    rw [hA] at N1 s1 E1
    rw [hBB] at N2 s2 E2
    rw [hC] at N3 s3 E3
    have q1 : ¬ 9223372036854775807 < A.size + 1 := by omega
    have q2 : ¬ 9223372036854775807 < A.size + 1 + B.size := by omega
    have Q0 := hide (⟨Box3.new w id lo hi 38, balloc (Below.refl _ _) _⟩ : HQ w (w.alloc (.cells #[.int .i64 id, .int .i64 lo, .int .i64 hi] 38)) w.heap.size id lo hi)
    clear hB h1 N0 hA hBB hC a4 a5
    go_enter Tryd.func15, Tryd.ntmps15
    go_wp2_with fail
    refine (IO.out _).mono ?_
    rintro e w1 ⟨rfl, hw⟩
    have hw' := hw.symm
    subst hw'
    clear hw
    go_wp2_with fail
    refine (IN.out _).mono ?_
    rintro e w1 ⟨rfl, hw⟩
    have hw' := hw.symm
    subst hw'
    clear hw
    go_wp2_with fail
    refine wp_region_held_drew (S := fun wx => HQ w wx w.heap.size id lo hi) (by kernel_rfl) (Q0.out.drew) (fun hH0 => ?_)
    refine wpAnyH_take (i := 0) (oi := { dst := some 21, op := _, type := _, pos := _, after := _, guard := _ }) (v := ?_) rfl (by kernel_rfl) (by kernel_rfl) (by kernel_rfl) (fun _ _ _ h => h) (Or.inl ⟨by rfl, ?_⟩) (hH0) ?_
    rotate_left
    · (intro wx hSw; obtain ⟨⟨_, y0, y1, y2⟩, _⟩ := hSw; go_simp <;> with_reducible rfl)
    simp only [Act.put, List.setIfInBounds_toArray, List.set_cons_zero, List.set_cons_succ]
    refine wpAnyH_take (i := 1) (oi := { dst := some 22, op := _, type := _, pos := _, after := _, guard := _ }) (v := ?_) rfl (by kernel_rfl) (by kernel_rfl) (by kernel_rfl) (fun _ _ _ h => h) (Or.inl ⟨by rfl, ?_⟩) (hH0) ?_
    rotate_left
    · (intro wx hSw; obtain ⟨⟨_, y0, y1, y2⟩, _⟩ := hSw; go_simp <;> with_reducible rfl)
    simp only [Act.put, List.setIfInBounds_toArray, List.set_cons_zero, List.set_cons_succ]
    refine wpAnyH_take (i := 4) (oi := { dst := some 25, op := _, type := _, pos := _, after := _, guard := _ }) (v := ?_) rfl (by kernel_rfl) (by kernel_rfl) (by kernel_rfl) (fun _ _ _ h => h) (Or.inl ⟨by rfl, ?_⟩) (hH0) ?_
    rotate_left
    · (intro wx hSw; obtain ⟨⟨_, y0, y1, y2⟩, _⟩ := hSw; go_simp <;> with_reducible rfl)
    simp only [Act.put, List.setIfInBounds_toArray, List.set_cons_zero, List.set_cons_succ]
    refine wpAnyH_take (i := 5) (oi := { dst := some 26, op := _, type := _, pos := _, after := _, guard := _ }) (v := ?_) rfl (by kernel_rfl) (by kernel_rfl) (by kernel_rfl) (fun _ _ _ h => h) (Or.inl ⟨by rfl, ?_⟩) (hH0) ?_
    rotate_left
    · (intro wx hSw; obtain ⟨⟨_, y0, y1, y2⟩, _⟩ := hSw; go_simp <;> with_reducible rfl)
    simp only [Act.put, List.setIfInBounds_toArray, List.set_cons_zero, List.set_cons_succ]
    refine wpAnyH_ready (rs := [2]) (by kernel_rfl) (by simp) ?_
    refine AllReadyH.cons (o := { dst := some 23, op := _, type := _, pos := _, after := _, guard := _ }) rfl (fun K hK => ?_) AllReadyH.nil
    go_simp
    refine (N1.out _ hH0).mono ?_
    rintro e w_c23_1 ⟨rfl, hb_c23_1⟩
    dsimp only
    refine hK.out _ _ (HQ.below hH0 hb_c23_1) (fun hH1 => ?_)
    clear hK K
    refine wpAnyH_take (i := 3) (oi := { dst := some 24, op := _, type := _, pos := _, after := _, guard := _ }) (v := ?_) rfl (by kernel_rfl) (by kernel_rfl) (by kernel_rfl) (fun _ _ _ h => h) (Or.inl ⟨by rfl, ?_⟩) (hH1) ?_
    rotate_left
    · (intro wx hSw; obtain ⟨⟨_, y0, y1, y2⟩, _⟩ := hSw; go_simp <;> with_reducible rfl)
    simp only [Act.put, List.setIfInBounds_toArray, List.set_cons_zero, List.set_cons_succ]
    refine wpAnyH_ready (rs := [6]) (by kernel_rfl) (by simp) ?_
    refine AllReadyH.cons (o := { dst := some 27, op := _, type := _, pos := _, after := _, guard := _ }) rfl (fun K hK => ?_) AllReadyH.nil
    go_simp
    refine (N2.out _ hH1).mono ?_
    rintro e w_c27_2 ⟨rfl, hb_c27_2⟩
    dsimp only
    refine hK.out _ _ (HQ.below hH1 hb_c27_2) (fun hH2 => ?_)
    clear hK K
    refine wpAnyH_take (i := 7) (oi := { dst := some 28, op := _, type := _, pos := _, after := _, guard := _ }) (v := ?_) rfl (by kernel_rfl) (by kernel_rfl) (by kernel_rfl) (fun _ _ _ h => h) (Or.inl ⟨by rfl, ?_⟩) (hH2) ?_
    rotate_left
    · (intro wx hSw; obtain ⟨⟨_, y0, y1, y2⟩, _⟩ := hSw; go_simp <;> with_reducible rfl)
    simp only [Act.put, List.setIfInBounds_toArray, List.set_cons_zero, List.set_cons_succ]
    refine wpAnyH_take (i := 8) (oi := { dst := some 3, op := _, type := _, pos := _, after := _, guard := _ }) (v := ?_) rfl (by kernel_rfl) (by kernel_rfl) (by kernel_rfl) (fun _ _ _ h => h) (Or.inl ⟨by rfl, ?_⟩) (hH2) ?_
    rotate_left
    · (intro wx hSw; obtain ⟨⟨_, y0, y1, y2⟩, _⟩ := hSw; go_simp <;> with_reducible rfl)
    simp only [Act.put, List.setIfInBounds_toArray, List.set_cons_zero, List.set_cons_succ]
    refine wpAnyH_done (by kernel_rfl) ?_ _
    -- behind it: go_wp2_with fail, then go_meet (a cut) or go_ret; the condition at the end: hH2
    have Q1 := hide hH2
    clear N1 N2 Q0
    obtain ⟨⟨_, y0, y1, y2⟩, _⟩ := Q1.out
    by_cases he : lo = hi
    · go_wp2_with fail
      go_ret
      refine ⟨ret_str ?_, Q1.out.bel⟩
      unfold hitT
      rw [if_pos he, List.append_nil]
      exact bytes_eqH (by rw [bs_list, str_app, str_app, E1.out, E2.out])
    · go_wp2_with fail
      refine (N3.out _ Q1.out).mono ?_
      rintro e w3 ⟨rfl, hb3⟩
      have B3 := hide (bstep Q1.out.bel hb3)
      clear y0 y1 y2 hb3
      go_wp2_with fail
      go_ret
      refine ⟨ret_str ?_, B3.out⟩
      unfold hitT
      rw [if_neg he]
      exact bytes_eqH (by rw [bs_list, str_app, str_app, str_app, str_app, E1.out, E2.out, E3.out]; simp)

set_option maxHeartbeats 1000000 in
theorem toHit_any (x y z : Int) (w : World) :
    Calls Tryd.prog 30 #[.agg #[.int .i64 x, .int .i64 y, .int .i64 z]] w fun e w' => e = .returned (.agg #[.int .i64 x, .int .i64 y, .int .i64 z]) ∧ Below w.heap.size w w' := by
  go_enter Tryd.func30, Tryd.ntmps30
  go_wp2_with fail
  refine bodyPost_ret (v := .agg #[.int .i64 x, .int .i64 y, .int .i64 z]) (by simp [results, Tryd.results30, go_sem]) rfl ⟨rfl, (by repeat' first | with_reducible exact Below.refl _ _ | with_reducible assumption | with_reducible refine below_drewN ?_ _ | with_reducible refine balloc ?_ _ | with_reducible refine Below.drew ?_ | with_reducible refine Below.setCell ?_ (by first | (simp; done) | (simp; omega) | omega) _ | with_reducible refine bstep ?_ (by assumption))⟩

end Go.Proofs.YtfjhgagpmhedfaaDoor