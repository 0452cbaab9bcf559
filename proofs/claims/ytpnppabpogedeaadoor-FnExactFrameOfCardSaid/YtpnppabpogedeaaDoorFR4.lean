/- FrameOf of the model, and the walk of the law. -/
import Derived.Test.YtpnppabpogedeaaDoorFR3
import Derived.BigRegion
import Derived.Deep.RegionHeld3
namespace Go.Proofs.YtpnppabpogedeaaDoor
open Go.RowKit
set_option maxRecDepth 8000
set_option linter.unusedSimpArgs false
set_option linter.unusedVariables false

theorem conv4_at (w w' : World) (b : Nat) (a0 a1 a2 a3 : Int) (l : List UInt8) (x0 x1 x2 x3 : UInt8) (hl : l = [x0, x1, x2, x3]) (h0 : (x0.toNat : Int) = a0) (h1 : (x1.toNat : Int) = a1) (h2 : (x2.toNat : Int) = a2) (h3 : (x3.toNat : Int) = a3)
    (c0 : w.cell? ⟨b, 0, none⟩ = some (.int .u8 a0)) (c1 : w.cell? ⟨b, 1, none⟩ = some (.int .u8 a1)) (c2 : w.cell? ⟨b, 2, none⟩ = some (.int .u8 a2)) (c3 : w.cell? ⟨b, 3, none⟩ = some (.int .u8 a3)) :
    (convert 25 9 (.slice (some ⟨b, 0, none⟩) 4 4)).run Tryd.prog w = .ok (.string (bs l)) w := by
  subst hl
  have h := run_convert_bytes_back (P := Tryd.prog) w 25 9 5 ⟨b, 0, none⟩ 4 [x0, x1, x2, x3] Tryd.underlying25 Tryd.underlying5 Tryd.underlying9 (fun j hj => by
    rw [at_add]
    rcases (show j = 0 ∨ j = 1 ∨ j = 2 ∨ j = 3 from by simp at hj; omega) with rfl | rfl | rfl | rfl <;> simp [h0, h1, h2, h3, c0, c1, c2, c3])
  exact h

theorem be4_at (w w' : World) (n : Nat) (hn : n ≤ 100000) (hb : Below (w.alloc (.cells #[.int .u8 (IntKind.u8.wrap ((n : Int) / 16777216)), .int .u8 (IntKind.u8.wrap ((n : Int) / 65536)), .int .u8 (IntKind.u8.wrap ((n : Int) / 256)), .int .u8 (IntKind.u8.wrap (n : Int))] 5)).heap.size (w.alloc (.cells #[.int .u8 (IntKind.u8.wrap ((n : Int) / 16777216)), .int .u8 (IntKind.u8.wrap ((n : Int) / 65536)), .int .u8 (IntKind.u8.wrap ((n : Int) / 256)), .int .u8 (IntKind.u8.wrap (n : Int))] 5)) w') :
    (convert 25 9 (.slice (some ⟨w.heap.size, 0, none⟩) 4 4)).run Tryd.prog w' = .ok (.string (bs (be4 n))) w' := by
  have q : ∀ j v, (w.alloc (.cells #[.int .u8 (IntKind.u8.wrap ((n : Int) / 16777216)), .int .u8 (IntKind.u8.wrap ((n : Int) / 65536)), .int .u8 (IntKind.u8.wrap ((n : Int) / 256)), .int .u8 (IntKind.u8.wrap (n : Int))] 5)).cell? ⟨w.heap.size, j, none⟩ = some v → w'.cell? ⟨w.heap.size, j, none⟩ = some v := fun j v h => (hb.cell (p := ⟨w.heap.size, j, none⟩) (by simp)).trans h
  exact conv4_at w' w' w.heap.size (IntKind.u8.wrap ((n : Int) / 16777216)) (IntKind.u8.wrap ((n : Int) / 65536)) (IntKind.u8.wrap ((n : Int) / 256)) (IntKind.u8.wrap (n : Int)) (be4 n) (byteN (n / 16777216)) (byteN (n / 65536)) (byteN (n / 256)) (byteN n) rfl (by rw [byteN_val, IntKind.wrap_u8]; omega) (by rw [byteN_val, IntKind.wrap_u8]; omega) (by rw [byteN_val, IntKind.wrap_u8]; omega) (by rw [byteN_val, IntKind.wrap_u8]) (q 0 _ (by simp)) (q 1 _ (by simp)) (q 2 _ (by simp)) (q 3 _ (by simp))

set_option maxHeartbeats 4000000 in
set_option maxRecDepth 4000 in
theorem sFrameOf_any (s : ByteArray) (w : World) (hs : s.size ≤ 1048576) :
    Calls Tryd.prog 4 #[.string s] w fun e w' => e = .returned (.string (bs (frameT s.data.toList))) ∧ Below w.heap.size w w' := by
  have hl : s.data.toList.length = s.size := by simp
  by_cases h : s.size ≤ 100000
  · have SU := hide (fun w1 => l12Sum_any s w1 hs)
    obtain ⟨n, hn⟩ : ∃ n, s.size = n := ⟨_, rfl⟩
    rw [hn] at h hl
    have hA : (bs (be4 n)).size = 4 := by rw [bs_size]; rfl
    have hC : (bs (le4 (4294967295 ^^^ sumL s.data.toList))).size = 4 := by rw [bs_size]; rfl
    obtain ⟨A, eA⟩ : ∃ A, bs (be4 n) = A := ⟨_, rfl⟩
    obtain ⟨C, eC⟩ : ∃ C, bs (le4 (4294967295 ^^^ sumL s.data.toList)) = C := ⟨_, rfl⟩
    have HF : Hid (frameT s.data.toList = headT s.data.toList ++ s.data.toList) := hide (by unfold frameT; rw [if_pos (by omega)])
    have HX : Hid (A.data.toList ++ C.data.toList = headT s.data.toList) := hide (by rw [← eA, ← eC, bs_list, bs_list]; unfold headT sumC; rw [hl])

    have HA := hide eA
    rw [eA] at hA
    rw [eC] at hC SU
    have hno : ¬ (100000 : Int) < (n : Int) := by omega
    have o1 : ¬ 9223372036854775807 < A.size + C.size := by omega
    have o2 : ¬ 9223372036854775807 < 8 + n := by omega
    have h' := h
    clear eA eC hl
    go_enter Tryd.func4, Tryd.ntmps4
    go_wp2_with fail
    refine wp_region_held_drew (S := fun wx => True) (by kernel_rfl) (trivial) (fun hH0 => ?_)
    refine wpAnyH_take (i := 0) (oi := { dst := some 8, op := _, type := _, pos := _, after := _, guard := _ }) (v := ?_) rfl (by kernel_rfl) (by kernel_rfl) (by kernel_rfl) (fun _ _ _ h => h) (Or.inl ⟨by rfl, ?_⟩) (hH0) ?_
    rotate_left
    · (intro wx hSw; obtain _ := hSw; go_simp <;> with_reducible rfl)
    simp only [Act.put, List.setIfInBounds_toArray, List.set_cons_zero, List.set_cons_succ]
    refine wpAnyH_take (i := 1) (oi := { dst := some 9, op := _, type := _, pos := _, after := _, guard := _ }) (v := ?_) rfl (by kernel_rfl) (by kernel_rfl) (by kernel_rfl) (fun _ _ _ h => h) (Or.inl ⟨by rfl, ?_⟩) (hH0) ?_
    rotate_left
    · (intro wx hSw; obtain _ := hSw; go_simp <;> with_reducible rfl)
    simp only [Act.put, List.setIfInBounds_toArray, List.set_cons_zero, List.set_cons_succ]
    refine wpAnyH_take (i := 2) (oi := { dst := some 10, op := _, type := _, pos := _, after := _, guard := _ }) (v := ?_) rfl (by kernel_rfl) (by kernel_rfl) (by kernel_rfl) (fun _ _ _ h => h) (Or.inl ⟨by rfl, ?_⟩) (hH0) ?_
    rotate_left
    · (intro wx hSw; obtain _ := hSw; go_simp <;> with_reducible rfl)
    simp only [Act.put, List.setIfInBounds_toArray, List.set_cons_zero, List.set_cons_succ]
    refine wpAnyH_take (i := 3) (oi := { dst := some 11, op := _, type := _, pos := _, after := _, guard := _ }) (v := ?_) rfl (by kernel_rfl) (by kernel_rfl) (by kernel_rfl) (fun _ _ _ h => h) (Or.inl ⟨by rfl, ?_⟩) (hH0) ?_
    rotate_left
    · (intro wx hSw; obtain _ := hSw; go_simp <;> with_reducible rfl)
    simp only [Act.put, List.setIfInBounds_toArray, List.set_cons_zero, List.set_cons_succ]
    refine wpAnyH_take (i := 4) (oi := { dst := some 12, op := _, type := _, pos := _, after := _, guard := _ }) (v := ?_) rfl (by kernel_rfl) (by kernel_rfl) (by kernel_rfl) (fun _ _ _ h => h) (Or.inl ⟨by rfl, ?_⟩) (hH0) ?_
    rotate_left
    · (intro wx hSw; obtain _ := hSw; go_simp <;> with_reducible rfl)
    simp only [Act.put, List.setIfInBounds_toArray, List.set_cons_zero, List.set_cons_succ]
    refine wpAnyH_take (i := 5) (oi := { dst := some 13, op := _, type := _, pos := _, after := _, guard := _ }) (v := ?_) rfl (by kernel_rfl) (by kernel_rfl) (by kernel_rfl) (fun _ _ _ h => h) (Or.inl ⟨by rfl, ?_⟩) (hH0) ?_
    rotate_left
    · (intro wx hSw; obtain _ := hSw; go_simp <;> with_reducible rfl)
    simp only [Act.put, List.setIfInBounds_toArray, List.set_cons_zero, List.set_cons_succ]
    refine wpAnyH_take (i := 6) (oi := { dst := some 14, op := _, type := _, pos := _, after := _, guard := _ }) (v := ?_) rfl (by kernel_rfl) (by kernel_rfl) (by kernel_rfl) (fun _ _ _ h => h) (Or.inl ⟨by rfl, ?_⟩) (hH0) ?_
    rotate_left
    · (intro wx hSw; obtain _ := hSw; go_simp <;> with_reducible rfl)
    simp only [Act.put, List.setIfInBounds_toArray, List.set_cons_zero, List.set_cons_succ]
    refine wpAnyH_take (i := 7) (oi := { dst := some 15, op := _, type := _, pos := _, after := _, guard := _ }) (v := ?_) rfl (by kernel_rfl) (by kernel_rfl) (by kernel_rfl) (fun _ _ _ h => h) (Or.inl ⟨by rfl, ?_⟩) (hH0) ?_
    rotate_left
    · (intro wx hSw; obtain _ := hSw; go_simp <;> with_reducible rfl)
    simp only [Act.put, List.setIfInBounds_toArray, List.set_cons_zero, List.set_cons_succ]
    refine wpAnyH_take (i := 8) (oi := { dst := some 16, op := _, type := _, pos := _, after := _, guard := _ }) (v := ?_) rfl (by kernel_rfl) (by kernel_rfl) (by kernel_rfl) (fun _ _ _ h => h) (Or.inl ⟨by rfl, ?_⟩) (hH0) ?_
    rotate_left
    · (intro wx hSw; obtain _ := hSw; go_simp <;> with_reducible rfl)
    simp only [Act.put, List.setIfInBounds_toArray, List.set_cons_zero, List.set_cons_succ]
    refine wpAnyH_take (i := 9) (oi := { dst := some 17, op := _, type := _, pos := _, after := _, guard := _ }) (v := ?_) rfl (by kernel_rfl) (by kernel_rfl) (by kernel_rfl) (fun _ _ _ h => h) (Or.inl ⟨by rfl, ?_⟩) (hH0) ?_
    rotate_left
    · (intro wx hSw; obtain _ := hSw; go_simp <;> with_reducible rfl)
    simp only [Act.put, List.setIfInBounds_toArray, List.set_cons_zero, List.set_cons_succ]
    refine wpAnyH_take (i := 10) (oi := { dst := some 18, op := _, type := _, pos := _, after := _, guard := _ }) (v := ?_) rfl (by kernel_rfl) (by kernel_rfl) (by kernel_rfl) (fun _ _ _ h => h) (Or.inl ⟨by rfl, ?_⟩) (hH0) ?_
    rotate_left
    · (intro wx hSw; obtain _ := hSw; go_simp <;> with_reducible rfl)
    simp only [Act.put, List.setIfInBounds_toArray, List.set_cons_zero, List.set_cons_succ]
    refine wpAnyH_take (i := 13) (oi := { dst := some 21, op := _, type := _, pos := _, after := _, guard := _ }) (v := ?_) rfl (by kernel_rfl) (by kernel_rfl) (by kernel_rfl) (fun _ _ _ h => h) (Or.inl ⟨by rfl, ?_⟩) (hH0) ?_
    rotate_left
    · (intro wx hSw; obtain _ := hSw; go_simp <;> with_reducible rfl)
    simp only [Act.put, List.setIfInBounds_toArray, List.set_cons_zero, List.set_cons_succ]
    refine wpAnyH_take (i := 16) (oi := { dst := some 24, op := _, type := _, pos := _, after := _, guard := _ }) (v := ?_) rfl (by kernel_rfl) (by kernel_rfl) (by kernel_rfl) (fun _ _ _ h => h) (Or.inl ⟨by rfl, ?_⟩) (hH0) ?_
    rotate_left
    · (intro wx hSw; obtain _ := hSw; go_simp <;> with_reducible rfl)
    simp only [Act.put, List.setIfInBounds_toArray, List.set_cons_zero, List.set_cons_succ]
    -- behind it: go_wp2_with fail, then go_meet (a cut) or go_ret; the condition at the end: hH0
    refine wpAnyH_ready (rs := [11, 14]) (by kernel_rfl) (by simp) ?_
    refine AllReadyH.cons (o := { dst := some 19, op := _, type := _, pos := _, after := _, guard := _ }) rfl (fun K hK => ?_) (AllReadyH.cons (o := { dst := some 22, op := _, type := _, pos := _, after := _, guard := _ }) rfl (fun K hK => ?_) AllReadyH.nil)
    · go_simp
      refine hK.out _ _ trivial (fun hH => ?_)
      clear hK K hH
      have cv0 := fun w' hb => be4_at w w' n h hb
      refine wpAnyH_ready (rs := [12, 14]) (by kernel_rfl) (by simp) ?_
      refine AllReadyH.cons (o := { dst := some 20, op := _, type := _, pos := _, after := _, guard := _ }) rfl (fun K hK => ?_) (AllReadyH.cons (o := { dst := some 22, op := _, type := _, pos := _, after := _, guard := _ }) rfl (fun K hK => ?_) AllReadyH.nil)
      · go_simp
        have cv := cv0 _ (Below.drew (Below.refl _ _))
        rw [HA.out] at cv
        go_simp
        refine hK.out _ _ trivial (fun hH => ?_)
        clear hK K hH
        refine wpAnyH_ready (rs := [14]) (by kernel_rfl) (by simp) ?_
        refine AllReadyH.cons (o := { dst := some 22, op := _, type := _, pos := _, after := _, guard := _ }) rfl (fun K hK => ?_) AllReadyH.nil
        go_simp
        refine (SU.out _).mono ?_
        rintro e w2 ⟨rfl, hb2⟩
        dsimp only
        have BF : Hid (Below w.heap.size w w2) := hide (bstep (Below.drew (balloc (Below.refl _ _) _)) hb2)
        refine hK.out _ _ trivial (fun hH => ?_)
        clear hK K hH
        refine wpAnyH_ready (rs := [15]) (by kernel_rfl) (by simp) ?_
        refine AllReadyH.cons (o := { dst := some 23, op := _, type := _, pos := _, after := _, guard := _ }) rfl (fun K hK => ?_) AllReadyH.nil
        go_simp
        refine hK.out _ _ trivial (fun hH => ?_)
        clear hK K hH
        refine wpAnyH_ready (rs := [17]) (by kernel_rfl) (by simp) ?_
        refine AllReadyH.cons (o := { dst := some 25, op := _, type := _, pos := _, after := _, guard := _ }) rfl (fun K hK => ?_) AllReadyH.nil
        go_simp
        refine hK.out _ _ trivial (fun hH => ?_)
        clear hK K hH
        refine wpAnyH_ready (rs := [18]) (by kernel_rfl) (by simp) ?_
        refine AllReadyH.cons (o := { dst := some 2, op := _, type := _, pos := _, after := _, guard := _ }) rfl (fun K hK => ?_) AllReadyH.nil
        go_simp
        refine hK.out _ _ trivial (fun hH => ?_)
        clear hK K hH
        refine wpAnyH_done (by kernel_rfl) ?_ _
        go_wp2_with fail
        go_ret
        exact ⟨by rw [HF.out, bytes_list (l := headT s.data.toList ++ s.data.toList) (S := A ++ C ++ s) (by rw [← HX.out]; simp)]; try rfl, BF.out⟩
      · go_simp
        refine (SU.out _).mono ?_
        rintro e w2 ⟨rfl, hb2⟩
        dsimp only
        have hb3 := bstep (Below.drew (Below.refl _ (w.alloc (.cells #[.int .u8 (IntKind.u8.wrap ((n : Int) / 16777216)), .int .u8 (IntKind.u8.wrap ((n : Int) / 65536)), .int .u8 (IntKind.u8.wrap ((n : Int) / 256)), .int .u8 (IntKind.u8.wrap (n : Int))] 5)))) hb2
        have BF : Hid (Below w.heap.size w w2) := hide (bstep (Below.drew (balloc (Below.refl _ _) _)) hb2)
        refine hK.out _ _ trivial (fun hH => ?_)
        clear hK K hH
        have cv := cv0 w2 hb3
        rw [HA.out] at cv
        refine wpAnyH_ready (rs := [12]) (by kernel_rfl) (by simp) ?_
        refine AllReadyH.cons (o := { dst := some 20, op := _, type := _, pos := _, after := _, guard := _ }) rfl (fun K hK => ?_) AllReadyH.nil
        go_simp
        refine hK.out _ _ trivial (fun hH => ?_)
        clear hK K hH
        refine wpAnyH_ready (rs := [15]) (by kernel_rfl) (by simp) ?_
        refine AllReadyH.cons (o := { dst := some 23, op := _, type := _, pos := _, after := _, guard := _ }) rfl (fun K hK => ?_) AllReadyH.nil
        go_simp
        refine hK.out _ _ trivial (fun hH => ?_)
        clear hK K hH
        refine wpAnyH_ready (rs := [17]) (by kernel_rfl) (by simp) ?_
        refine AllReadyH.cons (o := { dst := some 25, op := _, type := _, pos := _, after := _, guard := _ }) rfl (fun K hK => ?_) AllReadyH.nil
        go_simp
        refine hK.out _ _ trivial (fun hH => ?_)
        clear hK K hH
        refine wpAnyH_ready (rs := [18]) (by kernel_rfl) (by simp) ?_
        refine AllReadyH.cons (o := { dst := some 2, op := _, type := _, pos := _, after := _, guard := _ }) rfl (fun K hK => ?_) AllReadyH.nil
        go_simp
        refine hK.out _ _ trivial (fun hH => ?_)
        clear hK K hH
        refine wpAnyH_done (by kernel_rfl) ?_ _
        go_wp2_with fail
        go_ret
        exact ⟨by rw [HF.out, bytes_list (l := headT s.data.toList ++ s.data.toList) (S := A ++ C ++ s) (by rw [← HX.out]; simp)]; try rfl, BF.out⟩
    · go_simp
      refine (SU.out _).mono ?_
      rintro e w2 ⟨rfl, hb2⟩
      dsimp only
      refine hK.out _ _ trivial (fun hH => ?_)
      clear hK K hH
      refine wpAnyH_ready (rs := [11]) (by kernel_rfl) (by simp) ?_
      refine AllReadyH.cons (o := { dst := some 19, op := _, type := _, pos := _, after := _, guard := _ }) rfl (fun K hK => ?_) AllReadyH.nil
      go_simp
      have BF : Hid (Below w.heap.size w (w2.alloc (.cells #[.int .u8 (IntKind.u8.wrap ((n : Int) / 16777216)), .int .u8 (IntKind.u8.wrap ((n : Int) / 65536)), .int .u8 (IntKind.u8.wrap ((n : Int) / 256)), .int .u8 (IntKind.u8.wrap (n : Int))] 5))) := hide (balloc (bstep (Below.drew (Below.refl _ _)) hb2) _)
      refine hK.out _ _ trivial (fun hH => ?_)
      clear hK K hH
      have cv := be4_at w2 _ n h (Below.refl _ _)
      rw [HA.out] at cv
      refine wpAnyH_ready (rs := [12]) (by kernel_rfl) (by simp) ?_
      refine AllReadyH.cons (o := { dst := some 20, op := _, type := _, pos := _, after := _, guard := _ }) rfl (fun K hK => ?_) AllReadyH.nil
      go_simp
      refine hK.out _ _ trivial (fun hH => ?_)
      clear hK K hH
      refine wpAnyH_ready (rs := [15]) (by kernel_rfl) (by simp) ?_
      refine AllReadyH.cons (o := { dst := some 23, op := _, type := _, pos := _, after := _, guard := _ }) rfl (fun K hK => ?_) AllReadyH.nil
      go_simp
      refine hK.out _ _ trivial (fun hH => ?_)
      clear hK K hH
      refine wpAnyH_ready (rs := [17]) (by kernel_rfl) (by simp) ?_
      refine AllReadyH.cons (o := { dst := some 25, op := _, type := _, pos := _, after := _, guard := _ }) rfl (fun K hK => ?_) AllReadyH.nil
      go_simp
      refine hK.out _ _ trivial (fun hH => ?_)
      clear hK K hH
      refine wpAnyH_ready (rs := [18]) (by kernel_rfl) (by simp) ?_
      refine AllReadyH.cons (o := { dst := some 2, op := _, type := _, pos := _, after := _, guard := _ }) rfl (fun K hK => ?_) AllReadyH.nil
      go_simp
      refine hK.out _ _ trivial (fun hH => ?_)
      clear hK K hH
      refine wpAnyH_done (by kernel_rfl) ?_ _
      go_wp2_with fail
      go_ret
      exact ⟨by rw [HF.out, bytes_list (l := headT s.data.toList ++ s.data.toList) (S := A ++ C ++ s) (by rw [← HX.out]; simp)]; try rfl, BF.out⟩
  · have HF : Hid (frameT s.data.toList = []) := hide (by unfold frameT; rw [if_neg (by omega)])
    have hyes : (100000 : Int) < s.size := by omega
    clear hl
    go_enter Tryd.func4, Tryd.ntmps4
    go_wp2_with fail
    go_ret
    exact ⟨by rw [HF.out]; rfl, Below.refl _ _⟩

set_option maxHeartbeats 1000000 in
theorem exactFrameOf_walk (s : ByteArray) (w : World) (T : Sums w) :
    Calls Tryd.prog 3 #[.string s] w fun e w' => e = .returned (.bool true) ∧ Below w.heap.size w w' := by
  by_cases hs : s.size ≤ 1048576
  · have SF := hide (sFrameOf_any s w hs)
    have IF := hide (fun w1 (b : Below w.heap.size w w1) => iFrameOf_any s w1 hs (T.below b))
    obtain ⟨R, hR⟩ : ∃ R, bs (frameT s.data.toList) = R := ⟨_, rfl⟩
    rw [hR] at SF IF
    clear hR T
    go_enter Tryd.func3, Tryd.ntmps3
    go_wp2_with fail
    refine SF.out.mono ?_
    rintro e w1 ⟨rfl, hb1⟩
    have B1 := hide hb1
    clear hb1 SF
    go_wp2_with fail
    refine (IF.out _ B1.out).mono ?_
    rintro e w2 ⟨rfl, hb2⟩
    have B2 := hide (bstep B1.out hb2)
    clear hb2 IF
    go_wp2_with fail
    go_ret
    exact ⟨rfl, B2.out⟩
  · have hn' : (1048576 : Int) < s.size := by omega
    go_enter Tryd.func3, Tryd.ntmps3
    go_wp2
    go_ret
    exact ⟨rfl, (by repeat' first | with_reducible exact Below.refl _ _ | with_reducible assumption | with_reducible refine below_drewN ?_ _ | with_reducible refine balloc ?_ _ | with_reducible refine Below.drew ?_ | with_reducible refine Below.setCell ?_ (by first | (simp; done) | (simp; omega) | omega) _ | with_reducible refine bstep ?_ (by assumption))⟩
end Go.Proofs.YtpnppabpogedeaaDoor
