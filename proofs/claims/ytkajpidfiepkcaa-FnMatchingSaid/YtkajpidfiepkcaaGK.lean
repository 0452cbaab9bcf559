/- The walk of the law FnMatching. -/
import Derived.Test.YtkajpidfiepkcaaGH
namespace Go.Proofs.Ytkajpidfiepkcaa
open Go.RowKit
set_option linter.unusedSimpArgs false
set_option linter.unusedVariables false

theorem fil_at {p : It → Bool} {L : IL} : ∀ (n k : Nat), k < n → p (L k) = true → cntP p L k < cntP p L n ∧ fil p L n (cntP p L k) = L k
  | 0, k, hk, _ => absurd hk (by omega)
  | n + 1, k, hk, hp => by
    by_cases e : k = n
    · subst e
      rw [cntP_yes hp, fil_yes hp]
      exact ⟨by omega, IL.put_at _ _ _⟩
    · obtain ⟨h1, h2⟩ := fil_at n k (by omega) hp
      cases hq : p (L n)
      · rw [cntP_no hq, fil_no hq]; exact ⟨h1, h2⟩
      · rw [cntP_yes hq, fil_yes hq]; exact ⟨by omega, by rw [IL.put_off _ _ (by omega)]; exact h2⟩
theorem fil_all {p : It → Bool} {L : IL} (hp : ∀ x, p x = true) : ∀ n, cntP p L n = n ∧ ∀ i, i < n → fil p L n i = L i
  | 0 => ⟨rfl, fun i hi => absurd hi (by omega)⟩
  | n + 1 => by
    obtain ⟨h1, h2⟩ := fil_all hp n
    rw [cntP_yes (hp _), fil_yes (hp _), h1]
    refine ⟨rfl, fun i hi => ?_⟩
    by_cases e : i = n
    · subst e; exact IL.put_at _ _ _
    · rw [IL.put_off _ _ e]; exact h2 i (by omega)
theorem IRow.at0 {w : World} {g n : Nat} {L : IL} (h : IRow w (some ⟨g, 0, none⟩) n L) {i : Nat} (hi : i < n) : g < w.heap.size ∧ IAt w g (i * 3) (L i) := by
  rcases h.lies with h0 | ⟨b, off, e, lt, hc⟩
  · omega
  · cases e
    have := hc i hi
    rw [Nat.zero_add] at this
    exact ⟨lt, this⟩

set_option maxHeartbeats 4000000 in
set_option maxRecDepth 4000 in
theorem matching_walk (a : Option Addr) (n cap : Nat) (zs : List Int) (w : World) (h : IsRow .u8 w a n cap zs) :
    Calls Try.prog 4 #[.slice a n cap] w fun e w' => e = .returned (.bool true) ∧ Below w.heap.size w w' := by
  have BG := hide (big_any a n cap w)
  by_cases hn : n ≤ 1048576
  · rw [decide_eq_false (show ¬ 1048576 < n by omega)] at BG
    have DR := hide (drawMatching_any a n cap w (h.code hn))
    clear h
    go_enter Try.func4, Try.ntmps4
    go_wp2_with fail
    refine BG.out.mono ?_
    rintro e w' ⟨rfl, hw⟩
    obtain rfl := hw.symm
    clear BG hw
    go_wp2_with fail
    refine DR.out.mono ?_
    rintro e w1 ⟨g, m, cp, L, mask, rfl, hni, ma, mb⟩
    have hm := hni.few
    have hv : ∀ i, i < m → (L i).vec.length ≤ 1048576 := fun i hi => Nat.le_trans (hni.len i hi) (by omega)
    have IM := hide (fun w1 (h : IRow w1 (some ⟨g, 0, none⟩) m L) => iMatching_any (some ⟨g, 0, none⟩) m cp L mask w1 h (by omega) hv)
    have SM := hide (fun w1 (h : IRow w1 (some ⟨g, 0, none⟩) m L) => sMatching_any (some ⟨g, 0, none⟩) m cp L mask w1 h (by omega) hv)
    have IZ := hide (fun w1 (h : IRow w1 (some ⟨g, 0, none⟩) m L) => iMatching_any (some ⟨g, 0, none⟩) m cp L 0 w1 h (by omega) hv)
    have cm := cntP_le (mtB mask) L m
    have EQ := hide (fun g1 k1 g2 k2 w1 (h : IRow w1 (some ⟨g1, 0, none⟩) (cntP (mtB mask) L m) (fil (mtB mask) L m)) (h' : IRow w1 (some ⟨g2, 0, none⟩) (cntP (mtB mask) L m) (fil (mtB mask) L m)) => sameItems_self (some ⟨g1, 0, none⟩) (some ⟨g2, 0, none⟩) (cntP (mtB mask) L m) k1 k2 (fil (mtB mask) L m) w1 h h' (by omega) (fil_len hv))
    have EZ := hide (fun g1 k1 w1 (h : IRow w1 (some ⟨g1, 0, none⟩) m L) (h' : IRow w1 (some ⟨g, 0, none⟩) m L) => sameItems_self (some ⟨g1, 0, none⟩) (some ⟨g, 0, none⟩) m k1 cp L w1 h h' (by omega) hv)
    have ES := hide (fun k (hk : k < m) (a a' : Option Addr) (n n' c c' : Nat) w1 (h : Row w1 a n (L k).vec) (h' : Row w1 a' n' (L k).vec) => sameItem_self (L k) a a' n n' c c' w1 h h' (by rw [← h.len]; exact hv k hk))
    have FA := hide (fun k (hk : k < m) (hp : mtB mask (L k) = true) => fil_at m k hk hp)
    have FZ := fil_all (p := mtB 0) (L := L) mtB_zero m
    unfold PickR at IM SM IZ
    rw [FZ.1] at IZ
    have FZ2 := hide FZ.2
    clear FZ
    have YES := hide (fun k (h : mtB mask (L k) = true) => cntP_yes (p := mtB mask) (L := L) (k := k) h)
    have NO := hide (fun k (h : mtB mask (L k) = false) => cntP_no (p := mtB mask) (L := L) (k := k) h)
    obtain ⟨C, hC⟩ : ∃ C, cntP (mtB mask) L = C := ⟨_, rfl⟩
    obtain ⟨M, hM⟩ : ∃ M, fil (mtB mask) L m = M := ⟨_, rfl⟩
    have hC0 : C 0 = 0 := by rw [← hC]; rfl
    have CLE := hide (fun k => show C k ≤ k from by rw [← hC]; exact cntP_le _ _ _)
    simp only [hC, hM] at IM SM EQ FA YES NO cm
    clear hC hM
    have B1 := hide hni.low
    have I1 := hide hni.hi
    clear hni DR hv
    go_wp2_with fail
    refine (IM.out _ I1.out.irow).mono ?_
    rintro e w3 ⟨g3, c3, V3, s3, rfl, i3, b3⟩
    have I3 := hide (I1.out.below b3)
    have O3 := hide i3
    have B3 := hide (bstep B1.out b3)
    clear i3 b3 I1 B1
    go_wp2_with fail
    refine (SM.out _ I3.out.irow).mono ?_
    rintro e w4 ⟨g4, c4, V4, s4, rfl, i4, b4⟩
    have I4 := hide (I3.out.below b4)
    have O4 := hide (O3.out.below b4)
    have B4 := hide (bstep B3.out b4)
    clear I3 O3 B3 b4
    go_wp2_with fail
    refine (EQ.out _ _ _ _ _ O4.out.its.irow i4.its.irow).mono ?_
    rintro e w5 ⟨rfl, b5⟩
    have I5 := hide (I4.out.below b5)
    have O5 := hide (O4.out.below b5)
    have B5 := hide (bstep B4.out b5)
    clear I4 O4 B4 b5 i4 EQ IM SM
    go_wp2_with fail
    go_loopw [6, 7] (fun c i wr => ∃ k : Nat, k ≤ m ∧ i = .int .i64 k ∧ c = .int .i64 (C k) ∧ Below w5.heap.size w5 wr) (fun _ i _ => m - (intOf i).toNat)
    case atStart => exact ⟨0, Nat.zero_le _, rfl, by rw [hC0]; rfl, Below.refl _ _⟩
    case round =>
      obtain ⟨k, hk, rfl, rfl, hbel⟩ := hrel
      have HB := hide (bstep B5.out hbel)
      have hck := CLE.out k
      by_cases hlt : k < m
      · obtain ⟨c0, c1, a', n', c', c2', vr, _⟩ := (I5.out.below hbel).at_ k hlt
        have hlt' : (k : Int) < (m : Int) := by omega
        have il := (I5.out.below hbel).lt
        cases hmt : mtB mask (L k)
        · have hb : (bits .and .i64 (L k).tags mask == mask) = false := hmt
          have hno := NO.out k hmt
          have HBEL := hide hbel
          clear hbel vr c0 c2' hmt
          go_wp2_with fail
          go_roundw
          case rel => exact ⟨k + 1, by omega, by go_num, by rw [hno], HBEL.out⟩
          case measure => simp [intOf]; omega
        · have hb : (bits .and .i64 (L k).tags mask == mask) = true := hmt
          have hyes := YES.out k hmt
          obtain ⟨hcl, hfa⟩ := FA.out k hlt hmt
          obtain ⟨ol, d0, d1, va, vn, vc, d2, vr'⟩ := (O5.out.below hbel).its.irow.at0 hcl
          rw [hfa] at d0 d1 vr'
          have T := hide (Two.mk ol il vr' vr d0 d1 d2 c0 c1 c2')
          have R := hide (fun w1 (t : Two w1 g3 (C k * 3) g (k * 3) (L k) va a' vn n' vc c') => ES.out k hlt va a' vn n' vc c' w1 t.r t.r')
          have hge : decide (C m ≤ C k) = false := by simp; omega
          have hcl' : (C k : Int) < (C m : Int) := by omega
          have HBEL := hide hbel
          have HY := hide hyes
          obtain ⟨ck, hckE⟩ : ∃ ck, C k = ck := ⟨_, rfl⟩
          obtain ⟨cmx, hcmE⟩ : ∃ cmx, C m = cmx := ⟨_, rfl⟩
          simp only [hckE, hcmE] at hge hcl hcl' T R hck cm ⊢
          clear hbel vr vr' c0 c2' d0 d1 d2 hmt hfa hyes
          go_upto_region 12 with fail
          refine wp_region_held_drew (S := fun wx => Two wx g3 (ck * 3) g (k * 3) (L k) va a' vn n' vc c') (by kernel_rfl) (T.out.drew) (fun hH0 => ?_)
          refine wpAnyH_take (i := 0) (oi := { dst := some 39, op := _, type := _, pos := _, after := _, guard := _ }) (v := ?_) rfl (by kernel_rfl) (by kernel_rfl) (by kernel_rfl) (fun _ _ _ h => h) (Or.inl ⟨by rfl, ?_⟩) (hH0) ?_
          rotate_left
          · (intro wx hSw; obtain ⟨l0, l1, r0, r1, q0, q1, q2, q3, q4, q5⟩ := hSw; go_simp <;> with_reducible rfl)
          simp only [Act.put, List.setIfInBounds_toArray, List.set_cons_zero, List.set_cons_succ]
          refine wpAnyH_take (i := 1) (oi := { dst := some 40, op := _, type := _, pos := _, after := _, guard := _ }) (v := ?_) rfl (by kernel_rfl) (by kernel_rfl) (by kernel_rfl) (fun _ _ _ h => h) (Or.inl ⟨by rfl, ?_⟩) (hH0) ?_
          rotate_left
          · (intro wx hSw; obtain ⟨l0, l1, r0, r1, q0, q1, q2, q3, q4, q5⟩ := hSw; go_simp <;> with_reducible rfl)
          simp only [Act.put, List.setIfInBounds_toArray, List.set_cons_zero, List.set_cons_succ]
          refine wpAnyH_take (i := 2) (oi := { dst := some 41, op := _, type := _, pos := _, after := _, guard := _ }) (v := ?_) rfl (by kernel_rfl) (by kernel_rfl) (by kernel_rfl) (fun _ _ _ h => h) (Or.inl ⟨by rfl, ?_⟩) (hH0) ?_
          rotate_left
          · (intro wx hSw; obtain ⟨l0, l1, r0, r1, q0, q1, q2, q3, q4, q5⟩ := hSw; go_simp <;> with_reducible rfl)
          simp only [Act.put, List.setIfInBounds_toArray, List.set_cons_zero, List.set_cons_succ]
          refine wpAnyH_take (i := 3) (oi := { dst := some 42, op := _, type := _, pos := _, after := _, guard := _ }) (v := ?_) rfl (by kernel_rfl) (by kernel_rfl) (by kernel_rfl) (fun _ _ _ h => h) (Or.inl ⟨by rfl, ?_⟩) (hH0) ?_
          rotate_left
          · (intro wx hSw; obtain ⟨l0, l1, r0, r1, q0, q1, q2, q3, q4, q5⟩ := hSw; go_simp <;> with_reducible rfl)
          simp only [Act.put, List.setIfInBounds_toArray, List.set_cons_zero, List.set_cons_succ]
          refine wpAnyH_take (i := 4) (oi := { dst := some 43, op := _, type := _, pos := _, after := _, guard := _ }) (v := ?_) rfl (by kernel_rfl) (by kernel_rfl) (by kernel_rfl) (fun _ _ _ h => h) (Or.inl ⟨by rfl, ?_⟩) (hH0) ?_
          rotate_left
          · (intro wx hSw; obtain ⟨l0, l1, r0, r1, q0, q1, q2, q3, q4, q5⟩ := hSw; go_simp <;> with_reducible rfl)
          simp only [Act.put, List.setIfInBounds_toArray, List.set_cons_zero, List.set_cons_succ]
          refine wpAnyH_take (i := 5) (oi := { dst := some 44, op := _, type := _, pos := _, after := _, guard := _ }) (v := ?_) rfl (by kernel_rfl) (by kernel_rfl) (by kernel_rfl) (fun _ _ _ h => h) (Or.inl ⟨by rfl, ?_⟩) (hH0) ?_
          rotate_left
          · (intro wx hSw; obtain ⟨l0, l1, r0, r1, q0, q1, q2, q3, q4, q5⟩ := hSw; go_simp <;> with_reducible rfl)
          simp only [Act.put, List.setIfInBounds_toArray, List.set_cons_zero, List.set_cons_succ]
          refine wpAnyH_take (i := 6) (oi := { dst := some 45, op := _, type := _, pos := _, after := _, guard := _ }) (v := ?_) rfl (by kernel_rfl) (by kernel_rfl) (by kernel_rfl) (fun _ _ _ h => h) (Or.inl ⟨by rfl, ?_⟩) (hH0) ?_
          rotate_left
          · (intro wx hSw; obtain ⟨l0, l1, r0, r1, q0, q1, q2, q3, q4, q5⟩ := hSw; go_simp <;> with_reducible rfl)
          simp only [Act.put, List.setIfInBounds_toArray, List.set_cons_zero, List.set_cons_succ]
          refine wpAnyH_take (i := 7) (oi := { dst := some 46, op := _, type := _, pos := _, after := _, guard := _ }) (v := ?_) rfl (by kernel_rfl) (by kernel_rfl) (by kernel_rfl) (fun _ _ _ h => h) (Or.inl ⟨by rfl, ?_⟩) (hH0) ?_
          rotate_left
          · (intro wx hSw; obtain ⟨l0, l1, r0, r1, q0, q1, q2, q3, q4, q5⟩ := hSw; go_simp <;> with_reducible rfl)
          simp only [Act.put, List.setIfInBounds_toArray, List.set_cons_zero, List.set_cons_succ]
          refine wpAnyH_take (i := 8) (oi := { dst := some 47, op := _, type := _, pos := _, after := _, guard := _ }) (v := ?_) rfl (by kernel_rfl) (by kernel_rfl) (by kernel_rfl) (fun _ _ _ h => h) (Or.inl ⟨by rfl, ?_⟩) (hH0) ?_
          rotate_left
          · (intro wx hSw; obtain ⟨l0, l1, r0, r1, q0, q1, q2, q3, q4, q5⟩ := hSw; go_simp <;> with_reducible rfl)
          simp only [Act.put, List.setIfInBounds_toArray, List.set_cons_zero, List.set_cons_succ]
          refine wpAnyH_take (i := 9) (oi := { dst := some 48, op := _, type := _, pos := _, after := _, guard := _ }) (v := ?_) rfl (by kernel_rfl) (by kernel_rfl) (by kernel_rfl) (fun _ _ _ h => h) (Or.inl ⟨by rfl, ?_⟩) (hH0) ?_
          rotate_left
          · (intro wx hSw; obtain ⟨l0, l1, r0, r1, q0, q1, q2, q3, q4, q5⟩ := hSw; go_simp <;> with_reducible rfl)
          simp only [Act.put, List.setIfInBounds_toArray, List.set_cons_zero, List.set_cons_succ]
          refine wpAnyH_take (i := 10) (oi := { dst := some 49, op := _, type := _, pos := _, after := _, guard := _ }) (v := ?_) rfl (by kernel_rfl) (by kernel_rfl) (by kernel_rfl) (fun _ _ _ h => h) (Or.inl ⟨by rfl, ?_⟩) (hH0) ?_
          rotate_left
          · (intro wx hSw; obtain ⟨l0, l1, r0, r1, q0, q1, q2, q3, q4, q5⟩ := hSw; go_simp <;> with_reducible rfl)
          simp only [Act.put, List.setIfInBounds_toArray, List.set_cons_zero, List.set_cons_succ]
          refine wpAnyH_take (i := 11) (oi := { dst := some 50, op := _, type := _, pos := _, after := _, guard := _ }) (v := ?_) rfl (by kernel_rfl) (by kernel_rfl) (by kernel_rfl) (fun _ _ _ h => h) (Or.inl ⟨by rfl, ?_⟩) (hH0) ?_
          rotate_left
          · (intro wx hSw; obtain ⟨l0, l1, r0, r1, q0, q1, q2, q3, q4, q5⟩ := hSw; go_simp <;> with_reducible rfl)
          simp only [Act.put, List.setIfInBounds_toArray, List.set_cons_zero, List.set_cons_succ]
          refine wpAnyH_take (i := 12) (oi := { dst := some 51, op := _, type := _, pos := _, after := _, guard := _ }) (v := ?_) rfl (by kernel_rfl) (by kernel_rfl) (by kernel_rfl) (fun _ _ _ h => h) (Or.inl ⟨by rfl, ?_⟩) (hH0) ?_
          rotate_left
          · (intro wx hSw; obtain ⟨l0, l1, r0, r1, q0, q1, q2, q3, q4, q5⟩ := hSw; go_simp <;> with_reducible rfl)
          simp only [Act.put, List.setIfInBounds_toArray, List.set_cons_zero, List.set_cons_succ]
          refine wpAnyH_ready (rs := [13]) (by kernel_rfl) (by simp) ?_
          refine AllReadyH.cons (o := { dst := some 52, op := _, type := _, pos := _, after := _, guard := _ }) rfl (fun K hK => ?_) AllReadyH.nil
          go_simp
          refine (R.out _ hH0).mono ?_
          rintro e w_c52_1 ⟨rfl, hb_c52_1⟩
          dsimp only
          refine hK.out _ _ (Two.below hH0 hb_c52_1) (fun hH1 => ?_)
          clear hK K
          refine wpAnyH_take (i := 14) (oi := { dst := some 53, op := _, type := _, pos := _, after := _, guard := _ }) (v := ?_) rfl (by kernel_rfl) (by kernel_rfl) (by kernel_rfl) (fun _ _ _ h => h) (Or.inl ⟨by rfl, ?_⟩) (hH1) ?_
          rotate_left
          · (intro wx hSw; obtain ⟨l0, l1, r0, r1, q0, q1, q2, q3, q4, q5⟩ := hSw; go_simp <;> with_reducible rfl)
          simp only [Act.put, List.setIfInBounds_toArray, List.set_cons_zero, List.set_cons_succ]
          refine wpAnyH_take (i := 15) (oi := { dst := some 54, op := _, type := _, pos := _, after := _, guard := _ }) (v := ?_) rfl (by kernel_rfl) (by kernel_rfl) (by kernel_rfl) (fun _ _ _ h => h) (Or.inl ⟨by rfl, ?_⟩) (hH1) ?_
          rotate_left
          · (intro wx hSw; obtain ⟨l0, l1, r0, r1, q0, q1, q2, q3, q4, q5⟩ := hSw; go_simp <;> with_reducible rfl)
          simp only [Act.put, List.setIfInBounds_toArray, List.set_cons_zero, List.set_cons_succ]
          refine wpAnyH_done (by kernel_rfl) ?_ _
          -- behind it: go_wp2_with fail, then go_meet (a cut) or go_ret; the condition at the end: hH1
          go_wp2_with fail
          go_roundw
          case rel =>
            have hbel := HBEL.out
            exact ⟨k + 1, by omega, by go_num, by rw [HY.out, hckE]; go_num, (by repeat' first | with_reducible exact Below.refl _ _ | with_reducible assumption | with_reducible refine below_drewN ?_ _ | with_reducible refine balloc ?_ _ | with_reducible refine Below.drew ?_ | with_reducible refine Below.setCell ?_ (by first | (simp; done) | (simp; omega) | omega) _ | with_reducible refine bstep ?_ (by assumption))⟩
          case measure => simp [intOf]; omega
      · obtain rfl : k = m := by omega
        have hcc : ((C k : Int) == (C k : Int)) = true := by simp
        have HBEL := hide hbel
        clear hbel
        go_wp2_with fail
        refine (IZ.out _ (I5.out.below HBEL.out).irow).mono ?_
        rintro e w6 ⟨g6, c6, V6, s6, rfl, i6, b6⟩
        have I6 := hide ((I5.out.below HBEL.out).below b6)
        have B6 := hide (bstep HB.out b6)
        clear b6
        go_wp2_with fail
        refine (EZ.out _ _ _ (i6.its.irow.congr FZ2.out) I6.out.irow).mono ?_
        rintro e w7 ⟨rfl, b7⟩
        have B7 := hide (bstep B6.out b7)
        clear b7 i6
        go_wp2_with fail
        go_ret
        exact ⟨rfl, B7.out⟩
  · rw [decide_eq_true (show 1048576 < n by omega)] at BG
    go_enter Try.func4, Try.ntmps4
    go_wp2_with fail
    refine BG.out.mono ?_
    rintro e w' ⟨rfl, rfl⟩
    go_wp2
    go_ret
    exact ⟨rfl, (by repeat' first | with_reducible exact Below.refl _ _ | with_reducible assumption | with_reducible refine below_drewN ?_ _ | with_reducible refine balloc ?_ _ | with_reducible refine Below.drew ?_ | with_reducible refine Below.setCell ?_ (by first | (simp; done) | (simp; omega) | omega) _ | with_reducible refine bstep ?_ (by assumption))⟩
end Go.Proofs.Ytkajpidfiepkcaa
