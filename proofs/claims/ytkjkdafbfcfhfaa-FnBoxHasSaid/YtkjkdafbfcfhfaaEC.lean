/- Drawn boxes and vectors of them: inside, DrawBoxHas. -/
import Derived.Test.YtkjkdafbfcfhfaaEA
import Derived.Deep.RegionHeld3
namespace Go.Proofs.Ytkjkdafbfcfhfaa
open Go.RowKit
set_option linter.unusedSimpArgs false
set_option linter.unusedVariables false

/-- Two cells that are read. -/
structure Duo (w : World) (b o : Nat) (lo hi : Int) : Prop where
  c0 : w.cell? ⟨b, o, none⟩ = some (.int .i64 lo)
  c1 : w.cell? ⟨b, o + 1, none⟩ = some (.int .i64 hi)
theorem Duo.drew {w : World} {b o : Nat} {lo hi : Int} (h : Duo w b o lo hi) : Duo w.drew b o lo hi := ⟨h.c0, h.c1⟩

set_option maxRecDepth 4000 in
set_option maxHeartbeats 4000000 in
theorem rinside_any (B rb n c : Nat) (a : Option Addr) (b off d c1 : Nat) (f g : Nat → Int) (w : World) (h : Rd B w rb a n c) (hB : B ≤ w.heap.size) (hd : d ≤ 100) (hb : b < w.heap.size) (hne : b ≠ rb) (hbd : Bds f g d)
    (hc : ∀ i, i < d → w.cell? ⟨b, off + i * 2, none⟩ = some (.int .i64 (f i)) ∧ w.cell? ⟨b, off + i * 2 + 1, none⟩ = some (.int .i64 (g i))) :
    Calls Try.prog 16 #[.pointer (some ⟨rb, 0, none⟩), .slice (some ⟨b, off, none⟩) d c1] w fun e w' => VecPost B w rb a n c d e w' := by
  obtain ⟨i0, hi, hz0, hz1, hz2⟩ := info_parts Try.infoI64
  have HH := hide h
  have HC := hide hc
  have HD := hide hbd
  have hltw := h.lt
  clear h hc hbd
  go_enter Try.func16, Try.ntmps16
  go_wp2_with fail
  go_loopw [5, 6] (fun v i wr => ∃ (k : Nat) (F : Nat → Int), k ≤ d ∧ i = .int .i64 k ∧ wr.ownsRow w.heap.size 2 1 v k (vals F k) ∧ Rd B wr rb a n c ∧ But rb w wr) (fun _ i _ => d - (intOf i).toNat)
  case atStart => exact ⟨0, fun _ => 0, Nat.zero_le _, rfl, World.ownsRow_made w #[] 0 (Nat.le_refl _) (Nat.zero_le _) rfl, HH.out.alloc _, (But.refl _ _).alloc _⟩
  case round =>
    obtain ⟨k, F, hk, rfl, hown, hr, hbu⟩ := hrel
    by_cases hlt : k < d
    · have Z := hide (fun (W : World) (hW : But rb w W) => And.intro ((hW.cell (p := ⟨b, off + k * 2, none⟩) hb hne).trans (HC.out k hlt).1) ((hW.cell (p := ⟨b, off + k * 2 + 1, none⟩) hb hne).trans (HC.out k hlt).2))
      obtain ⟨z1, z2⟩ := Z.out wr hbu
      have hlt' : (k : Int) < (d : Int) := by omega
      have bdk := HD.out k hlt
      have B3 := hide (below_any B rb n c a 3 wr hr (by omega) (by omega))
      have HO := hide hown
      have HBB := hide hbu
      clear hown hr hbu
      obtain ⟨lo, hlo⟩ : ∃ lo, f k = lo := ⟨_, rfl⟩
      obtain ⟨hi', hhi⟩ : ∃ hi', g k = hi' := ⟨_, rfl⟩
      rw [hlo] at z1 bdk Z
      rw [hhi] at z2 bdk Z
      clear hlo hhi
      go_wp2_with fail
      refine B3.out.mono ?_
      rintro e w1 ⟨z, rfl, p0, p1, hr1, hb1⟩
      obtain ⟨y1, y2⟩ := Z.out w1 (HBB.out.trans hb1)
      have hob : w1.ownsRow w.heap.size 2 1 u5 k (vals F k) := owns_but HO.out hb1 hltw
      have HO1 := hide hob
      have HB1 := hide (HBB.out.trans hb1)
      have HR1 := hide hr1
      have s1 := HB1.out.size
      clear hob hb1 hr1 HO HBB z1 z2 B3
      rcases (show z = 0 ∨ z = 1 ∨ z = 2 by omega) with rfl | rfl | rfl
      · go_wp2_with (at_builtin; refine wpList_append_own _ rfl _ _ 25 rfl w.heap.size 2 i0 (.int .i64 0) 1 8 Try.underlying25 hi hz0 hz1 hz2 rfl (by decide) _ _ _ rfl (HO1.out.alloc _) ⟨_, 0, none⟩ 1 1 [.int .i64 hi'] rfl rfl ?c1 ?c2 ?c3 ?c4 ?c5 ?_)
        case c1 => exact one_new _ _ _
        case c2 => intro u hu; simp at hu; subst hu; rfl
        case c3 => unfold maxLen; omega
        case c4 => omega
        case c5 => simp; omega
        intro v' w3 hown2 hgrow _
        rw [vals_snoc] at hown2
        have hB2 := but_app HB1.out HO1.out hgrow
        have hR2 := HR1.out.app hltw hB HO1.out hgrow
        have HO2 := hide hown2
        have HB2 := hide hB2
        have HR2 := hide hR2
        clear hgrow hown2 hB2 hR2
        go_wp2_with fail
        go_roundw
        case rel => exact ⟨k + 1, _, by omega, by go_num, HO2.out, HR2.out, HB2.out⟩
        case measure => simp [intOf]; omega
      · obtain ⟨t, ht⟩ : ∃ t, hi' - lo + 1 = t := ⟨_, rfl⟩
        have f1 : IntKind.i64.wrap (hi' - lo) = hi' - lo := wrapIn _ (by omega) (by omega)
        have f2 : IntKind.i64.wrap (hi' - lo + 1) = t := by rw [wrapIn _ (by omega) (by omega)]; exact ht
        have t0 : t ≤ 9000000 := by omega
        clear ht bdk
        have DU := hide (show Duo w1 b (off + k * 2) lo hi' from ⟨y1, y2⟩)
        have HBd := hide (show But rb w w1.drew from ⟨HB1.out.os, HB1.out.tape, HB1.out.output, HB1.out.size, HB1.out.block⟩)
        have WD := hide (word_any B rb n c a w1.drew (HR1.out.stays (Below.drew (Below.refl _ _))))
        have g0 : ¬ IntKind.u64.wrap (if t < 1 then 1 else t) = 0 := by
          rw [IntKind.wrap_u64]
          split <;> omega
        · skip
          go_upto_region 10 with fail
          refine wp_region_held_drew (S := fun wx => Duo wx b (off + k * 2) lo hi') (by kernel_rfl) (DU.out.drew) (fun hH0 => ?_)
          refine wpAnyH_take (i := 0) (oi := { dst := some 31, op := _, type := _, pos := _, after := _, guard := _ }) (v := ?_) rfl (by kernel_rfl) (by kernel_rfl) (by kernel_rfl) (fun _ _ _ h => h) (Or.inl ⟨by rfl, ?_⟩) (hH0) ?_
          rotate_left
          · (intro wx hSw; obtain ⟨q1, q2⟩ := hSw; go_simp <;> with_reducible rfl)
          simp only [Act.put, List.setIfInBounds_toArray, List.set_cons_zero, List.set_cons_succ]
          refine wpAnyH_take (i := 1) (oi := { dst := some 32, op := _, type := _, pos := _, after := _, guard := _ }) (v := ?_) rfl (by kernel_rfl) (by kernel_rfl) (by kernel_rfl) (fun _ _ _ h => h) (Or.inl ⟨by rfl, ?_⟩) (hH0) ?_
          rotate_left
          · (intro wx hSw; obtain ⟨q1, q2⟩ := hSw; go_simp <;> with_reducible rfl)
          simp only [Act.put, List.setIfInBounds_toArray, List.set_cons_zero, List.set_cons_succ]
          refine wpAnyH_take (i := 2) (oi := { dst := some 33, op := _, type := _, pos := _, after := _, guard := _ }) (v := ?_) rfl (by kernel_rfl) (by kernel_rfl) (by kernel_rfl) (fun _ _ _ h => h) (Or.inl ⟨by rfl, ?_⟩) (hH0) ?_
          rotate_left
          · (intro wx hSw; obtain ⟨q1, q2⟩ := hSw; go_simp <;> with_reducible rfl)
          simp only [Act.put, List.setIfInBounds_toArray, List.set_cons_zero, List.set_cons_succ]
          refine wpAnyH_take (i := 3) (oi := { dst := some 34, op := _, type := _, pos := _, after := _, guard := _ }) (v := ?_) rfl (by kernel_rfl) (by kernel_rfl) (by kernel_rfl) (fun _ _ _ h => h) (Or.inl ⟨by rfl, ?_⟩) (hH0) ?_
          rotate_left
          · (intro wx hSw; obtain ⟨q1, q2⟩ := hSw; go_simp <;> with_reducible rfl)
          simp only [Act.put, List.setIfInBounds_toArray, List.set_cons_zero, List.set_cons_succ]
          refine wpAnyH_take (i := 4) (oi := { dst := some 35, op := _, type := _, pos := _, after := _, guard := _ }) (v := ?_) rfl (by kernel_rfl) (by kernel_rfl) (by kernel_rfl) (fun _ _ _ h => h) (Or.inl ⟨by rfl, ?_⟩) (hH0) ?_
          rotate_left
          · (intro wx hSw; obtain ⟨q1, q2⟩ := hSw; go_simp <;> with_reducible rfl)
          simp only [Act.put, List.setIfInBounds_toArray, List.set_cons_zero, List.set_cons_succ]
          refine wpAnyH_take (i := 5) (oi := { dst := some 36, op := _, type := _, pos := _, after := _, guard := _ }) (v := ?_) rfl (by kernel_rfl) (by kernel_rfl) (by kernel_rfl) (fun _ _ _ h => h) (Or.inl ⟨by rfl, ?_⟩) (hH0) ?_
          rotate_left
          · (intro wx hSw; obtain ⟨q1, q2⟩ := hSw; go_simp <;> with_reducible rfl)
          simp only [Act.put, List.setIfInBounds_toArray, List.set_cons_zero, List.set_cons_succ]
          refine wpAnyH_take (i := 7) (oi := { dst := some 38, op := _, type := _, pos := _, after := _, guard := _ }) (v := ?_) rfl (by kernel_rfl) (by kernel_rfl) (by kernel_rfl) (fun _ _ _ h => h) (Or.inl ⟨by rfl, ?_⟩) (hH0) ?_
          rotate_left
          · (intro wx hSw; obtain ⟨q1, q2⟩ := hSw; go_simp <;> with_reducible rfl)
          simp only [Act.put, List.setIfInBounds_toArray, List.set_cons_zero, List.set_cons_succ]
          refine wpAnyH_take (i := 8) (oi := { dst := some 39, op := _, type := _, pos := _, after := _, guard := _ }) (v := ?_) rfl (by kernel_rfl) (by kernel_rfl) (by kernel_rfl) (fun _ _ _ h => h) (Or.inl ⟨by rfl, ?_⟩) (hH0) ?_
          rotate_left
          · (intro wx hSw; obtain ⟨q1, q2⟩ := hSw; go_simp <;> with_reducible rfl)
          simp only [Act.put, List.setIfInBounds_toArray, List.set_cons_zero, List.set_cons_succ]
          refine wpAnyH_take (i := 9) (oi := { dst := some 40, op := _, type := _, pos := _, after := _, guard := _ }) (v := ?_) rfl (by kernel_rfl) (by kernel_rfl) (by kernel_rfl) (fun _ _ _ h => h) (Or.inl ⟨by rfl, ?_⟩) (hH0) ?_
          rotate_left
          · (intro wx hSw; obtain ⟨q1, q2⟩ := hSw; go_simp <;> with_reducible rfl)
          simp only [Act.put, List.setIfInBounds_toArray, List.set_cons_zero, List.set_cons_succ]
          refine wpAnyH_take (i := 10) (oi := { dst := some 41, op := _, type := _, pos := _, after := _, guard := _ }) (v := ?_) rfl (by kernel_rfl) (by kernel_rfl) (by kernel_rfl) (fun _ _ _ h => h) (Or.inl ⟨by rfl, ?_⟩) (hH0) ?_
          rotate_left
          · (intro wx hSw; obtain ⟨q1, q2⟩ := hSw; go_simp <;> with_reducible rfl)
          simp only [Act.put, List.setIfInBounds_toArray, List.set_cons_zero, List.set_cons_succ]
          refine wpAnyH_take (i := 11) (oi := { dst := some 42, op := _, type := _, pos := _, after := _, guard := _ }) (v := ?_) rfl (by kernel_rfl) (by kernel_rfl) (by kernel_rfl) (fun _ _ _ h => h) (Or.inl ⟨by rfl, ?_⟩) (hH0) ?_
          rotate_left
          · (intro wx hSw; obtain ⟨q1, q2⟩ := hSw; go_simp <;> with_reducible rfl)
          simp only [Act.put, List.setIfInBounds_toArray, List.set_cons_zero, List.set_cons_succ]
          refine wpAnyH_take (i := 12) (oi := { dst := some 43, op := _, type := _, pos := _, after := _, guard := _ }) (v := ?_) rfl (by kernel_rfl) (by kernel_rfl) (by kernel_rfl) (fun _ _ _ h => h) (Or.inl ⟨by rfl, ?_⟩) (hH0) ?_
          rotate_left
          · (intro wx hSw; obtain ⟨q1, q2⟩ := hSw; go_simp <;> with_reducible rfl)
          simp only [Act.put, List.setIfInBounds_toArray, List.set_cons_zero, List.set_cons_succ]
          refine wpAnyH_take (i := 13) (oi := { dst := some 44, op := _, type := _, pos := _, after := _, guard := _ }) (v := ?_) rfl (by kernel_rfl) (by kernel_rfl) (by kernel_rfl) (fun _ _ _ h => h) (Or.inl ⟨by rfl, ?_⟩) (hH0) ?_
          rotate_left
          · (intro wx hSw; obtain ⟨q1, q2⟩ := hSw; go_simp <;> with_reducible rfl)
          simp only [Act.put, List.setIfInBounds_toArray, List.set_cons_zero, List.set_cons_succ]
          refine wpAnyH_take (i := 14) (oi := { dst := some 45, op := _, type := _, pos := _, after := _, guard := _ }) (v := ?_) rfl (by kernel_rfl) (by kernel_rfl) (by kernel_rfl) (fun _ _ _ h => h) (Or.inl ⟨by rfl, ?_⟩) (hH0) ?_
          rotate_left
          · (intro wx hSw; obtain ⟨q1, q2⟩ := hSw; go_simp <;> with_reducible rfl)
          simp only [Act.put, List.setIfInBounds_toArray, List.set_cons_zero, List.set_cons_succ]
          refine wpAnyH_take (i := 15) (oi := { dst := some 46, op := _, type := _, pos := _, after := _, guard := _ }) (v := ?_) rfl (by kernel_rfl) (by kernel_rfl) (by kernel_rfl) (fun _ _ _ h => h) (Or.inl ⟨by rfl, ?_⟩) (hH0) ?_
          rotate_left
          · (intro wx hSw; obtain ⟨q1, q2⟩ := hSw; go_simp <;> with_reducible rfl)
          simp only [Act.put, List.setIfInBounds_toArray, List.set_cons_zero, List.set_cons_succ]
          refine wpAnyH_take (i := 16) (oi := { dst := some 47, op := _, type := _, pos := _, after := _, guard := _ }) (v := ?_) rfl (by kernel_rfl) (by kernel_rfl) (by kernel_rfl) (fun _ _ _ h => h) (Or.inl ⟨by rfl, ?_⟩) (hH0) ?_
          rotate_left
          · (intro wx hSw; obtain ⟨q1, q2⟩ := hSw; go_simp <;> with_reducible rfl)
          simp only [Act.put, List.setIfInBounds_toArray, List.set_cons_zero, List.set_cons_succ]
          refine wpAnyH_take (i := 17) (oi := { dst := some 48, op := _, type := _, pos := _, after := _, guard := _ }) (v := ?_) rfl (by kernel_rfl) (by kernel_rfl) (by kernel_rfl) (fun _ _ _ h => h) (Or.inl ⟨by rfl, ?_⟩) (hH0) ?_
          rotate_left
          · (intro wx hSw; obtain ⟨q1, q2⟩ := hSw; go_simp <;> with_reducible rfl)
          simp only [Act.put, List.setIfInBounds_toArray, List.set_cons_zero, List.set_cons_succ]
          refine wpAnyH_take (i := 18) (oi := { dst := some 49, op := _, type := _, pos := _, after := _, guard := _ }) (v := ?_) rfl (by kernel_rfl) (by kernel_rfl) (by kernel_rfl) (fun _ _ _ h => h) (Or.inl ⟨by rfl, ?_⟩) (hH0) ?_
          rotate_left
          · (intro wx hSw; obtain ⟨q1, q2⟩ := hSw; go_simp <;> with_reducible rfl)
          simp only [Act.put, List.setIfInBounds_toArray, List.set_cons_zero, List.set_cons_succ]
          refine wpAnyH_take (i := 19) (oi := { dst := some 50, op := _, type := _, pos := _, after := _, guard := _ }) (v := ?_) rfl (by kernel_rfl) (by kernel_rfl) (by kernel_rfl) (fun _ _ _ h => h) (Or.inl ⟨by rfl, ?_⟩) (hH0) ?_
          rotate_left
          · (intro wx hSw; obtain ⟨q1, q2⟩ := hSw; go_simp <;> with_reducible rfl)
          simp only [Act.put, List.setIfInBounds_toArray, List.set_cons_zero, List.set_cons_succ]
          refine wpAnyH_take (i := 20) (oi := { dst := some 51, op := _, type := _, pos := _, after := _, guard := _ }) (v := ?_) rfl (by kernel_rfl) (by kernel_rfl) (by kernel_rfl) (fun _ _ _ h => h) (Or.inl ⟨by rfl, ?_⟩) (hH0) ?_
          rotate_left
          · (intro wx hSw; obtain ⟨q1, q2⟩ := hSw; go_simp <;> with_reducible rfl)
          simp only [Act.put, List.setIfInBounds_toArray, List.set_cons_zero, List.set_cons_succ]
          refine wpAnyH_ready (rs := [6]) (by kernel_rfl) (by simp) ?_
          refine AllReadyH.cons (o := { dst := some 37, op := _, type := _, pos := _, after := _, guard := _ }) rfl (fun K hK => ?_) AllReadyH.nil
          go_simp
          refine WD.out.mono ?_
          rintro e w2 ⟨u, rfl, u0, u1, hr2, hb2⟩
          dsimp only
          refine hK.out _ _ (Duo.mk (Z.out w2 (HBd.out.trans hb2)).1 (Z.out w2 (HBd.out.trans hb2)).2) (fun hH1 => ?_)
          clear hK K
          refine wpAnyH_take (i := 21) (oi := { dst := some 52, op := _, type := _, pos := _, after := _, guard := _ }) (v := ?_) rfl (by kernel_rfl) (by kernel_rfl) (by kernel_rfl) (fun _ _ _ h => h) (Or.inl ⟨by rfl, ?_⟩) (hH1) ?_
          rotate_left
          · (intro wx hSw; obtain ⟨q1, q2⟩ := hSw; go_simp <;> with_reducible rfl)
          simp only [Act.put, List.setIfInBounds_toArray, List.set_cons_zero, List.set_cons_succ]
          refine wpAnyH_take (i := 22) (oi := { dst := some 53, op := _, type := _, pos := _, after := _, guard := _ }) (v := ?_) rfl (by kernel_rfl) (by kernel_rfl) (by kernel_rfl) (fun _ _ _ h => h) (Or.inl ⟨by rfl, ?_⟩) (hH1) ?_
          rotate_left
          · (intro wx hSw; obtain ⟨q1, q2⟩ := hSw; go_simp <;> with_reducible rfl)
          simp only [Act.put, List.setIfInBounds_toArray, List.set_cons_zero, List.set_cons_succ]
          refine wpAnyH_take (i := 23) (oi := { dst := some 54, op := _, type := _, pos := _, after := _, guard := _ }) (v := ?_) rfl (by kernel_rfl) (by kernel_rfl) (by kernel_rfl) (fun _ _ _ h => h) (Or.inl ⟨by rfl, ?_⟩) (hH1) ?_
          rotate_left
          · (intro wx hSw; obtain ⟨q1, q2⟩ := hSw; go_simp <;> with_reducible rfl)
          simp only [Act.put, List.setIfInBounds_toArray, List.set_cons_zero, List.set_cons_succ]
          refine wpAnyH_take (i := 24) (oi := { dst := some 7, op := _, type := _, pos := _, after := _, guard := _ }) (v := ?_) rfl (by kernel_rfl) (by kernel_rfl) (by kernel_rfl) (fun _ _ _ h => h) (Or.inl ⟨by rfl, ?_⟩) (hH1) ?_
          rotate_left
          · (intro wx hSw; obtain ⟨q1, q2⟩ := hSw; go_simp <;> with_reducible rfl)
          simp only [Act.put, List.setIfInBounds_toArray, List.set_cons_zero, List.set_cons_succ]
          refine wpAnyH_done (by kernel_rfl) ?_ _
          -- behind it: go_wp2_with fail, then go_meet (a cut) or go_ret; the condition at the end: hH1
          obtain ⟨y, hy⟩ : ∃ y, IntKind.i64.wrap (lo + IntKind.i64.wrap (u.tmod (IntKind.u64.wrap (if t < 1 then 1 else t)))) = y := ⟨_, rfl⟩
          rw [hy]
          generalize (if t < 1 then (1 : Int) else t) = m at g0 hy ⊢
          have hod : w2.ownsRow w.heap.size 2 1 u5 k (vals F k) := owns_but (show w1.drew.ownsRow w.heap.size 2 1 u5 k (vals F k) from HO1.out) hb2 hltw
          have HO3 := hide hod
          have HB3 := hide (HBd.out.trans hb2)
          have HR3 := hide hr2
          have s3 := HB3.out.size
          clear hod hb2 hr2 HO1
          go_wp2_with (at_builtin; refine wpList_append_own _ rfl _ _ 25 rfl w.heap.size 2 i0 (.int .i64 0) 1 8 Try.underlying25 hi hz0 hz1 hz2 rfl (by decide) _ _ _ rfl (HO3.out.alloc _) ⟨_, 0, none⟩ 1 1 [.int .i64 y] rfl rfl ?c1 ?c2 ?c3 ?c4 ?c5 ?_)
          case c1 => exact one_new _ _ _
          case c2 => intro u hu; simp at hu; subst hu; rfl
          case c3 => unfold maxLen; omega
          case c4 => omega
          case c5 => simp; omega
          intro v' w3 hown2 hgrow _
          rw [vals_snoc] at hown2
          have hB2 := but_app HB3.out HO3.out hgrow
          have hR2 := HR3.out.app hltw hB HO3.out hgrow
          have HO2 := hide hown2
          have HB2 := hide hB2
          have HR2 := hide hR2
          clear hgrow hown2 hB2 hR2
          go_wp2_with fail
          go_roundw
          case rel => exact ⟨k + 1, _, by omega, by go_num, HO2.out, HR2.out, HB2.out⟩
          case measure => simp [intOf]; omega
      · go_wp2_with (at_builtin; refine wpList_append_own _ rfl _ _ 25 rfl w.heap.size 2 i0 (.int .i64 0) 1 8 Try.underlying25 hi hz0 hz1 hz2 rfl (by decide) _ _ _ rfl (HO1.out.alloc _) ⟨_, 0, none⟩ 1 1 [.int .i64 lo] rfl rfl ?c1 ?c2 ?c3 ?c4 ?c5 ?_)
        case c1 => exact one_new _ _ _
        case c2 => intro u hu; simp at hu; subst hu; rfl
        case c3 => unfold maxLen; omega
        case c4 => omega
        case c5 => simp; omega
        intro v' w3 hown2 hgrow _
        rw [vals_snoc] at hown2
        have hB2 := but_app HB1.out HO1.out hgrow
        have hR2 := HR1.out.app hltw hB HO1.out hgrow
        have HO2 := hide hown2
        have HB2 := hide hB2
        have HR2 := hide hR2
        clear hgrow hown2 hB2 hR2
        go_wp2_with fail
        go_roundw
        case rel => exact ⟨k + 1, _, by omega, by go_num, HO2.out, HR2.out, HB2.out⟩
        case measure => simp [intOf]; omega
    · have hkn : k = d := by omega
      subst hkn
      go_wp2_with fail
      go_ret
      exact ⟨_, F, rfl, hown, hr, hbu⟩

set_option maxHeartbeats 2000000 in
theorem drawBoxHas_any (a : Option Addr) (n c : Nat) (w : World) (h : Code w a n) :
    Calls Try.prog 5 #[.slice a n c] w fun e w' => LowPost w e w' := by
  have O := hide (open_any a n c w h)
  clear h
  go_enter Try.func5, Try.ntmps5
  go_wp2_with fail
  refine O.out.mono ?_
  rintro e w1 ⟨rfl, hr1, hb1, hs1⟩
  go_wp2_with fail
  refine (below_any _ _ n c a 4 w1 hr1 (by omega) (by omega)).mono ?_
  rintro e w2 ⟨v, rfl, v0, v1, hr2, hb2⟩
  obtain ⟨d, hd⟩ : ∃ d : Nat, 1 + v = (d : Int) := ⟨(1 + v).toNat, by omega⟩
  have s2 := hb2.size
  have rlt : w.heap.size < w2.heap.size := by omega
  go_wp2_with fail
  refine (box_any _ _ n c a d w2 hr2 (by omega) (by omega)).mono ?_
  rintro e w3 ⟨v3, f3, g3, rfl, ho3, hd3, hr3, hb3⟩
  obtain ⟨q3, c3, rfl, q30, q31⟩ := ho3.form (by omega)
  have s3 := hb3.size
  go_wp2_with fail
  refine (once_any _ _ n c a 2 w3 hr3 (by omega) (by omega)).mono ?_
  rintro e w4 ⟨vo, rfl, hr4, hb4⟩
  have ho4 := owns_but ho3 hb4 rlt
  have s4 := hb4.size
  have B4 : Below w.heap.size w w4 := hb1.trans ((hb2.below (Nat.le_refl _) (by omega)).trans ((hb3.below (Nat.le_refl _) (by omega)).trans (hb4.below (Nat.le_refl _) (by omega))))
  clear ho3 hr3 hb3 hb4
  cases vo
  · go_wp2_with fail
    refine (vec_any _ _ n c a d w4 hr4 (by omega) (by omega)).mono ?_
    rintro e w5 ⟨v5, f5, rfl, ho5, hr5, hb5⟩
    obtain ⟨g5, c5, rfl, _, _⟩ := ho5.form (by omega)
    go_wp2_with fail
    refine (hurtVec_any _ _ n c a d c5 g5 f5 w4 w5 hr5 (by omega) (by omega) hb5 (by omega) (by omega) ho5).mono ?_
    rintro e w6 ⟨v6, d6, f6, rfl, hd6, ho6, hr6, hb6⟩
    obtain ⟨a6, c6, rfl, r6, _⟩ := row_of_owns ho6
    obtain ⟨a3, c3', e3, p3, _⟩ := prow_of_owns (owns_but ho4 hb6 rlt)
    cases e3
    have B1 : Below w.heap.size w w6 := B4.trans (hb6.below (Nat.le_refl _) (by omega))
    clear ho4 hr4 ho5 hr5 hb5 ho6 hr6 hb6
    go_wp2_with fail
    go_ret2
    exact ⟨_, _, _, _, _, _, _, _, _, rfl, p3, hd3, r6, by omega, hd6, B1⟩
  · obtain ⟨a3, c3', e3, p3, hge⟩ := prow_of_owns ho4
    cases e3
    have hcc : ∀ i, i < d → w4.cell? ⟨q3, 0 + i * 2, none⟩ = some (.int .i64 (f3 i)) ∧ w4.cell? ⟨q3, 0 + i * 2 + 1, none⟩ = some (.int .i64 (g3 i)) := by
      rcases p3.lies with h0 | ⟨b, off, e, lt, hc⟩
      · omega
      · cases e; exact hc
    go_wp2_with fail
    refine (rinside_any _ _ n c a q3 0 d c3 f3 g3 w4 hr4 (by omega) (by omega) (by omega) (by omega) hd3 hcc).mono ?_
    rintro e w5 ⟨v5, f5, rfl, ho5, hr5, hb5⟩
    obtain ⟨a5, c5, rfl, r5, _⟩ := row_of_owns ho5
    obtain ⟨a3, c3', e3, p3, _⟩ := prow_of_owns (owns_but ho4 hb5 rlt)
    cases e3
    have B1 : Below w.heap.size w w5 := B4.trans (hb5.below (Nat.le_refl _) (by omega))
    clear ho4 hr4 ho5 hr5 hb5 hcc
    go_wp2_with fail
    go_ret2
    exact ⟨_, _, _, _, _, _, _, _, _, rfl, p3, hd3, r5, by omega, by omega, B1⟩
end Go.Proofs.Ytkjkdafbfcfhfaa
