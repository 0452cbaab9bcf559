/- The walk of FnBoxHas. -/
import Derived.Test.YtkjkdafbfcfhfaaLQ
import Derived.Test.YtkjkdafbfcfhfaaEC
import Derived.Deep.RegionHeld3
namespace Go.Proofs.Ytkjkdafbfcfhfaa
open Go.RowKit
set_option linter.unusedSimpArgs false
set_option linter.unusedVariables false

/-- Three cells that are read, of two blocks. -/
structure Tri (w : World) (b o b' o' : Nat) (lo hi x : Int) : Prop where
  lt : b < w.heap.size
  lt' : b' < w.heap.size
  c0 : w.cell? ⟨b, o, none⟩ = some (.int .i64 lo)
  c1 : w.cell? ⟨b, o + 1, none⟩ = some (.int .i64 hi)
  c2 : w.cell? ⟨b', o', none⟩ = some (.int .i64 x)
theorem Tri.below {w w' : World} {b o b' o' : Nat} {lo hi x : Int} (h : Tri w b o b' o' lo hi x) (hb : Below w.heap.size w w') : Tri w' b o b' o' lo hi x :=
  ⟨Nat.lt_of_lt_of_le h.lt hb.size, Nat.lt_of_lt_of_le h.lt' hb.size, (hb.cell (p := ⟨b, o, none⟩) h.lt).trans h.c0, (hb.cell (p := ⟨b, o + 1, none⟩) h.lt).trans h.c1, (hb.cell (p := ⟨b', o', none⟩) h.lt').trans h.c2⟩
theorem Tri.drew {w : World} {b o b' o' : Nat} {lo hi x : Int} (h : Tri w b o b' o' lo hi x) : Tri w.drew b o b' o' lo hi x := ⟨h.lt, h.lt', h.c0, h.c1, h.c2⟩

theorem allN_succ (k : Nat) (p : Nat → Bool) : allN (k + 1) p = (allN k p && p k) := by
  simp [allN, List.range_succ, List.all_append]

set_option maxHeartbeats 8000000 in
set_option maxRecDepth 4000 in
theorem boxHas_walk (a : Option Addr) (n cap : Nat) (zs : List Int) (w : World) (h : IsRow .u8 w a n cap zs) :
    Calls Try.prog 3 #[.slice a n cap] w fun e w' => e = .returned (.bool true) ∧ Below w.heap.size w w' := by
  have BG := hide (big_any a n cap w)
  by_cases hn : n ≤ 1048576
  · rw [decide_eq_false (show ¬ 1048576 < n by omega)] at BG
    have hcode := h.code hn
    have DR := hide (drawBoxHas_any a n cap w hcode)
    clear h hcode
    go_enter Try.func3, Try.ntmps3
    go_wp2_with fail
    refine BG.out.mono ?_
    rintro e w' ⟨rfl, hw⟩
    obtain rfl := hw.symm
    clear BG hw
    go_wp2_with fail
    refine DR.out.mono ?_
    rintro e w1 ⟨a1, n1, c1, f, g, a2, n2, c2, ys, rfl, r1, bd, r2, h1, h2, hb1⟩
    clear DR bd
    have R1 := hide r1
    have R2 := hide r2
    have AI := hide (fun w' (hb' : Below w1.heap.size w1 w') => iBoxHas_any a1 a2 n1 c1 n2 c2 f g ys w' (R1.out.below hb') (R2.out.below hb') (by omega))
    have AS := hide (fun w' (hb' : Below w1.heap.size w1 w') => sBoxHas_any a1 a2 n1 c1 n2 c2 f g ys w' (R1.out.below hb') (R2.out.below hb') (by omega) (by omega))
    have OI := hide (fun w' (hb' : Below w1.heap.size w1 w') => iBoxOk_any a1 n1 c1 f g w' (R1.out.below hb'))
    have OS := hide (fun w' (hb' : Below w1.heap.size w1 w') => sBoxOk_any a1 n1 c1 f g w' (R1.out.below hb') (by omega))
    have VS := hide (fun w' (hb' : Below w1.heap.size w1 w') => sVecOk_any a2 n2 c2 ys w' (R2.out.below hb') (by omega))
    have hD : (boxB n1 f g = false) ∨ (boxB n1 f g = true ∧ vecOkB ys = false) ∨ (boxB n1 f g = true ∧ vecOkB ys = true ∧ ((n1 : Int) != (n2 : Int)) = true) ∨ (boxB n1 f g = true ∧ vecOkB ys = true ∧ n1 = n2) := by
      cases hx : boxB n1 f g
      · exact .inl rfl
      · cases hy : vecOkB ys
        · exact .inr (.inl ⟨rfl, rfl⟩)
        · by_cases he : n1 = n2
          · exact .inr (.inr (.inr ⟨rfl, rfl, he⟩))
          · exact .inr (.inr (.inl ⟨rfl, rfl, by rw [bne_iff_ne]; omega⟩))
    obtain ⟨hv, hhv⟩ : ∃ hv, boxHasB n1 f g n2 ys = hv := ⟨_, rfl⟩
    have HHV := hide hhv
    rw [hhv] at AI AS
    have e1 : (hv != hv) = false := by cases hv <;> rfl
    have e2 : (hv == hv) = true := by cases hv <;> rfl
    clear r1 r2 hhv
    rcases hD with hx | ⟨hx, hy⟩ | ⟨hx, hy, hne⟩ | ⟨hx, hy, he⟩
    · rw [hx] at OI OS
      clear hx
      go_wp2_with fail
      refine (AI.out _ (by repeat' first | with_reducible exact Below.refl _ _ | with_reducible assumption | with_reducible refine below_drewN ?_ _ | with_reducible refine balloc ?_ _ | with_reducible refine Below.drew ?_ | with_reducible refine Below.setCell ?_ (by first | (simp; done) | (simp; omega) | omega) _ | with_reducible refine bstep ?_ (by assumption))).mono ?_
      rintro e w2 ⟨rfl, hb2⟩
      go_wp2_with fail
      refine (AS.out _ hb2).mono ?_
      rintro e w3 ⟨rfl, hb3⟩
      have k3 := bstep hb2 hb3
      go_wp2_with fail
      refine (OI.out _ k3).mono ?_
      rintro e w4 ⟨rfl, hb4⟩
      have k4 := bstep k3 hb4
      go_wp2_with fail
      refine (OS.out _ k4).mono ?_
      rintro e w5 ⟨rfl, hb5⟩
      have k5 := bstep k4 hb5
      go_wp2_with fail
      refine (OS.out _ k5).mono ?_
      rintro e w6 ⟨rfl, hb6⟩
      have k6 := bstep k5 hb6
      go_wp2_with fail
      refine (AS.out _ k6).mono ?_
      rintro e w8 ⟨rfl, hb8⟩
      have k8 := bstep k6 hb8
      go_wp2_with fail
      refine (OI.out _ k8).mono ?_
      rintro e w9 ⟨rfl, hb9⟩
      have k9 := bstep k8 hb9
      go_wp2_with fail
      refine (OS.out _ k9).mono ?_
      rintro e w10 ⟨rfl, hb10⟩
      have k10 := bstep hb1 (bstep k9 hb10)
      go_wp2_with fail
      go_ret
      exact ⟨rfl, k10⟩
    · rw [hx] at OI OS
      rw [hy] at VS
      clear hx hy
      go_wp2_with fail
      refine (AI.out _ (by repeat' first | with_reducible exact Below.refl _ _ | with_reducible assumption | with_reducible refine below_drewN ?_ _ | with_reducible refine balloc ?_ _ | with_reducible refine Below.drew ?_ | with_reducible refine Below.setCell ?_ (by first | (simp; done) | (simp; omega) | omega) _ | with_reducible refine bstep ?_ (by assumption))).mono ?_
      rintro e w2 ⟨rfl, hb2⟩
      go_wp2_with fail
      refine (AS.out _ hb2).mono ?_
      rintro e w3 ⟨rfl, hb3⟩
      have k3 := bstep hb2 hb3
      go_wp2_with fail
      refine (OI.out _ k3).mono ?_
      rintro e w4 ⟨rfl, hb4⟩
      have k4 := bstep k3 hb4
      go_wp2_with fail
      refine (OS.out _ k4).mono ?_
      rintro e w5 ⟨rfl, hb5⟩
      have k5 := bstep k4 hb5
      go_wp2_with fail
      refine (OS.out _ k5).mono ?_
      rintro e w6 ⟨rfl, hb6⟩
      have k6 := bstep k5 hb6
      go_wp2_with fail
      refine (VS.out _ k6).mono ?_
      rintro e w7 ⟨rfl, hw7⟩
      obtain rfl := hw7.symm
      go_wp2_with fail
      refine (AS.out _ k6).mono ?_
      rintro e w8 ⟨rfl, hb8⟩
      have k8 := bstep k6 hb8
      go_wp2_with fail
      refine (OI.out _ k8).mono ?_
      rintro e w9 ⟨rfl, hb9⟩
      have k9 := bstep k8 hb9
      go_wp2_with fail
      refine (OS.out _ k9).mono ?_
      rintro e w10 ⟨rfl, hb10⟩
      have k10 := bstep hb1 (bstep k9 hb10)
      go_wp2_with fail
      go_ret
      exact ⟨rfl, k10⟩
    · rw [hx] at OI OS
      rw [hy] at VS
      clear hx hy
      go_wp2_with fail
      refine (AI.out _ (by repeat' first | with_reducible exact Below.refl _ _ | with_reducible assumption | with_reducible refine below_drewN ?_ _ | with_reducible refine balloc ?_ _ | with_reducible refine Below.drew ?_ | with_reducible refine Below.setCell ?_ (by first | (simp; done) | (simp; omega) | omega) _ | with_reducible refine bstep ?_ (by assumption))).mono ?_
      rintro e w2 ⟨rfl, hb2⟩
      go_wp2_with fail
      refine (AS.out _ hb2).mono ?_
      rintro e w3 ⟨rfl, hb3⟩
      have k3 := bstep hb2 hb3
      go_wp2_with fail
      refine (OI.out _ k3).mono ?_
      rintro e w4 ⟨rfl, hb4⟩
      have k4 := bstep k3 hb4
      go_wp2_with fail
      refine (OS.out _ k4).mono ?_
      rintro e w5 ⟨rfl, hb5⟩
      have k5 := bstep k4 hb5
      go_wp2_with fail
      refine (OS.out _ k5).mono ?_
      rintro e w6 ⟨rfl, hb6⟩
      have k6 := bstep k5 hb6
      go_wp2_with fail
      refine (VS.out _ k6).mono ?_
      rintro e w7 ⟨rfl, hw7⟩
      obtain rfl := hw7.symm
      go_wp2_with fail
      refine (AS.out _ k6).mono ?_
      rintro e w8 ⟨rfl, hb8⟩
      have k8 := bstep k6 hb8
      go_wp2_with fail
      refine (OI.out _ k8).mono ?_
      rintro e w9 ⟨rfl, hb9⟩
      have k9 := bstep k8 hb9
      go_wp2_with fail
      refine (OS.out _ k9).mono ?_
      rintro e w10 ⟨rfl, hb10⟩
      have k10 := bstep hb1 (bstep k9 hb10)
      go_wp2_with fail
      go_ret
      exact ⟨rfl, k10⟩
    · rw [hx] at OI OS
      rw [hy] at VS
      have hn8 := boxB_num' hx
      have hee : ((n1 : Int) != (n2 : Int)) = false := by subst he; simp
      have HX := hide hx
      have hva : allN n1 (fun i => hasB (f i) (g i) (nth ys i)) = hv := by
        have := HHV.out
        unfold boxHasB formB at this
        rw [hx, hy, decide_eq_true he] at this
        simpa [hasN] using this
      have HVA := hide hva
      have HE := hide he
      clear hx hy hva he
      go_wp2_with fail
      refine (AI.out _ (by repeat' first | with_reducible exact Below.refl _ _ | with_reducible assumption | with_reducible refine below_drewN ?_ _ | with_reducible refine balloc ?_ _ | with_reducible refine Below.drew ?_ | with_reducible refine Below.setCell ?_ (by first | (simp; done) | (simp; omega) | omega) _ | with_reducible refine bstep ?_ (by assumption))).mono ?_
      rintro e w2 ⟨rfl, hb2⟩
      go_wp2_with fail
      refine (AS.out _ hb2).mono ?_
      rintro e w3 ⟨rfl, hb3⟩
      have k3 := bstep hb2 hb3
      go_wp2_with fail
      refine (OI.out _ k3).mono ?_
      rintro e w4 ⟨rfl, hb4⟩
      have k4 := bstep k3 hb4
      go_wp2_with fail
      refine (OS.out _ k4).mono ?_
      rintro e w5 ⟨rfl, hb5⟩
      have k5 := bstep k4 hb5
      go_wp2_with fail
      refine (OS.out _ k5).mono ?_
      rintro e w6 ⟨rfl, hb6⟩
      have k6 := bstep k5 hb6
      go_wp2_with fail
      refine (VS.out _ k6).mono ?_
      rintro e w7 ⟨rfl, hw7⟩
      obtain rfl := hw7.symm
      have K6 := hide k6
      have BW := hide hb1
      have p1 := R1.out.below k6
      have p2 := R2.out.below k6
      obtain ⟨b, off, ea, lb, hc⟩ : ∃ b off, a1 = some ⟨b, off, none⟩ ∧ b < w6.heap.size ∧ ∀ i, i < n1 → w6.cell? ⟨b, off + i * 2, none⟩ = some (.int .i64 (f i)) ∧ w6.cell? ⟨b, off + i * 2 + 1, none⟩ = some (.int .i64 (g i)) := by
        rcases p1.lies with q | q
        · omega
        · exact q
      obtain ⟨b', off', ea', lb', hc'⟩ : ∃ b off, a2 = some ⟨b, off, none⟩ ∧ b < w6.heap.size ∧ ∀ i, i < n2 → w6.cell? ⟨b, off + i, none⟩ = some (.int .i64 (nth ys i)) := by
        rcases p2.lies with q | q
        · have := HE.out; omega
        · exact q
      have HC := hide hc
      have HC' := hide hc'
      clear hb2 hb3 hb4 hb5 hb6 k3 k4 k5 k6 p1 p2 hc hc' AI AS OI OS VS
      subst ea ea'
      go_wp2_with fail
      go_loopw [6, 7] (fun s i wr => ∃ k : Nat, k ≤ n1 ∧ i = .int .i64 k ∧ s = .bool (allN k (fun i => hasB (f i) (g i) (nth ys i))) ∧ Below w6.heap.size w6 wr) (fun _ i _ => n1 - (intOf i).toNat)
      case atStart => exact ⟨0, Nat.zero_le _, rfl, rfl, (by repeat' first | with_reducible exact Below.refl _ _ | with_reducible assumption | with_reducible refine below_drewN ?_ _ | with_reducible refine balloc ?_ _ | with_reducible refine Below.drew ?_ | with_reducible refine Below.setCell ?_ (by first | (simp; done) | (simp; omega) | omega) _ | with_reducible refine bstep ?_ (by assumption))⟩
      case round =>
        obtain ⟨k, hk, rfl, rfl, hbel⟩ := hrel
        by_cases hlt : k < n1
        · have tr : Tri wr b (off + k * 2) b' (off' + k) (f k) (g k) (nth ys k) := ⟨Nat.lt_of_lt_of_le lb hbel.size, Nat.lt_of_lt_of_le lb' hbel.size, (hbel.cell (p := ⟨b, off + k * 2, none⟩) lb).trans (HC.out k hlt).1, (hbel.cell (p := ⟨b, off + k * 2 + 1, none⟩) lb).trans (HC.out k hlt).2, (hbel.cell (p := ⟨b', off' + k, none⟩) lb').trans (HC'.out k (by have := HE.out; omega))⟩
          have hlt1 : (k : Int) < (n1 : Int) := by omega
          have hlt2 : (k : Int) < (n2 : Int) := by have := HE.out; omega
          have HS := hide (allN_succ k (fun i => hasB (f i) (g i) (nth ys i)))
          have HB := hide hbel
          clear hbel
          obtain ⟨r, hr⟩ : ∃ r, hasB (f k) (g k) (nth ys k) = r := ⟨_, rfl⟩
          have RH := hide (iRangeHas_any (f k) (g k) (nth ys k))
          rw [hr] at RH
          obtain ⟨s0, hs0⟩ : ∃ s0, allN k (fun i => hasB (f i) (g i) (nth ys i)) = s0 := ⟨_, rfl⟩
          have HS : Hid (allN (k + 1) (fun i => hasB (f i) (g i) (nth ys i)) = (s0 && r)) := by rw [← hs0, ← hr]; exact HS
          rw [hs0]
          clear hs0 hr
          obtain ⟨lo, hlo⟩ : ∃ lo, f k = lo := ⟨_, rfl⟩
          obtain ⟨hi', hhi⟩ : ∃ hi', g k = hi' := ⟨_, rfl⟩
          obtain ⟨x, hx⟩ : ∃ x, nth ys k = x := ⟨_, rfl⟩
          rw [hlo, hhi, hx] at tr RH
          clear hlo hhi hx
          have TR := hide tr
          clear tr
          cases s0
          · go_upto_region 11 with fail
            refine wp_region_held_drew (S := fun wx => Tri wx b (off + k * 2) b' (off' + k) lo hi' x) (by kernel_rfl) (TR.out.drew) (fun hH0 => ?_)
            refine wpAnyH_take (i := 0) (oi := { dst := some 65, op := _, type := _, pos := _, after := _, guard := _ }) (v := ?_) rfl (by kernel_rfl) (by kernel_rfl) (by kernel_rfl) (fun _ _ _ h => h) (Or.inl ⟨by rfl, ?_⟩) (hH0) ?_
            rotate_left
            · (intro wx hSw; obtain ⟨_, _, q1, q2, q3⟩ := hSw; go_simp <;> with_reducible rfl)
            simp only [Act.put, List.setIfInBounds_toArray, List.set_cons_zero, List.set_cons_succ]
            refine wpAnyH_take (i := 1) (oi := { dst := some 66, op := _, type := _, pos := _, after := _, guard := _ }) (v := ?_) rfl (by kernel_rfl) (by kernel_rfl) (by kernel_rfl) (fun _ _ _ h => h) (Or.inl ⟨by rfl, ?_⟩) (hH0) ?_
            rotate_left
            · (intro wx hSw; obtain ⟨_, _, q1, q2, q3⟩ := hSw; go_simp <;> with_reducible rfl)
            simp only [Act.put, List.setIfInBounds_toArray, List.set_cons_zero, List.set_cons_succ]
            refine wpAnyH_take (i := 2) (oi := { dst := some 67, op := _, type := _, pos := _, after := _, guard := _ }) (v := _) rfl (by kernel_rfl) (by kernel_rfl) (by kernel_rfl) (fun _ _ _ h => h) (Or.inr ⟨by rfl, rfl⟩) (hH0) ?_
            simp only [Act.put, List.setIfInBounds_toArray, List.set_cons_zero, List.set_cons_succ]
            refine wpAnyH_take (i := 3) (oi := { dst := some 68, op := _, type := _, pos := _, after := _, guard := _ }) (v := _) rfl (by kernel_rfl) (by kernel_rfl) (by kernel_rfl) (fun _ _ _ h => h) (Or.inr ⟨by rfl, rfl⟩) (hH0) ?_
            simp only [Act.put, List.setIfInBounds_toArray, List.set_cons_zero, List.set_cons_succ]
            refine wpAnyH_take (i := 4) (oi := { dst := some 69, op := _, type := _, pos := _, after := _, guard := _ }) (v := _) rfl (by kernel_rfl) (by kernel_rfl) (by kernel_rfl) (fun _ _ _ h => h) (Or.inr ⟨by rfl, rfl⟩) (hH0) ?_
            simp only [Act.put, List.setIfInBounds_toArray, List.set_cons_zero, List.set_cons_succ]
            refine wpAnyH_take (i := 5) (oi := { dst := some 70, op := _, type := _, pos := _, after := _, guard := _ }) (v := _) rfl (by kernel_rfl) (by kernel_rfl) (by kernel_rfl) (fun _ _ _ h => h) (Or.inr ⟨by rfl, rfl⟩) (hH0) ?_
            simp only [Act.put, List.setIfInBounds_toArray, List.set_cons_zero, List.set_cons_succ]
            refine wpAnyH_take (i := 6) (oi := { dst := some 71, op := _, type := _, pos := _, after := _, guard := _ }) (v := _) rfl (by kernel_rfl) (by kernel_rfl) (by kernel_rfl) (fun _ _ _ h => h) (Or.inr ⟨by rfl, rfl⟩) (hH0) ?_
            simp only [Act.put, List.setIfInBounds_toArray, List.set_cons_zero, List.set_cons_succ]
            refine wpAnyH_take (i := 7) (oi := { dst := some 72, op := _, type := _, pos := _, after := _, guard := _ }) (v := _) rfl (by kernel_rfl) (by kernel_rfl) (by kernel_rfl) (fun _ _ _ h => h) (Or.inr ⟨by rfl, rfl⟩) (hH0) ?_
            simp only [Act.put, List.setIfInBounds_toArray, List.set_cons_zero, List.set_cons_succ]
            refine wpAnyH_take (i := 8) (oi := { dst := some 73, op := _, type := _, pos := _, after := _, guard := _ }) (v := _) rfl (by kernel_rfl) (by kernel_rfl) (by kernel_rfl) (fun _ _ _ h => h) (Or.inr ⟨by rfl, rfl⟩) (hH0) ?_
            simp only [Act.put, List.setIfInBounds_toArray, List.set_cons_zero, List.set_cons_succ]
            refine wpAnyH_take (i := 9) (oi := { dst := some 74, op := _, type := _, pos := _, after := _, guard := _ }) (v := _) rfl (by kernel_rfl) (by kernel_rfl) (by kernel_rfl) (fun _ _ _ h => h) (Or.inr ⟨by rfl, rfl⟩) (hH0) ?_
            simp only [Act.put, List.setIfInBounds_toArray, List.set_cons_zero, List.set_cons_succ]
            refine wpAnyH_take (i := 10) (oi := { dst := some 75, op := _, type := _, pos := _, after := _, guard := _ }) (v := _) rfl (by kernel_rfl) (by kernel_rfl) (by kernel_rfl) (fun _ _ _ h => h) (Or.inr ⟨by rfl, rfl⟩) (hH0) ?_
            simp only [Act.put, List.setIfInBounds_toArray, List.set_cons_zero, List.set_cons_succ]
            refine wpAnyH_take (i := 11) (oi := { dst := some 76, op := _, type := _, pos := _, after := _, guard := _ }) (v := ?_) rfl (by kernel_rfl) (by kernel_rfl) (by kernel_rfl) (fun _ _ _ h => h) (Or.inl ⟨by rfl, ?_⟩) (hH0) ?_
            rotate_left
            · (intro wx hSw; obtain ⟨_, _, q1, q2, q3⟩ := hSw; go_simp <;> with_reducible rfl)
            simp only [Act.put, List.setIfInBounds_toArray, List.set_cons_zero, List.set_cons_succ]
            refine wpAnyH_take (i := 12) (oi := { dst := some 6, op := _, type := _, pos := _, after := _, guard := _ }) (v := ?_) rfl (by kernel_rfl) (by kernel_rfl) (by kernel_rfl) (fun _ _ _ h => h) (Or.inl ⟨by rfl, ?_⟩) (hH0) ?_
            rotate_left
            · (intro wx hSw; obtain ⟨_, _, q1, q2, q3⟩ := hSw; go_simp <;> with_reducible rfl)
            simp only [Act.put, List.setIfInBounds_toArray, List.set_cons_zero, List.set_cons_succ]
            refine wpAnyH_done (by kernel_rfl) ?_ _
            -- behind it: go_wp2_with fail, then go_meet (a cut) or go_ret; the condition at the end: hH0
            go_wp2_with fail
            go_roundw
            case rel =>
              have hbel := HB.out
              exact ⟨k + 1, by omega, by go_num, by rw [HS.out]; rfl, (by repeat' first | with_reducible exact Below.refl _ _ | with_reducible assumption | with_reducible refine below_drewN ?_ _ | with_reducible refine balloc ?_ _ | with_reducible refine Below.drew ?_ | with_reducible refine Below.setCell ?_ (by first | (simp; done) | (simp; omega) | omega) _ | with_reducible refine bstep ?_ (by assumption))⟩
            case measure => simp [intOf]; omega
          · go_upto_region 11 with fail
            refine wp_region_held_drew (S := fun wx => Tri wx b (off + k * 2) b' (off' + k) lo hi' x) (by kernel_rfl) (TR.out.drew) (fun hH0 => ?_)
            refine wpAnyH_take (i := 0) (oi := { dst := some 65, op := _, type := _, pos := _, after := _, guard := _ }) (v := ?_) rfl (by kernel_rfl) (by kernel_rfl) (by kernel_rfl) (fun _ _ _ h => h) (Or.inl ⟨by rfl, ?_⟩) (hH0) ?_
            rotate_left
            · (intro wx hSw; obtain ⟨_, _, q1, q2, q3⟩ := hSw; go_simp <;> with_reducible rfl)
            simp only [Act.put, List.setIfInBounds_toArray, List.set_cons_zero, List.set_cons_succ]
            refine wpAnyH_take (i := 1) (oi := { dst := some 66, op := _, type := _, pos := _, after := _, guard := _ }) (v := ?_) rfl (by kernel_rfl) (by kernel_rfl) (by kernel_rfl) (fun _ _ _ h => h) (Or.inl ⟨by rfl, ?_⟩) (hH0) ?_
            rotate_left
            · (intro wx hSw; obtain ⟨_, _, q1, q2, q3⟩ := hSw; go_simp <;> with_reducible rfl)
            simp only [Act.put, List.setIfInBounds_toArray, List.set_cons_zero, List.set_cons_succ]
            refine wpAnyH_take (i := 2) (oi := { dst := some 67, op := _, type := _, pos := _, after := _, guard := _ }) (v := ?_) rfl (by kernel_rfl) (by kernel_rfl) (by kernel_rfl) (fun _ _ _ h => h) (Or.inl ⟨by rfl, ?_⟩) (hH0) ?_
            rotate_left
            · (intro wx hSw; obtain ⟨_, _, q1, q2, q3⟩ := hSw; go_simp <;> with_reducible rfl)
            simp only [Act.put, List.setIfInBounds_toArray, List.set_cons_zero, List.set_cons_succ]
            refine wpAnyH_take (i := 3) (oi := { dst := some 68, op := _, type := _, pos := _, after := _, guard := _ }) (v := ?_) rfl (by kernel_rfl) (by kernel_rfl) (by kernel_rfl) (fun _ _ _ h => h) (Or.inl ⟨by rfl, ?_⟩) (hH0) ?_
            rotate_left
            · (intro wx hSw; obtain ⟨_, _, q1, q2, q3⟩ := hSw; go_simp <;> with_reducible rfl)
            simp only [Act.put, List.setIfInBounds_toArray, List.set_cons_zero, List.set_cons_succ]
            refine wpAnyH_take (i := 4) (oi := { dst := some 69, op := _, type := _, pos := _, after := _, guard := _ }) (v := ?_) rfl (by kernel_rfl) (by kernel_rfl) (by kernel_rfl) (fun _ _ _ h => h) (Or.inl ⟨by rfl, ?_⟩) (hH0) ?_
            rotate_left
            · (intro wx hSw; obtain ⟨_, _, q1, q2, q3⟩ := hSw; go_simp <;> with_reducible rfl)
            simp only [Act.put, List.setIfInBounds_toArray, List.set_cons_zero, List.set_cons_succ]
            refine wpAnyH_take (i := 5) (oi := { dst := some 70, op := _, type := _, pos := _, after := _, guard := _ }) (v := ?_) rfl (by kernel_rfl) (by kernel_rfl) (by kernel_rfl) (fun _ _ _ h => h) (Or.inl ⟨by rfl, ?_⟩) (hH0) ?_
            rotate_left
            · (intro wx hSw; obtain ⟨_, _, q1, q2, q3⟩ := hSw; go_simp <;> with_reducible rfl)
            simp only [Act.put, List.setIfInBounds_toArray, List.set_cons_zero, List.set_cons_succ]
            refine wpAnyH_take (i := 6) (oi := { dst := some 71, op := _, type := _, pos := _, after := _, guard := _ }) (v := ?_) rfl (by kernel_rfl) (by kernel_rfl) (by kernel_rfl) (fun _ _ _ h => h) (Or.inl ⟨by rfl, ?_⟩) (hH0) ?_
            rotate_left
            · (intro wx hSw; obtain ⟨_, _, q1, q2, q3⟩ := hSw; go_simp <;> with_reducible rfl)
            simp only [Act.put, List.setIfInBounds_toArray, List.set_cons_zero, List.set_cons_succ]
            refine wpAnyH_take (i := 7) (oi := { dst := some 72, op := _, type := _, pos := _, after := _, guard := _ }) (v := ?_) rfl (by kernel_rfl) (by kernel_rfl) (by kernel_rfl) (fun _ _ _ h => h) (Or.inl ⟨by rfl, ?_⟩) (hH0) ?_
            rotate_left
            · (intro wx hSw; obtain ⟨_, _, q1, q2, q3⟩ := hSw; go_simp <;> with_reducible rfl)
            simp only [Act.put, List.setIfInBounds_toArray, List.set_cons_zero, List.set_cons_succ]
            refine wpAnyH_take (i := 8) (oi := { dst := some 73, op := _, type := _, pos := _, after := _, guard := _ }) (v := ?_) rfl (by kernel_rfl) (by kernel_rfl) (by kernel_rfl) (fun _ _ _ h => h) (Or.inl ⟨by rfl, ?_⟩) (hH0) ?_
            rotate_left
            · (intro wx hSw; obtain ⟨_, _, q1, q2, q3⟩ := hSw; go_simp <;> with_reducible rfl)
            simp only [Act.put, List.setIfInBounds_toArray, List.set_cons_zero, List.set_cons_succ]
            refine wpAnyH_take (i := 9) (oi := { dst := some 74, op := _, type := _, pos := _, after := _, guard := _ }) (v := ?_) rfl (by kernel_rfl) (by kernel_rfl) (by kernel_rfl) (fun _ _ _ h => h) (Or.inl ⟨by rfl, ?_⟩) (hH0) ?_
            rotate_left
            · (intro wx hSw; obtain ⟨_, _, q1, q2, q3⟩ := hSw; go_simp <;> with_reducible rfl)
            simp only [Act.put, List.setIfInBounds_toArray, List.set_cons_zero, List.set_cons_succ]
            refine wpAnyH_ready (rs := [10]) (by kernel_rfl) (by simp) ?_
            refine AllReadyH.cons (o := { dst := some 75, op := _, type := _, pos := _, after := _, guard := _ }) rfl (fun K hK => ?_) AllReadyH.nil
            go_simp
            refine (RH.out _).mono ?_
            rintro e w_c75_1 ⟨rfl, hb_c75_1⟩
            dsimp only
            refine hK.out _ _ (Tri.below hH0 hb_c75_1) (fun hH1 => ?_)
            clear hK K
            refine wpAnyH_take (i := 11) (oi := { dst := some 76, op := _, type := _, pos := _, after := _, guard := _ }) (v := ?_) rfl (by kernel_rfl) (by kernel_rfl) (by kernel_rfl) (fun _ _ _ h => h) (Or.inl ⟨by rfl, ?_⟩) (hH1) ?_
            rotate_left
            · (intro wx hSw; obtain ⟨_, _, q1, q2, q3⟩ := hSw; go_simp <;> with_reducible rfl)
            simp only [Act.put, List.setIfInBounds_toArray, List.set_cons_zero, List.set_cons_succ]
            refine wpAnyH_take (i := 12) (oi := { dst := some 6, op := _, type := _, pos := _, after := _, guard := _ }) (v := ?_) rfl (by kernel_rfl) (by kernel_rfl) (by kernel_rfl) (fun _ _ _ h => h) (Or.inl ⟨by rfl, ?_⟩) (hH1) ?_
            rotate_left
            · (intro wx hSw; obtain ⟨_, _, q1, q2, q3⟩ := hSw; go_simp <;> with_reducible rfl)
            simp only [Act.put, List.setIfInBounds_toArray, List.set_cons_zero, List.set_cons_succ]
            refine wpAnyH_done (by kernel_rfl) ?_ _
            -- behind it: go_wp2_with fail, then go_meet (a cut) or go_ret; the condition at the end: hH1
            go_wp2_with fail
            go_roundw
            case rel =>
              have hbel := HB.out
              exact ⟨k + 1, by omega, by go_num, by rw [HS.out]; simp, (by repeat' first | with_reducible exact Below.refl _ _ | with_reducible assumption | with_reducible refine below_drewN ?_ _ | with_reducible refine balloc ?_ _ | with_reducible refine Below.drew ?_ | with_reducible refine Below.setCell ?_ (by first | (simp; done) | (simp; omega) | omega) _ | with_reducible refine bstep ?_ (by assumption))⟩
            case measure => simp [intOf]; omega
        · obtain rfl : k = n1 := by omega
          have hva := HVA.out
          rw [hva]
          clear hva
          have hBw := BW.out
          have hk6 := K6.out
          go_wp2_with fail
          go_ret
          exact ⟨rfl, (by repeat' first | with_reducible exact Below.refl _ _ | with_reducible assumption | with_reducible refine below_drewN ?_ _ | with_reducible refine balloc ?_ _ | with_reducible refine Below.drew ?_ | with_reducible refine Below.setCell ?_ (by first | (simp; done) | (simp; omega) | omega) _ | with_reducible refine bstep ?_ (by assumption))⟩
  · rw [decide_eq_true (show 1048576 < n by omega)] at BG
    go_enter Try.func3, Try.ntmps3
    go_wp2_with fail
    refine BG.out.mono ?_
    rintro e w' ⟨rfl, rfl⟩
    go_wp2
    go_ret
    exact ⟨rfl, (by repeat' first | with_reducible exact Below.refl _ _ | with_reducible assumption | with_reducible refine below_drewN ?_ _ | with_reducible refine balloc ?_ _ | with_reducible refine Below.drew ?_ | with_reducible refine Below.setCell ?_ (by first | (simp; done) | (simp; omega) | omega) _ | with_reducible refine bstep ?_ (by assumption))⟩
end Go.Proofs.Ytkjkdafbfcfhfaa
