/- BoxOf of the program at all arguments; of the model. -/
import Derived.Test.YtokodpgodlilmaaZ24
namespace Go.Proofs.Ytokodpgodlilmaa
open Go.RowKit
set_option maxRecDepth 8000
set_option linter.unusedSimpArgs false
set_option linter.unusedVariables false

set_option maxHeartbeats 4000000 in
theorem iBoxOf_any (a : Option Addr) (n cap : Nat) (f g : Nat → Int) (r : RowV) (L1 L2 L3 : List Int) (t : Int) (w : World) (h : PRow w a n f g) (hr : r.is w L1 L2 L3) :
    Calls Try.prog 11 #[.slice a n cap, r.v, .int .i64 t] w fun e w' => IBox w (rowOkB n f g L1 L2 L3 && tierB t) n (boxF f g t (tierL t L1 L2 L3)) (boxG f g t (tierL t L1 L2 L3)) e w' := by
  have PR' := hide (fun w1 (hb : Below w.heap.size w w1) => packRow_any a n cap f g r L1 L2 L3 w1 (h.below hb) (hr.below hb))
  have CL := hide (iCellsOf_any t)
  cases hv : rowOkB n f g L1 L2 L3
  · rw [hv] at PR'
    obtain ⟨a1, a2, a3, m1, m2, m3, k1, k2, k3⟩ := r
    unfold RowV.v at PR' ⊢
    simp only [pkV, if_false, Bool.false_eq_true, Bool.false_and] at PR' ⊢
    clear h hr hv
    go_enter Try.func11, Try.ntmps11
    go_wp2_with fail
    refine (PR'.out _ (by repeat' first | with_reducible exact Below.refl _ _ | with_reducible assumption | with_reducible refine below_drewN ?_ _ | with_reducible refine balloc ?_ _ | with_reducible refine Below.drew ?_ | with_reducible refine Below.setCell ?_ (by first | (simp; done) | (simp; omega) | omega) _ | with_reducible refine bstep ?_ (by assumption))).mono ?_
    rintro e w1 ⟨rfl, hb1⟩
    go_wp2_with fail
    refine bodyPost_ret (v := .tuple #[.slice none 0 0, .bool false]) ?_ rfl ⟨none, 0, rfl, rfl, .inl rfl, (by repeat' first | with_reducible exact Below.refl _ _ | with_reducible assumption | with_reducible refine below_drewN ?_ _ | with_reducible refine balloc ?_ _ | with_reducible refine Below.drew ?_ | with_reducible refine Below.setCell ?_ (by first | (simp; done) | (simp; omega) | omega) _ | with_reducible refine bstep ?_ (by assumption))⟩
    simp [results, Try.results11, go_sem]
  · rw [hv] at PR'
    cases ht : tierB t
    · have hcn : (cellsN t == 0) = true := by
        obtain ⟨x1, x2, x3⟩ := tier_no ht
        simp at x1 x2 x3
        simp [cellsN, x1, x2, x3]
      obtain ⟨a1, a2, a3, m1, m2, m3, k1, k2, k3⟩ := r
      unfold RowV.v at PR' ⊢
      simp only [pkV, if_true, Bool.and_false] at PR' ⊢
      obtain ⟨A, hA⟩ : ∃ x, pA (nth L1) (nth L2) (nth L3) n = x := ⟨_, rfl⟩
      obtain ⟨B, hB⟩ : ∃ x, pB (nth L1) (nth L2) (nth L3) n = x := ⟨_, rfl⟩
      obtain ⟨C, hC⟩ : ∃ x, pC (nth L1) (nth L2) (nth L3) n = x := ⟨_, rfl⟩
      obtain ⟨D, hD⟩ : ∃ x, pD (nth L1) (nth L2) (nth L3) n = x := ⟨_, rfl⟩
      simp only [PK] at PR'
      rw [hA, hB, hC, hD] at PR'
      clear h hr hv ht hA hB hC hD
      generalize cellsN t = c at CL hcn
      go_enter Try.func11, Try.ntmps11
      go_wp2_with fail
      refine (PR'.out _ (by repeat' first | with_reducible exact Below.refl _ _ | with_reducible assumption | with_reducible refine below_drewN ?_ _ | with_reducible refine balloc ?_ _ | with_reducible refine Below.drew ?_ | with_reducible refine Below.setCell ?_ (by first | (simp; done) | (simp; omega) | omega) _ | with_reducible refine bstep ?_ (by assumption))).mono ?_
      rintro e w1 ⟨rfl, hb1⟩
      go_wp2_with fail
      refine (CL.out _).mono ?_
      rintro e w2 ⟨rfl, rfl⟩
      go_wp2_with fail
      refine bodyPost_ret (v := .tuple #[.slice none 0 0, .bool false]) ?_ rfl ⟨none, 0, rfl, rfl, .inl rfl, (by repeat' first | with_reducible exact Below.refl _ _ | with_reducible assumption | with_reducible refine below_drewN ?_ _ | with_reducible refine balloc ?_ _ | with_reducible refine Below.drew ?_ | with_reducible refine Below.setCell ?_ (by first | (simp; done) | (simp; omega) | omega) _ | with_reducible refine bstep ?_ (by assumption))⟩
      simp [results, Try.results11, go_sem]
    · have hv' := hv
      simp only [rowOkB, Bool.and_eq_true, decide_eq_true_eq] at hv'
      have hn8 := boxB_num' hv'.1
      simp only [pkV, if_true] at PR'
      rcases h.lies with q | ⟨b, off, rfl, lt, hc⟩
      · omega
      exact iBoxOf_some b off n cap f g r L1 L2 L3 t w ht hn8.2 hn8.1 lt hc (fun i hi => rowAt_codes (boxB_at' hv'.1 hi) (allN_at hv'.2.2 hi)) PR'

/-- The slice of a row's codes of a tier. -/
def tierV (t : Int) (r : RowV) : Value := if t = 1 then .slice r.a1 r.m1 r.k1 else if t = 2 then .slice r.a2 r.m2 r.k2 else .slice r.a3 r.m3 r.k3

set_option maxHeartbeats 800000 in
theorem l5Tier_any (r : RowV) (t : Int) (w : World) (ht : tierB t = true) :
    Calls Try.prog 72 #[r.v, .int .i64 t] w fun e w' => e = .returned (tierV t r) ∧ Below w.heap.size w w' := by
  obtain ⟨a1, a2, a3, m1, m2, m3, k1, k2, k3⟩ := r
  unfold RowV.v tierV
  rcases tier_cases ht with rfl | rfl | rfl
  all_goals
    simp only [show ((1 : Int) = 1) = True from eq_self _, show ((2 : Int) = 1) = False from by simp, show ((2 : Int) = 2) = True from eq_self _, show ((3 : Int) = 1) = False from by simp, show ((3 : Int) = 2) = False from by simp, if_true, if_false]
    clear ht
    go_enter Try.func72, Try.ntmps72
    go_wp2
    go_ret
    exact ⟨rfl, (by repeat' first | with_reducible exact Below.refl _ _ | with_reducible assumption | with_reducible refine below_drewN ?_ _ | with_reducible refine balloc ?_ _ | with_reducible refine Below.drew ?_ | with_reducible refine Below.setCell ?_ (by first | (simp; done) | (simp; omega) | omega) _ | with_reducible refine bstep ?_ (by assumption))⟩

/-- The answer of the model's l5Box. -/
def SBox (w : World) (n : Nat) (F G : Nat → Int) (e : Ending) (w' : World) : Prop :=
  ∃ a cap, e = .returned (.slice a n cap) ∧ PRow w' a n F G ∧ Below w.heap.size w w'

set_option maxHeartbeats 8000000 in
set_option maxRecDepth 4000 in
theorem l5Box_some (b off n cap : Nat) (f g : Nat → Int) (r : RowV) (bt ot kt : Nat) (L : List Int) (t : Int) (w : World) (h8 : n ≤ 8) (hb : b < w.heap.size) (hbt : bt < w.heap.size)
    (hc : ∀ i, i < n → w.cell? ⟨b, off + i * 2, none⟩ = some (.int .i64 (f i)) ∧ w.cell? ⟨b, off + i * 2 + 1, none⟩ = some (.int .i64 (g i)))
    (hct : ∀ i, i < n → w.cell? ⟨bt, ot + i, none⟩ = some (.int .i64 (nth L i)))
    (TI : Hid (∀ w1, Calls Try.prog 72 #[r.v, .int .i64 t] w1 fun e w' => e = .returned (.slice (some ⟨bt, ot, none⟩) n kt) ∧ Below w1.heap.size w1 w')) :
    Calls Try.prog 42 #[.slice (some ⟨b, off, none⟩) n cap, r.v, .int .i64 t] w fun e w' => SBox w n (boxF f g t L) (boxG f g t L) e w' := by
  obtain ⟨i0, hi, hz0, hz1, hz2⟩ := infoRange_parts
  have HC := hide hc
  have HCT := hide hct
  obtain ⟨a1, a2, a3, m1, m2, m3, k1, k2, k3⟩ := r
  unfold RowV.v at TI ⊢
  simp only at TI ⊢
  have CL := hide (fun (k : Nat) => sCellOf_any (f k) (g k) t (nth L k))
  unfold cellT at CL
  simp only [show ∀ k, cellLo (f k) (g k) t (nth L k) = boxF f g t L k from fun _ => rfl, show ∀ k, cellHi (f k) (g k) t (nth L k) = boxG f g t L k from fun _ => rfl] at CL
  obtain ⟨F, hF⟩ : ∃ F, boxF f g t L = F := ⟨_, rfl⟩
  obtain ⟨G, hG⟩ : ∃ G, boxG f g t L = G := ⟨_, rfl⟩
  rw [hF, hG] at CL ⊢
  clear hc hct hF hG
  go_enter Try.func42, Try.ntmps42
  go_wp2_with fail
  refine (TI.out _).mono ?_
  rintro e w1 ⟨rfl, hw1⟩
  have B1 : Below w.heap.size w w1 := (by repeat' first | with_reducible exact Below.refl _ _ | with_reducible assumption | with_reducible refine below_drewN ?_ _ | with_reducible refine balloc ?_ _ | with_reducible refine Below.drew ?_ | with_reducible refine Below.setCell ?_ (by first | (simp; done) | (simp; omega) | omega) _ | with_reducible refine bstep ?_ (by assumption))
  have HB1 := hide B1
  have lw := B1.size
  clear hw1 B1
  go_wp2_with fail
  go_loopw [8, 9] (fun v i wr => ∃ k : Nat, k ≤ n ∧ i = .int .i64 k ∧ wr.ownsRow w1.heap.size 64 2 v k (pvals F G k) ∧ Below w.heap.size w wr ∧ w1.heap.size ≤ wr.heap.size) (fun _ i _ => n - (intOf i).toNat)
  case atStart =>
    have B1 := HB1.out
    exact ⟨0, Nat.zero_le _, rfl, World.ownsRow_made w1 #[] 0 (Nat.le_refl _) (Nat.zero_le _) rfl, (by repeat' first | with_reducible exact Below.refl _ _ | with_reducible assumption | with_reducible refine below_drewN ?_ _ | with_reducible refine balloc ?_ _ | with_reducible refine Below.drew ?_ | with_reducible refine Below.setCell ?_ (by first | (simp; done) | (simp; omega) | omega) _ | with_reducible refine bstep ?_ (by assumption)), by simp⟩
  case round =>
    clear HB1
    obtain ⟨k, hk, rfl, hown, hbel, hs1⟩ := hrel
    have HO := hide hown
    have HB := hide hbel
    clear hown
    by_cases hlt : k < n
    · have y1 : wr.cell? ⟨b, off + k * 2, none⟩ = some (.int .i64 (f k)) := (hbel.cell (p := ⟨b, off + k * 2, none⟩) hb).trans (HC.out k hlt).1
      have y2 : wr.cell? ⟨b, off + k * 2 + 1, none⟩ = some (.int .i64 (g k)) := (hbel.cell (p := ⟨b, off + k * 2 + 1, none⟩) hb).trans (HC.out k hlt).2
      have y3 : wr.cell? ⟨bt, ot + k, none⟩ = some (.int .i64 (nth L k)) := (hbel.cell (p := ⟨bt, ot + k, none⟩) hbt).trans (HCT.out k hlt)
      have hlt' : (k : Int) < (n : Int) := by omega
      have S0 : Hid (KS wr wr.drew ⟨b, off + k * 2, none⟩ ⟨b, off + k * 2 + 1, none⟩ ⟨bt, ot + k, none⟩ ⟨bt, ot + k, none⟩ (.int .i64 (f k)) (.int .i64 (g k)) (.int .i64 (nth L k)) (.int .i64 (nth L k))) := hide (KS.of (Below.drew (Below.refl _ _)) y1 y2 y3 y3)
      have C := hide (CL.out k)
      obtain ⟨ok, hok⟩ : ∃ v, cellB (f k) (g k) t (nth L k) = v := ⟨_, rfl⟩
      rw [hok] at C
      clear hok hbel
      go_upto_region 6 with fail
      go_cut [10, 11] from 16 to 38 (fun s10 s11 wx => ∃ z, s10 = .pointer (some ⟨z, 0, none⟩) ∧ s11 = .bool ok ∧ wr.heap.size ≤ z ∧ z < wx.heap.size ∧ wx.cell? ⟨z, 0, none⟩ = some (.int .i64 (F k)) ∧ wx.cell? ⟨z, 1, none⟩ = some (.int .i64 (G k)) ∧ Below wr.heap.size wr wx)
      case first =>
        refine wp_region_held_drew (S := fun wx => KS wr wx ⟨b, off + k * 2, none⟩ ⟨b, off + k * 2 + 1, none⟩ ⟨bt, ot + k, none⟩ ⟨bt, ot + k, none⟩ (.int .i64 (f k)) (.int .i64 (g k)) (.int .i64 (nth L k)) (.int .i64 (nth L k))) (by kernel_rfl) (S0.out) (fun hH0 => ?_)
        refine wpAnyH_take (i := 0) (oi := { dst := some 23, op := _, type := _, pos := _, after := _, guard := _ }) (v := ?_) rfl (by kernel_rfl) (by kernel_rfl) (by kernel_rfl) (fun _ _ _ h => h) (Or.inl ⟨by rfl, ?_⟩) (hH0) ?_
        rotate_left
        · (intro wx hSw; obtain ⟨_, q0, q1, q2, q3⟩ := hSw; go_simp <;> with_reducible rfl)
        simp only [Act.put, List.setIfInBounds_toArray, List.set_cons_zero, List.set_cons_succ]
        refine wpAnyH_take (i := 1) (oi := { dst := some 24, op := _, type := _, pos := _, after := _, guard := _ }) (v := ?_) rfl (by kernel_rfl) (by kernel_rfl) (by kernel_rfl) (fun _ _ _ h => h) (Or.inl ⟨by rfl, ?_⟩) (hH0) ?_
        rotate_left
        · (intro wx hSw; obtain ⟨_, q0, q1, q2, q3⟩ := hSw; go_simp <;> with_reducible rfl)
        simp only [Act.put, List.setIfInBounds_toArray, List.set_cons_zero, List.set_cons_succ]
        refine wpAnyH_take (i := 2) (oi := { dst := some 25, op := _, type := _, pos := _, after := _, guard := _ }) (v := ?_) rfl (by kernel_rfl) (by kernel_rfl) (by kernel_rfl) (fun _ _ _ h => h) (Or.inl ⟨by rfl, ?_⟩) (hH0) ?_
        rotate_left
        · (intro wx hSw; obtain ⟨_, q0, q1, q2, q3⟩ := hSw; go_simp <;> with_reducible rfl)
        simp only [Act.put, List.setIfInBounds_toArray, List.set_cons_zero, List.set_cons_succ]
        refine wpAnyH_take (i := 3) (oi := { dst := some 26, op := _, type := _, pos := _, after := _, guard := _ }) (v := ?_) rfl (by kernel_rfl) (by kernel_rfl) (by kernel_rfl) (fun _ _ _ h => h) (Or.inl ⟨by rfl, ?_⟩) (hH0) ?_
        rotate_left
        · (intro wx hSw; obtain ⟨_, q0, q1, q2, q3⟩ := hSw; go_simp <;> with_reducible rfl)
        simp only [Act.put, List.setIfInBounds_toArray, List.set_cons_zero, List.set_cons_succ]
        refine wpAnyH_take (i := 4) (oi := { dst := some 27, op := _, type := _, pos := _, after := _, guard := _ }) (v := ?_) rfl (by kernel_rfl) (by kernel_rfl) (by kernel_rfl) (fun _ _ _ h => h) (Or.inl ⟨by rfl, ?_⟩) (hH0) ?_
        rotate_left
        · (intro wx hSw; obtain ⟨_, q0, q1, q2, q3⟩ := hSw; go_simp <;> with_reducible rfl)
        simp only [Act.put, List.setIfInBounds_toArray, List.set_cons_zero, List.set_cons_succ]
        refine wpAnyH_take (i := 5) (oi := { dst := some 28, op := _, type := _, pos := _, after := _, guard := _ }) (v := ?_) rfl (by kernel_rfl) (by kernel_rfl) (by kernel_rfl) (fun _ _ _ h => h) (Or.inl ⟨by rfl, ?_⟩) (hH0) ?_
        rotate_left
        · (intro wx hSw; obtain ⟨_, q0, q1, q2, q3⟩ := hSw; go_simp <;> with_reducible rfl)
        simp only [Act.put, List.setIfInBounds_toArray, List.set_cons_zero, List.set_cons_succ]
        refine wpAnyH_take (i := 6) (oi := { dst := some 29, op := _, type := _, pos := _, after := _, guard := _ }) (v := ?_) rfl (by kernel_rfl) (by kernel_rfl) (by kernel_rfl) (fun _ _ _ h => h) (Or.inl ⟨by rfl, ?_⟩) (hH0) ?_
        rotate_left
        · (intro wx hSw; obtain ⟨_, q0, q1, q2, q3⟩ := hSw; go_simp <;> with_reducible rfl)
        simp only [Act.put, List.setIfInBounds_toArray, List.set_cons_zero, List.set_cons_succ]
        refine wpAnyH_take (i := 7) (oi := { dst := some 30, op := _, type := _, pos := _, after := _, guard := _ }) (v := ?_) rfl (by kernel_rfl) (by kernel_rfl) (by kernel_rfl) (fun _ _ _ h => h) (Or.inl ⟨by rfl, ?_⟩) (hH0) ?_
        rotate_left
        · (intro wx hSw; obtain ⟨_, q0, q1, q2, q3⟩ := hSw; go_simp <;> with_reducible rfl)
        simp only [Act.put, List.setIfInBounds_toArray, List.set_cons_zero, List.set_cons_succ]
        refine wpAnyH_take (i := 8) (oi := { dst := some 31, op := _, type := _, pos := _, after := _, guard := _ }) (v := ?_) rfl (by kernel_rfl) (by kernel_rfl) (by kernel_rfl) (fun _ _ _ h => h) (Or.inl ⟨by rfl, ?_⟩) (hH0) ?_
        rotate_left
        · (intro wx hSw; obtain ⟨_, q0, q1, q2, q3⟩ := hSw; go_simp <;> with_reducible rfl)
        simp only [Act.put, List.setIfInBounds_toArray, List.set_cons_zero, List.set_cons_succ]
        -- behind it: go_wp2_with fail, then go_meet (a cut) or go_ret; the condition at the end: hH0
        refine wpAnyH_ready (rs := [9, 13]) (by kernel_rfl) (by simp) ?_
        refine AllReadyH.cons (o := { dst := some 32, op := _, type := _, pos := _, after := _, guard := _ }) rfl (fun K hK => ?_) (AllReadyH.cons (o := { dst := some 10, op := _, type := _, pos := _, after := _, guard := _ }) rfl (fun K hK => ?_) AllReadyH.nil)
        · go_simp
          refine (C.out _).mono ?_
          rintro e wa ⟨rfl, hba⟩
          dsimp only
          refine hK.out _ _ (KS.below hH0 hba) (fun hH1 => ?_)
          clear hK K
          refine wpAnyH_take (i := 10) (oi := { dst := some 22, op := _, type := _, pos := _, after := _, guard := _ }) (v := ?_) rfl (by kernel_rfl) (by kernel_rfl) (by kernel_rfl) (fun _ _ _ h => h) (Or.inl ⟨by rfl, ?_⟩) (hH1) ?_
          rotate_left
          · (intro wx hSw; obtain ⟨_, q0, q1, q2, q3⟩ := hSw; go_simp <;> with_reducible rfl)
          simp only [Act.put, List.setIfInBounds_toArray, List.set_cons_zero, List.set_cons_succ]
          refine wpAnyH_take (i := 11) (oi := { dst := some 33, op := _, type := _, pos := _, after := _, guard := _ }) (v := ?_) rfl (by kernel_rfl) (by kernel_rfl) (by kernel_rfl) (fun _ _ _ h => h) (Or.inl ⟨by rfl, ?_⟩) (hH1) ?_
          rotate_left
          · (intro wx hSw; obtain ⟨_, q0, q1, q2, q3⟩ := hSw; go_simp <;> with_reducible rfl)
          simp only [Act.put, List.setIfInBounds_toArray, List.set_cons_zero, List.set_cons_succ]
          refine wpAnyH_take (i := 12) (oi := { dst := some 34, op := _, type := _, pos := _, after := _, guard := _ }) (v := ?_) rfl (by kernel_rfl) (by kernel_rfl) (by kernel_rfl) (fun _ _ _ h => h) (Or.inl ⟨by rfl, ?_⟩) (hH1) ?_
          rotate_left
          · (intro wx hSw; obtain ⟨_, q0, q1, q2, q3⟩ := hSw; go_simp <;> with_reducible rfl)
          simp only [Act.put, List.setIfInBounds_toArray, List.set_cons_zero, List.set_cons_succ]
          refine wpAnyH_ready (rs := [13]) (by kernel_rfl) (by simp) ?_
          refine AllReadyH.cons (o := { dst := some 10, op := _, type := _, pos := _, after := _, guard := _ }) rfl (fun K hK => ?_) AllReadyH.nil
          go_simp
          refine hK.out _ _ (KS.below hH1 (balloc (Below.refl _ _) _)) (fun hH12 => ?_)
          clear hK K
          -- behind it: go_wp2_with fail, then go_meet (a cut) or go_ret; the condition at the end: hH12
          refine wpAnyH_ready (rs := [14]) (by kernel_rfl) (by simp) ?_
          refine AllReadyH.cons (o := { dst := none, op := _, type := _, pos := _, after := _, guard := _ }) rfl (fun K hK => ?_) AllReadyH.nil
          go_simp
          refine hK.out _ _ (KS.below hH1 (balloc (Below.refl _ _) _)) (fun hH50 => ?_)
          clear hK K
          refine wpAnyH_take (i := 15) (oi := { dst := some 11, op := _, type := _, pos := _, after := _, guard := _ }) (v := ?_) rfl (by kernel_rfl) (by kernel_rfl) (by kernel_rfl) (fun _ _ _ h => h) (Or.inl ⟨by rfl, ?_⟩) (hH50) ?_
          rotate_left
          · (intro wx hSw; obtain ⟨_, q0, q1, q2, q3⟩ := hSw; go_simp <;> with_reducible rfl)
          simp only [Act.put, List.setIfInBounds_toArray, List.set_cons_zero, List.set_cons_succ]
          refine wpAnyH_done (by kernel_rfl) ?_ _
          -- behind it: go_wp2_with fail, then go_meet (a cut) or go_ret; the condition at the end: hH50
          go_wp2_with fail
          go_meet
          exact ⟨_, rfl, rfl, hH1.bel.size, by simp, by simp, by simp, hH50.bel⟩
        · go_simp
          refine hK.out _ _ (KS.below hH0 (balloc (Below.refl _ _) _)) (fun hH1 => ?_)
          clear hK K
          refine wpAnyH_ready (rs := [9]) (by kernel_rfl) (by simp) ?_
          refine AllReadyH.cons (o := { dst := some 32, op := _, type := _, pos := _, after := _, guard := _ }) rfl (fun K hK => ?_) AllReadyH.nil
          go_simp
          refine (C.out _).mono ?_
          rintro e w_c32_12 ⟨rfl, hb_c32_12⟩
          dsimp only
          refine hK.out _ _ (KS.below hH1 hb_c32_12) (fun hH12 => ?_)
          clear hK K
          refine wpAnyH_take (i := 10) (oi := { dst := some 22, op := _, type := _, pos := _, after := _, guard := _ }) (v := ?_) rfl (by kernel_rfl) (by kernel_rfl) (by kernel_rfl) (fun _ _ _ h => h) (Or.inl ⟨by rfl, ?_⟩) (hH12) ?_
          rotate_left
          · (intro wx hSw; obtain ⟨_, q0, q1, q2, q3⟩ := hSw; go_simp <;> with_reducible rfl)
          simp only [Act.put, List.setIfInBounds_toArray, List.set_cons_zero, List.set_cons_succ]
          refine wpAnyH_take (i := 11) (oi := { dst := some 33, op := _, type := _, pos := _, after := _, guard := _ }) (v := ?_) rfl (by kernel_rfl) (by kernel_rfl) (by kernel_rfl) (fun _ _ _ h => h) (Or.inl ⟨by rfl, ?_⟩) (hH12) ?_
          rotate_left
          · (intro wx hSw; obtain ⟨_, q0, q1, q2, q3⟩ := hSw; go_simp <;> with_reducible rfl)
          simp only [Act.put, List.setIfInBounds_toArray, List.set_cons_zero, List.set_cons_succ]
          refine wpAnyH_take (i := 12) (oi := { dst := some 34, op := _, type := _, pos := _, after := _, guard := _ }) (v := ?_) rfl (by kernel_rfl) (by kernel_rfl) (by kernel_rfl) (fun _ _ _ h => h) (Or.inl ⟨by rfl, ?_⟩) (hH12) ?_
          rotate_left
          · (intro wx hSw; obtain ⟨_, q0, q1, q2, q3⟩ := hSw; go_simp <;> with_reducible rfl)
          simp only [Act.put, List.setIfInBounds_toArray, List.set_cons_zero, List.set_cons_succ]
          -- behind it: go_wp2_with fail, then go_meet (a cut) or go_ret; the condition at the end: hH12
          have w0 : w_c32_12.cell? ⟨wr.heap.size, 0, none⟩ = some (.int .i64 0) := (hb_c32_12.cell (p := ⟨wr.heap.size, 0, none⟩) (by simp)).trans (by simp [go_sem])
          have w1' : w_c32_12.cell? ⟨wr.heap.size, 1, none⟩ = some (.int .i64 0) := (hb_c32_12.cell (p := ⟨wr.heap.size, 1, none⟩) (by simp)).trans (by simp [go_sem])
          have w2 : w_c32_12.frozen? ⟨wr.heap.size, 0, none⟩ = false := (hb_c32_12.frozen (p := ⟨wr.heap.size, 0, none⟩) (by simp)).trans (by simp [go_sem])
          have w3 : w_c32_12.frozen? ⟨wr.heap.size, 1, none⟩ = false := (hb_c32_12.frozen (p := ⟨wr.heap.size, 1, none⟩) (by simp)).trans (by simp [go_sem])
          refine wpAnyH_ready (rs := [14]) (by kernel_rfl) (by simp) ?_
          refine AllReadyH.cons (o := { dst := none, op := _, type := _, pos := _, after := _, guard := _ }) rfl (fun K hK => ?_) AllReadyH.nil
          go_simp
          refine hK.out _ _ (KS.of ((hH12.bel.setCell (by simp) _).setCell (by simp) _) y1 y2 y3 y3) (fun hH50 => ?_)
          clear hK K
          refine wpAnyH_take (i := 15) (oi := { dst := some 11, op := _, type := _, pos := _, after := _, guard := _ }) (v := ?_) rfl (by kernel_rfl) (by kernel_rfl) (by kernel_rfl) (fun _ _ _ h => h) (Or.inl ⟨by rfl, ?_⟩) (hH50) ?_
          rotate_left
          · (intro wx hSw; obtain ⟨_, q0, q1, q2, q3⟩ := hSw; go_simp <;> with_reducible rfl)
          simp only [Act.put, List.setIfInBounds_toArray, List.set_cons_zero, List.set_cons_succ]
          refine wpAnyH_done (by kernel_rfl) ?_ _
          -- behind it: go_wp2_with fail, then go_meet (a cut) or go_ret; the condition at the end: hH50
          go_wp2_with fail
          go_meet
          have lz : wr.heap.size < w_c32_12.heap.size := by have := hb_c32_12.size; simp at this; omega
          exact ⟨_, rfl, rfl, Nat.le_refl _, by simpa [World.setCell] using lz, by simp [go_sem, w0, w1'], by simp [go_sem, w0, w1'], hH50.bel⟩
      case rest =>
        obtain ⟨z, rfl, rfl, lz, lz', c0, c1, bc⟩ := hcut
        have hsz := bc.size
        have HOc := hide (owns_below HO.out bc)
        have HBc := hide (bstep HB.out bc)
        clear y1 y2 y3 S0 bc
        go_wp2_with (at_builtin; refine wpList_append_own _ rfl _ _ 24 rfl w1.heap.size 64 i0 _ 2 16 Try.underlying24 hi hz0 hz1 hz2 rfl (by decide) _ _ _ rfl (World.ownsRow.alloc HOc.out _) ⟨_, 0, none⟩ 1 1 [.int .i64 (F k), .int .i64 (G k)] rfl rfl ?c1 ?c2 ?c3 ?c4 ?c5 ?_)
        case c1 => exact two_new _ _ _ _
        case c2 => intro u hu; simp at hu; rcases hu with rfl | rfl <;> rfl
        case c3 => unfold maxLen; omega
        case c4 => omega
        case c5 => simp; omega
        intro v' w2 hown2 hgrow _
        have bq := hide (below_appQ (X := w1.heap.size) (w := wc) (hg := hgrow) (hb := balloc' (Below.refl _ _) (by omega) _) (hX := by simp; omega) (hXB := Nat.le_refl _) (ho := World.ownsRow.alloc HOc.out _))
        have HO2 := hide hown2
        clear hgrow hown2
        have s2 := bq.out.size
        go_wp2_with fail
        go_roundw
        case rel => exact ⟨k + 1, by omega, by go_num, HO2.out, (HBc.out).trans (bq.out.mono (by omega)), by omega⟩
        case measure => simp [intOf]; omega
    · obtain rfl : k = n := by omega
      obtain ⟨av, cv, hv, rv, nv⟩ := prow_of_owns HO.out
      subst hv
      clear hbel nv
      go_wp2_with fail
      go_ret
      exact ⟨av, cv, rfl, rv, HB.out⟩
end Go.Proofs.Ytokodpgodlilmaa
