/- HeapOk of the program. -/
import Derived.Test.YtkonckgapicdfaaHC
import Derived.Deep.RegionHeld3
namespace Go.Proofs.Ytkonckgapicdfaa
open Go.RowKit
set_option maxRecDepth 8000
set_option linter.unusedSimpArgs false
set_option linter.unusedVariables false

theorem lessB_self (i d : Int) : lessB i d i d = false := by unfold lessB; simp

/-- A place of a heap is right: a Near, and not greater than the one above it. -/
def heapAt (f g : Nat → Int) (i : Nat) : Bool := nearB (f i) (g i) && !lessB (f ((i - 1) / 2)) (g ((i - 1) / 2)) (f i) (g i)
def heapB (K : Int) (n : Nat) (f g : Nat → Int) : Bool := inB K 1 20 && decide ((n : Int) ≤ K) && allN n (heapAt f g)

/-- The cells that a look at one place of a heap reads: the heap's box, the Near above, the Near's own box. -/
structure HV (w : World) (hb b off n cap p nb : Nat) (pi pd ki kd : Int) : Prop where
  l0 : hb < w.heap.size
  l1 : b < w.heap.size
  l2 : nb < w.heap.size
  c0 : w.cell? ⟨hb, 1, none⟩ = some (.slice (some ⟨b, off, none⟩) n cap)
  p0 : w.cell? ⟨b, off + p * 2, none⟩ = some (.int .i64 pi)
  p1 : w.cell? ⟨b, off + p * 2 + 1, none⟩ = some (.int .i64 pd)
  n0 : w.cell? ⟨nb, 0, none⟩ = some (.int .i64 ki)
  n1 : w.cell? ⟨nb, 1, none⟩ = some (.int .i64 kd)

theorem HV.below {w w' : World} {hb b off n cap p nb : Nat} {pi pd ki kd : Int} (h : HV w hb b off n cap p nb pi pd ki kd) (B : Below w.heap.size w w') : HV w' hb b off n cap p nb pi pd ki kd :=
  ⟨Nat.lt_of_lt_of_le h.l0 B.size, Nat.lt_of_lt_of_le h.l1 B.size, Nat.lt_of_lt_of_le h.l2 B.size,
    (B.cell (p := ⟨hb, 1, none⟩) h.l0).trans h.c0, (B.cell (p := ⟨b, off + p * 2, none⟩) h.l1).trans h.p0, (B.cell (p := ⟨b, off + p * 2 + 1, none⟩) h.l1).trans h.p1,
    (B.cell (p := ⟨nb, 0, none⟩) h.l2).trans h.n0, (B.cell (p := ⟨nb, 1, none⟩) h.l2).trans h.n1⟩

theorem HV.drew {w : World} {hb b off n cap p nb : Nat} {pi pd ki kd : Int} (h : HV w hb b off n cap p nb pi pd ki kd) : HV w.drew hb b off n cap p nb pi pd ki kd := ⟨h.l0, h.l1, h.l2, h.c0, h.p0, h.p1, h.n0, h.n1⟩

set_option maxHeartbeats 400000 in
theorem kOk_any (n : Int) (w : World) :
    Calls Try.prog 23 #[.int .i64 n] w fun e w' => e = .returned (.bool (inB n 1 20)) ∧ w' = w := by
  by_cases h1 : 1 ≤ n <;> by_cases h2 : n ≤ 20
  all_goals
    simp only [inB, h1, h2, and_true, and_false, decide_true, decide_false]
    go_enter Try.func23, Try.ntmps23
    go_wp2
    go_ret
    exact ⟨rfl, rfl⟩

set_option maxHeartbeats 1600000 in
set_option maxRecDepth 4000 in
theorem iHeapOk_some (K : Int) (b off n cap : Nat) (f g : Nat → Int) (w : World) (h1 : 1 ≤ K) (h2 : K ≤ 20) (hn : (n : Int) ≤ K) (hb : b < w.heap.size) (hc : ∀ i, i < n → w.cell? ⟨b, off + i * 2, none⟩ = some (.int .i64 (f i)) ∧ w.cell? ⟨b, off + i * 2 + 1, none⟩ = some (.int .i64 (g i))) :
    Calls Try.prog 12 #[.agg #[.int .i64 K, .slice (some ⟨b, off, none⟩) n cap]] w fun e w' => e = .returned (.bool (allN n (heapAt f g))) ∧ Below w.heap.size w w' := by
  have KO := hide (kOk_any K)
  rw [show inB K 1 20 = true from decide_eq_true ⟨h1, h2⟩] at KO
  go_enter Try.func12, Try.ntmps12
  go_wp2_with fail
  refine (KO.out _).mono ?_
  rintro e w' ⟨rfl, rfl⟩
  go_wp2_with fail
  generalize hw0 : w.alloc _ = w0
  have B0 : Below w.heap.size w w0 := by rw [← hw0]; exact (by repeat' first | with_reducible exact Below.refl _ _ | with_reducible assumption | with_reducible refine below_drewN ?_ _ | with_reducible refine balloc ?_ _ | with_reducible refine Below.drew ?_ | with_reducible refine Below.setCell ?_ (by first | (simp; done) | (simp; omega) | omega) _ | with_reducible refine bstep ?_ (by assumption))
  have z0 : w0.heap.size = w.heap.size + 1 := by rw [← hw0]; simp
  have c0 : w0.cell? ⟨w.heap.size, 1, none⟩ = some (.slice (some ⟨b, off, none⟩) n cap) := by rw [← hw0]; simp [go_sem]
  go_loopw [20] (fun i wr => ∃ k : Nat, k ≤ n ∧ i = .int .i64 k ∧ (∀ j, j < k → heapAt f g j = true) ∧ Below w0.heap.size w0 wr) (fun i _ => n - (intOf i).toNat)
  case atStart => exact ⟨0, Nat.zero_le _, rfl, fun j h => absurd h (by omega), (by repeat' first | with_reducible exact Below.refl _ _ | with_reducible assumption | with_reducible refine below_drewN ?_ _ | with_reducible refine balloc ?_ _ | with_reducible refine Below.drew ?_ | with_reducible refine Below.setCell ?_ (by first | (simp; done) | (simp; omega) | omega) _ | with_reducible refine bstep ?_ (by assumption))⟩
  case round =>
    obtain ⟨k, hk, rfl, hpre, hbel⟩ := hrel
    have HP := hide hpre
    have HC := hide hc
    have HB := hide hbel
    have HB0 := hide B0
    have HC0 := hide c0
    clear hw0
    by_cases hlt : k < n
    · have bs : b < w0.heap.size := by omega
      have z1 : wr.cell? ⟨b, off + k * 2, none⟩ = some (.int .i64 (f k)) := (hbel.cell (p := ⟨b, off + k * 2, none⟩) bs).trans ((B0.cell (p := ⟨b, off + k * 2, none⟩) hb).trans (hc k hlt).1)
      have z2 : wr.cell? ⟨b, off + k * 2 + 1, none⟩ = some (.int .i64 (g k)) := (hbel.cell (p := ⟨b, off + k * 2 + 1, none⟩) bs).trans ((B0.cell (p := ⟨b, off + k * 2 + 1, none⟩) hb).trans (hc k hlt).2)
      have hsz := hbel.size
      have hp : (k - 1) / 2 < n := by omega
      have NO := hide (iNearOk_any (f k) (g k))
      have LE := hide (less_any (f ((k - 1) / 2)) (g ((k - 1) / 2)) (f k) (g k))
      have y0 : wr.cell? ⟨w.heap.size, 1, none⟩ = some (.slice (some ⟨b, off, none⟩) n cap) := (hbel.cell (p := ⟨w.heap.size, 1, none⟩) (by show w.heap.size < _; omega)).trans c0
      have y1 : wr.cell? ⟨b, off + (k - 1) / 2 * 2, none⟩ = some (.int .i64 (f ((k - 1) / 2))) := (hbel.cell (p := ⟨b, off + (k - 1) / 2 * 2, none⟩) bs).trans ((B0.cell (p := ⟨b, off + (k - 1) / 2 * 2, none⟩) hb).trans (hc _ hp).1)
      have y2 : wr.cell? ⟨b, off + (k - 1) / 2 * 2 + 1, none⟩ = some (.int .i64 (g ((k - 1) / 2))) := (hbel.cell (p := ⟨b, off + (k - 1) / 2 * 2 + 1, none⟩) bs).trans ((B0.cell (p := ⟨b, off + (k - 1) / 2 * 2 + 1, none⟩) hb).trans (hc _ hp).2)
      clear hpre hbel hc B0 c0
      have Y0 := hide y0
      have Y1 := hide y1
      have Y2 := hide y2
      clear y0 y1 y2
      obtain ⟨v, hv⟩ : ∃ v, nearB (f k) (g k) = v := ⟨_, rfl⟩
      have HV1 := hide hv
      rw [hv] at NO
      clear hv
      obtain ⟨u, hu⟩ : ∃ u, lessB (f ((k - 1) / 2)) (g ((k - 1) / 2)) (f k) (g k) = u := ⟨_, rfl⟩
      have HU1 := hide hu
      rw [hu] at LE
      clear hu
      go_upto_region 6 with fail
      have HVV := hide (show HV (wr.alloc (Obj.cells #[Value.int IntKind.i64 (f k), Value.int IntKind.i64 (g k)] 32)) w.heap.size b off n cap ((k - 1) / 2) wr.heap.size (f ((k - 1) / 2)) (g ((k - 1) / 2)) (f k) (g k) from
        (HV.mk (by simp; omega) (by simp; omega) (by simp) (by rw [World.cell?_alloc_past _ _ _ (show w.heap.size < _ by omega)]; exact Y0.out) (by rw [World.cell?_alloc_past _ _ _ (show b < _ by omega)]; exact Y1.out) (by rw [World.cell?_alloc_past _ _ _ (show b < _ by omega)]; exact Y2.out) (by simp [go_sem]) (by simp [go_sem])))
      have BA : Below wr.heap.size wr (wr.alloc (Obj.cells #[Value.int IntKind.i64 (f k), Value.int IntKind.i64 (g k)] 32)) := balloc (Below.refl _ _) _
      generalize hwa : wr.alloc (Obj.cells #[Value.int IntKind.i64 (f k), Value.int IntKind.i64 (g k)] 32) = wa at HVV BA ⊢
      clear hwa z1 z2 Y0 Y1 Y2
      obtain ⟨p, hpp⟩ : ∃ p, (k - 1) / 2 = p := ⟨_, rfl⟩
      have hq : IntKind.i64.wrap (Int.tdiv (if IntKind.i64.wrap ((k : Int) - 1) < 0 then 0 else IntKind.i64.wrap ((k : Int) - 1)) 2) = (p : Int) := by
        rw [wrapIn ((k : Int) - 1) (by omega) (by omega)]
        by_cases h0 : k = 0
        · subst h0; subst hpp; rfl
        · rw [if_neg (by omega), Int.tdiv_eq_ediv_of_nonneg (by omega), wrapIn _ (by omega) (by omega)]; omega
      have hpi : (p : Int) < (n : Int) := by omega
      have hat : heapAt f g k = (v && !u) := by unfold heapAt; rw [HV1.out, HU1.out]
      rw [hpp] at HVV LE
      clear hp hpp HU1 HV1
      cases v
      · have hno : heapAt f g k = false := hat
        refine wp_region_held_drew (S := fun wx => HV wx w.heap.size b off n cap p wr.heap.size (f p) (g p) (f k) (g k)) (by kernel_rfl) (HVV.out.drew) (fun hH0 => ?_)
        refine wpAnyH_take (i := 0) (oi := { dst := some 25, op := _, type := _, pos := _, after := _, guard := _ }) (v := ?_) rfl (by kernel_rfl) (by kernel_rfl) (by kernel_rfl) (fun _ _ _ h => h) (Or.inl ⟨by rfl, ?_⟩) (hH0) ?_
        rotate_left
        · (intro wx hSw; obtain ⟨l0, l1, l2, q0, q1, q2, q3, q4⟩ := hSw; go_simp <;> with_reducible rfl)
        simp only [Act.put, List.setIfInBounds_toArray, List.set_cons_zero, List.set_cons_succ]
        refine wpAnyH_ready (rs := [1]) (by kernel_rfl) (by simp) ?_
        refine AllReadyH.cons (o := { dst := some 26, op := _, type := _, pos := _, after := _, guard := _ }) rfl (fun K hK => ?_) AllReadyH.nil
        go_simp
        refine (NO.out _).mono ?_
        rintro e w_c30_1 ⟨rfl, hb_c30_1⟩
        dsimp only
        refine hK.out _ _ (HV.below hH0 hb_c30_1) (fun hH1 => ?_)
        clear hK K
        refine wpAnyH_take (i := 2) (oi := { dst := some 27, op := _, type := _, pos := _, after := _, guard := _ }) (v := ?_) rfl (by kernel_rfl) (by kernel_rfl) (by kernel_rfl) (fun _ _ _ h => h) (Or.inl ⟨by rfl, ?_⟩) (hH1) ?_
        rotate_left
        · (intro wx hSw; obtain ⟨l0, l1, l2, q0, q1, q2, q3, q4⟩ := hSw; go_simp <;> with_reducible rfl)
        simp only [Act.put, List.setIfInBounds_toArray, List.set_cons_zero, List.set_cons_succ]
        refine wpAnyH_take (i := 3) (oi := { dst := some 28, op := _, type := _, pos := _, after := _, guard := _ }) (v := ?_) rfl (by kernel_rfl) (by kernel_rfl) (by kernel_rfl) (fun _ _ _ h => h) (Or.inl ⟨by rfl, ?_⟩) (hH1) ?_
        rotate_left
        · (intro wx hSw; obtain ⟨l0, l1, l2, q0, q1, q2, q3, q4⟩ := hSw; go_simp <;> with_reducible rfl)
        simp only [Act.put, List.setIfInBounds_toArray, List.set_cons_zero, List.set_cons_succ]
        refine wpAnyH_take (i := 4) (oi := { dst := some 29, op := _, type := _, pos := _, after := _, guard := _ }) (v := _) rfl (by kernel_rfl) (by kernel_rfl) (by kernel_rfl) (fun _ _ _ h => h) (Or.inr ⟨by rfl, rfl⟩) (hH1) ?_
        simp only [Act.put, List.setIfInBounds_toArray, List.set_cons_zero, List.set_cons_succ]
        refine wpAnyH_take (i := 5) (oi := { dst := some 30, op := _, type := _, pos := _, after := _, guard := _ }) (v := _) rfl (by kernel_rfl) (by kernel_rfl) (by kernel_rfl) (fun _ _ _ h => h) (Or.inr ⟨by rfl, rfl⟩) (hH1) ?_
        simp only [Act.put, List.setIfInBounds_toArray, List.set_cons_zero, List.set_cons_succ]
        refine wpAnyH_take (i := 6) (oi := { dst := some 31, op := _, type := _, pos := _, after := _, guard := _ }) (v := _) rfl (by kernel_rfl) (by kernel_rfl) (by kernel_rfl) (fun _ _ _ h => h) (Or.inr ⟨by rfl, rfl⟩) (hH1) ?_
        simp only [Act.put, List.setIfInBounds_toArray, List.set_cons_zero, List.set_cons_succ]
        refine wpAnyH_take (i := 7) (oi := { dst := some 32, op := _, type := _, pos := _, after := _, guard := _ }) (v := _) rfl (by kernel_rfl) (by kernel_rfl) (by kernel_rfl) (fun _ _ _ h => h) (Or.inr ⟨by rfl, rfl⟩) (hH1) ?_
        simp only [Act.put, List.setIfInBounds_toArray, List.set_cons_zero, List.set_cons_succ]
        refine wpAnyH_take (i := 8) (oi := { dst := some 33, op := _, type := _, pos := _, after := _, guard := _ }) (v := _) rfl (by kernel_rfl) (by kernel_rfl) (by kernel_rfl) (fun _ _ _ h => h) (Or.inr ⟨by rfl, rfl⟩) (hH1) ?_
        simp only [Act.put, List.setIfInBounds_toArray, List.set_cons_zero, List.set_cons_succ]
        refine wpAnyH_take (i := 9) (oi := { dst := some 34, op := _, type := _, pos := _, after := _, guard := _ }) (v := _) rfl (by kernel_rfl) (by kernel_rfl) (by kernel_rfl) (fun _ _ _ h => h) (Or.inr ⟨by rfl, rfl⟩) (hH1) ?_
        simp only [Act.put, List.setIfInBounds_toArray, List.set_cons_zero, List.set_cons_succ]
        refine wpAnyH_take (i := 10) (oi := { dst := some 35, op := _, type := _, pos := _, after := _, guard := _ }) (v := _) rfl (by kernel_rfl) (by kernel_rfl) (by kernel_rfl) (fun _ _ _ h => h) (Or.inr ⟨by rfl, rfl⟩) (hH1) ?_
        simp only [Act.put, List.setIfInBounds_toArray, List.set_cons_zero, List.set_cons_succ]
        refine wpAnyH_take (i := 11) (oi := { dst := some 36, op := _, type := _, pos := _, after := _, guard := _ }) (v := _) rfl (by kernel_rfl) (by kernel_rfl) (by kernel_rfl) (fun _ _ _ h => h) (Or.inr ⟨by rfl, rfl⟩) (hH1) ?_
        simp only [Act.put, List.setIfInBounds_toArray, List.set_cons_zero, List.set_cons_succ]
        refine wpAnyH_take (i := 12) (oi := { dst := some 37, op := _, type := _, pos := _, after := _, guard := _ }) (v := _) rfl (by kernel_rfl) (by kernel_rfl) (by kernel_rfl) (fun _ _ _ h => h) (Or.inr ⟨by rfl, rfl⟩) (hH1) ?_
        simp only [Act.put, List.setIfInBounds_toArray, List.set_cons_zero, List.set_cons_succ]
        refine wpAnyH_take (i := 13) (oi := { dst := some 38, op := _, type := _, pos := _, after := _, guard := _ }) (v := _) rfl (by kernel_rfl) (by kernel_rfl) (by kernel_rfl) (fun _ _ _ h => h) (Or.inr ⟨by rfl, rfl⟩) (hH1) ?_
        simp only [Act.put, List.setIfInBounds_toArray, List.set_cons_zero, List.set_cons_succ]
        refine wpAnyH_take (i := 14) (oi := { dst := some 39, op := _, type := _, pos := _, after := _, guard := _ }) (v := ?_) rfl (by kernel_rfl) (by kernel_rfl) (by kernel_rfl) (fun _ _ _ h => h) (Or.inl ⟨by rfl, ?_⟩) (hH1) ?_
        rotate_left
        · (intro wx hSw; obtain ⟨l0, l1, l2, q0, q1, q2, q3, q4⟩ := hSw; go_simp <;> with_reducible rfl)
        simp only [Act.put, List.setIfInBounds_toArray, List.set_cons_zero, List.set_cons_succ]
        refine wpAnyH_done (by kernel_rfl) ?_ _
        -- behind it: go_wp2_with fail, then go_meet (a cut) or go_ret; the condition at the end: hH1
        go_wp2_with fail
        go_ret
        refine ⟨by rw [allN_no hlt hno]; rfl, ?_⟩
        have x1 := HB0.out
        have x2 := HB.out
        exact (by repeat' first | with_reducible exact Below.refl _ _ | with_reducible assumption | with_reducible refine below_drewN ?_ _ | with_reducible refine balloc ?_ _ | with_reducible refine Below.drew ?_ | with_reducible refine Below.setCell ?_ (by first | (simp; done) | (simp; omega) | omega) _ | with_reducible refine bstep ?_ (by assumption))
      · replace hat : heapAt f g k = !u := hat
        refine wp_region_held_drew (S := fun wx => HV wx w.heap.size b off n cap p wr.heap.size (f p) (g p) (f k) (g k)) (by kernel_rfl) (HVV.out.drew) (fun hH0 => ?_)
        refine wpAnyH_take (i := 0) (oi := { dst := some 25, op := _, type := _, pos := _, after := _, guard := _ }) (v := ?_) rfl (by kernel_rfl) (by kernel_rfl) (by kernel_rfl) (fun _ _ _ h => h) (Or.inl ⟨by rfl, ?_⟩) (hH0) ?_
        rotate_left
        · (intro wx hSw; obtain ⟨l0, l1, l2, q0, q1, q2, q3, q4⟩ := hSw; go_simp <;> with_reducible rfl)
        simp only [Act.put, List.setIfInBounds_toArray, List.set_cons_zero, List.set_cons_succ]
        refine wpAnyH_ready (rs := [1]) (by kernel_rfl) (by simp) ?_
        refine AllReadyH.cons (o := { dst := some 26, op := _, type := _, pos := _, after := _, guard := _ }) rfl (fun K hK => ?_) AllReadyH.nil
        go_simp
        refine (NO.out _).mono ?_
        rintro e w_c30_1 ⟨rfl, hb_c30_1⟩
        dsimp only
        refine hK.out _ _ (HV.below hH0 hb_c30_1) (fun hH1 => ?_)
        clear hK K
        refine wpAnyH_take (i := 2) (oi := { dst := some 27, op := _, type := _, pos := _, after := _, guard := _ }) (v := ?_) rfl (by kernel_rfl) (by kernel_rfl) (by kernel_rfl) (fun _ _ _ h => h) (Or.inl ⟨by rfl, ?_⟩) (hH1) ?_
        rotate_left
        · (intro wx hSw; obtain ⟨l0, l1, l2, q0, q1, q2, q3, q4⟩ := hSw; go_simp <;> with_reducible rfl)
        simp only [Act.put, List.setIfInBounds_toArray, List.set_cons_zero, List.set_cons_succ]
        refine wpAnyH_take (i := 3) (oi := { dst := some 28, op := _, type := _, pos := _, after := _, guard := _ }) (v := ?_) rfl (by kernel_rfl) (by kernel_rfl) (by kernel_rfl) (fun _ _ _ h => h) (Or.inl ⟨by rfl, ?_⟩) (hH1) ?_
        rotate_left
        · (intro wx hSw; obtain ⟨l0, l1, l2, q0, q1, q2, q3, q4⟩ := hSw; go_simp <;> with_reducible rfl)
        simp only [Act.put, List.setIfInBounds_toArray, List.set_cons_zero, List.set_cons_succ]
        refine wpAnyH_take (i := 4) (oi := { dst := some 29, op := _, type := _, pos := _, after := _, guard := _ }) (v := ?_) rfl (by kernel_rfl) (by kernel_rfl) (by kernel_rfl) (fun _ _ _ h => h) (Or.inl ⟨by rfl, ?_⟩) (hH1) ?_
        rotate_left
        · (intro wx hSw; obtain ⟨l0, l1, l2, q0, q1, q2, q3, q4⟩ := hSw; go_simp <;> with_reducible rfl)
        simp only [Act.put, List.setIfInBounds_toArray, List.set_cons_zero, List.set_cons_succ]
        refine wpAnyH_take (i := 5) (oi := { dst := some 30, op := _, type := _, pos := _, after := _, guard := _ }) (v := ?_) rfl (by kernel_rfl) (by kernel_rfl) (by kernel_rfl) (fun _ _ _ h => h) (Or.inl ⟨by rfl, ?_⟩) (hH1) ?_
        rotate_left
        · (intro wx hSw; obtain ⟨l0, l1, l2, q0, q1, q2, q3, q4⟩ := hSw; go_simp <;> with_reducible rfl)
        simp only [Act.put, List.setIfInBounds_toArray, List.set_cons_zero, List.set_cons_succ]
        refine wpAnyH_take (i := 6) (oi := { dst := some 31, op := _, type := _, pos := _, after := _, guard := _ }) (v := ?_) rfl (by kernel_rfl) (by kernel_rfl) (by kernel_rfl) (fun _ _ _ h => h) (Or.inl ⟨by rfl, ?_⟩) (hH1) ?_
        rotate_left
        · (intro wx hSw; obtain ⟨l0, l1, l2, q0, q1, q2, q3, q4⟩ := hSw; go_simp <;> with_reducible rfl)
        simp only [Act.put, List.setIfInBounds_toArray, List.set_cons_zero, List.set_cons_succ]
        refine wpAnyH_take (i := 7) (oi := { dst := some 32, op := _, type := _, pos := _, after := _, guard := _ }) (v := ?_) rfl (by kernel_rfl) (by kernel_rfl) (by kernel_rfl) (fun _ _ _ h => h) (Or.inl ⟨by rfl, ?_⟩) (hH1) ?_
        rotate_left
        · (intro wx hSw; obtain ⟨l0, l1, l2, q0, q1, q2, q3, q4⟩ := hSw; go_simp <;> with_reducible rfl)
        simp only [Act.put, List.setIfInBounds_toArray, List.set_cons_zero, List.set_cons_succ]
        refine wpAnyH_take (i := 8) (oi := { dst := some 33, op := _, type := _, pos := _, after := _, guard := _ }) (v := ?_) rfl (by kernel_rfl) (by kernel_rfl) (by kernel_rfl) (fun _ _ _ h => h) (Or.inl ⟨by rfl, ?_⟩) (hH1) ?_
        rotate_left
        · (intro wx hSw; obtain ⟨l0, l1, l2, q0, q1, q2, q3, q4⟩ := hSw; go_simp <;> with_reducible rfl)
        simp only [Act.put, List.setIfInBounds_toArray, List.set_cons_zero, List.set_cons_succ]
        refine wpAnyH_take (i := 9) (oi := { dst := some 34, op := _, type := _, pos := _, after := _, guard := _ }) (v := ?_) rfl (by kernel_rfl) (by kernel_rfl) (by kernel_rfl) (fun _ _ _ h => h) (Or.inl ⟨by rfl, ?_⟩) (hH1) ?_
        rotate_left
        · (intro wx hSw; obtain ⟨l0, l1, l2, q0, q1, q2, q3, q4⟩ := hSw; go_simp <;> with_reducible rfl)
        simp only [Act.put, List.setIfInBounds_toArray, List.set_cons_zero, List.set_cons_succ]
        refine wpAnyH_take (i := 10) (oi := { dst := some 35, op := _, type := _, pos := _, after := _, guard := _ }) (v := ?_) rfl (by kernel_rfl) (by kernel_rfl) (by kernel_rfl) (fun _ _ _ h => h) (Or.inl ⟨by rfl, ?_⟩) (hH1) ?_
        rotate_left
        · (intro wx hSw; obtain ⟨l0, l1, l2, q0, q1, q2, q3, q4⟩ := hSw; go_simp <;> with_reducible rfl)
        simp only [Act.put, List.setIfInBounds_toArray, List.set_cons_zero, List.set_cons_succ]
        refine wpAnyH_take (i := 11) (oi := { dst := some 36, op := _, type := _, pos := _, after := _, guard := _ }) (v := ?_) rfl (by kernel_rfl) (by kernel_rfl) (by kernel_rfl) (fun _ _ _ h => h) (Or.inl ⟨by rfl, ?_⟩) (hH1) ?_
        rotate_left
        · (intro wx hSw; obtain ⟨l0, l1, l2, q0, q1, q2, q3, q4⟩ := hSw; go_simp <;> with_reducible rfl)
        simp only [Act.put, List.setIfInBounds_toArray, List.set_cons_zero, List.set_cons_succ]
        refine wpAnyH_take (i := 12) (oi := { dst := some 37, op := _, type := _, pos := _, after := _, guard := _ }) (v := ?_) rfl (by kernel_rfl) (by kernel_rfl) (by kernel_rfl) (fun _ _ _ h => h) (Or.inl ⟨by rfl, ?_⟩) (hH1) ?_
        rotate_left
        · (intro wx hSw; obtain ⟨l0, l1, l2, q0, q1, q2, q3, q4⟩ := hSw; go_simp <;> with_reducible rfl)
        simp only [Act.put, List.setIfInBounds_toArray, List.set_cons_zero, List.set_cons_succ]
        refine wpAnyH_ready (rs := [13]) (by kernel_rfl) (by simp) ?_
        refine AllReadyH.cons (o := { dst := some 38, op := _, type := _, pos := _, after := _, guard := _ }) rfl (fun K hK => ?_) AllReadyH.nil
        go_simp
        refine (LE.out _).mono ?_
        rintro e w_c42_2 ⟨rfl, hb_c42_2⟩
        dsimp only
        refine hK.out _ _ (HV.below hH1 hb_c42_2) (fun hH2 => ?_)
        clear hK K
        refine wpAnyH_take (i := 14) (oi := { dst := some 39, op := _, type := _, pos := _, after := _, guard := _ }) (v := ?_) rfl (by kernel_rfl) (by kernel_rfl) (by kernel_rfl) (fun _ _ _ h => h) (Or.inl ⟨by rfl, ?_⟩) (hH2) ?_
        rotate_left
        · (intro wx hSw; obtain ⟨l0, l1, l2, q0, q1, q2, q3, q4⟩ := hSw; go_simp <;> with_reducible rfl)
        simp only [Act.put, List.setIfInBounds_toArray, List.set_cons_zero, List.set_cons_succ]
        refine wpAnyH_done (by kernel_rfl) ?_ _
        -- behind it: go_wp2_with fail, then go_meet (a cut) or go_ret; the condition at the end: hH2
        cases u
        · go_wp2_with fail
          go_roundw
          case rel =>
            have hbel := HB.out
            exact ⟨k + 1, by omega, by go_num, fun j hj => (by rcases Nat.lt_succ_iff_lt_or_eq.1 hj with h | h; exact HP.out j h; rw [h]; exact (hat : heapAt f g k = true)), (by repeat' first | with_reducible exact Below.refl _ _ | with_reducible assumption | with_reducible refine below_drewN ?_ _ | with_reducible refine balloc ?_ _ | with_reducible refine Below.drew ?_ | with_reducible refine Below.setCell ?_ (by first | (simp; done) | (simp; omega) | omega) _ | with_reducible refine bstep ?_ (by assumption))⟩
          case measure => simp [intOf]; omega
        · go_wp2_with fail
          all_goals
            go_ret
            refine ⟨by rw [allN_no hlt (hat : heapAt f g k = false)]; rfl, ?_⟩
            have x1 := HB0.out
            have x2 := HB.out
            exact (by repeat' first | with_reducible exact Below.refl _ _ | with_reducible assumption | with_reducible refine below_drewN ?_ _ | with_reducible refine balloc ?_ _ | with_reducible refine Below.drew ?_ | with_reducible refine Below.setCell ?_ (by first | (simp; done) | (simp; omega) | omega) _ | with_reducible refine bstep ?_ (by assumption))
    · clear hpre hbel hc
      go_wp2_with fail
      go_ret
      refine ⟨by rw [allN_yes (fun j hj => HP.out j (by omega))]; rfl, ?_⟩
      have h1 := HB0.out
      have h2 := HB.out
      exact (by repeat' first | with_reducible exact Below.refl _ _ | with_reducible assumption | with_reducible refine below_drewN ?_ _ | with_reducible refine balloc ?_ _ | with_reducible refine Below.drew ?_ | with_reducible refine Below.setCell ?_ (by first | (simp; done) | (simp; omega) | omega) _ | with_reducible refine bstep ?_ (by assumption))

set_option maxHeartbeats 400000 in
theorem iHeapOk_few (K : Int) (a : Option Addr) (n cap : Nat) (w : World) (h : ¬ ((1 ≤ K ∧ K ≤ 20) ∧ (n : Int) ≤ K)) :
    Calls Try.prog 12 #[.agg #[.int .i64 K, .slice a n cap]] w fun e w' => e = .returned (.bool false) ∧ Below w.heap.size w w' := by
  rcases (show K < 1 ∨ (1 ≤ K ∧ 20 < K) ∨ ((1 ≤ K ∧ K ≤ 20) ∧ K < (n : Int)) by omega) with h1 | ⟨h1, h2⟩ | ⟨⟨h1, h2⟩, h3⟩
  · have KO := hide (kOk_any K)
    rw [show inB K 1 20 = false from decide_eq_false (by omega)] at KO
    clear h
    go_enter Try.func12, Try.ntmps12
    go_wp2_with fail
    refine (KO.out _).mono ?_
    rintro e w' ⟨rfl, rfl⟩
    go_wp2_with fail
    go_ret
    exact ⟨rfl, (by repeat' first | with_reducible exact Below.refl _ _ | with_reducible assumption | with_reducible refine below_drewN ?_ _ | with_reducible refine balloc ?_ _ | with_reducible refine Below.drew ?_ | with_reducible refine Below.setCell ?_ (by first | (simp; done) | (simp; omega) | omega) _ | with_reducible refine bstep ?_ (by assumption))⟩
  · have KO := hide (kOk_any K)
    rw [show inB K 1 20 = false from decide_eq_false (by omega)] at KO
    clear h
    go_enter Try.func12, Try.ntmps12
    go_wp2_with fail
    refine (KO.out _).mono ?_
    rintro e w' ⟨rfl, rfl⟩
    go_wp2_with fail
    go_ret
    exact ⟨rfl, (by repeat' first | with_reducible exact Below.refl _ _ | with_reducible assumption | with_reducible refine below_drewN ?_ _ | with_reducible refine balloc ?_ _ | with_reducible refine Below.drew ?_ | with_reducible refine Below.setCell ?_ (by first | (simp; done) | (simp; omega) | omega) _ | with_reducible refine bstep ?_ (by assumption))⟩
  · have KO := hide (kOk_any K)
    rw [show inB K 1 20 = true from decide_eq_true ⟨h1, h2⟩] at KO
    clear h
    go_enter Try.func12, Try.ntmps12
    go_wp2_with fail
    refine (KO.out _).mono ?_
    rintro e w' ⟨rfl, rfl⟩
    go_wp2_with fail
    go_ret
    exact ⟨rfl, (by repeat' first | with_reducible exact Below.refl _ _ | with_reducible assumption | with_reducible refine below_drewN ?_ _ | with_reducible refine balloc ?_ _ | with_reducible refine Below.drew ?_ | with_reducible refine Below.setCell ?_ (by first | (simp; done) | (simp; omega) | omega) _ | with_reducible refine bstep ?_ (by assumption))⟩

set_option maxHeartbeats 400000 in
theorem iHeapOk_none (K : Int) (a : Option Addr) (n cap : Nat) (w : World) (h1 : 1 ≤ K) (h2 : K ≤ 20) (hn : n < 1) :
    Calls Try.prog 12 #[.agg #[.int .i64 K, .slice a n cap]] w fun e w' => e = .returned (.bool true) ∧ Below w.heap.size w w' := by
  have h3 : (n : Int) ≤ K := by omega
  have KO := hide (kOk_any K)
  rw [show inB K 1 20 = true from decide_eq_true ⟨h1, h2⟩] at KO
  go_enter Try.func12, Try.ntmps12
  go_wp2_with fail
  refine (KO.out _).mono ?_
  rintro e w' ⟨rfl, rfl⟩
  go_wp2_with fail
  refine wp_loop_rounds 1 ?_
  rw [rounds_succ]
  go_wp2_with fail
  go_ret
  exact ⟨rfl, (by repeat' first | with_reducible exact Below.refl _ _ | with_reducible assumption | with_reducible refine below_drewN ?_ _ | with_reducible refine balloc ?_ _ | with_reducible refine Below.drew ?_ | with_reducible refine Below.setCell ?_ (by first | (simp; done) | (simp; omega) | omega) _ | with_reducible refine bstep ?_ (by assumption))⟩

theorem heapB_few {K : Int} {n : Nat} {f g : Nat → Int} (h : ¬ ((1 ≤ K ∧ K ≤ 20) ∧ (n : Int) ≤ K)) : heapB K n f g = false := by
  unfold heapB inB
  rw [show (decide (1 ≤ K ∧ K ≤ 20) && decide ((n : Int) ≤ K)) = false from by rw [← Bool.decide_and]; exact decide_eq_false h, Bool.false_and]

theorem heapB_some {K : Int} {n : Nat} {f g : Nat → Int} (h : (1 ≤ K ∧ K ≤ 20) ∧ (n : Int) ≤ K) : heapB K n f g = allN n (heapAt f g) := by
  unfold heapB inB
  rw [decide_eq_true h.1, decide_eq_true h.2]; rfl

theorem iHeapOk_any (K : Int) (a : Option Addr) (n cap : Nat) (f g : Nat → Int) (w : World) (h : PRow w a n f g) :
    Calls Try.prog 12 #[.agg #[.int .i64 K, .slice a n cap]] w fun e w' => e = .returned (.bool (heapB K n f g)) ∧ Below w.heap.size w w' := by
  by_cases hk : (1 ≤ K ∧ K ≤ 20) ∧ (n : Int) ≤ K
  · rw [heapB_some hk]
    rcases h.lies with h0 | ⟨b, off, rfl, lt, hc⟩
    · rw [show allN n (heapAt f g) = true from allN_yes fun i hi => absurd hi (by omega)]
      exact iHeapOk_none K a n cap w hk.1.1 hk.1.2 (by omega)
    · exact iHeapOk_some K b off n cap f g w hk.1.1 hk.1.2 hk.2 lt hc
  · rw [heapB_few hk]
    exact iHeapOk_few K a n cap w hk
end Go.Proofs.Ytkonckgapicdfaa
