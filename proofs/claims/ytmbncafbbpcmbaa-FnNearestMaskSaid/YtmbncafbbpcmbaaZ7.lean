/- HeapOk of the program. -/
import Derived.Test.YtmbncafbbpcmbaaZ5
import Derived.Deep.RegionHeld3
import Derived.Test.YtmbncafbbpcmbaaZ6
import Derived.Deep.AppendLies
import Derived.Test.YtmbncafbbpcmbaaZ4
namespace Go.Proofs.Ytmbncafbbpcmbaa
open Go.RowKit
set_option maxRecDepth 8000
set_option linter.unusedSimpArgs false
set_option linter.unusedVariables false

theorem lessB_self (i d : Int) : lessB i d i d = false := by unfold lessB; simp

/-- A place of a heap is right: a Near, and not greater than the one above it. -/
def heapAt (f g : Nat → Int) (i : Nat) : Bool := nearB (f i) (g i) && !lessB (f ((i - 1) / 2)) (g ((i - 1) / 2)) (f i) (g i)
def heapB (K : Int) (n : Nat) (f g : Nat → Int) : Bool := inB K 1 20 && decide ((n : Int) ≤ K) && allN n (heapAt f g)

/-- The cells that a look at one place of a heap reads: the heap's box, the Near above, the Near's own box. -/
structure HV (w : World) (hb b off n cap p nb : Nat) (pi pd ki kd : Int) : Prop where
  l0 : hb < w.heap.size
  l1 : b < w.heap.size
  l2 : nb < w.heap.size
  c0 : w.cell? ⟨hb, 1, none⟩ = some (.slice (some ⟨b, off, none⟩) n cap)
  p0 : w.cell? ⟨b, off + p * 2, none⟩ = some (.int .i64 pi)
  p1 : w.cell? ⟨b, off + p * 2 + 1, none⟩ = some (.int .i64 pd)
  n0 : w.cell? ⟨nb, 0, none⟩ = some (.int .i64 ki)
  n1 : w.cell? ⟨nb, 1, none⟩ = some (.int .i64 kd)
theorem HV.below {w w' : World} {hb b off n cap p nb : Nat} {pi pd ki kd : Int} (h : HV w hb b off n cap p nb pi pd ki kd) (B : Below w.heap.size w w') : HV w' hb b off n cap p nb pi pd ki kd :=
  ⟨Nat.lt_of_lt_of_le h.l0 B.size, Nat.lt_of_lt_of_le h.l1 B.size, Nat.lt_of_lt_of_le h.l2 B.size,
    (B.cell (p := ⟨hb, 1, none⟩) h.l0).trans h.c0, (B.cell (p := ⟨b, off + p * 2, none⟩) h.l1).trans h.p0, (B.cell (p := ⟨b, off + p * 2 + 1, none⟩) h.l1).trans h.p1,
    (B.cell (p := ⟨nb, 0, none⟩) h.l2).trans h.n0, (B.cell (p := ⟨nb, 1, none⟩) h.l2).trans h.n1⟩
theorem HV.drew {w : World} {hb b off n cap p nb : Nat} {pi pd ki kd : Int} (h : HV w hb b off n cap p nb pi pd ki kd) : HV w.drew hb b off n cap p nb pi pd ki kd := ⟨h.l0, h.l1, h.l2, h.c0, h.p0, h.p1, h.n0, h.n1⟩

set_option maxHeartbeats 400000 in
theorem kOk_any (n : Int) (w : World) :
    Calls Try.prog 22 #[.int .i64 n] w fun e w' => e = .returned (.bool (inB n 1 20)) ∧ w' = w := by
  by_cases h1 : 1 ≤ n <;> by_cases h2 : n ≤ 20
  all_goals
    simp only [inB, h1, h2, and_true, and_false, decide_true, decide_false]
    go_enter Try.func22, Try.ntmps22
    go_wp2
    go_ret
    exact ⟨rfl, rfl⟩

set_option maxHeartbeats 1600000 in
set_option maxRecDepth 4000 in
theorem iHeapOk_some (K : Int) (b off n cap : Nat) (f g : Nat → Int) (w : World) (h1 : 1 ≤ K) (h2 : K ≤ 20) (hn : (n : Int) ≤ K) (hb : b < w.heap.size) (hc : ∀ i, i < n → w.cell? ⟨b, off + i * 2, none⟩ = some (.int .i64 (f i)) ∧ w.cell? ⟨b, off + i * 2 + 1, none⟩ = some (.int .i64 (g i))) :
    Calls Try.prog 56 #[.agg #[.int .i64 K, .slice (some ⟨b, off, none⟩) n cap]] w fun e w' => e = .returned (.bool (allN n (heapAt f g))) ∧ Below w.heap.size w w' := by
  have KO := hide (kOk_any K)
  rw [show inB K 1 20 = true from decide_eq_true ⟨h1, h2⟩] at KO
  go_enter Try.func56, Try.ntmps56
  go_wp2_with fail
  refine (KO.out _).mono ?_
  rintro e w' ⟨rfl, rfl⟩
  go_wp2_with fail
  generalize hw0 : w.alloc _ = w0
  have B0 : Below w.heap.size w w0 := by rw [← hw0]; exact (by repeat' first | with_reducible exact Below.refl _ _ | with_reducible assumption | with_reducible refine below_drewN ?_ _ | with_reducible refine balloc ?_ _ | with_reducible refine Below.drew ?_ | with_reducible refine Below.setCell ?_ (by first | (simp; done) | (simp; omega) | omega) _ | with_reducible refine bstep ?_ (by assumption))
  have z0 : w0.heap.size = w.heap.size + 1 := by rw [← hw0]; simp
  have c0 : w0.cell? ⟨w.heap.size, 1, none⟩ = some (.slice (some ⟨b, off, none⟩) n cap) := by rw [← hw0]; simp [go_sem]
  go_loopw [20] (fun i wr => ∃ k : Nat, k ≤ n ∧ i = .int .i64 k ∧ (∀ j, j < k → heapAt f g j = true) ∧ Below w0.heap.size w0 wr) (fun i _ => n - (intOf i).toNat)
  case atStart => exact ⟨0, Nat.zero_le _, rfl, fun j h => absurd h (by omega), (by repeat' first | with_reducible exact Below.refl _ _ | with_reducible assumption | with_reducible refine below_drewN ?_ _ | with_reducible refine balloc ?_ _ | with_reducible refine Below.drew ?_ | with_reducible refine Below.setCell ?_ (by first | (simp; done) | (simp; omega) | omega) _ | with_reducible refine bstep ?_ (by assumption))⟩
  case round =>
    obtain ⟨k, hk, rfl, hpre, hbel⟩ := hrel
    have HP := hide hpre
    have HC := hide hc
    have HB := hide hbel
    have HB0 := hide B0
    have HC0 := hide c0
    clear hw0
    by_cases hlt : k < n
    · have bs : b < w0.heap.size := by omega
      have z1 : wr.cell? ⟨b, off + k * 2, none⟩ = some (.int .i64 (f k)) := (hbel.cell (p := ⟨b, off + k * 2, none⟩) bs).trans ((B0.cell (p := ⟨b, off + k * 2, none⟩) hb).trans (hc k hlt).1)
      have z2 : wr.cell? ⟨b, off + k * 2 + 1, none⟩ = some (.int .i64 (g k)) := (hbel.cell (p := ⟨b, off + k * 2 + 1, none⟩) bs).trans ((B0.cell (p := ⟨b, off + k * 2 + 1, none⟩) hb).trans (hc k hlt).2)
      have hsz := hbel.size
      have hp : (k - 1) / 2 < n := by omega
      have NO := hide (iNearOk_any (f k) (g k))
      have LE := hide (less_any (f ((k - 1) / 2)) (g ((k - 1) / 2)) (f k) (g k))
      have y0 : wr.cell? ⟨w.heap.size, 1, none⟩ = some (.slice (some ⟨b, off, none⟩) n cap) := (hbel.cell (p := ⟨w.heap.size, 1, none⟩) (by show w.heap.size < _; omega)).trans c0
      have y1 : wr.cell? ⟨b, off + (k - 1) / 2 * 2, none⟩ = some (.int .i64 (f ((k - 1) / 2))) := (hbel.cell (p := ⟨b, off + (k - 1) / 2 * 2, none⟩) bs).trans ((B0.cell (p := ⟨b, off + (k - 1) / 2 * 2, none⟩) hb).trans (hc _ hp).1)
      have y2 : wr.cell? ⟨b, off + (k - 1) / 2 * 2 + 1, none⟩ = some (.int .i64 (g ((k - 1) / 2))) := (hbel.cell (p := ⟨b, off + (k - 1) / 2 * 2 + 1, none⟩) bs).trans ((B0.cell (p := ⟨b, off + (k - 1) / 2 * 2 + 1, none⟩) hb).trans (hc _ hp).2)
      clear hpre hbel hc B0 c0
      have Y0 := hide y0
      have Y1 := hide y1
      have Y2 := hide y2
      clear y0 y1 y2
      obtain ⟨v, hv⟩ : ∃ v, nearB (f k) (g k) = v := ⟨_, rfl⟩
      have HV1 := hide hv
      rw [hv] at NO
      clear hv
      obtain ⟨u, hu⟩ : ∃ u, lessB (f ((k - 1) / 2)) (g ((k - 1) / 2)) (f k) (g k) = u := ⟨_, rfl⟩
      have HU1 := hide hu
      rw [hu] at LE
      clear hu
      go_upto_region 6 with fail
      have HVV := hide (show HV (wr.alloc (Obj.cells #[Value.int IntKind.i64 (f k), Value.int IntKind.i64 (g k)] 47)) w.heap.size b off n cap ((k - 1) / 2) wr.heap.size (f ((k - 1) / 2)) (g ((k - 1) / 2)) (f k) (g k) from
        (HV.mk (by simp; omega) (by simp; omega) (by simp) (by rw [World.cell?_alloc_past _ _ _ (show w.heap.size < _ by omega)]; exact Y0.out) (by rw [World.cell?_alloc_past _ _ _ (show b < _ by omega)]; exact Y1.out) (by rw [World.cell?_alloc_past _ _ _ (show b < _ by omega)]; exact Y2.out) (by simp [go_sem]) (by simp [go_sem])))
      have BA : Below wr.heap.size wr (wr.alloc (Obj.cells #[Value.int IntKind.i64 (f k), Value.int IntKind.i64 (g k)] 47)) := balloc (Below.refl _ _) _
      generalize hwa : wr.alloc (Obj.cells #[Value.int IntKind.i64 (f k), Value.int IntKind.i64 (g k)] 47) = wa at HVV BA ⊢
      clear hwa z1 z2 Y0 Y1 Y2
      obtain ⟨p, hpp⟩ : ∃ p, (k - 1) / 2 = p := ⟨_, rfl⟩
      have hq : IntKind.i64.wrap (Int.tdiv (if IntKind.i64.wrap ((k : Int) - 1) < 0 then 0 else IntKind.i64.wrap ((k : Int) - 1)) 2) = (p : Int) := by
        rw [wrapIn ((k : Int) - 1) (by omega) (by omega)]
        by_cases h0 : k = 0
        · subst h0; subst hpp; rfl
        · rw [if_neg (by omega), Int.tdiv_eq_ediv_of_nonneg (by omega), wrapIn _ (by omega) (by omega)]; omega
      have hpi : (p : Int) < (n : Int) := by omega
      have hat : heapAt f g k = (v && !u) := by unfold heapAt; rw [HV1.out, HU1.out]
      rw [hpp] at HVV LE
      clear hp hpp HU1 HV1
      cases v
      · have hno : heapAt f g k = false := hat
        refine wp_region_held_drew (S := fun wx => HV wx w.heap.size b off n cap p wr.heap.size (f p) (g p) (f k) (g k)) (by kernel_rfl) (HVV.out.drew) (fun hH0 => ?_)
        refine wpAnyH_take (i := 0) (oi := { dst := some 25, op := _, type := _, pos := _, after := _, guard := _ }) (v := ?_) rfl (by kernel_rfl) (by kernel_rfl) (by kernel_rfl) (fun _ _ _ h => h) (Or.inl ⟨by rfl, ?_⟩) (hH0) ?_
        rotate_left
        · (intro wx hSw; obtain ⟨l0, l1, l2, q0, q1, q2, q3, q4⟩ := hSw; go_simp <;> with_reducible rfl)
        simp only [Act.put, List.setIfInBounds_toArray, List.set_cons_zero, List.set_cons_succ]
        refine wpAnyH_ready (rs := [1]) (by kernel_rfl) (by simp) ?_
        refine AllReadyH.cons (o := { dst := some 26, op := _, type := _, pos := _, after := _, guard := _ }) rfl (fun K hK => ?_) AllReadyH.nil
        go_simp
        refine (NO.out _).mono ?_
        rintro e w_c30_1 ⟨rfl, hb_c30_1⟩
        dsimp only
        refine hK.out _ _ (HV.below hH0 hb_c30_1) (fun hH1 => ?_)
        clear hK K
        refine wpAnyH_take (i := 2) (oi := { dst := some 27, op := _, type := _, pos := _, after := _, guard := _ }) (v := ?_) rfl (by kernel_rfl) (by kernel_rfl) (by kernel_rfl) (fun _ _ _ h => h) (Or.inl ⟨by rfl, ?_⟩) (hH1) ?_
        rotate_left
        · (intro wx hSw; obtain ⟨l0, l1, l2, q0, q1, q2, q3, q4⟩ := hSw; go_simp <;> with_reducible rfl)
        simp only [Act.put, List.setIfInBounds_toArray, List.set_cons_zero, List.set_cons_succ]
        refine wpAnyH_take (i := 3) (oi := { dst := some 28, op := _, type := _, pos := _, after := _, guard := _ }) (v := ?_) rfl (by kernel_rfl) (by kernel_rfl) (by kernel_rfl) (fun _ _ _ h => h) (Or.inl ⟨by rfl, ?_⟩) (hH1) ?_
        rotate_left
        · (intro wx hSw; obtain ⟨l0, l1, l2, q0, q1, q2, q3, q4⟩ := hSw; go_simp <;> with_reducible rfl)
        simp only [Act.put, List.setIfInBounds_toArray, List.set_cons_zero, List.set_cons_succ]
        refine wpAnyH_take (i := 4) (oi := { dst := some 29, op := _, type := _, pos := _, after := _, guard := _ }) (v := _) rfl (by kernel_rfl) (by kernel_rfl) (by kernel_rfl) (fun _ _ _ h => h) (Or.inr ⟨by rfl, rfl⟩) (hH1) ?_
        simp only [Act.put, List.setIfInBounds_toArray, List.set_cons_zero, List.set_cons_succ]
        refine wpAnyH_take (i := 5) (oi := { dst := some 30, op := _, type := _, pos := _, after := _, guard := _ }) (v := _) rfl (by kernel_rfl) (by kernel_rfl) (by kernel_rfl) (fun _ _ _ h => h) (Or.inr ⟨by rfl, rfl⟩) (hH1) ?_
        simp only [Act.put, List.setIfInBounds_toArray, List.set_cons_zero, List.set_cons_succ]
        refine wpAnyH_take (i := 6) (oi := { dst := some 31, op := _, type := _, pos := _, after := _, guard := _ }) (v := _) rfl (by kernel_rfl) (by kernel_rfl) (by kernel_rfl) (fun _ _ _ h => h) (Or.inr ⟨by rfl, rfl⟩) (hH1) ?_
        simp only [Act.put, List.setIfInBounds_toArray, List.set_cons_zero, List.set_cons_succ]
        refine wpAnyH_take (i := 7) (oi := { dst := some 32, op := _, type := _, pos := _, after := _, guard := _ }) (v := _) rfl (by kernel_rfl) (by kernel_rfl) (by kernel_rfl) (fun _ _ _ h => h) (Or.inr ⟨by rfl, rfl⟩) (hH1) ?_
        simp only [Act.put, List.setIfInBounds_toArray, List.set_cons_zero, List.set_cons_succ]
        refine wpAnyH_take (i := 8) (oi := { dst := some 33, op := _, type := _, pos := _, after := _, guard := _ }) (v := _) rfl (by kernel_rfl) (by kernel_rfl) (by kernel_rfl) (fun _ _ _ h => h) (Or.inr ⟨by rfl, rfl⟩) (hH1) ?_
        simp only [Act.put, List.setIfInBounds_toArray, List.set_cons_zero, List.set_cons_succ]
        refine wpAnyH_take (i := 9) (oi := { dst := some 34, op := _, type := _, pos := _, after := _, guard := _ }) (v := _) rfl (by kernel_rfl) (by kernel_rfl) (by kernel_rfl) (fun _ _ _ h => h) (Or.inr ⟨by rfl, rfl⟩) (hH1) ?_
        simp only [Act.put, List.setIfInBounds_toArray, List.set_cons_zero, List.set_cons_succ]
        refine wpAnyH_take (i := 10) (oi := { dst := some 35, op := _, type := _, pos := _, after := _, guard := _ }) (v := _) rfl (by kernel_rfl) (by kernel_rfl) (by kernel_rfl) (fun _ _ _ h => h) (Or.inr ⟨by rfl, rfl⟩) (hH1) ?_
        simp only [Act.put, List.setIfInBounds_toArray, List.set_cons_zero, List.set_cons_succ]
        refine wpAnyH_take (i := 11) (oi := { dst := some 36, op := _, type := _, pos := _, after := _, guard := _ }) (v := _) rfl (by kernel_rfl) (by kernel_rfl) (by kernel_rfl) (fun _ _ _ h => h) (Or.inr ⟨by rfl, rfl⟩) (hH1) ?_
        simp only [Act.put, List.setIfInBounds_toArray, List.set_cons_zero, List.set_cons_succ]
        refine wpAnyH_take (i := 12) (oi := { dst := some 37, op := _, type := _, pos := _, after := _, guard := _ }) (v := _) rfl (by kernel_rfl) (by kernel_rfl) (by kernel_rfl) (fun _ _ _ h => h) (Or.inr ⟨by rfl, rfl⟩) (hH1) ?_
        simp only [Act.put, List.setIfInBounds_toArray, List.set_cons_zero, List.set_cons_succ]
        refine wpAnyH_take (i := 13) (oi := { dst := some 38, op := _, type := _, pos := _, after := _, guard := _ }) (v := _) rfl (by kernel_rfl) (by kernel_rfl) (by kernel_rfl) (fun _ _ _ h => h) (Or.inr ⟨by rfl, rfl⟩) (hH1) ?_
        simp only [Act.put, List.setIfInBounds_toArray, List.set_cons_zero, List.set_cons_succ]
        refine wpAnyH_take (i := 14) (oi := { dst := some 39, op := _, type := _, pos := _, after := _, guard := _ }) (v := ?_) rfl (by kernel_rfl) (by kernel_rfl) (by kernel_rfl) (fun _ _ _ h => h) (Or.inl ⟨by rfl, ?_⟩) (hH1) ?_
        rotate_left
        · (intro wx hSw; obtain ⟨l0, l1, l2, q0, q1, q2, q3, q4⟩ := hSw; go_simp <;> with_reducible rfl)
        simp only [Act.put, List.setIfInBounds_toArray, List.set_cons_zero, List.set_cons_succ]
        refine wpAnyH_done (by kernel_rfl) ?_ _
        -- behind it: go_wp2_with fail, then go_meet (a cut) or go_ret; the condition at the end: hH1
        go_wp2_with fail
        go_ret
        refine ⟨by rw [allN_no hlt hno]; rfl, ?_⟩
        have x1 := HB0.out
        have x2 := HB.out
        exact (by repeat' first | with_reducible exact Below.refl _ _ | with_reducible assumption | with_reducible refine below_drewN ?_ _ | with_reducible refine balloc ?_ _ | with_reducible refine Below.drew ?_ | with_reducible refine Below.setCell ?_ (by first | (simp; done) | (simp; omega) | omega) _ | with_reducible refine bstep ?_ (by assumption))
      · replace hat : heapAt f g k = !u := hat
        refine wp_region_held_drew (S := fun wx => HV wx w.heap.size b off n cap p wr.heap.size (f p) (g p) (f k) (g k)) (by kernel_rfl) (HVV.out.drew) (fun hH0 => ?_)
        refine wpAnyH_take (i := 0) (oi := { dst := some 25, op := _, type := _, pos := _, after := _, guard := _ }) (v := ?_) rfl (by kernel_rfl) (by kernel_rfl) (by kernel_rfl) (fun _ _ _ h => h) (Or.inl ⟨by rfl, ?_⟩) (hH0) ?_
        rotate_left
        · (intro wx hSw; obtain ⟨l0, l1, l2, q0, q1, q2, q3, q4⟩ := hSw; go_simp <;> with_reducible rfl)
        simp only [Act.put, List.setIfInBounds_toArray, List.set_cons_zero, List.set_cons_succ]
        refine wpAnyH_ready (rs := [1]) (by kernel_rfl) (by simp) ?_
        refine AllReadyH.cons (o := { dst := some 26, op := _, type := _, pos := _, after := _, guard := _ }) rfl (fun K hK => ?_) AllReadyH.nil
        go_simp
        refine (NO.out _).mono ?_
        rintro e w_c30_1 ⟨rfl, hb_c30_1⟩
        dsimp only
        refine hK.out _ _ (HV.below hH0 hb_c30_1) (fun hH1 => ?_)
        clear hK K
        refine wpAnyH_take (i := 2) (oi := { dst := some 27, op := _, type := _, pos := _, after := _, guard := _ }) (v := ?_) rfl (by kernel_rfl) (by kernel_rfl) (by kernel_rfl) (fun _ _ _ h => h) (Or.inl ⟨by rfl, ?_⟩) (hH1) ?_
        rotate_left
        · (intro wx hSw; obtain ⟨l0, l1, l2, q0, q1, q2, q3, q4⟩ := hSw; go_simp <;> with_reducible rfl)
        simp only [Act.put, List.setIfInBounds_toArray, List.set_cons_zero, List.set_cons_succ]
        refine wpAnyH_take (i := 3) (oi := { dst := some 28, op := _, type := _, pos := _, after := _, guard := _ }) (v := ?_) rfl (by kernel_rfl) (by kernel_rfl) (by kernel_rfl) (fun _ _ _ h => h) (Or.inl ⟨by rfl, ?_⟩) (hH1) ?_
        rotate_left
        · (intro wx hSw; obtain ⟨l0, l1, l2, q0, q1, q2, q3, q4⟩ := hSw; go_simp <;> with_reducible rfl)
        simp only [Act.put, List.setIfInBounds_toArray, List.set_cons_zero, List.set_cons_succ]
        refine wpAnyH_take (i := 4) (oi := { dst := some 29, op := _, type := _, pos := _, after := _, guard := _ }) (v := ?_) rfl (by kernel_rfl) (by kernel_rfl) (by kernel_rfl) (fun _ _ _ h => h) (Or.inl ⟨by rfl, ?_⟩) (hH1) ?_
        rotate_left
        · (intro wx hSw; obtain ⟨l0, l1, l2, q0, q1, q2, q3, q4⟩ := hSw; go_simp <;> with_reducible rfl)
        simp only [Act.put, List.setIfInBounds_toArray, List.set_cons_zero, List.set_cons_succ]
        refine wpAnyH_take (i := 5) (oi := { dst := some 30, op := _, type := _, pos := _, after := _, guard := _ }) (v := ?_) rfl (by kernel_rfl) (by kernel_rfl) (by kernel_rfl) (fun _ _ _ h => h) (Or.inl ⟨by rfl, ?_⟩) (hH1) ?_
        rotate_left
        · (intro wx hSw; obtain ⟨l0, l1, l2, q0, q1, q2, q3, q4⟩ := hSw; go_simp <;> with_reducible rfl)
        simp only [Act.put, List.setIfInBounds_toArray, List.set_cons_zero, List.set_cons_succ]
        refine wpAnyH_take (i := 6) (oi := { dst := some 31, op := _, type := _, pos := _, after := _, guard := _ }) (v := ?_) rfl (by kernel_rfl) (by kernel_rfl) (by kernel_rfl) (fun _ _ _ h => h) (Or.inl ⟨by rfl, ?_⟩) (hH1) ?_
        rotate_left
        · (intro wx hSw; obtain ⟨l0, l1, l2, q0, q1, q2, q3, q4⟩ := hSw; go_simp <;> with_reducible rfl)
        simp only [Act.put, List.setIfInBounds_toArray, List.set_cons_zero, List.set_cons_succ]
        refine wpAnyH_take (i := 7) (oi := { dst := some 32, op := _, type := _, pos := _, after := _, guard := _ }) (v := ?_) rfl (by kernel_rfl) (by kernel_rfl) (by kernel_rfl) (fun _ _ _ h => h) (Or.inl ⟨by rfl, ?_⟩) (hH1) ?_
        rotate_left
        · (intro wx hSw; obtain ⟨l0, l1, l2, q0, q1, q2, q3, q4⟩ := hSw; go_simp <;> with_reducible rfl)
        simp only [Act.put, List.setIfInBounds_toArray, List.set_cons_zero, List.set_cons_succ]
        refine wpAnyH_take (i := 8) (oi := { dst := some 33, op := _, type := _, pos := _, after := _, guard := _ }) (v := ?_) rfl (by kernel_rfl) (by kernel_rfl) (by kernel_rfl) (fun _ _ _ h => h) (Or.inl ⟨by rfl, ?_⟩) (hH1) ?_
        rotate_left
        · (intro wx hSw; obtain ⟨l0, l1, l2, q0, q1, q2, q3, q4⟩ := hSw; go_simp <;> with_reducible rfl)
        simp only [Act.put, List.setIfInBounds_toArray, List.set_cons_zero, List.set_cons_succ]
        refine wpAnyH_take (i := 9) (oi := { dst := some 34, op := _, type := _, pos := _, after := _, guard := _ }) (v := ?_) rfl (by kernel_rfl) (by kernel_rfl) (by kernel_rfl) (fun _ _ _ h => h) (Or.inl ⟨by rfl, ?_⟩) (hH1) ?_
        rotate_left
        · (intro wx hSw; obtain ⟨l0, l1, l2, q0, q1, q2, q3, q4⟩ := hSw; go_simp <;> with_reducible rfl)
        simp only [Act.put, List.setIfInBounds_toArray, List.set_cons_zero, List.set_cons_succ]
        refine wpAnyH_take (i := 10) (oi := { dst := some 35, op := _, type := _, pos := _, after := _, guard := _ }) (v := ?_) rfl (by kernel_rfl) (by kernel_rfl) (by kernel_rfl) (fun _ _ _ h => h) (Or.inl ⟨by rfl, ?_⟩) (hH1) ?_
        rotate_left
        · (intro wx hSw; obtain ⟨l0, l1, l2, q0, q1, q2, q3, q4⟩ := hSw; go_simp <;> with_reducible rfl)
        simp only [Act.put, List.setIfInBounds_toArray, List.set_cons_zero, List.set_cons_succ]
        refine wpAnyH_take (i := 11) (oi := { dst := some 36, op := _, type := _, pos := _, after := _, guard := _ }) (v := ?_) rfl (by kernel_rfl) (by kernel_rfl) (by kernel_rfl) (fun _ _ _ h => h) (Or.inl ⟨by rfl, ?_⟩) (hH1) ?_
        rotate_left
        · (intro wx hSw; obtain ⟨l0, l1, l2, q0, q1, q2, q3, q4⟩ := hSw; go_simp <;> with_reducible rfl)
        simp only [Act.put, List.setIfInBounds_toArray, List.set_cons_zero, List.set_cons_succ]
        refine wpAnyH_take (i := 12) (oi := { dst := some 37, op := _, type := _, pos := _, after := _, guard := _ }) (v := ?_) rfl (by kernel_rfl) (by kernel_rfl) (by kernel_rfl) (fun _ _ _ h => h) (Or.inl ⟨by rfl, ?_⟩) (hH1) ?_
        rotate_left
        · (intro wx hSw; obtain ⟨l0, l1, l2, q0, q1, q2, q3, q4⟩ := hSw; go_simp <;> with_reducible rfl)
        simp only [Act.put, List.setIfInBounds_toArray, List.set_cons_zero, List.set_cons_succ]
        refine wpAnyH_ready (rs := [13]) (by kernel_rfl) (by simp) ?_
        refine AllReadyH.cons (o := { dst := some 38, op := _, type := _, pos := _, after := _, guard := _ }) rfl (fun K hK => ?_) AllReadyH.nil
        go_simp
        refine (LE.out _).mono ?_
        rintro e w_c42_2 ⟨rfl, hb_c42_2⟩
        dsimp only
        refine hK.out _ _ (HV.below hH1 hb_c42_2) (fun hH2 => ?_)
        clear hK K
        refine wpAnyH_take (i := 14) (oi := { dst := some 39, op := _, type := _, pos := _, after := _, guard := _ }) (v := ?_) rfl (by kernel_rfl) (by kernel_rfl) (by kernel_rfl) (fun _ _ _ h => h) (Or.inl ⟨by rfl, ?_⟩) (hH2) ?_
        rotate_left
        · (intro wx hSw; obtain ⟨l0, l1, l2, q0, q1, q2, q3, q4⟩ := hSw; go_simp <;> with_reducible rfl)
        simp only [Act.put, List.setIfInBounds_toArray, List.set_cons_zero, List.set_cons_succ]
        refine wpAnyH_done (by kernel_rfl) ?_ _
        -- behind it: go_wp2_with fail, then go_meet (a cut) or go_ret; the condition at the end: hH2
        cases u
        · go_wp2_with fail
          go_roundw
          case rel =>
            have hbel := HB.out
            exact ⟨k + 1, by omega, by go_num, fun j hj => (by rcases Nat.lt_succ_iff_lt_or_eq.1 hj with h | h; exact HP.out j h; rw [h]; exact (hat : heapAt f g k = true)), (by repeat' first | with_reducible exact Below.refl _ _ | with_reducible assumption | with_reducible refine below_drewN ?_ _ | with_reducible refine balloc ?_ _ | with_reducible refine Below.drew ?_ | with_reducible refine Below.setCell ?_ (by first | (simp; done) | (simp; omega) | omega) _ | with_reducible refine bstep ?_ (by assumption))⟩
          case measure => simp [intOf]; omega
        · go_wp2_with fail
          all_goals
            go_ret
            refine ⟨by rw [allN_no hlt (hat : heapAt f g k = false)]; rfl, ?_⟩
            have x1 := HB0.out
            have x2 := HB.out
            exact (by repeat' first | with_reducible exact Below.refl _ _ | with_reducible assumption | with_reducible refine below_drewN ?_ _ | with_reducible refine balloc ?_ _ | with_reducible refine Below.drew ?_ | with_reducible refine Below.setCell ?_ (by first | (simp; done) | (simp; omega) | omega) _ | with_reducible refine bstep ?_ (by assumption))
    · clear hpre hbel hc
      go_wp2_with fail
      go_ret
      refine ⟨by rw [allN_yes (fun j hj => HP.out j (by omega))]; rfl, ?_⟩
      have h1 := HB0.out
      have h2 := HB.out
      exact (by repeat' first | with_reducible exact Below.refl _ _ | with_reducible assumption | with_reducible refine below_drewN ?_ _ | with_reducible refine balloc ?_ _ | with_reducible refine Below.drew ?_ | with_reducible refine Below.setCell ?_ (by first | (simp; done) | (simp; omega) | omega) _ | with_reducible refine bstep ?_ (by assumption))

set_option maxHeartbeats 400000 in
theorem iHeapOk_few (K : Int) (a : Option Addr) (n cap : Nat) (w : World) (h : ¬ ((1 ≤ K ∧ K ≤ 20) ∧ (n : Int) ≤ K)) :
    Calls Try.prog 56 #[.agg #[.int .i64 K, .slice a n cap]] w fun e w' => e = .returned (.bool false) ∧ Below w.heap.size w w' := by
  rcases (show K < 1 ∨ (1 ≤ K ∧ 20 < K) ∨ ((1 ≤ K ∧ K ≤ 20) ∧ K < (n : Int)) by omega) with h1 | ⟨h1, h2⟩ | ⟨⟨h1, h2⟩, h3⟩
  · have KO := hide (kOk_any K)
    rw [show inB K 1 20 = false from decide_eq_false (by omega)] at KO
    clear h
    go_enter Try.func56, Try.ntmps56
    go_wp2_with fail
    refine (KO.out _).mono ?_
    rintro e w' ⟨rfl, rfl⟩
    go_wp2_with fail
    go_ret
    exact ⟨rfl, (by repeat' first | with_reducible exact Below.refl _ _ | with_reducible assumption | with_reducible refine below_drewN ?_ _ | with_reducible refine balloc ?_ _ | with_reducible refine Below.drew ?_ | with_reducible refine Below.setCell ?_ (by first | (simp; done) | (simp; omega) | omega) _ | with_reducible refine bstep ?_ (by assumption))⟩
  · have KO := hide (kOk_any K)
    rw [show inB K 1 20 = false from decide_eq_false (by omega)] at KO
    clear h
    go_enter Try.func56, Try.ntmps56
    go_wp2_with fail
    refine (KO.out _).mono ?_
    rintro e w' ⟨rfl, rfl⟩
    go_wp2_with fail
    go_ret
    exact ⟨rfl, (by repeat' first | with_reducible exact Below.refl _ _ | with_reducible assumption | with_reducible refine below_drewN ?_ _ | with_reducible refine balloc ?_ _ | with_reducible refine Below.drew ?_ | with_reducible refine Below.setCell ?_ (by first | (simp; done) | (simp; omega) | omega) _ | with_reducible refine bstep ?_ (by assumption))⟩
  · have KO := hide (kOk_any K)
    rw [show inB K 1 20 = true from decide_eq_true ⟨h1, h2⟩] at KO
    clear h
    go_enter Try.func56, Try.ntmps56
    go_wp2_with fail
    refine (KO.out _).mono ?_
    rintro e w' ⟨rfl, rfl⟩
    go_wp2_with fail
    go_ret
    exact ⟨rfl, (by repeat' first | with_reducible exact Below.refl _ _ | with_reducible assumption | with_reducible refine below_drewN ?_ _ | with_reducible refine balloc ?_ _ | with_reducible refine Below.drew ?_ | with_reducible refine Below.setCell ?_ (by first | (simp; done) | (simp; omega) | omega) _ | with_reducible refine bstep ?_ (by assumption))⟩

set_option maxHeartbeats 400000 in
theorem iHeapOk_none (K : Int) (a : Option Addr) (n cap : Nat) (w : World) (h1 : 1 ≤ K) (h2 : K ≤ 20) (hn : n < 1) :
    Calls Try.prog 56 #[.agg #[.int .i64 K, .slice a n cap]] w fun e w' => e = .returned (.bool true) ∧ Below w.heap.size w w' := by
  have h3 : (n : Int) ≤ K := by omega
  have KO := hide (kOk_any K)
  rw [show inB K 1 20 = true from decide_eq_true ⟨h1, h2⟩] at KO
  go_enter Try.func56, Try.ntmps56
  go_wp2_with fail
  refine (KO.out _).mono ?_
  rintro e w' ⟨rfl, rfl⟩
  go_wp2_with fail
  refine wp_loop_rounds 1 ?_
  rw [rounds_succ]
  go_wp2_with fail
  go_ret
  exact ⟨rfl, (by repeat' first | with_reducible exact Below.refl _ _ | with_reducible assumption | with_reducible refine below_drewN ?_ _ | with_reducible refine balloc ?_ _ | with_reducible refine Below.drew ?_ | with_reducible refine Below.setCell ?_ (by first | (simp; done) | (simp; omega) | omega) _ | with_reducible refine bstep ?_ (by assumption))⟩

theorem heapB_few {K : Int} {n : Nat} {f g : Nat → Int} (h : ¬ ((1 ≤ K ∧ K ≤ 20) ∧ (n : Int) ≤ K)) : heapB K n f g = false := by
  unfold heapB inB
  rw [show (decide (1 ≤ K ∧ K ≤ 20) && decide ((n : Int) ≤ K)) = false from by rw [← Bool.decide_and]; exact decide_eq_false h, Bool.false_and]
theorem heapB_some {K : Int} {n : Nat} {f g : Nat → Int} (h : (1 ≤ K ∧ K ≤ 20) ∧ (n : Int) ≤ K) : heapB K n f g = allN n (heapAt f g) := by
  unfold heapB inB
  rw [decide_eq_true h.1, decide_eq_true h.2]; rfl

theorem iHeapOk_any (K : Int) (a : Option Addr) (n cap : Nat) (f g : Nat → Int) (w : World) (h : PRow w a n f g) :
    Calls Try.prog 56 #[.agg #[.int .i64 K, .slice a n cap]] w fun e w' => e = .returned (.bool (heapB K n f g)) ∧ Below w.heap.size w w' := by
  by_cases hk : (1 ≤ K ∧ K ≤ 20) ∧ (n : Int) ≤ K
  · rw [heapB_some hk]
    rcases h.lies with h0 | ⟨b, off, rfl, lt, hc⟩
    · rw [show allN n (heapAt f g) = true from allN_yes fun i hi => absurd hi (by omega)]
      exact iHeapOk_none K a n cap w hk.1.1 hk.1.2 (by omega)
    · exact iHeapOk_some K b off n cap f g w hk.1.1 hk.1.2 hk.2 lt hc
  · rw [heapB_few hk]
    exact iHeapOk_few K a n cap w hk
end Go.Proofs.Ytmbncafbbpcmbaa

/- HeapPut of the program. -/
namespace Go.Proofs.Ytmbncafbbpcmbaa
open Go.RowKit
set_option maxRecDepth 8000
set_option linter.unusedSimpArgs false
set_option linter.unusedVariables false

/-- How many there are behind a put, and which. -/
def putN (K : Int) (n : Nat) : Nat := if K < (n : Int) + 1 then n else n + 1
def putL1 (n : Nat) (f g : Nat → Int) (i d : Int) : NL := upL n ((listL n f g).put n (i, d))
def putL (K : Int) (n : Nat) (f g : Nat → Int) (i d : Int) : NL := if K < (n : Int) + 1 then dnL n 0 (swp (putL1 n f g i d) 0 n) else putL1 n f g i d
def putB (K : Int) (n : Nat) (f g : Nat → Int) (i d : Int) : Bool := heapB K n f g && nearB i d

def Put (w : World) (K : Int) (n : Nat) (f g : Nat → Int) (i d : Int) (e : Ending) (w' : World) : Prop :=
  Below w.heap.size w w' ∧ ((putB K n f g i d = false ∧ e = .returned (.tuple #[.agg #[.int .i64 0, .slice none 0 0], .bool false])) ∨
    (putB K n f g i d = true ∧ ∃ b cap m, e = .returned (.tuple #[.agg #[.int .i64 K, .slice (some ⟨b, 0, none⟩) (putN K n) cap], .bool true]) ∧ w.heap.size ≤ b ∧ putN K n ≤ m ∧ m ≤ 22 ∧ OwnL w' b m (putL K n f g i d)))

/-- The boxes of HeapPut: the heap, the Near, the result. -/
structure PBx (w : World) (B : Nat) (K : Int) (a : Option Addr) (n cap : Nat) (i d : Int) : Prop where
  lt : B + 2 < w.heap.size
  h0 : w.cell? ⟨B, 0, none⟩ = some (.int .i64 K)
  h1 : w.cell? ⟨B, 1, none⟩ = some (.slice a n cap)
  n0 : w.cell? ⟨B + 1, 0, none⟩ = some (.int .i64 i)
  n1 : w.cell? ⟨B + 1, 1, none⟩ = some (.int .i64 d)
  r0 : w.cell? ⟨B + 1 + 1, 0, none⟩ = some (.int .i64 0)
  r1 : w.cell? ⟨B + 1 + 1, 1, none⟩ = some (.slice none 0 0)
  f0 : w.frozen? ⟨B + 1 + 1, 0, none⟩ = false
  f1 : w.frozen? ⟨B + 1 + 1, 1, none⟩ = false
theorem PBx.low {w w' : World} {B X : Nat} {K : Int} {a : Option Addr} {n cap : Nat} {i d : Int} (h : PBx w B K a n cap i d) (b : Below X w w') (hX : B + 2 < X) : PBx w' B K a n cap i d := by
  have l0 : B < X := by omega
  have l1 : B + 1 < X := by omega
  have l2 : B + 1 + 1 < X := hX
  exact ⟨Nat.lt_of_lt_of_le h.lt b.size, (b.cell (p := ⟨B, 0, none⟩) l0).trans h.h0, (b.cell (p := ⟨B, 1, none⟩) l0).trans h.h1, (b.cell (p := ⟨B + 1, 0, none⟩) l1).trans h.n0, (b.cell (p := ⟨B + 1, 1, none⟩) l1).trans h.n1,
    (b.cell (p := ⟨B + 1 + 1, 0, none⟩) l2).trans h.r0, (b.cell (p := ⟨B + 1 + 1, 1, none⟩) l2).trans h.r1, (b.frozen (p := ⟨B + 1 + 1, 0, none⟩) l2).trans h.f0, (b.frozen (p := ⟨B + 1 + 1, 1, none⟩) l2).trans h.f1⟩
theorem PBx.below {w w' : World} {B : Nat} {K : Int} {a : Option Addr} {n cap : Nat} {i d : Int} (h : PBx w B K a n cap i d) (b : Below w.heap.size w w') : PBx w' B K a n cap i d := h.low b h.lt

def KOk (v : Bool) (K : Int) (n : Nat) : Prop := v = true → (1 ≤ K ∧ K ≤ 20) ∧ (n : Int) ≤ K
theorem putN_le {K : Int} {n : Nat} (h : (n : Int) ≤ K) : putN K n ≤ n + 1 := by unfold putN; split <;> omega

set_option maxHeartbeats 1600000 in
theorem iHeapPut_any (K : Int) (a : Option Addr) (n cap : Nat) (f g : Nat → Int) (i d : Int) (w : World) (h : PRow w a n f g) :
    Calls Try.prog 44 #[.agg #[.int .i64 K, .slice a n cap], .agg #[.int .i64 i, .int .i64 d]] w fun e w' => Put w K n f g i d e w' := by
  have HO := hide (fun w1 (hb : Below w.heap.size w w1) => iHeapOk_any K a n cap f g w1 (h.below hb))
  have NO := hide (iNearOk_any i d)
  have HP := hide h
  clear h
  obtain ⟨v, hv⟩ : ∃ v, heapB K n f g = v := ⟨_, rfl⟩
  obtain ⟨u, hu⟩ : ∃ u, nearB i d = u := ⟨_, rfl⟩
  rw [hv] at HO
  rw [hu] at NO
  have hput : putB K n f g i d = (v && u) := by unfold putB; rw [hv, hu]
  have hK : KOk v K n := by
    rintro rfl
    unfold heapB inB at hv
    simp only [Bool.and_eq_true, decide_eq_true_eq] at hv
    exact hv.1
  have HPUT := hide hput
  have HK := hide hK
  clear hv hu hput hK
  go_enter Try.func44, Try.ntmps44
  go_wp2_with fail
  refine (HO.out _ (by repeat' first | with_reducible exact Below.refl _ _ | with_reducible assumption | with_reducible refine below_drewN ?_ _ | with_reducible refine balloc ?_ _ | with_reducible refine Below.drew ?_ | with_reducible refine Below.setCell ?_ (by first | (simp; done) | (simp; omega) | omega) _ | with_reducible refine bstep ?_ (by assumption))).mono ?_
  rintro e w1 ⟨rfl, hb1⟩
  have P1 : PBx w1 w.heap.size K a n cap i d := by
    refine PBx.below ⟨?_, ?_, ?_, ?_, ?_, ?_, ?_, ?_, ?_⟩ hb1 <;> simp [go_sem]
  have B1 : Below w.heap.size w w1 := (by repeat' first | with_reducible exact Below.refl _ _ | with_reducible assumption | with_reducible refine below_drewN ?_ _ | with_reducible refine balloc ?_ _ | with_reducible refine Below.drew ?_ | with_reducible refine Below.setCell ?_ (by first | (simp; done) | (simp; omega) | omega) _ | with_reducible refine bstep ?_ (by assumption))
  clear hb1 HO
  have P1' := P1
  obtain ⟨l0, h0, h1, n0, n1, r0, r1, f0, f1⟩ := P1'
  cases v
  · go_wp2_with fail
    refine bodyPost_ret (v := .tuple #[.agg #[.int .i64 0, .slice none 0 0], .bool false]) ?_ rfl ⟨?_, .inl ⟨HPUT.out, rfl⟩⟩
    · simp [results, Try.results44, go_sem, r0, r1]
    · exact (by repeat' first | with_reducible exact Below.refl _ _ | with_reducible assumption | with_reducible refine below_drewN ?_ _ | with_reducible refine balloc ?_ _ | with_reducible refine Below.drew ?_ | with_reducible refine Below.setCell ?_ (by first | (simp; done) | (simp; omega) | omega) _ | with_reducible refine bstep ?_ (by assumption))
  · go_wp2_with fail
    refine (NO.out _).mono ?_
    rintro e w2 ⟨rfl, hb2⟩
    have P2 := P1.below hb2
    have B2 : Below w.heap.size w w2 := (by repeat' first | with_reducible exact Below.refl _ _ | with_reducible assumption | with_reducible refine below_drewN ?_ _ | with_reducible refine balloc ?_ _ | with_reducible refine Below.drew ?_ | with_reducible refine Below.setCell ?_ (by first | (simp; done) | (simp; omega) | omega) _ | with_reducible refine bstep ?_ (by assumption))
    clear l0 h0 h1 n0 n1 r0 r1 f0 f1 hb2 P1 B1
    have P2' := P2
    obtain ⟨l0, h0, h1, n0, n1, r0, r1, f0, f1⟩ := P2'
    cases u
    · go_wp2_with fail
      refine bodyPost_ret (v := .tuple #[.agg #[.int .i64 0, .slice none 0 0], .bool false]) ?_ rfl ⟨?_, .inl ⟨HPUT.out, rfl⟩⟩
      · simp [results, Try.results44, go_sem, r0, r1]
      · exact (by repeat' first | with_reducible exact Below.refl _ _ | with_reducible assumption | with_reducible refine below_drewN ?_ _ | with_reducible refine balloc ?_ _ | with_reducible refine Below.drew ?_ | with_reducible refine Below.setCell ?_ (by first | (simp; done) | (simp; omega) | omega) _ | with_reducible refine bstep ?_ (by assumption))
    · obtain ⟨⟨hK1, hK2⟩, hnK⟩ := HK.out rfl
      have hn20 : n ≤ 20 := by omega
      have GO := hide (fun w1 (hb : Below w.heap.size w w1) => greatestOf_any K a n cap f g w1 (HP.out.below hb) hn20)
      go_wp2_with fail
      refine (GO.out _ B2).mono ?_
      rintro e w3 ⟨b, rfl, hbl, hown, hb3⟩
      have P3 := P2.below hb3
      have B3 : Below w.heap.size w w3 := (by repeat' first | with_reducible exact Below.refl _ _ | with_reducible assumption | with_reducible refine below_drewN ?_ _ | with_reducible refine balloc ?_ _ | with_reducible refine Below.drew ?_ | with_reducible refine Below.setCell ?_ (by first | (simp; done) | (simp; omega) | omega) _ | with_reducible refine bstep ?_ (by assumption))
      have hsz := P2.lt
      have hs3 := B3.size
      clear l0 h0 h1 n0 n1 r0 r1 f0 f1 hb3 P2 B2
      generalize hw4 : w3.alloc (Obj.cells #[Value.slice (some ⟨b, 0, none⟩) n (n + 1)] 86) = w4
      have B34 : Below w3.heap.size w3 w4 := by rw [← hw4]; exact balloc (Below.refl _ _) _
      have hbw := hown.lt
      have G4 : GV w4 w3.heap.size b (n + 1) n (n + 1) (listL n f g) := by
        refine ⟨?_, by omega, ?_, ?_, hown.below B34, by omega, by omega⟩ <;> rw [← hw4] <;> simp [go_sem]
      have P4 := P3.below B34
      have B4 : Below w.heap.size w w4 := (by repeat' first | with_reducible exact Below.refl _ _ | with_reducible assumption | with_reducible refine below_drewN ?_ _ | with_reducible refine balloc ?_ _ | with_reducible refine Below.drew ?_ | with_reducible refine Below.setCell ?_ (by first | (simp; done) | (simp; omega) | omega) _ | with_reducible refine bstep ?_ (by assumption))
      have P4' := P4
      obtain ⟨l0, h0, h1, n0, n1, r0, r1, f0, f1⟩ := P4'
      have PU := hide (hPush_any (w.heap.size + 3) w3.heap.size b (n + 1) n (n + 1) (listL n f g) i d w4 G4 (by omega) (by omega) (by have := P3.lt; omega) (by omega))
      have hl3 := P3.lt
      clear hown G4 P3 B3 B34
      subst hw4
      go_wp2_with fail
      refine PU.out.mono ?_
      rintro e w5 ⟨rfl, hb5, G5⟩
      have P5 := P4.low hb5 (by omega)
      have B5 : Below w.heap.size w w5 := B4.trans (hb5.mono (by omega))
      clear l0 h0 h1 n0 n1 r0 r1 f0 f1 hb5 P4 B4 PU
      have P5' := P5
      obtain ⟨l0, h0, h1, n0, n1, r0, r1, f0, f1⟩ := P5'
      have g5c := G5.cell
      have g5l := G5.lt
      have G5' := hide G5
      clear G5
      by_cases hbig : K < (n : Int) + 1
      · have PO := hide (hPop_any (w.heap.size + 3) w3.heap.size b (n + 1) n (n + 1) (putL1 n f g i d) w5 G5'.out (by omega) (by omega) (by omega))
        go_wp2_with fail
        refine PO.out.mono ?_
        rintro e w6 ⟨⟨v6, rfl⟩, hb6, G6⟩
        have P6 := P5.low hb6 (by omega)
        have B6 : Below w.heap.size w w6 := B5.trans (hb6.mono (by omega))
        clear l0 h0 h1 n0 n1 r0 r1 f0 f1 hb6 P5 B5 PO g5c
        obtain ⟨l0, h0, h1, n0, n1, r0, r1, f0, f1⟩ := P6
        have g6c := G6.cell
        have G6' := hide G6
        clear G6
        go_wp2_with fail
        refine bodyPost_ret (v := .tuple #[.agg #[.int .i64 K, .slice (some ⟨b, 0, none⟩) n (n + 1)], .bool true]) ?_ rfl ⟨?_, .inr ⟨HPUT.out, b, n + 1, n + 1, ?_, by omega, ?_, by omega, ?_⟩⟩
        · simp [results, Try.results44, go_sem, r0, r1]
        · exact (by repeat' first | with_reducible exact Below.refl _ _ | with_reducible assumption | with_reducible refine below_drewN ?_ _ | with_reducible refine balloc ?_ _ | with_reducible refine Below.drew ?_ | with_reducible refine Below.setCell ?_ (by first | (simp; done) | (simp; omega) | omega) _ | with_reducible refine bstep ?_ (by assumption))
        · unfold putN; rw [if_pos hbig]
        · unfold putN; rw [if_pos hbig]; omega
        · unfold putL; rw [if_pos hbig]
          exact (G6'.out.own.away _ _ (by simp; omega)).away _ _ (by simp; omega)
      · go_wp2_with fail
        refine bodyPost_ret (v := .tuple #[.agg #[.int .i64 K, .slice (some ⟨b, 0, none⟩) (n + 1) (n + 1)], .bool true]) ?_ rfl ⟨?_, .inr ⟨HPUT.out, b, n + 1, n + 1, ?_, by omega, ?_, by omega, ?_⟩⟩
        · simp [results, Try.results44, go_sem, r0, r1]
        · exact (by repeat' first | with_reducible exact Below.refl _ _ | with_reducible assumption | with_reducible refine below_drewN ?_ _ | with_reducible refine balloc ?_ _ | with_reducible refine Below.drew ?_ | with_reducible refine Below.setCell ?_ (by first | (simp; done) | (simp; omega) | omega) _ | with_reducible refine bstep ?_ (by assumption))
        · unfold putN; rw [if_neg (show ¬ K < (n : Int) + 1 by omega)]
        · unfold putN; rw [if_neg (show ¬ K < (n : Int) + 1 by omega)]; omega
        · unfold putL; rw [if_neg (show ¬ K < (n : Int) + 1 by omega)]
          exact (G5'.out.own.away _ _ (by simp; omega)).away _ _ (by simp; omega)
end Go.Proofs.Ytmbncafbbpcmbaa

/- Sorting as plain functions: what a heap gives one by one from behind is what an insertion sort makes. -/
namespace Go.Proofs.Ytmbncafbbpcmbaa
open Go.RowKit
set_option maxRecDepth 8000
set_option linter.unusedSimpArgs false
set_option linter.unusedVariables false

/-- How often x is among the first n. -/
def cnt (L : NL) : Nat → Int × Int → Nat
  | 0, _ => 0
  | n + 1, x => cnt L n x + if L n = x then 1 else 0
theorem cnt_congr {L M : NL} (n : Nat) (x : Int × Int) (h : ∀ i, i < n → L i = M i) : cnt L n x = cnt M n x := by
  induction n with
  | zero => rfl
  | succ n ih => simp only [cnt]; rw [ih (fun i hi => h i (by omega)), h n (by omega)]
theorem cnt_put {L : NL} {i : Nat} (y x : Int × Int) : ∀ n, i < n → cnt (L.put i y) n x + (if L i = x then 1 else 0) = cnt L n x + (if y = x then 1 else 0) := by
  intro n
  induction n with
  | zero => intro h; omega
  | succ n ih =>
    intro h
    simp only [cnt]
    by_cases e : i = n
    · subst e
      rw [cnt_congr (L := L.put i y) (M := L) i x (fun j hj => by unfold NL.put; rw [if_neg (by omega)])]
      have : L.put i y i = y := by unfold NL.put; rw [if_pos rfl]
      rw [this]; omega
    · have := ih (by omega)
      have e2 : L.put i y n = L n := by unfold NL.put; rw [if_neg (by omega)]
      rw [e2]; omega
theorem cnt_swp (L : NL) {i j n : Nat} (x : Int × Int) (hi : i < n) (hj : j < n) : cnt (swp L i j) n x = cnt L n x := by
  rw [← swp_put]
  have h1 := cnt_put (L := L) (i := i) (L j) x n hi
  have h2 := cnt_put (L := L.put i (L j)) (i := j) (L i) x n hj
  have e : L.put i (L j) j = L j := by
    unfold NL.put
    by_cases e : j = i
    · rw [if_pos e]
    · rw [if_neg e]
  rw [e] at h2
  omega
theorem cnt_pos {L : NL} {x : Int × Int} : ∀ n, 0 < cnt L n x → ∃ i, i < n ∧ L i = x := by
  intro n
  induction n with
  | zero => intro h; simp [cnt] at h
  | succ n ih =>
    intro h
    simp only [cnt] at h
    by_cases e : L n = x
    · exact ⟨n, by omega, e⟩
    · rw [if_neg e] at h
      obtain ⟨i, hi, hx⟩ := ih (by omega)
      exact ⟨i, by omega, hx⟩
theorem cnt_of {L : NL} {x : Int × Int} {n i : Nat} (hi : i < n) (hx : L i = x) : 0 < cnt L n x := by
  induction n with
  | zero => omega
  | succ n ih =>
    simp only [cnt]
    by_cases e : i = n
    · subst e; rw [if_pos hx]; omega
    · have := ih (by omega); omega
theorem cnt_upL (n : Nat) (x : Int × Int) : ∀ (t j : Nat) (L : NL), j ≤ t → j < n → cnt (upL j L) n x = cnt L n x := by
  intro t
  induction t with
  | zero =>
    intro j L ht hj
    obtain rfl : j = 0 := by omega
    rw [upL_zero]
  | succ t ih =>
    intro j L ht hj
    by_cases h0 : j = 0
    · subst h0; rw [upL_zero]
    · cases hb : lt2 (L ((j - 1) / 2)) (L j)
      · rw [upL_no hb]
      · rw [upL_yes h0 hb, ih _ _ (by omega) (by omega), cnt_swp L x (by omega) hj]
theorem cnt_dnL (n N : Nat) (x : Int × Int) (hN : n ≤ N) : ∀ (t i : Nat) (L : NL), n - i ≤ t → cnt (dnL n i L) N x = cnt L N x := by
  intro t
  induction t with
  | zero => intro i L ht; rw [dnL_out (by omega)]
  | succ t ih =>
    intro i L ht
    by_cases h : 2 * i + 1 < n
    · have hk := kid_lt L h
      have hg := kid_gt n i L
      cases hb : lt2 (L i) (L (kid n i L))
      · rw [dnL_no hb]
      · rw [dnL_yes h hb, ih _ _ (by omega), cnt_swp L x (by omega) (by omega)]
    · rw [dnL_out h]

theorem lt2_irrefl (x : Int × Int) : lt2 x x = false := by unfold lt2 lessB; simp
theorem lt2_asymm {x y : Int × Int} (h : lt2 x y = true) : lt2 y x = false := by
  unfold lt2 lessB at *
  simp only [decide_eq_true_eq, decide_eq_false_iff_not] at *
  omega
theorem le2_trans {a b c : Int × Int} (h1 : lt2 b a = false) (h2 : lt2 c b = false) : lt2 c a = false := by
  unfold lt2 lessB at *
  simp only [decide_eq_false_iff_not] at *
  omega
theorem le2_anti {a b : Int × Int} (h1 : lt2 b a = false) (h2 : lt2 a b = false) : a = b := by
  unfold lt2 lessB at *
  simp only [decide_eq_false_iff_not] at *
  exact Prod.ext (by omega) (by omega)

def HeapP (n : Nat) (L : NL) : Prop := ∀ j, 0 < j → j < n → lt2 (L ((j - 1) / 2)) (L j) = false
theorem HeapP.top {n : Nat} {L : NL} (h : HeapP n L) : ∀ (t j : Nat), j ≤ t → j < n → lt2 (L 0) (L j) = false := by
  intro t
  induction t with
  | zero =>
    intro j ht hj
    obtain rfl : j = 0 := by omega
    exact lt2_irrefl _
  | succ t ih =>
    intro j ht hj
    by_cases h0 : j = 0
    · subst h0; exact lt2_irrefl _
    · exact le2_trans (h j (by omega) hj) (ih ((j - 1) / 2) (by omega) (by omega))

def DnInv (n i : Nat) (L : NL) : Prop :=
  (∀ j, 0 < j → j < n → (j - 1) / 2 ≠ i → lt2 (L ((j - 1) / 2)) (L j) = false) ∧ (0 < i → ∀ j, 0 < j → j < n → (j - 1) / 2 = i → lt2 (L ((i - 1) / 2)) (L j) = false)
theorem kid_top {n i : Nat} {L : NL} {j : Nat} (h0 : 0 < j) (hj : j < n) (hp : (j - 1) / 2 = i) : lt2 (L (kid n i L)) (L j) = false := by
  unfold kid
  by_cases h : 2 * i + 2 < n ∧ lt2 (L (2 * i + 1)) (L (2 * i + 2)) = true
  · rw [if_pos h]
    rcases (show j = 2 * i + 1 ∨ j = 2 * i + 2 by omega) with rfl | rfl
    · exact lt2_asymm h.2
    · exact lt2_irrefl _
  · rw [if_neg h]
    rcases (show j = 2 * i + 1 ∨ j = 2 * i + 2 by omega) with rfl | rfl
    · exact lt2_irrefl _
    · cases hb : lt2 (L (2 * i + 1)) (L (2 * i + 2))
      · rfl
      · exact absurd ⟨hj, hb⟩ h
theorem dn_heap (n : Nat) : ∀ (t i : Nat) (L : NL), n - i ≤ t → DnInv n i L → HeapP n (dnL n i L) := by
  intro t
  induction t with
  | zero =>
    intro i L ht h
    rw [dnL_out (by omega)]
    exact fun j h0 hj => h.1 j h0 hj (by omega)
  | succ t ih =>
    intro i L ht h
    by_cases h1 : 2 * i + 1 < n
    · have hk := kid_lt L h1
      have hg := kid_gt n i L
      have hkp : (kid n i L - 1) / 2 = i := by unfold kid; split <;> omega
      cases hb : lt2 (L i) (L (kid n i L))
      · rw [dnL_no hb]
        intro j h0 hj
        by_cases hp : (j - 1) / 2 = i
        · rw [hp]; exact le2_trans (kid_top h0 hj hp) hb
        · exact h.1 j h0 hj hp
      · rw [dnL_yes h1 hb]
        generalize hkk : kid n i L = k at *
        refine ih k _ (by omega) ⟨?_, ?_⟩
        · intro j h0 hj hp
          by_cases ejk : j = k
          · subst ejk
            rw [hkp]
            unfold swp
            rw [if_pos rfl, if_neg (by omega), if_pos rfl]
            exact lt2_asymm hb
          · by_cases ep : (j - 1) / 2 = i
            · rw [ep]
              unfold swp
              rw [if_pos rfl, if_neg (by omega), if_neg ejk, ← hkk]
              exact kid_top h0 hj ep
            · by_cases ej : j = i
              · subst ej
                unfold swp
                rw [if_neg (by omega), if_neg hp, if_pos rfl]
                exact h.2 (by omega) k (by omega) hk hkp
              · unfold swp
                rw [if_neg ep, if_neg hp, if_neg ej, if_neg ejk]
                exact h.1 j h0 hj ep
        · intro hk0 j h0 hj hp
          rw [hkp]
          unfold swp
          rw [if_pos rfl, if_neg (by omega), if_neg (by omega)]
          have := h.1 j h0 hj (by omega)
          rwa [hp] at this
    · rw [dnL_out h1]
      exact fun j h0 hj => h.1 j h0 hj (by omega)

def SortedP (n : Nat) (A : NL) : Prop := ∀ i, i + 1 < n → lt2 (A (i + 1)) (A i) = false
theorem sorted_last {A : NL} : ∀ n, SortedP (n + 1) A → ∀ i, i ≤ n → lt2 (A n) (A i) = false := by
  intro n
  induction n with
  | zero =>
    intro _ i hi
    obtain rfl : i = 0 := by omega
    exact lt2_irrefl _
  | succ n ih =>
    intro h i hi
    by_cases e : i = n + 1
    · subst e; exact lt2_irrefl _
    · exact le2_trans (ih (fun j hj => h j (by omega)) i (by omega)) (h n (by omega))
theorem sorted_unique : ∀ (n : Nat) (A B : NL), SortedP n A → SortedP n B → (∀ x, cnt A n x = cnt B n x) → ∀ i, i < n → A i = B i := by
  intro n
  induction n with
  | zero => intro A B _ _ _ i hi; omega
  | succ n ih =>
    intro A B hA hB hc i hi
    have hl : A n = B n := by
      have h1 : 0 < cnt B (n + 1) (A n) := by rw [← hc]; exact cnt_of (by omega : n < n + 1) rfl
      have h2 : 0 < cnt A (n + 1) (B n) := by rw [hc]; exact cnt_of (by omega : n < n + 1) rfl
      obtain ⟨j, hj, ej⟩ := cnt_pos _ h1
      obtain ⟨k, hk, ek⟩ := cnt_pos _ h2
      have q1 := sorted_last n hB j (by omega)
      have q2 := sorted_last n hA k (by omega)
      rw [ej] at q1
      rw [ek] at q2
      exact le2_anti q1 q2
    by_cases e : i = n
    · subst e; exact hl
    · refine ih A B (fun j hj => hA j (by omega)) (fun j hj => hB j (by omega)) (fun x => ?_) i (by omega)
      have := hc x
      simp only [cnt] at this
      rw [hl] at this
      omega

/-- What a heap of n gives, one by one from behind. -/
def hsL : Nat → NL → NL
  | 0, _ => fun _ => (0, 0)
  | k + 1, L => (hsL k (dnL k 0 (swp L 0 k))).put k (L 0)
theorem pop_inv {k : Nat} {L : NL} (h : HeapP (k + 1) L) : DnInv k 0 (swp L 0 k) := by
  refine ⟨fun j h0 hj hp => ?_, fun q => absurd q (by omega)⟩
  unfold swp
  rw [if_neg hp, if_neg (by omega), if_neg (by omega), if_neg (by omega)]
  exact h j h0 (by omega)
theorem hsL_sorted : ∀ (n : Nat) (L : NL), HeapP n L → SortedP n (hsL n L) ∧ ∀ x, cnt (hsL n L) n x = cnt L n x := by
  intro n
  induction n with
  | zero => intro L _; exact ⟨fun i hi => by omega, fun x => rfl⟩
  | succ k ih =>
    intro L h
    obtain ⟨hs, hc⟩ := ih _ (dn_heap k k 0 _ (by omega) (pop_inv h))
    have hcut : ∀ x, cnt (hsL k (dnL k 0 (swp L 0 k))) k x = cnt (swp L 0 k) k x := fun x => by rw [hc, cnt_dnL k k x (Nat.le_refl _) k 0 _ (by omega)]
    have hput : ∀ i, i < k → (hsL k (dnL k 0 (swp L 0 k))).put k (L 0) i = hsL k (dnL k 0 (swp L 0 k)) i := fun i hi => by unfold NL.put; rw [if_neg (by omega)]
    have hat : (hsL k (dnL k 0 (swp L 0 k))).put k (L 0) k = L 0 := by unfold NL.put; rw [if_pos rfl]
    have hlast : swp L 0 k k = L 0 := by
      unfold swp
      by_cases e : k = 0
      · rw [if_pos e, e]
      · rw [if_neg e, if_pos rfl]
    refine ⟨fun i hi => ?_, fun x => ?_⟩
    · show lt2 ((hsL k (dnL k 0 (swp L 0 k))).put k (L 0) (i + 1)) ((hsL k (dnL k 0 (swp L 0 k))).put k (L 0) i) = false
      by_cases e : i + 1 = k
      · rw [e, hat, hput i (by omega)]
        have h1 := cnt_of (L := hsL k (dnL k 0 (swp L 0 k))) (n := k) (i := i) (by omega) rfl
        rw [hcut] at h1
        have h2 : 0 < cnt L (k + 1) (hsL k (dnL k 0 (swp L 0 k)) i) := by
          rw [← cnt_swp L _ (i := 0) (j := k) (by omega) (by omega)]
          simp only [cnt]
          omega
        obtain ⟨j, hj, ej⟩ := cnt_pos _ h2
        rw [← ej]
        exact h.top j j (Nat.le_refl _) hj
      · rw [hput (i + 1) (by omega), hput i (by omega)]
        exact hs i (by omega)
    · show cnt ((hsL k (dnL k 0 (swp L 0 k))).put k (L 0)) k x + (if (hsL k (dnL k 0 (swp L 0 k))).put k (L 0) k = x then 1 else 0) = _
      rw [hat, cnt_congr k x hput, hcut, ← cnt_swp L x (i := 0) (j := k) (n := k + 1) (by omega) (by omega)]
      simp only [cnt]
      rw [hlast]

/-- x is put among the first k, which are sorted: place by place from behind. -/
def insL : Nat → NL → Int × Int → NL
  | 0, M, x => M.put 0 x
  | k + 1, M, x => if lt2 x (M k) = true then insL k (M.put (k + 1) (M k)) x else M.put (k + 1) x
theorem insL_put : ∀ (k : Nat) (M : NL) (x y : Int × Int) (j : Nat), k < j → insL k (M.put j y) x = (insL k M x).put j y := by
  intro k
  induction k with
  | zero =>
    intro M x y j hj
    funext i
    simp only [insL, NL.put]
    by_cases e : i = 0
    · rw [if_pos e, if_neg (by omega), if_pos e]
    · rw [if_neg e, if_neg e]
  | succ k ih =>
    intro M x y j hj
    have e : M.put j y k = M k := by unfold NL.put; rw [if_neg (by omega)]
    simp only [insL, e]
    by_cases hb : lt2 x (M k) = true
    · rw [if_pos hb, if_pos hb]
      have sw : (M.put j y).put (k + 1) (M k) = (M.put (k + 1) (M k)).put j y := by
        funext i
        unfold NL.put
        by_cases e1 : i = k + 1
        · rw [if_pos e1, if_neg (by omega), if_pos e1]
        · rw [if_neg e1, if_neg e1]
      rw [sw, ih _ _ _ _ (by omega)]
    · rw [if_neg hb, if_neg hb]
      funext i
      unfold NL.put
      by_cases e1 : i = k + 1
      · rw [if_pos e1, if_neg (by omega), if_pos e1]
      · rw [if_neg e1, if_neg e1]
theorem insL_succ (k : Nat) (M : NL) (x : Int × Int) : insL (k + 1) M x = if lt2 x (M k) = true then (insL k M x).put (k + 1) (M k) else M.put (k + 1) x := by
  simp only [insL]
  rw [insL_put k M x (M k) (k + 1) (by omega)]
theorem put_at (L : NL) (k : Nat) (y : Int × Int) : L.put k y k = y := by unfold NL.put; rw [if_pos rfl]
theorem put_off (L : NL) {k i : Nat} (y : Int × Int) (h : i ≠ k) : L.put k y i = L i := by unfold NL.put; rw [if_neg h]
theorem insL_sorted : ∀ (k : Nat) (M : NL) (x : Int × Int), SortedP k M → SortedP (k + 1) (insL k M x) ∧ (∀ y, (∀ i, i < k → lt2 y (M i) = false) → lt2 y x = false → ∀ i, i ≤ k → lt2 y (insL k M x i) = false) ∧ ∀ z, cnt (insL k M x) (k + 1) z = cnt M k z + if x = z then 1 else 0 := by
  intro k
  induction k with
  | zero =>
    intro M x _
    refine ⟨fun i hi => by omega, fun y _ hx i hi => ?_, fun z => ?_⟩
    · obtain rfl : i = 0 := by omega
      simp only [insL, put_at]; exact hx
    · simp only [insL, cnt, put_at]
  | succ k ih =>
    intro M x hM
    obtain ⟨s1, s2, s3⟩ := ih M x (fun i hi => hM i (by omega))
    have hl := sorted_last k hM
    rw [insL_succ]
    cases hb : lt2 x (M k)
    · rw [if_neg (by decide)]
      refine ⟨fun i hi => ?_, fun y hy hx i hi => ?_, fun z => ?_⟩
      · by_cases e : i + 1 = k + 1
        · obtain rfl : i = k := by omega
          rw [put_at, put_off _ _ (by omega)]; exact hb
        · rw [put_off _ _ (by omega), put_off _ _ (by omega)]; exact hM i (by omega)
      · by_cases e : i = k + 1
        · subst e; rw [put_at]; exact hx
        · rw [put_off _ _ e]; exact hy i (by omega)
      · show cnt (M.put (k + 1) x) (k + 1) z + (if M.put (k + 1) x (k + 1) = z then 1 else 0) = _
        rw [put_at, cnt_congr (k + 1) z (M := M) (fun i hi => put_off _ _ (by omega))]
    · rw [if_pos rfl]
      refine ⟨fun i hi => ?_, fun y hy hx i hi => ?_, fun z => ?_⟩
      · by_cases e : i + 1 = k + 1
        · obtain rfl : i = k := by omega
          rw [put_at, put_off _ _ (by omega)]
          exact s2 (M i) (fun j hj => hl j (by omega)) (lt2_asymm hb) i (Nat.le_refl _)
        · rw [put_off _ _ (by omega), put_off _ _ (by omega)]; exact s1 i (by omega)
      · by_cases e : i = k + 1
        · subst e; rw [put_at]; exact hy k (by omega)
        · rw [put_off _ _ e]; exact s2 y (fun j hj => hy j (by omega)) hx i (by omega)
      · show cnt ((insL k M x).put (k + 1) (M k)) (k + 1) z + (if (insL k M x).put (k + 1) (M k) (k + 1) = z then 1 else 0) = _
        rw [put_at, cnt_congr (k + 1) z (M := insL k M x) (fun i hi => put_off _ _ (by omega)), s3]
        simp only [cnt]
        omega
def isortL : Nat → NL → NL
  | 0, _ => fun _ => (0, 0)
  | k + 1, L => insL k (isortL k L) (L k)
theorem isortL_sorted : ∀ (n : Nat) (L : NL), SortedP n (isortL n L) ∧ ∀ x, cnt (isortL n L) n x = cnt L n x := by
  intro n
  induction n with
  | zero => intro L; exact ⟨fun i hi => by omega, fun x => rfl⟩
  | succ k ih =>
    intro L
    obtain ⟨s, c⟩ := ih L
    obtain ⟨s1, _, s3⟩ := insL_sorted k (isortL k L) (L k) s
    exact ⟨s1, fun x => by show cnt (insL k (isortL k L) (L k)) (k + 1) x = _; rw [s3, c]; rfl⟩
/-- Both make the same. -/
theorem sorts_alike (n : Nat) (L : NL) (h : HeapP n L) : ∀ i, i < n → hsL n L i = isortL n L i :=
  sorted_unique n _ _ (hsL_sorted n L h).1 (isortL_sorted n L).1 fun x => by rw [(hsL_sorted n L h).2, (isortL_sorted n L).2]
end Go.Proofs.Ytmbncafbbpcmbaa

/- HeapSorted of the program. -/
namespace Go.Proofs.Ytmbncafbbpcmbaa
open Go.RowKit
set_option maxRecDepth 8000
set_option linter.unusedSimpArgs false
set_option linter.unusedVariables false

/-- w' is w, but for two blocks. -/
structure But2 (b c : Nat) (w w' : World) : Prop where
  os : w'.os = w.os
  tape : w'.tape = w.tape
  output : w'.output = w.output
  size : w.heap.size ≤ w'.heap.size
  block : ∀ k, k < w.heap.size → k ≠ b → k ≠ c → w'.heap[k]? = w.heap[k]?
theorem But2.refl (b c : Nat) (w : World) : But2 b c w w := ⟨rfl, rfl, rfl, Nat.le_refl _, fun _ _ _ _ => rfl⟩
theorem But2.ofBut {b c : Nat} {w w' : World} (h : But b w w') : But2 b c w w' := ⟨h.os, h.tape, h.output, h.size, fun k hk h1 _ => h.block k hk h1⟩
theorem But2.trans {b c : Nat} {x y z : World} (h : But2 b c x y) (k : But2 b c y z) : But2 b c x z :=
  ⟨k.os.trans h.os, k.tape.trans h.tape, k.output.trans h.output, Nat.le_trans h.size k.size, fun i hi h1 h2 => (k.block i (Nat.lt_of_lt_of_le hi h.size) h1 h2).trans (h.block i hi h1 h2)⟩
theorem But2.setC {b c : Nat} {a w : World} (h : But2 b c a w) (o : Nat) (v : Value) : But2 b c a (w.setCell ⟨c, o, none⟩ v) :=
  ⟨h.os, h.tape, h.output, by simpa [World.setCell] using h.size, fun k hk h1 h2 => (Below.heap_setCell w ⟨c, o, none⟩ v k h2).trans (h.block k hk h1 h2)⟩
theorem But2.alloc {b c : Nat} {a w : World} (h : But2 b c a w) (o : Obj) : But2 b c a (w.alloc o) :=
  h.trans ⟨rfl, rfl, rfl, by simp, fun k hk _ _ => Below.heap_alloc w o k hk⟩
theorem But2.low {b c B : Nat} {w w' : World} (h : But2 b c w w') (h1 : B ≤ b) (h2 : B ≤ c) (hB : B ≤ w.heap.size) : Below B w w' :=
  ⟨h.os, h.tape, h.output, h.size, fun k hk => h.block k (by omega) (by omega) (by omega)⟩
theorem OwnL.but2 {b c : Nat} {w w' : World} {x m : Nat} {L : NL} (h : OwnL w x m L) (hb : But2 b c w w') (h1 : x ≠ b) (h2 : x ≠ c) : OwnL w' x m L := World.rowIs.of_block h (hb.block x h.lt h1 h2)

set_option maxHeartbeats 800000 in
theorem gPop2 (c b m k cap : Nat) (L : NL) (w : World) (h : GV w c b m (k + 1) cap L) (hkc : k + 1 ≤ cap) :
    Calls Try.prog 90 #[.pointer (some ⟨c, 0, none⟩)] w fun e w' => (∃ v, e = .returned v) ∧ But2 b c w w' ∧ GV w' c b m k cap L := by
  obtain ⟨h1, h2, h3, h4, h5, h6, h7⟩ := h
  have b1 := OwnN.c0 h5 (show k < m by omega)
  have b2 := OwnN.c1 h5 (show k < m by omega)
  have H5 := hide h5
  have hlt := h5.lt
  have hk1 : (((k + 1 : Nat) : Int) - 1) = (k : Int) := by omega
  clear h5
  go_enter Try.func90, Try.ntmps90
  go_wp2_with fail
  go_ret
  refine ⟨⟨_, rfl⟩, ?_, ?_, h2, ?_, ?_, ?_, by omega, h7⟩
  · exact ((But2.refl b c w).setC 0 _).alloc _
  · simp; omega
  · simp [go_sem, h1, h3]
  · simp [go_sem, h1, h4, h3]
  · exact (H5.out.away _ _ (Ne.symm h2)).below (balloc (Below.refl _ _) _)

set_option maxHeartbeats 800000 in
theorem hPop2 (c b m k cap : Nat) (L : NL) (w : World) (h : GV w c b m (k + 1) cap L) (hkc : k + 1 ≤ cap) :
    Calls Try.prog 60 #[.iface 89 (.pointer (some ⟨c, 0, none⟩))] w fun e w' => (∃ v, e = .returned v) ∧ But2 b c w w' ∧ GV w' c b m k cap (dnL k 0 (swp L 0 k)) := by
  have hcw := h.lt
  have hkm : k + 1 ≤ 1048576 := Nat.le_trans h.le h.small
  have ML := meth_Len c _ w h.cell
  have MS := meth_Swap c _ w h.cell
  have GL := hide (gLen_any (some ⟨b, 0, none⟩) (k + 1) cap w)
  have SW := hide (gSwap_any b m (k + 1) cap L 0 k w h.own h.le (by omega) (by omega))
  have H := hide h
  clear h
  go_enter Try.func60, Try.ntmps60
  go_wp2_with fail
  refine GL.out.mono ?_
  rintro e w2 ⟨rfl, hw2⟩
  obtain rfl := hw2.symm
  go_wp2_with fail
  refine SW.out.mono ?_
  rintro e w1 ⟨rfl, hb1, o1⟩
  have h1 := H.out.but hb1 o1
  have hs1 := hb1.size
  have DN := hide (hDown_any c b m (k + 1) cap (swp L 0 k) k w1 h1.lt h1.ne h1.cell h1.own h1.le (by omega) h1.small)
  have B1 : But2 b c w w1 := But2.ofBut hb1
  have H1 := hide h1
  clear h1 o1 hb1 ML MS GL SW
  go_wp2_with fail
  refine DN.out.mono ?_
  rintro e w3 ⟨v3, rfl, hb3, o3⟩
  have h3 := H1.out.but hb3 o3
  have hs3 := hb3.size
  have B3 : But2 b c w w3 := B1.trans (But2.ofBut hb3)
  have MP := meth_Pop c w3
  have PO := hide (gPop2 c b m k cap (dnL k 0 (swp L 0 k)) w3 h3 hkc)
  clear h3 o3 hb3 DN
  go_wp2_with fail
  refine PO.out.mono ?_
  rintro e w4 ⟨⟨v4, rfl⟩, hb4, h4⟩
  go_wp2_with fail
  go_ret
  exact ⟨⟨_, rfl⟩, B3.trans hb4, h4⟩

theorem GV.away {w : World} {c b m l cap : Nat} {L : NL} (h : GV w c b m l cap L) (p : Addr) (v : Value) (h1 : p.block ≠ c) (h2 : p.block ≠ b) : GV (w.setCell p v) c b m l cap L :=
  ⟨by simpa [World.setCell] using h.lt, h.ne, (World.cell?_of_block (a := ⟨c, 0, none⟩) (Below.heap_setCell w p v c (Ne.symm h1))).trans h.cell, (World.frozen?_of_block (a := ⟨c, 0, none⟩) (Below.heap_setCell w p v c (Ne.symm h1))).trans h.froz, h.own.away p v (Ne.symm h2), h.le, h.small⟩

def lenAt (c : Nat) (w : World) : Nat := match w.cell? ⟨c, 0, none⟩ with | some (.slice _ l _) => l | _ => 0
theorem GV.lenAt {w : World} {c b m l cap : Nat} {L : NL} (h : GV w c b m l cap L) : lenAt c w = l := by unfold Go.Proofs.Ytmbncafbbpcmbaa.lenAt; rw [h.cell]

theorem listL_heap {K : Int} {n : Nat} {f g : Nat → Int} (h : heapB K n f g = true) : HeapP n (listL n f g) := by
  unfold heapB at h
  rw [Bool.and_eq_true] at h
  intro j h0 hj
  have := allN_at h.2 hj
  unfold heapAt at this
  simp only [Bool.and_eq_true, Bool.not_eq_true'] at this
  unfold lt2 listL
  rw [if_pos (show (j - 1) / 2 < n by omega), if_pos hj]
  exact this.2

def ISorted (w : World) (n : Nat) (L : NL) (e : Ending) (w' : World) : Prop :=
  ∃ b, e = .returned (.slice (some ⟨b, 0, none⟩) n n) ∧ w.heap.size ≤ b ∧ OwnL w' b n (hsL n L) ∧ Below w.heap.size w w'

set_option maxHeartbeats 1600000 in
theorem iHeapSorted_no (K : Int) (a : Option Addr) (n cap : Nat) (f g : Nat → Int) (w : World) (h : PRow w a n f g) (hno : heapB K n f g = false) :
    Calls Try.prog 45 #[.agg #[.int .i64 K, .slice a n cap]] w fun e w' => e = .returned (.slice none 0 0) ∧ Below w.heap.size w w' := by
  have HO := hide (fun w1 (hb : Below w.heap.size w w1) => iHeapOk_any K a n cap f g w1 (h.below hb))
  rw [hno] at HO
  clear h hno
  go_enter Try.func45, Try.ntmps45
  go_wp2_with fail
  refine (HO.out _ (by repeat' first | with_reducible exact Below.refl _ _ | with_reducible assumption | with_reducible refine below_drewN ?_ _ | with_reducible refine balloc ?_ _ | with_reducible refine Below.drew ?_ | with_reducible refine Below.setCell ?_ (by first | (simp; done) | (simp; omega) | omega) _ | with_reducible refine bstep ?_ (by assumption))).mono ?_
  rintro e w1 ⟨rfl, hb1⟩
  go_wp2_with fail
  go_ret
  exact ⟨rfl, (by repeat' first | with_reducible exact Below.refl _ _ | with_reducible assumption | with_reducible refine below_drewN ?_ _ | with_reducible refine balloc ?_ _ | with_reducible refine Below.drew ?_ | with_reducible refine Below.setCell ?_ (by first | (simp; done) | (simp; omega) | omega) _ | with_reducible refine bstep ?_ (by assumption))⟩

set_option maxHeartbeats 3200000 in
theorem iHeapSorted_yes (K : Int) (a : Option Addr) (n cap : Nat) (f g : Nat → Int) (w : World) (h : PRow w a n f g) (hok : heapB K n f g = true) (hn20 : n ≤ 20) :
    Calls Try.prog 45 #[.agg #[.int .i64 K, .slice a n cap]] w fun e w' => ISorted w n (listL n f g) e w' := by
  have HO := hide (fun w1 (hb : Below w.heap.size w w1) => iHeapOk_any K a n cap f g w1 (h.below hb))
  rw [hok] at HO
  have GO := hide (fun w1 (hb : Below w.heap.size w w1) => greatestOf_any K a n cap f g w1 (h.below hb) hn20)
  have hmk := run_make_pairs (P := Try.prog) 28 47 (.int .i64 0) (.int .i64 0) 16 Try.underlying28 Try.infoNear .i64 .i64 n (by omega) (by omega)
  clear h hok
  go_enter Try.func45, Try.ntmps45
  go_wp2_with fail
  refine (HO.out _ (by repeat' first | with_reducible exact Below.refl _ _ | with_reducible assumption | with_reducible refine below_drewN ?_ _ | with_reducible refine balloc ?_ _ | with_reducible refine Below.drew ?_ | with_reducible refine Below.setCell ?_ (by first | (simp; done) | (simp; omega) | omega) _ | with_reducible refine bstep ?_ (by assumption))).mono ?_
  rintro e w1 ⟨rfl, hb1⟩
  have h0 : w1.cell? ⟨w.heap.size, 0, none⟩ = some (.int .i64 K) := (hb1.cell (p := ⟨w.heap.size, 0, none⟩) (by simp)).trans (by simp [go_sem])
  have h1 : w1.cell? ⟨w.heap.size, 1, none⟩ = some (.slice a n cap) := (hb1.cell (p := ⟨w.heap.size, 1, none⟩) (by simp)).trans (by simp [go_sem])
  have B1 : Below w.heap.size w w1 := (by repeat' first | with_reducible exact Below.refl _ _ | with_reducible assumption | with_reducible refine below_drewN ?_ _ | with_reducible refine balloc ?_ _ | with_reducible refine Below.drew ?_ | with_reducible refine Below.setCell ?_ (by first | (simp; done) | (simp; omega) | omega) _ | with_reducible refine bstep ?_ (by assumption))
  clear hb1 HO
  go_wp2_with fail
  refine (GO.out _ B1).mono ?_
  rintro e w3 ⟨b, rfl, hbl, hown, hb3⟩
  have B3 : Below w.heap.size w w3 := (by repeat' first | with_reducible exact Below.refl _ _ | with_reducible assumption | with_reducible refine below_drewN ?_ _ | with_reducible refine balloc ?_ _ | with_reducible refine Below.drew ?_ | with_reducible refine Below.setCell ?_ (by first | (simp; done) | (simp; omega) | omega) _ | with_reducible refine bstep ?_ (by assumption))
  have s1 := B1.size
  have s3 := B3.size
  have hbw := hown.lt
  clear h0 h1 hb3 GO
  have G4 : GV (w3.alloc (Obj.cells #[Value.slice (some ⟨b, 0, none⟩) n (n + 1)] 86)) w3.heap.size b (n + 1) n (n + 1) (listL n f g) := by
    refine ⟨?_, by omega, ?_, ?_, hown.below (balloc (Below.refl _ _) _), by omega, by omega⟩ <;> simp [go_sem]
  have M5 := OwnN.made (w3.alloc (Obj.cells #[Value.slice (some ⟨b, 0, none⟩) n (n + 1)] 86)) n
  rw [World.size_alloc] at M5
  have G5 := G4.below (balloc (Below.refl _ _) (.cells (madeCells #[.int .i64 0, .int .i64 0] (n * 2)) 47))
  have B5 : Below w.heap.size w ((w3.alloc (Obj.cells #[Value.slice (some ⟨b, 0, none⟩) n (n + 1)] 86)).alloc (.cells (madeCells #[.int .i64 0, .int .i64 0] (n * 2)) 47)) := (by repeat' first | with_reducible exact Below.refl _ _ | with_reducible assumption | with_reducible refine below_drewN ?_ _ | with_reducible refine balloc ?_ _ | with_reducible refine Below.drew ?_ | with_reducible refine Below.setCell ?_ (by first | (simp; done) | (simp; omega) | omega) _ | with_reducible refine bstep ?_ (by assumption))
  have c4 := G4.cell
  have HG := hide G5
  have HM := hide (show OwnL _ (w3.heap.size + 1) n (fun _ => (0, 0)) from M5)
  have HB := hide B5
  clear G4 G5 M5 B5 hown B3
  go_wp2_with fail
  clear c4
  go_loopw [5] (fun _ wr => ∃ (k : Nat) (L O : NL), k ≤ n ∧ GV wr w3.heap.size b (n + 1) k (n + 1) L ∧ OwnL wr (w3.heap.size + 1) n O ∧ (∀ i, i < n → hsL n (listL n f g) i = if i < k then hsL k L i else O i) ∧ Below w.heap.size w wr) (fun _ wr => lenAt w3.heap.size wr)
  case atStart => exact ⟨n, listL n f g, fun _ => (0, 0), Nat.le_refl _, HG.out, HM.out, fun i hi => by rw [if_pos hi], HB.out⟩
  case round =>
    obtain ⟨k, L, O, hk, hG, hO, hrel2, hbel⟩ := hrel
    have HGr := hide hG
    have HOr := hide hO
    have HR := hide hrel2
    have HBr := hide hbel
    have c4 := hG.cell
    have clt := hG.lt
    have olt := hO.lt
    have slt := hbel.size
    clear hG hO hrel2 hbel
    rcases k with _ | k
    · go_wp2_with fail
      go_ret
      exact ⟨_, rfl, by omega, HOr.out.congr (fun i hi => by rw [HR.out i hi, if_neg (by omega)]), HBr.out⟩
    · have y0 := OwnN.c0 HGr.out.own (show 0 < n + 1 by omega)
      have y1 := OwnN.c1 HGr.out.own (show 0 < n + 1 by omega)
      simp only [Nat.zero_mul, Nat.zero_add] at y0 y1
      have hk1 : (0 : Int) < ((k + 1 : Nat) : Int) := by omega
      have blt := HGr.out.own.lt
      have PO := hide (fun w7 (hb : Below wr.heap.size wr w7) => hPop2 w3.heap.size b (n + 1) k (n + 1) L w7 (HGr.out.below hb) (by omega))
      go_wp2_with fail
      refine (PO.out _ (balloc (Below.refl _ _) _)).mono ?_
      rintro e w7 ⟨⟨v7, rfl⟩, hb7, G7⟩
      have hbw7 : w.heap.size ≤ b := by omega
      have F0 : w7.cell? ⟨wr.heap.size, 0, none⟩ = some (.int .i64 (L 0).1) := (World.cell?_of_block (a := ⟨wr.heap.size, 0, none⟩) (hb7.block wr.heap.size (by simp) (by omega) (by omega))).trans (by simp [go_sem])
      have F1 : w7.cell? ⟨wr.heap.size, 1, none⟩ = some (.int .i64 (L 0).2) := (World.cell?_of_block (a := ⟨wr.heap.size, 1, none⟩) (hb7.block wr.heap.size (by simp) (by omega) (by omega))).trans (by simp [go_sem])
      have O7 := (HOr.out.below (balloc (Below.refl _ _) (.cells #[.int .i64 (L 0).1, .int .i64 (L 0).2] 47))).but2 hb7 (by omega) (by omega)
      have B7 : Below w.heap.size w w7 := (balloc HBr.out (.cells #[.int .i64 (L 0).1, .int .i64 (L 0).2] 47)).trans (hb7.low hbw7 (by omega) (by simp; omega))
      have d4 := G7.cell
      have z0 := OwnN.c0 O7 (show k < n by omega)
      have z1 := OwnN.c1 O7 (show k < n by omega)
      have z2 := World.rowIs.frozen O7 (k * 2)
      have z3 := World.rowIs.frozen O7 (k * 2 + 1)
      have hkn : (k : Int) < (n : Int) := by omega
      have HG7 := hide G7
      have HO7 := hide O7
      clear c4 y0 y1 hb7 G7 O7 PO
      go_wp2_with fail
      go_roundw
      case rel =>
        refine ⟨k, dnL k 0 (swp L 0 k), O.put k (L 0), by omega, (HG7.out.away _ _ (by simp) (by simp; omega)).away _ _ (by simp) (by simp; omega), HO7.out.set k (L 0).1 (L 0).2, fun i hi => ?_, ?_⟩
        · rw [HR.out i hi]
          by_cases e1 : i < k
          · rw [if_pos (by omega), if_pos e1]
            show (hsL k (dnL k 0 (swp L 0 k))).put k (L 0) i = _
            rw [put_off _ _ (by omega)]
          · rw [if_neg e1]
            by_cases e2 : i = k
            · subst e2
              rw [if_pos (by omega), put_at]
              show (hsL i (dnL i 0 (swp L 0 i))).put i (L 0) i = _
              rw [put_at]
            · rw [if_neg (by omega), put_off _ _ e2]
        · exact (B7.setCell (by simp; omega) _).setCell (by simp; omega) _
      case measure =>
        rw [((HG7.out.away _ _ (by simp) (by simp; omega)).away _ _ (by simp) (by simp; omega)).lenAt, HGr.out.lenAt]
        omega
end Go.Proofs.Ytmbncafbbpcmbaa

/- l6Sorted and HeapSorted of the model. -/
namespace Go.Proofs.Ytmbncafbbpcmbaa
open Go.RowKit
set_option maxRecDepth 8000
set_option linter.unusedSimpArgs false
set_option linter.unusedVariables false

theorem insL_ext : ∀ (k : Nat) (M N : NL) (x : Int × Int), (∀ i, i < k → M i = N i) → ∀ i, i ≤ k → insL k M x i = insL k N x i := by
  intro k
  induction k with
  | zero =>
    intro M N x _ i hi
    obtain rfl : i = 0 := by omega
    simp only [insL, put_at]
  | succ k ih =>
    intro M N x h i hi
    rw [insL_succ, insL_succ, h k (by omega)]
    by_cases hb : lt2 x (N k) = true
    · rw [if_pos hb, if_pos hb]
      by_cases e : i = k + 1
      · subst e; rw [put_at, put_at]
      · rw [put_off _ _ e, put_off _ _ e]; exact ih M N x (fun j hj => h j (by omega)) i (by omega)
    · rw [if_neg hb, if_neg hb]
      by_cases e : i = k + 1
      · subst e; rw [put_at, put_at]
      · rw [put_off _ _ e, put_off _ _ e]; exact h i (by omega)

def nlv (M : NL) (k : Nat) : List Value := (List.range (k * 2)).map (pcell (fun i => (M i).1) (fun i => (M i).2))
theorem nlv_len (M : NL) (k : Nat) : (nlv M k).length = k * 2 := by simp [nlv]
theorem nlv_at (M : NL) {k i : Nat} (h : i < k) : (nlv M k)[i * 2]? = some (.int .i64 (M i).1) ∧ (nlv M k)[i * 2 + 1]? = some (.int .i64 (M i).2) := by
  have h1 : i * 2 < k * 2 := by omega
  have h2 : i * 2 + 1 < k * 2 := by omega
  simp only [nlv, List.getElem?_map, List.getElem?_range h1, List.getElem?_range h2, Option.map_some, pcell_lo, pcell_hi]
  constructor <;> first | rfl | trivial

/-- A row of the call's own that may grow: its first k are the list M. -/
structure RC (w : World) (base g cap k : Nat) (M : NL) : Prop where
  base : base ≤ g
  row : ∃ cur : Array Value, w.heap[g]? = some (.cells cur 47 (0, 0)) ∧ k ≤ cap ∧ cap ≤ maxLen ∧ cur.size = cap * 2 ∧ ∀ i, i < k → cur[i * 2]? = some (.int .i64 (M i).1) ∧ cur[i * 2 + 1]? = some (.int .i64 (M i).2)
theorem RC.rowl {w : World} {base g cap k : Nat} {M : NL} (h : RC w base g cap k M) : RowL w g k M := by
  obtain ⟨cur, hg, hk, _, hs, hc⟩ := h.row
  exact ⟨cur, hg, by omega, hc⟩
theorem RC.set {w : World} {base g cap k : Nat} {M : NL} (h : RC w base g cap k M) (i : Nat) (x y : Int) : RC ((w.setCell ⟨g, i * 2, none⟩ (.int .i64 x)).setCell ⟨g, i * 2 + 1, none⟩ (.int .i64 y)) base g cap k (M.put i (x, y)) := by
  obtain ⟨cur, hg, hk, hm, hs, hc⟩ := h.row
  obtain ⟨c2, hg2, hs2, hc2⟩ := h.rowl.set i x y
  have e := heap_set (o := i * 2 + 1) (v := .int .i64 y) (heap_set (o := i * 2) (v := .int .i64 x) hg)
  rw [e] at hg2
  simp only [Option.some.injEq, Obj.cells.injEq] at hg2
  obtain ⟨rfl, _⟩ := hg2
  exact ⟨h.base, _, e, hk, hm, by simpa using hs, hc2⟩
theorem RC.block {w w' : World} {base g cap k : Nat} {M : NL} (h : RC w base g cap k M) (hb : w'.heap[g]? = w.heap[g]?) : RC w' base g cap k M := by
  obtain ⟨cur, hg, hr⟩ := h.row
  exact ⟨h.base, cur, hb.trans hg, hr⟩
theorem RC.below {w w' : World} {base g cap k : Nat} {M : NL} (h : RC w base g cap k M) (hb : Below w.heap.size w w') : RC w' base g cap k M := h.block (hb.block g h.rowl.lt)
theorem RC.drew {w : World} {base g cap k : Nat} {M : NL} (h : RC w base g cap k M) : RC w.drew base g cap k M := h.block rfl
theorem RC.owns {w : World} {base g cap k : Nat} {M : NL} (h : RC w base g cap k M) : w.ownsRow base 47 2 (.slice (some ⟨g, 0, none⟩) k cap) k (nlv M k) := by
  obtain ⟨cur, hg, hk, hm, hs, hc⟩ := h.row
  refine ⟨nlv_len M k, .inr ⟨g, cap, cur, rfl, h.base, hg, hk, hm, hs, ?_⟩⟩
  apply List.ext_getElem?
  intro j
  by_cases hj : j < k * 2
  · rw [List.getElem?_take_of_lt hj, Array.getElem?_toList]
    rcases (show j % 2 = 0 ∨ j % 2 = 1 by omega) with h2 | h2
    · have q := hc (j / 2) (by omega)
      have q2 := nlv_at M (k := k) (i := j / 2) (by omega)
      rw [show j / 2 * 2 = j by omega] at q q2
      rw [q.1, q2.1]
    · have q := hc (j / 2) (by omega)
      have q2 := nlv_at M (k := k) (i := j / 2) (by omega)
      rw [show j / 2 * 2 + 1 = j by omega] at q q2
      rw [q.2, q2.2]
  · rw [List.getElem?_eq_none (by simp; omega), List.getElem?_eq_none (by rw [nlv_len]; omega)]
theorem RC.grown {w : World} {base g cap k : Nat} {M : NL} {x y : Int} (h : w.ownsRow base 47 2 (.slice (some ⟨g, 0, none⟩) (k + 1) cap) (k + 1) (nlv M k ++ [.int .i64 x, .int .i64 y])) : RC w base g cap (k + 1) (M.put k (x, y)) := by
  rcases h.2 with ⟨h0, _⟩ | ⟨g', cap', cur, hv, hb, hg, hcap, hm, hsz, htake⟩
  · cases h0
  · simp only [Value.slice.injEq, Option.some.injEq, Addr.mk.injEq] at hv
    obtain ⟨⟨rfl, _⟩, _, rfl⟩ := hv
    have hat : ∀ j, j < (k + 1) * 2 → cur[j]? = (nlv M k ++ [.int .i64 x, .int .i64 y])[j]? := by
      intro j hj
      rw [← htake, List.getElem?_take_of_lt hj, Array.getElem?_toList]
    refine ⟨hb, cur, hg, hcap, hm, hsz, fun i hi => ?_⟩
    rw [hat (i * 2) (by omega), hat (i * 2 + 1) (by omega)]
    by_cases e : i = k
    · subst e
      rw [put_at, List.getElem?_append_right (by rw [nlv_len]; omega), List.getElem?_append_right (by rw [nlv_len]; omega), nlv_len]
      simp [show i * 2 + 1 - i * 2 = 1 by omega]
    · rw [put_off _ _ e, List.getElem?_append_left (by rw [nlv_len]; omega), List.getElem?_append_left (by rw [nlv_len]; omega)]
      exact nlv_at M (by omega)

theorem nearInfo2 : ∃ i : TypeInfo, Try.prog.info? 47 = some i ∧ i.zero = some (.agg #[.int .i64 0, .int .i64 0]) ∧ i.size = 2 ∧ i.bytes = 16 := by
  obtain ⟨i, hi, hzz⟩ := Option.map_eq_some_iff.1 Try.infoNear
  simp only [Prod.mk.injEq] at hzz
  exact ⟨i, hi, hzz.1, hzz.2.1, hzz.2.2⟩
theorem two_new2 (w : World) (x y : Value) (t : TypeId) : ∀ (j : Nat) (u : Value), [x, y][j]? = some u → (w.alloc (.cells #[x, y] t)).cell? ((⟨w.heap.size, 0, none⟩ : Addr).add j) = some u := by
  intro j u hj
  match j, hj with
  | 0, hj => simp at hj; subst hj; simp [Addr.add]
  | 1, hj => simp at hj; subst hj; simp [Addr.add]
  | j + 2, hj => simp at hj

/-- Two pairs of cells of two blocks that are read. -/
structure Qe (w : World) (b o b' o' : Nat) (x y : Int × Int) : Prop where
  lt : b < w.heap.size
  lt' : b' < w.heap.size
  c0 : w.cell? ⟨b, o, none⟩ = some (.int .i64 x.1)
  c1 : w.cell? ⟨b, o + 1, none⟩ = some (.int .i64 x.2)
  d0 : w.cell? ⟨b', o', none⟩ = some (.int .i64 y.1)
  d1 : w.cell? ⟨b', o' + 1, none⟩ = some (.int .i64 y.2)
theorem Qe.below {w w' : World} {b o b' o' : Nat} {x y : Int × Int} (h : Qe w b o b' o' x y) (B : Below w.heap.size w w') : Qe w' b o b' o' x y :=
  ⟨Nat.lt_of_lt_of_le h.lt B.size, Nat.lt_of_lt_of_le h.lt' B.size, (B.cell (p := ⟨b, o, none⟩) h.lt).trans h.c0, (B.cell (p := ⟨b, o + 1, none⟩) h.lt).trans h.c1, (B.cell (p := ⟨b', o', none⟩) h.lt').trans h.d0, (B.cell (p := ⟨b', o' + 1, none⟩) h.lt').trans h.d1⟩
theorem Qe.drew {w : World} {b o b' o' : Nat} {x y : Int × Int} (h : Qe w b o b' o' x y) : Qe w.drew b o b' o' x y := ⟨h.lt, h.lt', h.c0, h.c1, h.d0, h.d1⟩

def SSorted (w : World) (n : Nat) (L : NL) (e : Ending) (w' : World) : Prop :=
  ∃ g cap M, e = .returned (.slice (some ⟨g, 0, none⟩) n cap) ∧ RC w' w.heap.size g cap n M ∧ (∀ i, i < n → M i = isortL n L i) ∧ Below w.heap.size w w'

set_option maxHeartbeats 8000000 in
set_option maxRecDepth 4000 in
theorem l6Sorted_some (b off n cap : Nat) (f g : Nat → Int) (w : World) (hn20 : n ≤ 60) (hb : b < w.heap.size) (hc : ∀ i, i < n → w.cell? ⟨b, off + i * 2, none⟩ = some (.int .i64 (f i)) ∧ w.cell? ⟨b, off + i * 2 + 1, none⟩ = some (.int .i64 (g i))) :
    Calls Try.prog 28 #[.slice (some ⟨b, off, none⟩) n cap] w fun e w' => SSorted w n (listL n f g) e w' := by
  obtain ⟨i0, hi, hz0, hz1, hz2⟩ := nearInfo2
  have HI := hide hi
  have HC := hide hc
  clear hi hc
  go_enter Try.func28, Try.ntmps28
  go_wp2_with fail
  go_loopw [3, 4] (fun s i wr => ∃ (k : Nat) (M : NL), k ≤ n ∧ i = .int .i64 k ∧ (∃ g5 c5, s = .slice (some ⟨g5, 0, none⟩) k c5 ∧ RC wr w.heap.size g5 c5 k M) ∧ (∀ j, j < k → M j = isortL k (listL n f g) j) ∧ Below w.heap.size w wr) (fun _ i _ => n - (intOf i).toNat)
  case atStart =>
    refine ⟨0, fun _ => (0, 0), Nat.zero_le _, rfl, ⟨w.heap.size, 0, rfl, Nat.le_refl _, #[], ?_, Nat.le_refl _, Nat.zero_le _, rfl, fun i hi => absurd hi (by omega)⟩, fun j hj => absurd hj (by omega), (by repeat' first | with_reducible exact Below.refl _ _ | with_reducible assumption | with_reducible refine below_drewN ?_ _ | with_reducible refine balloc ?_ _ | with_reducible refine Below.drew ?_ | with_reducible refine Below.setCell ?_ (by first | (simp; done) | (simp; omega) | omega) _ | with_reducible refine bstep ?_ (by assumption))⟩
    exact Go.Deep.blk_alloc_new _ _
  case round =>
    obtain ⟨k, M, hk, rfl, ⟨g4, c4, rfl, hrc⟩, hag, hbel⟩ := hrel
    have HRC := hide hrc
    have HA := hide hag
    have HB := hide hbel
    have sz := hbel.size
    clear hrc hag hbel
    by_cases hlt : k < n
    · have z1 : wr.cell? ⟨b, off + k * 2, none⟩ = some (.int .i64 (f k)) := (HB.out.cell (p := ⟨b, off + k * 2, none⟩) hb).trans (HC.out k hlt).1
      have z2 : wr.cell? ⟨b, off + k * 2 + 1, none⟩ = some (.int .i64 (g k)) := (HB.out.cell (p := ⟨b, off + k * 2 + 1, none⟩) hb).trans (HC.out k hlt).2
      have hkn : (k : Int) < (n : Int) := by omega
      have hown := hide (HRC.out.owns)
      generalize hNV : nlv M k = NV at hown
      have HNV := hide hNV
      clear hNV
      go_wp2_with (at_builtin; refine wpList_append_lies _ rfl _ _ 28 rfl w.heap.size 47 i0 _ 2 16 Try.underlying28 HI.out hz0 hz1 hz2 rfl (by decide) _ _ _ rfl (hown.out.alloc _) ⟨_, 0, none⟩ 1 1 [.int .i64 (f k), .int .i64 (g k)] rfl rfl (two_new2 _ _ _ _) (by intro u hu; simp at hu; rcases hu with rfl | rfl <;> rfl) (by omega) (by unfold maxLen; omega) (by omega) (by simp; omega) _ rfl ?_)
      intro g5 c5 w5 hown5 hgrow hat5 hglt
      have R5 : RC w5 w.heap.size g5 c5 (k + 1) (M.put k (f k, g k)) := RC.grown (by rw [HNV.out]; exact hown5)
      have B5 : Below w.heap.size w w5 := (balloc HB.out (.cells #[.int .i64 (f k), .int .i64 (g k)] 47)).grown hgrow (by simp; omega) fun k' hk' => (hown.out.lt k' hk').1
      have HR5 := hide R5
      have HB5 := hide B5
      clear R5 B5 hown5 hgrow hat5 hown HB HRC z1 z2
      go_wp2_with fail
      go_loopw [5] (fun s wv => ∃ (p : Nat) (N : NL), s = .int .i64 p ∧ p ≤ k ∧ RC wv w.heap.size g5 c5 (k + 1) N ∧ (∀ i, i ≤ k → insL p N (f k, g k) i = insL k M (f k, g k) i) ∧ Below w.heap.size w wv) (fun s _ => (intOf s).toNat)
      case atStart => exact ⟨k, _, rfl, Nat.le_refl _, HR5.out, fun i hi => insL_ext k _ _ _ (fun j hj => put_off _ _ (by omega)) i hi, HB5.out⟩
      case round =>
        obtain ⟨p, N, rfl, hat, hrc, hins, hbel⟩ := hrel
        have HRC := hide hrc
        have HU := hide hins
        have HB := hide hbel
        clear hrc hins hbel HR5 HB5
        by_cases hp0 : p = 0
        · have hd : decide (0 < p) = false := by simp [hp0]
          have hz : insL p N (f k, g k) = N.put p (f k, g k) := by subst hp0; rfl
          clear hp0
          go_upto_region 7 with fail
          refine wp_region_held_drew (S := fun wx => True) (by kernel_rfl) (trivial) (fun hH0 => ?_)
          refine wpAnyH_take (i := 0) (oi := { dst := some 22, op := _, type := _, pos := _, after := _, guard := _ }) (v := ?_) rfl (by kernel_rfl) (by kernel_rfl) (by kernel_rfl) (fun _ _ _ h => h) (Or.inl ⟨by rfl, ?_⟩) (hH0) ?_
          rotate_left
          · (intro wx hSw; obtain _ := hSw; go_simp <;> with_reducible rfl)
          simp only [Act.put, List.setIfInBounds_toArray, List.set_cons_zero, List.set_cons_succ]
          refine wpAnyH_take (i := 1) (oi := { dst := some 23, op := _, type := _, pos := _, after := _, guard := _ }) (v := ?_) rfl (by kernel_rfl) (by kernel_rfl) (by kernel_rfl) (fun _ _ _ h => h) (Or.inl ⟨by rfl, ?_⟩) (hH0) ?_
          rotate_left
          · (intro wx hSw; obtain _ := hSw; go_simp <;> with_reducible rfl)
          simp only [Act.put, List.setIfInBounds_toArray, List.set_cons_zero, List.set_cons_succ]
          refine wpAnyH_take (i := 2) (oi := { dst := some 24, op := _, type := _, pos := _, after := _, guard := _ }) (v := ?_) rfl (by kernel_rfl) (by kernel_rfl) (by kernel_rfl) (fun _ _ _ h => h) (Or.inl ⟨by rfl, ?_⟩) (hH0) ?_
          rotate_left
          · (intro wx hSw; obtain _ := hSw; go_simp <;> with_reducible rfl)
          simp only [Act.put, List.setIfInBounds_toArray, List.set_cons_zero, List.set_cons_succ]
          refine wpAnyH_take (i := 3) (oi := { dst := some 25, op := _, type := _, pos := _, after := _, guard := _ }) (v := _) rfl (by kernel_rfl) (by kernel_rfl) (by kernel_rfl) (fun _ _ _ h => h) (Or.inr ⟨by rfl, rfl⟩) (hH0) ?_
          simp only [Act.put, List.setIfInBounds_toArray, List.set_cons_zero, List.set_cons_succ]
          refine wpAnyH_take (i := 4) (oi := { dst := some 26, op := _, type := _, pos := _, after := _, guard := _ }) (v := _) rfl (by kernel_rfl) (by kernel_rfl) (by kernel_rfl) (fun _ _ _ h => h) (Or.inr ⟨by rfl, rfl⟩) (hH0) ?_
          simp only [Act.put, List.setIfInBounds_toArray, List.set_cons_zero, List.set_cons_succ]
          refine wpAnyH_take (i := 5) (oi := { dst := some 27, op := _, type := _, pos := _, after := _, guard := _ }) (v := _) rfl (by kernel_rfl) (by kernel_rfl) (by kernel_rfl) (fun _ _ _ h => h) (Or.inr ⟨by rfl, rfl⟩) (hH0) ?_
          simp only [Act.put, List.setIfInBounds_toArray, List.set_cons_zero, List.set_cons_succ]
          refine wpAnyH_take (i := 6) (oi := { dst := some 28, op := _, type := _, pos := _, after := _, guard := _ }) (v := _) rfl (by kernel_rfl) (by kernel_rfl) (by kernel_rfl) (fun _ _ _ h => h) (Or.inr ⟨by rfl, rfl⟩) (hH0) ?_
          simp only [Act.put, List.setIfInBounds_toArray, List.set_cons_zero, List.set_cons_succ]
          refine wpAnyH_take (i := 7) (oi := { dst := some 29, op := _, type := _, pos := _, after := _, guard := _ }) (v := _) rfl (by kernel_rfl) (by kernel_rfl) (by kernel_rfl) (fun _ _ _ h => h) (Or.inr ⟨by rfl, rfl⟩) (hH0) ?_
          simp only [Act.put, List.setIfInBounds_toArray, List.set_cons_zero, List.set_cons_succ]
          refine wpAnyH_take (i := 8) (oi := { dst := some 30, op := _, type := _, pos := _, after := _, guard := _ }) (v := _) rfl (by kernel_rfl) (by kernel_rfl) (by kernel_rfl) (fun _ _ _ h => h) (Or.inr ⟨by rfl, rfl⟩) (hH0) ?_
          simp only [Act.put, List.setIfInBounds_toArray, List.set_cons_zero, List.set_cons_succ]
          refine wpAnyH_take (i := 9) (oi := { dst := some 31, op := _, type := _, pos := _, after := _, guard := _ }) (v := _) rfl (by kernel_rfl) (by kernel_rfl) (by kernel_rfl) (fun _ _ _ h => h) (Or.inr ⟨by rfl, rfl⟩) (hH0) ?_
          simp only [Act.put, List.setIfInBounds_toArray, List.set_cons_zero, List.set_cons_succ]
          refine wpAnyH_take (i := 10) (oi := { dst := some 32, op := _, type := _, pos := _, after := _, guard := _ }) (v := _) rfl (by kernel_rfl) (by kernel_rfl) (by kernel_rfl) (fun _ _ _ h => h) (Or.inr ⟨by rfl, rfl⟩) (hH0) ?_
          simp only [Act.put, List.setIfInBounds_toArray, List.set_cons_zero, List.set_cons_succ]
          refine wpAnyH_take (i := 11) (oi := { dst := some 33, op := _, type := _, pos := _, after := _, guard := _ }) (v := _) rfl (by kernel_rfl) (by kernel_rfl) (by kernel_rfl) (fun _ _ _ h => h) (Or.inr ⟨by rfl, rfl⟩) (hH0) ?_
          simp only [Act.put, List.setIfInBounds_toArray, List.set_cons_zero, List.set_cons_succ]
          refine wpAnyH_take (i := 12) (oi := { dst := some 34, op := _, type := _, pos := _, after := _, guard := _ }) (v := _) rfl (by kernel_rfl) (by kernel_rfl) (by kernel_rfl) (fun _ _ _ h => h) (Or.inr ⟨by rfl, rfl⟩) (hH0) ?_
          simp only [Act.put, List.setIfInBounds_toArray, List.set_cons_zero, List.set_cons_succ]
          refine wpAnyH_take (i := 13) (oi := { dst := some 35, op := _, type := _, pos := _, after := _, guard := _ }) (v := ?_) rfl (by kernel_rfl) (by kernel_rfl) (by kernel_rfl) (fun _ _ _ h => h) (Or.inl ⟨by rfl, ?_⟩) (hH0) ?_
          rotate_left
          · (intro wx hSw; obtain _ := hSw; go_simp <;> with_reducible rfl)
          simp only [Act.put, List.setIfInBounds_toArray, List.set_cons_zero, List.set_cons_succ]
          refine wpAnyH_done (by kernel_rfl) ?_ _
          -- behind it: go_wp2_with fail, then go_meet (a cut) or go_ret; the condition at the end: hH0
          obtain ⟨wd, hwd⟩ : ∃ wd, wr.drew = wd := ⟨_, rfl⟩
          have HRC := hide HRC.out.drew
          have HB := hide HB.out.drew
          rw [hwd] at HRC HB ⊢
          clear hH0 hwd
          have e0 := HRC.out.rowl.c0 (i := p) (by omega)
          have e1 := HRC.out.rowl.c1 (i := p) (by omega)
          have e2 := HRC.out.rowl.froz (p * 2)
          have e3 := HRC.out.rowl.froz (p * 2 + 1)
          have e4 : wd.cell? ⟨b, off + k * 2, none⟩ = some (.int .i64 (f k)) := (HB.out.cell (p := ⟨b, off + k * 2, none⟩) hb).trans (HC.out k hlt).1
          have e5 : wd.cell? ⟨b, off + k * 2 + 1, none⟩ = some (.int .i64 (g k)) := (HB.out.cell (p := ⟨b, off + k * 2 + 1, none⟩) hb).trans (HC.out k hlt).2
          have hat' : (p : Int) < ((k + 1 : Nat) : Int) := by omega
          have hgb : w.heap.size ≤ g5 := HRC.out.base
          go_wp2_with fail
          go_roundw
          case rel =>
            refine ⟨k + 1, N.put p (f k, g k), by omega, by go_num, ⟨g5, c5, rfl, HRC.out.set p (f k) (g k)⟩, fun i hi => ?_, ?_⟩
            · have q := HU.out i (by omega)
              rw [hz] at q
              rw [q, insL_ext k _ _ _ (fun j hj => HA.out j hj) i (by omega)]
              show _ = insL k (isortL k (listL n f g)) (listL n f g k) i
              rw [show listL n f g k = (f k, g k) from by unfold listL; rw [if_pos hlt]]
            · exact (HB.out.setCell hgb _).setCell hgb _
          case measure => simp [intOf]; omega
        · have hd : decide (0 < p) = true := by simp; omega
          obtain ⟨r, hr⟩ : ∃ r, p - 1 = r := ⟨_, rfl⟩
          have hpr : p = r + 1 := by omega
          have HPR := hide hpr
          clear hpr
          have hq : (p : Int) - 1 = (r : Int) := by have := HPR.out; omega
          clear hr
          have hwr : IntKind.i64.wrap (r : Int) = (r : Int) := wrapIn _ (by omega) (by omega)
          have hrk : (r : Int) < (k : Int) + 1 := by omega
          have sv := HB.out.size
          have Q := hide (show Qe wr b (off + k * 2) g5 (r * 2) (f k, g k) (N r) from ⟨by omega, HRC.out.rowl.lt, (HB.out.cell (p := ⟨b, off + k * 2, none⟩) hb).trans (HC.out k hlt).1, (HB.out.cell (p := ⟨b, off + k * 2 + 1, none⟩) hb).trans (HC.out k hlt).2, HRC.out.rowl.c0 (by omega), HRC.out.rowl.c1 (by omega)⟩)
          have LE := hide (l6Less_any (f k) (g k) (N r).1 (N r).2)
          obtain ⟨u, hu⟩ : ∃ u, lt2 (f k, g k) (N r) = u := ⟨_, rfl⟩
          rw [show lessB (f k) (g k) (N r).1 (N r).2 = u from hu] at LE
          have HU2 := hide hu
          clear hu
          go_upto_region 7 with fail
          refine wp_region_held_drew (S := fun wx => Qe wx b (off + k * 2) g5 (r * 2) (f k, g k) (N r)) (by kernel_rfl) (Q.out.drew) (fun hH0 => ?_)
          refine wpAnyH_take (i := 0) (oi := { dst := some 22, op := _, type := _, pos := _, after := _, guard := _ }) (v := ?_) rfl (by kernel_rfl) (by kernel_rfl) (by kernel_rfl) (fun _ _ _ h => h) (Or.inl ⟨by rfl, ?_⟩) (hH0) ?_
          rotate_left
          · (intro wx hSw; obtain ⟨l0, l1, q0, q1, q2, q3⟩ := hSw; go_simp <;> with_reducible rfl)
          simp only [Act.put, List.setIfInBounds_toArray, List.set_cons_zero, List.set_cons_succ]
          refine wpAnyH_take (i := 1) (oi := { dst := some 23, op := _, type := _, pos := _, after := _, guard := _ }) (v := ?_) rfl (by kernel_rfl) (by kernel_rfl) (by kernel_rfl) (fun _ _ _ h => h) (Or.inl ⟨by rfl, ?_⟩) (hH0) ?_
          rotate_left
          · (intro wx hSw; obtain ⟨l0, l1, q0, q1, q2, q3⟩ := hSw; go_simp <;> with_reducible rfl)
          simp only [Act.put, List.setIfInBounds_toArray, List.set_cons_zero, List.set_cons_succ]
          refine wpAnyH_take (i := 2) (oi := { dst := some 24, op := _, type := _, pos := _, after := _, guard := _ }) (v := ?_) rfl (by kernel_rfl) (by kernel_rfl) (by kernel_rfl) (fun _ _ _ h => h) (Or.inl ⟨by rfl, ?_⟩) (hH0) ?_
          rotate_left
          · (intro wx hSw; obtain ⟨l0, l1, q0, q1, q2, q3⟩ := hSw; go_simp <;> with_reducible rfl)
          simp only [Act.put, List.setIfInBounds_toArray, List.set_cons_zero, List.set_cons_succ]
          refine wpAnyH_take (i := 3) (oi := { dst := some 25, op := _, type := _, pos := _, after := _, guard := _ }) (v := ?_) rfl (by kernel_rfl) (by kernel_rfl) (by kernel_rfl) (fun _ _ _ h => h) (Or.inl ⟨by rfl, ?_⟩) (hH0) ?_
          rotate_left
          · (intro wx hSw; obtain ⟨l0, l1, q0, q1, q2, q3⟩ := hSw; go_simp <;> with_reducible rfl)
          simp only [Act.put, List.setIfInBounds_toArray, List.set_cons_zero, List.set_cons_succ]
          refine wpAnyH_take (i := 4) (oi := { dst := some 26, op := _, type := _, pos := _, after := _, guard := _ }) (v := ?_) rfl (by kernel_rfl) (by kernel_rfl) (by kernel_rfl) (fun _ _ _ h => h) (Or.inl ⟨by rfl, ?_⟩) (hH0) ?_
          rotate_left
          · (intro wx hSw; obtain ⟨l0, l1, q0, q1, q2, q3⟩ := hSw; go_simp <;> with_reducible rfl)
          simp only [Act.put, List.setIfInBounds_toArray, List.set_cons_zero, List.set_cons_succ]
          refine wpAnyH_take (i := 5) (oi := { dst := some 27, op := _, type := _, pos := _, after := _, guard := _ }) (v := ?_) rfl (by kernel_rfl) (by kernel_rfl) (by kernel_rfl) (fun _ _ _ h => h) (Or.inl ⟨by rfl, ?_⟩) (hH0) ?_
          rotate_left
          · (intro wx hSw; obtain ⟨l0, l1, q0, q1, q2, q3⟩ := hSw; go_simp <;> with_reducible rfl)
          simp only [Act.put, List.setIfInBounds_toArray, List.set_cons_zero, List.set_cons_succ]
          refine wpAnyH_take (i := 6) (oi := { dst := some 28, op := _, type := _, pos := _, after := _, guard := _ }) (v := ?_) rfl (by kernel_rfl) (by kernel_rfl) (by kernel_rfl) (fun _ _ _ h => h) (Or.inl ⟨by rfl, ?_⟩) (hH0) ?_
          rotate_left
          · (intro wx hSw; obtain ⟨l0, l1, q0, q1, q2, q3⟩ := hSw; go_simp <;> with_reducible rfl)
          simp only [Act.put, List.setIfInBounds_toArray, List.set_cons_zero, List.set_cons_succ]
          refine wpAnyH_take (i := 7) (oi := { dst := some 29, op := _, type := _, pos := _, after := _, guard := _ }) (v := ?_) rfl (by kernel_rfl) (by kernel_rfl) (by kernel_rfl) (fun _ _ _ h => h) (Or.inl ⟨by rfl, ?_⟩) (hH0) ?_
          rotate_left
          · (intro wx hSw; obtain ⟨l0, l1, q0, q1, q2, q3⟩ := hSw; go_simp <;> with_reducible rfl)
          simp only [Act.put, List.setIfInBounds_toArray, List.set_cons_zero, List.set_cons_succ]
          refine wpAnyH_take (i := 8) (oi := { dst := some 30, op := _, type := _, pos := _, after := _, guard := _ }) (v := ?_) rfl (by kernel_rfl) (by kernel_rfl) (by kernel_rfl) (fun _ _ _ h => h) (Or.inl ⟨by rfl, ?_⟩) (hH0) ?_
          rotate_left
          · (intro wx hSw; obtain ⟨l0, l1, q0, q1, q2, q3⟩ := hSw; go_simp <;> with_reducible rfl)
          simp only [Act.put, List.setIfInBounds_toArray, List.set_cons_zero, List.set_cons_succ]
          refine wpAnyH_take (i := 9) (oi := { dst := some 31, op := _, type := _, pos := _, after := _, guard := _ }) (v := ?_) rfl (by kernel_rfl) (by kernel_rfl) (by kernel_rfl) (fun _ _ _ h => h) (Or.inl ⟨by rfl, ?_⟩) (hH0) ?_
          rotate_left
          · (intro wx hSw; obtain ⟨l0, l1, q0, q1, q2, q3⟩ := hSw; go_simp <;> with_reducible rfl)
          simp only [Act.put, List.setIfInBounds_toArray, List.set_cons_zero, List.set_cons_succ]
          refine wpAnyH_take (i := 10) (oi := { dst := some 32, op := _, type := _, pos := _, after := _, guard := _ }) (v := ?_) rfl (by kernel_rfl) (by kernel_rfl) (by kernel_rfl) (fun _ _ _ h => h) (Or.inl ⟨by rfl, ?_⟩) (hH0) ?_
          rotate_left
          · (intro wx hSw; obtain ⟨l0, l1, q0, q1, q2, q3⟩ := hSw; go_simp <;> with_reducible rfl)
          simp only [Act.put, List.setIfInBounds_toArray, List.set_cons_zero, List.set_cons_succ]
          refine wpAnyH_take (i := 11) (oi := { dst := some 33, op := _, type := _, pos := _, after := _, guard := _ }) (v := ?_) rfl (by kernel_rfl) (by kernel_rfl) (by kernel_rfl) (fun _ _ _ h => h) (Or.inl ⟨by rfl, ?_⟩) (hH0) ?_
          rotate_left
          · (intro wx hSw; obtain ⟨l0, l1, q0, q1, q2, q3⟩ := hSw; go_simp <;> with_reducible rfl)
          simp only [Act.put, List.setIfInBounds_toArray, List.set_cons_zero, List.set_cons_succ]
          refine wpAnyH_ready (rs := [12]) (by kernel_rfl) (by simp) ?_
          refine AllReadyH.cons (o := { dst := some 34, op := _, type := _, pos := _, after := _, guard := _ }) rfl (fun K hK => ?_) AllReadyH.nil
          go_simp
          refine (LE.out _).mono ?_
          rintro e w_c34_1 ⟨rfl, hb_c34_1⟩
          dsimp only
          refine hK.out _ _ (Qe.below hH0 hb_c34_1) (fun hH1 => ?_)
          clear hK K
          refine wpAnyH_take (i := 13) (oi := { dst := some 35, op := _, type := _, pos := _, after := _, guard := _ }) (v := ?_) rfl (by kernel_rfl) (by kernel_rfl) (by kernel_rfl) (fun _ _ _ h => h) (Or.inl ⟨by rfl, ?_⟩) (hH1) ?_
          rotate_left
          · (intro wx hSw; obtain ⟨l0, l1, q0, q1, q2, q3⟩ := hSw; go_simp <;> with_reducible rfl)
          simp only [Act.put, List.setIfInBounds_toArray, List.set_cons_zero, List.set_cons_succ]
          refine wpAnyH_done (by kernel_rfl) ?_ _
          -- behind it: go_wp2_with fail, then go_meet (a cut) or go_ret; the condition at the end: hH1
          have HRC := hide (HRC.out.drew.below hb_c34_1)
          have HB := hide (bstep HB.out.drew hb_c34_1)
          clear hb_c34_1 hH0 hH1 Q LE
          cases u
          · have hz : insL p N (f k, g k) = N.put p (f k, g k) := by rw [HPR.out, insL_succ, HU2.out, if_neg (by decide)]
            have e0 := HRC.out.rowl.c0 (i := p) (by omega)
            have e1 := HRC.out.rowl.c1 (i := p) (by omega)
            have e2 := HRC.out.rowl.froz (p * 2)
            have e3 := HRC.out.rowl.froz (p * 2 + 1)
            have e4 : w_c34_1.cell? ⟨b, off + k * 2, none⟩ = some (.int .i64 (f k)) := (HB.out.cell (p := ⟨b, off + k * 2, none⟩) hb).trans (HC.out k hlt).1
            have e5 : w_c34_1.cell? ⟨b, off + k * 2 + 1, none⟩ = some (.int .i64 (g k)) := (HB.out.cell (p := ⟨b, off + k * 2 + 1, none⟩) hb).trans (HC.out k hlt).2
            have hat' : (p : Int) < ((k + 1 : Nat) : Int) := by omega
            have hgb : w.heap.size ≤ g5 := HRC.out.base
            go_wp2_with fail
            go_roundw
            case rel =>
              refine ⟨k + 1, N.put p (f k, g k), by omega, by go_num, ⟨g5, c5, rfl, HRC.out.set p (f k) (g k)⟩, fun i hi => ?_, ?_⟩
              · have q := HU.out i (by omega)
                rw [hz] at q
                rw [q, insL_ext k _ _ _ (fun j hj => HA.out j hj) i (by omega)]
                show _ = insL k (isortL k (listL n f g)) (listL n f g k) i
                rw [show listL n f g k = (f k, g k) from by unfold listL; rw [if_pos hlt]]
              · exact (HB.out.setCell hgb _).setCell hgb _
            case measure => simp [intOf]; omega
          · have hz : insL p N (f k, g k) = insL r (N.put p (N r)) (f k, g k) := by
              rw [HPR.out]
              show (if lt2 (f k, g k) (N r) = true then insL r (N.put (r + 1) (N r)) (f k, g k) else N.put (r + 1) (f k, g k)) = _
              rw [HU2.out, if_pos rfl]
            have HZ := hide hz
            have y0 := HRC.out.rowl.c0 (i := r) (by omega)
            have y1 := HRC.out.rowl.c1 (i := r) (by omega)
            have y2 := HRC.out.rowl.c0 (i := p) (by omega)
            have y3 := HRC.out.rowl.c1 (i := p) (by omega)
            have y4 := HRC.out.rowl.froz (p * 2)
            have y5 := HRC.out.rowl.froz (p * 2 + 1)
            have hgb : w.heap.size ≤ g5 := HRC.out.base
            have hpk : (p : Int) < (k : Int) + 1 := by omega
            clear hz
            go_wp2_with fail
            go_roundw
            case rel => exact ⟨r, N.put p (N r), rfl, by omega, HRC.out.set p (N r).1 (N r).2, fun i hi => by rw [← HZ.out]; exact HU.out i hi, (HB.out.setCell hgb _).setCell hgb _⟩
            case measure => simp [intOf]; omega
    · obtain rfl : k = n := by omega
      go_wp2_with fail
      go_ret
      exact ⟨g4, c4, M, rfl, HRC.out, HA.out, HB.out⟩
end Go.Proofs.Ytmbncafbbpcmbaa

/- Heaps that keep the K least, plain. -/
namespace Go.Proofs.Ytmbncafbbpcmbaa
open Go.RowKit
set_option maxRecDepth 8000
set_option linter.unusedSimpArgs false
set_option linter.unusedVariables false

def UpInv (n j : Nat) (L : NL) : Prop :=
  (∀ k, 0 < k → k < n → k ≠ j → lt2 (L ((k - 1) / 2)) (L k) = false) ∧ (0 < j → ∀ k, 0 < k → k < n → (k - 1) / 2 = j → lt2 (L ((j - 1) / 2)) (L k) = false)
theorem swp_l (L : NL) (i j : Nat) : swp L i j i = L j := by unfold swp; rw [if_pos rfl]
theorem swp_r (L : NL) {i j : Nat} (h : j ≠ i) : swp L i j j = L i := by unfold swp; rw [if_neg h, if_pos rfl]
theorem swp_o (L : NL) {i j k : Nat} (h1 : k ≠ i) (h2 : k ≠ j) : swp L i j k = L k := by unfold swp; rw [if_neg h1, if_neg h2]
theorem up_heap (n : Nat) : ∀ (t j : Nat) (L : NL), j ≤ t → j < n → UpInv n j L → HeapP n (upL j L) := by
  intro t
  induction t with
  | zero =>
    intro j L ht hj h
    obtain rfl : j = 0 := by omega
    rw [upL_zero]
    exact fun k h0 hk => h.1 k h0 hk (by omega)
  | succ t ih =>
    intro j L ht hj h
    by_cases h0 : j = 0
    · subst h0
      rw [upL_zero]
      exact fun k h0 hk => h.1 k h0 hk (by omega)
    · cases hb : lt2 (L ((j - 1) / 2)) (L j)
      · rw [upL_no hb]
        intro k hk0 hk
        by_cases e : k = j
        · subst e; exact hb
        · exact h.1 k hk0 hk e
      · rw [upL_yes h0 hb]
        obtain ⟨p, hp⟩ : ∃ p, (j - 1) / 2 = p := ⟨_, rfl⟩
        have hpj : p < j := by omega
        rw [hp] at hb ⊢
        have hba := lt2_asymm hb
        refine ih p _ (by omega) (by omega) ⟨fun k hk0 hk hkp => ?_, fun hp0 k hk0 hk hkp => ?_⟩
        · by_cases ekj : k = j
          · subst ekj
            rw [hp, swp_l, swp_r _ (by omega)]
            exact hba
          · rw [swp_o (k := k) _ hkp ekj]
            by_cases eq1 : (k - 1) / 2 = p
            · rw [eq1, swp_l]
              have h1 := h.1 k hk0 hk ekj
              rw [eq1] at h1
              exact le2_trans h1 hba
            · by_cases eq2 : (k - 1) / 2 = j
              · rw [eq2, swp_r _ (by omega)]
                have h2 := h.2 (by omega) k hk0 hk eq2
                rw [hp] at h2
                exact h2
              · rw [swp_o _ eq1 eq2]
                exact h.1 k hk0 hk ekj
        · have g1 := h.1 p hp0 (by omega) (by omega)
          rw [swp_o (k := (p - 1) / 2) _ (by omega) (by omega)]
          by_cases ekj : k = j
          · subst ekj
            rw [swp_r _ (by omega)]
            exact g1
          · rw [swp_o (k := k) _ (by omega) ekj]
            have h1 := h.1 k hk0 hk ekj
            rw [hkp] at h1
            exact le2_trans h1 g1
theorem push_inv {n : Nat} {L : NL} (h : HeapP n L) (x : Int × Int) : UpInv (n + 1) n (L.put n x) := by
  refine ⟨fun k h0 hk hkn => ?_, fun h0 k hk0 hk hkp => ?_⟩
  · rw [put_off _ _ (show (k - 1) / 2 ≠ n by omega), put_off _ _ hkn]
    exact h k h0 (by omega)
  · omega
theorem push_heap {n : Nat} {L : NL} (h : HeapP n L) (x : Int × Int) : HeapP (n + 1) (upL n (L.put n x)) := up_heap (n + 1) n n _ (Nat.le_refl _) (by omega) (push_inv h x)
theorem cnt_push {n : Nat} {L : NL} (x z : Int × Int) : cnt (upL n (L.put n x)) (n + 1) z = cnt L n z + if x = z then 1 else 0 := by
  rw [cnt_upL (n + 1) z n n _ (Nat.le_refl _) (by omega)]
  show cnt (L.put n x) n z + (if L.put n x n = z then 1 else 0) = _
  rw [put_at, cnt_congr n z (M := L) (fun i hi => put_off _ _ (by omega))]

/-- Of sorted ones: to put one among all of them, or among the first few, is the same for these. -/
theorem insL_cut {P : NL} {x : Int × Int} {n : Nat} : ∀ j, n ≤ j → SortedP j P → ∀ i, i < n → insL j P x i = insL n P x i := by
  intro j
  induction j with
  | zero => intro hn _ i hi; omega
  | succ j ih =>
    intro hn hs i hi
    by_cases e : n = j + 1
    · subst e; rfl
    · have hs' : SortedP j P := fun k hk => hs k (by omega)
      rw [← ih (by omega) hs' i hi, insL_succ]
      by_cases hb : lt2 x (P j) = true
      · rw [if_pos hb, put_off _ _ (by omega)]
      · rw [if_neg hb, put_off _ _ (by omega)]
        have hx : lt2 x (P j) = false := by simpa using hb
        cases j with
        | zero => omega
        | succ j =>
          have h1 : lt2 x (P j) = false := le2_trans (hs j (by omega)) hx
          rw [insL_succ, h1, if_neg (by decide), put_off _ _ (by omega)]

theorem isort_last {n : Nat} {H : NL} (h : HeapP (n + 1) H) : isortL (n + 1) H n = H 0 := by
  obtain ⟨hs, hc⟩ := isortL_sorted (n + 1) H
  have h1 : ∃ i, i < n + 1 ∧ isortL (n + 1) H i = H 0 := cnt_pos _ (by rw [hc]; exact cnt_of (i := 0) (by omega) rfl)
  have h2 : ∃ i, i < n + 1 ∧ H i = isortL (n + 1) H n := cnt_pos _ (by rw [← hc]; exact cnt_of (i := n) (by omega) rfl)
  obtain ⟨i1, hi1, e1⟩ := h1
  obtain ⟨i2, hi2, e2⟩ := h2
  have g1 := sorted_last n hs i1 (by omega)
  rw [e1] at g1
  have g2 := h.top n i2 (by omega) hi2
  rw [e2] at g2
  exact le2_anti g2 g1

/-- A heap that keeps the K least of what came: the step. -/
theorem keep_step {K n j : Nat} {H A : NL} {x : Int × Int} (hx : A j = x) (hn : n = min j K) (hh : HeapP n H) (hs : ∀ i, i < n → isortL n H i = isortL j A i) :
    (n < K → HeapP (n + 1) (upL n (H.put n x)) ∧ ∀ i, i < n + 1 → isortL (n + 1) (upL n (H.put n x)) i = isortL (j + 1) A i) ∧
    (¬ n < K → HeapP n (dnL n 0 (swp (upL n (H.put n x)) 0 n)) ∧ ∀ i, i < n → isortL n (dnL n 0 (swp (upL n (H.put n x)) 0 n)) i = isortL (j + 1) A i) := by
  have hp := push_heap hh x
  have hcnt := fun z => cnt_push (n := n) (L := H) x z
  generalize upL n (H.put n x) = H1 at *
  have ha : ∀ i, i < n + 1 → isortL (n + 1) H1 i = insL n (isortL n H) x i := by
    obtain ⟨s1, c1⟩ := isortL_sorted (n + 1) H1
    obtain ⟨s2, c2⟩ := isortL_sorted n H
    obtain ⟨s3, _, c3⟩ := insL_sorted n (isortL n H) x s2
    exact sorted_unique (n + 1) _ _ s1 s3 fun z => by rw [c1, c3, c2, hcnt]
  have hb : ∀ i, i < n + 1 → insL n (isortL n H) x i = insL n (isortL j A) x i := fun i hi => insL_ext n _ _ x (fun k hk => hs k hk) i (by omega)
  have hj : isortL (j + 1) A = insL j (isortL j A) x := by rw [← hx]; rfl
  refine ⟨fun hlt => ⟨hp, fun i hi => ?_⟩, fun hge => ?_⟩
  · obtain rfl : n = j := by omega
    rw [ha i hi, hb i hi, hj]
  · have hd : HeapP n (dnL n 0 (swp H1 0 n)) := dn_heap n n 0 _ (by omega) (pop_inv hp)
    refine ⟨hd, fun i hi => ?_⟩
    have h2 : isortL n (dnL n 0 (swp H1 0 n)) i = isortL (n + 1) H1 i := by
      obtain ⟨s1, c1⟩ := isortL_sorted n (dnL n 0 (swp H1 0 n))
      obtain ⟨s2, c2⟩ := isortL_sorted (n + 1) H1
      refine sorted_unique n _ _ s1 (fun k hk => s2 k (by omega)) (fun z => ?_) i hi
      rw [c1, cnt_dnL n n z (Nat.le_refl _) n 0 _ (by omega)]
      have e1 : cnt (swp H1 0 n) (n + 1) z = cnt H1 (n + 1) z := cnt_swp H1 z (by omega) (by omega)
      have e2 : cnt (swp H1 0 n) (n + 1) z = cnt (swp H1 0 n) n z + if swp H1 0 n n = z then 1 else 0 := rfl
      have e3 : cnt (isortL (n + 1) H1) (n + 1) z = cnt (isortL (n + 1) H1) n z + if isortL (n + 1) H1 n = z then 1 else 0 := rfl
      have e4 : swp H1 0 n n = H1 0 := by
        by_cases h0 : n = 0
        · subst h0; exact swp_l _ _ _
        · exact swp_r _ h0
      rw [e4] at e2
      rw [isort_last hp] at e3
      have := c2 z
      omega
    rw [h2, ha i (by omega), hb i (by omega), hj]
    exact (insL_cut j (by omega) (isortL_sorted j A).1 i hi).symm
end Go.Proofs.Ytmbncafbbpcmbaa

/- leastOf of the program. -/
namespace Go.Proofs.Ytmbncafbbpcmbaa
open Go.RowKit
set_option maxRecDepth 8000
set_option linter.unusedSimpArgs false
set_option linter.unusedVariables false

theorem isortL_ext {A B : NL} : ∀ n, (∀ i, i < n → A i = B i) → ∀ i, i < n → isortL n A i = isortL n B i := by
  intro n
  induction n with
  | zero => intro _ i hi; omega
  | succ n ih =>
    intro h i hi
    show insL n (isortL n A) (A n) i = insL n (isortL n B) (B n) i
    rw [h n (by omega)]
    exact insL_ext n _ _ _ (fun j hj => ih (fun k hk => h k (by omega)) j hj) i (by omega)
theorem HeapP.congr {n : Nat} {A B : NL} (h : HeapP n A) (e : ∀ i, i < n → A i = B i) : HeapP n B := fun j h0 hj => by rw [← e _ (by omega), ← e j hj]; exact h j h0 hj
theorem listL_at {n : Nat} {L : NL} {i : Nat} (h : i < n) : listL n (fun i => (L i).1) (fun i => (L i).2) i = L i := by
  unfold listL
  rw [if_pos h]

/-- A heap that keeps the K least of the first j of A. -/
structure Keep (K : Nat) (A : NL) (j n : Nat) (P : NL) : Prop where
  num : n = min j K
  heap : HeapP n P
  same : ∀ i, i < n → isortL n P i = isortL j A i
theorem Keep.zero (K : Nat) (A P : NL) : Keep K A 0 0 P := ⟨by omega, fun j h0 hj => by omega, fun i hi => by omega⟩
theorem Keep.step {K : Nat} {A : NL} {j n : Nat} {P : NL} (h : Keep K A j n P) : Keep K A (j + 1) (putN K n) (putL K n (fun i => (P i).1) (fun i => (P i).2) (A j).1 (A j).2) := by
  have hn := h.num
  have hs := keep_step (K := K) (n := n) (j := j) (H := listL n (fun i => (P i).1) (fun i => (P i).2)) (A := A) (x := A j) rfl hn (h.heap.congr fun i hi => (listL_at hi).symm) (fun i hi => (isortL_ext n (fun i hi => listL_at hi) i hi).trans (h.same i hi))
  unfold putN putL putL1
  by_cases hlt : n < K
  · obtain ⟨h1, h2⟩ := hs.1 hlt
    rw [if_neg (by omega), if_neg (by omega)]
    exact ⟨by omega, h1, h2⟩
  · obtain ⟨h1, h2⟩ := hs.2 hlt
    rw [if_pos (by omega), if_pos (by omega)]
    exact ⟨by omega, h1, h2⟩
theorem mem_isort {n : Nat} {A : NL} {i : Nat} (hi : i < n) : ∃ j, j < n ∧ A j = isortL n A i := by
  refine cnt_pos n ?_
  rw [← (isortL_sorted n A).2]
  exact cnt_of hi rfl
theorem isort_mem {n : Nat} {A : NL} {i : Nat} (hi : i < n) : ∃ j, j < n ∧ isortL n A j = A i := by
  refine cnt_pos n ?_
  rw [(isortL_sorted n A).2]
  exact cnt_of hi rfl
theorem Keep.near {K : Nat} {A : NL} {j n : Nat} {P : NL} (h : Keep K A j n P) (hA : ∀ t, t < j → nearB (A t).1 (A t).2 = true) : ∀ i, i < n → nearB (P i).1 (P i).2 = true := by
  intro i hi
  obtain ⟨t, ht, e⟩ := isort_mem (A := P) hi
  have hn := h.num
  rw [← e, h.same t ht]
  obtain ⟨u, hu, e2⟩ := mem_isort (n := j) (A := A) (i := t) (by omega)
  rw [← e2]
  exact hA u hu
theorem Keep.ok {K : Nat} {A : NL} {j n : Nat} {P : NL} (h : Keep K A j n P) (hA : ∀ t, t < j → nearB (A t).1 (A t).2 = true) (h1 : 1 ≤ K) (h20 : K ≤ 20) : heapB K n (fun i => (P i).1) (fun i => (P i).2) = true := by
  have hn := h.num
  rw [heapB_some ⟨⟨by omega, by omega⟩, by omega⟩]
  refine allN_yes fun i hi => ?_
  unfold heapAt
  rw [h.near hA i hi]
  by_cases h0 : i = 0
  · subst h0
    simp only [Bool.true_and, Bool.not_eq_true']
    exact lessB_self _ _
  · simp only [Bool.true_and, Bool.not_eq_true']
    exact h.heap i (by omega) hi

/-- What leastOf keeps: its heap's box, and the row that it leads to. -/
structure HK1 (w0 : World) (K : Nat) (A : NL) (j : Nat) (w : World) : Prop where
  ex : ∃ a c n P, w.heap[w0.heap.size]? = some (.cells #[.int .i64 K, .slice a n c] 70 (0, 0)) ∧ Wr w a n P (w0.heap.size + 1) ∧ Keep K A j n P
  bel : Below w0.heap.size w0 w
theorem HK1.below {w0 : World} {K : Nat} {A : NL} {j : Nat} {w w' : World} (h : HK1 w0 K A j w) (hb : Below w.heap.size w w') : HK1 w0 K A j w' := by
  obtain ⟨⟨a, c, n, P, h1, h2, h3⟩, h4⟩ := h
  exact ⟨⟨a, c, n, P, (hb.block _ (Array.getElem?_eq_some_iff.1 h1).1).trans h1, h2.below hb, h3⟩, bstep h4 hb⟩
theorem two_c0 {w : World} {b : Nat} {u v : Value} {t : TypeId} (h : w.heap[b]? = some (.cells #[u, v] t (0, 0))) : w.cell? ⟨b, 0, none⟩ = some u := by simp [World.cell?, h]
theorem two_c1 {w : World} {b : Nat} {u v : Value} {t : TypeId} (h : w.heap[b]? = some (.cells #[u, v] t (0, 0))) : w.cell? ⟨b, 1, none⟩ = some v := by simp [World.cell?, h]
theorem two_f {w : World} {b : Nat} {u v : Value} {t : TypeId} (h : w.heap[b]? = some (.cells #[u, v] t (0, 0))) (o : Nat) : w.frozen? ⟨b, o, none⟩ = false := by simp [World.frozen?, h]
theorem Wr.awayB {w : World} {a : Option Addr} {l : Nat} {L : NL} {B : Nat} (h : Wr w a l L B) (p : Addr) (v : Value) (hp : p.block < B) : Wr (w.setCell p v) a l L B := by
  rcases h with h0 | ⟨b, e, hB, hr⟩
  · exact .inl h0
  · exact .inr ⟨b, e, hB, hr.away p v (by omega)⟩

/-- The answer of leastOf: the least min K N of A, sorted. -/
def LeastR (w : World) (K N : Nat) (A : NL) (e : Ending) (w' : World) : Prop :=
  ∃ a cap, e = .returned (.slice a (min K N) cap) ∧ Wr w' a (min K N) (isortL N A) w.heap.size ∧ Below w.heap.size w w'

set_option maxHeartbeats 8000000 in
set_option maxRecDepth 4000 in
theorem leastOf_some (b off N cap K : Nat) (A : NL) (w : World) (h1 : 1 ≤ K) (h20 : K ≤ 20) (hN : N ≤ 60) (hA : ∀ t, t < N → nearB (A t).1 (A t).2 = true) (hb : b < w.heap.size) (hc : ∀ i, i < N → w.cell? ⟨b, off + i * 2, none⟩ = some (.int .i64 (A i).1) ∧ w.cell? ⟨b, off + i * 2 + 1, none⟩ = some (.int .i64 (A i).2)) :
    Calls Try.prog 25 #[.slice (some ⟨b, off, none⟩) N cap, .int .i64 K] w fun e w' => LeastR w K N A e w' := by
  have HC := hide hc
  have HA := hide hA
  clear hc hA
  go_enter Try.func25, Try.ntmps25
  go_wp2_with fail
  go_loopw [12] (fun i wr => ∃ j : Nat, j ≤ N ∧ i = .int .i64 j ∧ HK1 w K A j wr) (fun i _ => N - (intOf i).toNat)
  case atStart => exact ⟨0, Nat.zero_le _, rfl, ⟨none, 0, 0, fun _ => (0, 0), Go.Deep.blk_alloc_new _ _, .inl rfl, Keep.zero _ _ _⟩, (by repeat' first | with_reducible exact Below.refl _ _ | with_reducible assumption | with_reducible refine below_drewN ?_ _ | with_reducible refine balloc ?_ _ | with_reducible refine Below.drew ?_ | with_reducible refine Below.setCell ?_ (by first | (simp; done) | (simp; omega) | omega) _ | with_reducible refine bstep ?_ (by assumption))⟩
  case round =>
    obtain ⟨j, hj, rfl, hk⟩ := hrel
    have HK := hide hk
    obtain ⟨⟨a, c, n, P, hbx, hwr, hkeep⟩, hbel⟩ := hk
    have q0 := two_c0 hbx
    have q1 := two_c1 hbx
    have lbx := (Array.getElem?_eq_some_iff.1 hbx).1
    have hn := hkeep.num
    by_cases hlt : j < N
    · have hlt' : (j : Int) < (N : Int) := by omega
      have c0 : wr.cell? ⟨b, off + j * 2, none⟩ = some (.int .i64 (A j).1) := (hbel.cell (p := ⟨b, off + j * 2, none⟩) hb).trans (HC.out j hlt).1
      have c1 : wr.cell? ⟨b, off + j * 2 + 1, none⟩ = some (.int .i64 (A j).2) := (hbel.cell (p := ⟨b, off + j * 2 + 1, none⟩) hb).trans (HC.out j hlt).2
      have hok := hkeep.ok (fun t ht => HA.out t (by omega)) h1 h20
      have hpb : putB K n (fun i => (P i).1) (fun i => (P i).2) (A j).1 (A j).2 = true := by unfold putB; rw [hok, HA.out j hlt]; rfl
      have PU := hide (fun w1 (hb1 : Below wr.heap.size wr w1) => iHeapPut_any K a n c (fun i => (P i).1) (fun i => (P i).2) (A j).1 (A j).2 w1 (hwr.prow.below hb1))
      have HPB := hide hpb
      have HST := hide hkeep.step
      have HBX := hide hbx
      have HBEL := hide hbel
      clear hbx hwr hkeep hbel hok hpb hn
      go_wp2_with fail
      refine (PU.out _ (by repeat' first | with_reducible exact Below.refl _ _ | with_reducible assumption | with_reducible refine below_drewN ?_ _ | with_reducible refine balloc ?_ _ | with_reducible refine Below.drew ?_ | with_reducible refine Below.setCell ?_ (by first | (simp; done) | (simp; omega) | omega) _ | with_reducible refine bstep ?_ (by assumption))).mono ?_
      rintro e w1 ⟨hb1, hq⟩
      obtain ⟨b2, c2, m2, rfl, hle2, hlm2, _, hown2⟩ : ∃ b2 c2 m2, e = .returned (.tuple #[.agg #[.int .i64 K, .slice (some ⟨b2, 0, none⟩) (putN K n) c2], .bool true]) ∧ (wr.alloc (.cells #[.int .i64 (A j).1, .int .i64 (A j).2] 47)).heap.size ≤ b2 ∧ putN K n ≤ m2 ∧ m2 ≤ 22 ∧ OwnL w1 b2 m2 (putL K n (fun i => (P i).1) (fun i => (P i).2) (A j).1 (A j).2) := by
        rcases hq with ⟨h0, _⟩ | ⟨_, b2, c2, m2, h⟩
        · rw [HPB.out] at h0; cases h0
        · exact ⟨b2, c2, m2, h⟩
      have bw1 : Below wr.heap.size wr w1 := (by repeat' first | with_reducible exact Below.refl _ _ | with_reducible assumption | with_reducible refine below_drewN ?_ _ | with_reducible refine balloc ?_ _ | with_reducible refine Below.drew ?_ | with_reducible refine Below.setCell ?_ (by first | (simp; done) | (simp; omega) | omega) _ | with_reducible refine bstep ?_ (by assumption))
      have hbx1 := (bw1.block _ lbx).trans HBX.out
      have d0 := two_c0 hbx1
      have d1 := two_c1 hbx1
      have d2 := two_f hbx1 0
      have d3 := two_f hbx1 1
      have hs0 := HBEL.out.size
      simp only [World.size_alloc] at hle2
      have HEND : Hid (HK1 w K A (j + 1) ((w1.setCell ⟨w.heap.size, 0, none⟩ (.int .i64 K)).setCell ⟨w.heap.size, 1, none⟩ (.slice (some ⟨b2, 0, none⟩) (putN K n) c2))) := hide (by
        refine ⟨⟨some ⟨b2, 0, none⟩, c2, putN K n, _, ?_, ?_, HST.out⟩, ?_⟩
        · rw [heap_set (heap_set hbx1)]
          simp
        · exact .inr ⟨b2, rfl, by omega, ((hown2.rowl.less hlm2).away _ _ (by simp; omega)).away _ _ (by simp; omega)⟩
        · exact ((bstep HBEL.out bw1).setCell (by simp) _).setCell (by simp) _)
      clear q0 q1 c0 c1 hq hown2 hbx1 hb1 bw1
      go_wp2_with fail
      go_roundw
      case rel => exact ⟨j + 1, by omega, by go_num, HEND.out⟩
      case measure => simp [intOf]; omega
    · obtain rfl : j = N := by omega
      have hok := hkeep.ok (fun t ht => HA.out t (by omega)) h1 h20
      have SO := hide (iHeapSorted_yes K a n c (fun i => (P i).1) (fun i => (P i).2) wr hwr.prow hok (by omega))
      have HS := hide (fun i (hi : i < n) => (sorts_alike n _ (listL_heap hok) i hi).trans ((isortL_ext n (fun i hi => listL_at hi) i hi).trans (hkeep.same i hi)))
      have HBEL := hide hbel
      have HN := hide (show n = min K j by omega)
      clear hbx hwr hkeep hbel hok hn
      go_wp2_with fail
      refine SO.out.mono ?_
      rintro e w1 ⟨b2, rfl, hle2, hown2, hb1⟩
      have HO2 := hide hown2
      clear hown2
      go_wp2_with fail
      go_ret
      refine ⟨some ⟨b2, 0, none⟩, n, ?_, ?_, bstep HBEL.out hb1⟩
      · rw [← HN.out]; rfl
      · rw [← HN.out]
        exact .inr ⟨b2, rfl, Nat.le_trans HBEL.out.size hle2, (HO2.out.congr (fun i hi => HS.out i hi)).rowl⟩
end Go.Proofs.Ytmbncafbbpcmbaa

/- (Item).matches. -/
namespace Go.Proofs.Ytmbncafbbpcmbaa
open Go.RowKit
set_option maxRecDepth 8000
set_option linter.unusedSimpArgs false
set_option linter.unusedVariables false

set_option maxHeartbeats 400000 in
theorem matches_any (mask : Int) (x : It) (a : Option Addr) (n cap : Nat) (w : World) :
    Calls Try.prog 32 #[.agg #[.int .i64 x.id, .int .i64 x.tags, .slice a n cap], .int .i64 mask] w fun e w' => e = .returned (.bool (mtB mask x)) ∧ Below w.heap.size w w' := by
  unfold mtB
  go_enter Try.func32, Try.ntmps32
  go_wp2_with fail
  go_ret
  exact ⟨rfl, (by repeat' first | with_reducible exact Below.refl _ _ | with_reducible assumption | with_reducible refine below_drewN ?_ _ | with_reducible refine balloc ?_ _ | with_reducible refine Below.drew ?_ | with_reducible refine Below.setCell ?_ (by first | (simp; done) | (simp; omega) | omega) _ | with_reducible refine bstep ?_ (by assumption))⟩
end Go.Proofs.Ytmbncafbbpcmbaa
