/- EntriesOk of the model. -/
import Derived.Test.YthiklcldbjmgfaaZ23
import Derived.Test.YthiklcldbjmgfaaZ22
import Derived.Test.YthiklcldbjmgfaaZ12
namespace Go.Proofs.Ythiklcldbjmgfaa
open Go.RowKit
set_option maxRecDepth 8000
set_option linter.unusedSimpArgs false
set_option linter.unusedVariables false

def okE (n : Nat) (f g : Nat → Int) (n' : Nat) (f' g' : Nat → Int) (E : EL) (k : Nat) : Bool := entryB n f g n' f' g' (E k) && (decide (k = 0) || !decide ((E k).it.id ≤ (E (k - 1)).it.id))
/-- What the model's EntriesOk tells. -/
def entsS (n : Nat) (f g : Nat → Int) (n' : Nat) (f' g' : Nat → Int) (m : Nat) (E : EL) : Bool := alikeB n f g n' f' g' && (decide (m ≤ 60) && allN m (okE n f g n' f' g' E))

theorem entsS_eq (n : Nat) (f g : Nat → Int) (n' : Nat) (f' g' : Nat → Int) (m : Nat) (E : EL) : entsS n f g n' f' g' m E = entsP n f g n' f' g' m E := by
  unfold entsS entsP
  cases ha : alikeB n f g n' f' g'
  · rfl
  · have n18 : 1 ≤ n ∧ n ≤ 8 := by
      have h := ha
      unfold alikeB at h
      simp only [Bool.and_eq_true] at h
      exact boxB_num h.1.1
    unfold itemsB
    rw [show inB (n : Int) 1 8 = true from decide_eq_true (by omega), Bool.true_and, Bool.true_and, Bool.true_and, Bool.and_assoc, allN_and]
    congr 1
    refine allN_same fun i hi => ?_
    unfold okE okI entryB entB
    rw [ha, Bool.true_and]
    cases q : itemB (n : Int) (E i).it
    · simp
    · rw [inRow_same ha q, Bool.true_and, Bool.true_and, Bool.and_comm]

/-- What a look at one entry reads: its cells, and the id of the one ahead. -/
structure EV (w0 w : World) (b o o1 : Nat) (x : En) (y : Int) (va : Option Addr) (vn vc : Nat) (r : RowV) : Prop where
  one : EnC w b o x va vn vc r
  d0 : w.cell? ⟨b, o1, none⟩ = some (.int .i64 y)
  bel : Below w0.heap.size w0 w

theorem EV.below {w0 w w' : World} {b o o1 : Nat} {x : En} {y : Int} {va : Option Addr} {vn vc : Nat} {r : RowV} (h : EV w0 w b o o1 x y va vn vc r) (hb : Below w.heap.size w w') : EV w0 w' b o o1 x y va vn vc r :=
  ⟨h.one.below hb, (hb.cell (p := ⟨b, o1, none⟩) h.one.lt).trans h.d0, bstep h.bel hb⟩

theorem okE_no1 {n : Nat} {f g : Nat → Int} {n' : Nat} {f' g' : Nat → Int} {E : EL} {k : Nat} (h : entryB n f g n' f' g' (E k) = false) : okE n f g n' f' g' E k = false := by unfold okE; rw [h]; rfl

theorem okE_0 {n : Nat} {f g : Nat → Int} {n' : Nat} {f' g' : Nat → Int} {E : EL} (h : entryB n f g n' f' g' (E 0) = true) : okE n f g n' f' g' E 0 = true := by unfold okE; rw [h]; rfl

theorem okE_s {n : Nat} {f g : Nat → Int} {n' : Nat} {f' g' : Nat → Int} {E : EL} {p : Nat} {d : Bool} (h : entryB n f g n' f' g' (E (p + 1)) = true) (hd : decide ((E (p + 1)).it.id ≤ (E p).it.id) = d) : okE n f g n' f' g' E (p + 1) = !d := by
  unfold okE
  rw [h, decide_eq_false (by omega), Nat.add_sub_cancel, hd]
  rfl

set_option maxRecDepth 4000 in
set_option maxHeartbeats 8000000 in
theorem sEntriesOk_some (a a' : Option Addr) (n cap n' cap' : Nat) (f g f' g' : Nat → Int) (b off m lc : Nat) (E : EL) (w : World) (h : PRow w a n f g) (h' : PRow w a' n' f' g') (hn : n ≤ 1048576) (hn' : n' ≤ 1048576) (hb : b < w.heap.size) (hc : ∀ i, i < m → EAt w b (off + i * 7) (E i)) (hm : m ≤ 1048576) (hv : ∀ i, i < m → (E i).it.vec.length ≤ 1048576) :
    Calls Try.prog 6 #[.slice a n cap, .slice a' n' cap', .slice (some ⟨b, off, none⟩) m lc] w fun e w' => e = .returned (.bool (entsS n f g n' f' g' m E)) ∧ Below w.heap.size w w' := by
  have BK := hide (fun w1 (hb : Below w.heap.size w w1) => l9Books_any a a' n cap n' cap' f g f' g' w1 (h.below hb) (h'.below hb) hn hn')
  have LE := hide (fun x va vn vc r w1 (hb : Below w.heap.size w w1) hx hr hvn => l9Entry_any a a' n cap n' cap' f g f' g' x va vn vc r w1 (h.below hb) (h'.below hb) hx hr hn hn' hvn)
  have HC := hide hc
  have HV := hide hv
  have HS := hide (show entsS n f g n' f' g' m E = (alikeB n f g n' f' g' && (decide (m ≤ 60) && allN m (okE n f g n' f' g' E))) from rfl)
  clear hc hv h h'
  cases hA : alikeB n f g n' f' g'
  · rw [hA] at BK HS
    rw [HS.out, Bool.false_and]
    clear hA HS
    go_enter Try.func6, Try.ntmps6
    go_wp2_with fail
    refine (BK.out _ (Below.refl _ _)).mono ?_
    rintro e w1 ⟨rfl, hb1⟩
    go_wp2_with fail
    go_ret
    exact ⟨rfl, hb1⟩
  · rw [hA, Bool.true_and] at HS
    rw [hA] at BK
    clear hA
    by_cases h60 : m ≤ 60
    · rw [decide_eq_true h60, Bool.true_and] at HS
      have h61 : (m : Int) ≤ 60 := by omega
      have h62 : ¬ 60 < m := by omega
      have h63 : ¬ (60 : Int) < (m : Int) := by omega
      rw [HS.out]
      clear HS
      go_enter Try.func6, Try.ntmps6
      go_wp2_with fail
      refine (BK.out _ (Below.refl _ _)).mono ?_
      rintro e w0 ⟨rfl, hb0⟩
      have B0 := hide hb0
      clear hb0 BK
      go_wp2_with fail
      go_loopw [7] (fun i wr => ∃ k : Nat, k ≤ m ∧ i = .int .i64 k ∧ (∀ j, j < k → okE n f g n' f' g' E j = true) ∧ Below w.heap.size w wr) (fun i _ => m - (intOf i).toNat)
      case atStart => exact ⟨0, Nat.zero_le _, rfl, fun j h => absurd h (by omega), B0.out⟩
      case round =>
        clear B0
        obtain ⟨k, hk, rfl, hpre, hbel⟩ := hrel
        have HP := hide hpre
        have HB := hide hbel
        by_cases hlt : k < m
        · have hl1 : b < wr.heap.size := Nat.lt_of_lt_of_le hb hbel.size
          obtain ⟨va, vn, vc, r, t1⟩ := ((HC.out k hlt).below hb hbel).enc hl1
          have le : vn ≤ 1048576 := by rw [← t1.rv.len]; exact HV.out k hlt
          have R := hide (fun w1 {y : Int} {o1 : Nat} (t : EV w w1 b (off + k * 7) o1 (E k) y va vn vc r) => LE.out (E k) va vn vc r w1 t.bel t.one.rv t.one.rr le)
          have hlt' : (k : Int) < (m : Int) := by omega
          cases hit : entryB n f g n' f' g' (E k)
          · have HN := hide (allN_no hlt (okE_no1 hit))
            have T : Hid (EV w wr.drew b (off + k * 7) (off + k * 7) (E k) (E k).it.id va vn vc r) := hide (EV.below ⟨t1, t1.c0, hbel⟩ (Below.drew (Below.refl _ _)))
            simp only [hit] at R
            clear hbel hpre t1 hit
            go_upto_region 6 with fail
            refine wp_region_held_drew (S := fun wx => EV w wx b (off + k * 7) (off + k * 7) (E k) (E k).it.id va vn vc r) (by kernel_rfl) (T.out) (fun hH0 => ?_)
            refine wpAnyH_take (i := 0) (oi := { dst := some 23, op := _, type := _, pos := _, after := _, guard := _ }) (v := ?_) rfl (by kernel_rfl) (by kernel_rfl) (by kernel_rfl) (fun _ _ _ h => h) (Or.inl ⟨by rfl, ?_⟩) (hH0) ?_
            rotate_left
            · (intro wx hSw; obtain ⟨⟨l0, q0, q1, q2, q3, q4, q5, q6, _, _⟩, p0, _⟩ := hSw; go_simp <;> with_reducible rfl)
            simp only [Act.put, List.setIfInBounds_toArray, List.set_cons_zero, List.set_cons_succ]
            refine wpAnyH_take (i := 1) (oi := { dst := some 24, op := _, type := _, pos := _, after := _, guard := _ }) (v := ?_) rfl (by kernel_rfl) (by kernel_rfl) (by kernel_rfl) (fun _ _ _ h => h) (Or.inl ⟨by rfl, ?_⟩) (hH0) ?_
            rotate_left
            · (intro wx hSw; obtain ⟨⟨l0, q0, q1, q2, q3, q4, q5, q6, _, _⟩, p0, _⟩ := hSw; go_simp <;> with_reducible rfl)
            simp only [Act.put, List.setIfInBounds_toArray, List.set_cons_zero, List.set_cons_succ]
            refine wpAnyH_take (i := 2) (oi := { dst := some 25, op := _, type := _, pos := _, after := _, guard := _ }) (v := ?_) rfl (by kernel_rfl) (by kernel_rfl) (by kernel_rfl) (fun _ _ _ h => h) (Or.inl ⟨by rfl, ?_⟩) (hH0) ?_
            rotate_left
            · (intro wx hSw; obtain ⟨⟨l0, q0, q1, q2, q3, q4, q5, q6, _, _⟩, p0, _⟩ := hSw; go_simp <;> with_reducible rfl)
            simp only [Act.put, List.setIfInBounds_toArray, List.set_cons_zero, List.set_cons_succ]
            refine wpAnyH_take (i := 3) (oi := { dst := some 26, op := _, type := _, pos := _, after := _, guard := _ }) (v := ?_) rfl (by kernel_rfl) (by kernel_rfl) (by kernel_rfl) (fun _ _ _ h => h) (Or.inl ⟨by rfl, ?_⟩) (hH0) ?_
            rotate_left
            · (intro wx hSw; obtain ⟨⟨l0, q0, q1, q2, q3, q4, q5, q6, _, _⟩, p0, _⟩ := hSw; go_simp <;> with_reducible rfl)
            simp only [Act.put, List.setIfInBounds_toArray, List.set_cons_zero, List.set_cons_succ]
            refine wpAnyH_take (i := 4) (oi := { dst := some 27, op := _, type := _, pos := _, after := _, guard := _ }) (v := ?_) rfl (by kernel_rfl) (by kernel_rfl) (by kernel_rfl) (fun _ _ _ h => h) (Or.inl ⟨by rfl, ?_⟩) (hH0) ?_
            rotate_left
            · (intro wx hSw; obtain ⟨⟨l0, q0, q1, q2, q3, q4, q5, q6, _, _⟩, p0, _⟩ := hSw; go_simp <;> with_reducible rfl)
            simp only [Act.put, List.setIfInBounds_toArray, List.set_cons_zero, List.set_cons_succ]
            refine wpAnyH_take (i := 5) (oi := { dst := some 28, op := _, type := _, pos := _, after := _, guard := _ }) (v := ?_) rfl (by kernel_rfl) (by kernel_rfl) (by kernel_rfl) (fun _ _ _ h => h) (Or.inl ⟨by rfl, ?_⟩) (hH0) ?_
            rotate_left
            · (intro wx hSw; obtain ⟨⟨l0, q0, q1, q2, q3, q4, q5, q6, _, _⟩, p0, _⟩ := hSw; go_simp <;> with_reducible rfl)
            simp only [Act.put, List.setIfInBounds_toArray, List.set_cons_zero, List.set_cons_succ]
            refine wpAnyH_ready (rs := [6]) (by kernel_rfl) (by simp) ?_
            refine AllReadyH.cons (o := { dst := some 29, op := _, type := _, pos := _, after := _, guard := _ }) rfl (fun K hK => ?_) AllReadyH.nil
            go_simp
            refine (R.out _ hH0).mono ?_
            rintro e w_c29_1 ⟨rfl, hb_c29_1⟩
            dsimp only
            refine hK.out _ _ (EV.below hH0 hb_c29_1) (fun hH1 => ?_)
            clear hK K
            refine wpAnyH_take (i := 7) (oi := { dst := some 30, op := _, type := _, pos := _, after := _, guard := _ }) (v := ?_) rfl (by kernel_rfl) (by kernel_rfl) (by kernel_rfl) (fun _ _ _ h => h) (Or.inl ⟨by rfl, ?_⟩) (hH1) ?_
            rotate_left
            · (intro wx hSw; obtain ⟨⟨l0, q0, q1, q2, q3, q4, q5, q6, _, _⟩, p0, _⟩ := hSw; go_simp <;> with_reducible rfl)
            simp only [Act.put, List.setIfInBounds_toArray, List.set_cons_zero, List.set_cons_succ]
            refine wpAnyH_take (i := 8) (oi := { dst := some 31, op := _, type := _, pos := _, after := _, guard := _ }) (v := ?_) rfl (by kernel_rfl) (by kernel_rfl) (by kernel_rfl) (fun _ _ _ h => h) (Or.inl ⟨by rfl, ?_⟩) (hH1) ?_
            rotate_left
            · (intro wx hSw; obtain ⟨⟨l0, q0, q1, q2, q3, q4, q5, q6, _, _⟩, p0, _⟩ := hSw; go_simp <;> with_reducible rfl)
            simp only [Act.put, List.setIfInBounds_toArray, List.set_cons_zero, List.set_cons_succ]
            refine wpAnyH_take (i := 9) (oi := { dst := some 32, op := _, type := _, pos := _, after := _, guard := _ }) (v := _) rfl (by kernel_rfl) (by kernel_rfl) (by kernel_rfl) (fun _ _ _ h => h) (Or.inr ⟨by rfl, rfl⟩) (hH1) ?_
            simp only [Act.put, List.setIfInBounds_toArray, List.set_cons_zero, List.set_cons_succ]
            refine wpAnyH_take (i := 10) (oi := { dst := some 33, op := _, type := _, pos := _, after := _, guard := _ }) (v := _) rfl (by kernel_rfl) (by kernel_rfl) (by kernel_rfl) (fun _ _ _ h => h) (Or.inr ⟨by rfl, rfl⟩) (hH1) ?_
            simp only [Act.put, List.setIfInBounds_toArray, List.set_cons_zero, List.set_cons_succ]
            refine wpAnyH_take (i := 11) (oi := { dst := some 34, op := _, type := _, pos := _, after := _, guard := _ }) (v := _) rfl (by kernel_rfl) (by kernel_rfl) (by kernel_rfl) (fun _ _ _ h => h) (Or.inr ⟨by rfl, rfl⟩) (hH1) ?_
            simp only [Act.put, List.setIfInBounds_toArray, List.set_cons_zero, List.set_cons_succ]
            refine wpAnyH_take (i := 12) (oi := { dst := some 35, op := _, type := _, pos := _, after := _, guard := _ }) (v := _) rfl (by kernel_rfl) (by kernel_rfl) (by kernel_rfl) (fun _ _ _ h => h) (Or.inr ⟨by rfl, rfl⟩) (hH1) ?_
            simp only [Act.put, List.setIfInBounds_toArray, List.set_cons_zero, List.set_cons_succ]
            refine wpAnyH_take (i := 13) (oi := { dst := some 36, op := _, type := _, pos := _, after := _, guard := _ }) (v := _) rfl (by kernel_rfl) (by kernel_rfl) (by kernel_rfl) (fun _ _ _ h => h) (Or.inr ⟨by rfl, rfl⟩) (hH1) ?_
            simp only [Act.put, List.setIfInBounds_toArray, List.set_cons_zero, List.set_cons_succ]
            refine wpAnyH_take (i := 14) (oi := { dst := some 37, op := _, type := _, pos := _, after := _, guard := _ }) (v := _) rfl (by kernel_rfl) (by kernel_rfl) (by kernel_rfl) (fun _ _ _ h => h) (Or.inr ⟨by rfl, rfl⟩) (hH1) ?_
            simp only [Act.put, List.setIfInBounds_toArray, List.set_cons_zero, List.set_cons_succ]
            refine wpAnyH_take (i := 15) (oi := { dst := some 38, op := _, type := _, pos := _, after := _, guard := _ }) (v := _) rfl (by kernel_rfl) (by kernel_rfl) (by kernel_rfl) (fun _ _ _ h => h) (Or.inr ⟨by rfl, rfl⟩) (hH1) ?_
            simp only [Act.put, List.setIfInBounds_toArray, List.set_cons_zero, List.set_cons_succ]
            refine wpAnyH_take (i := 16) (oi := { dst := some 39, op := _, type := _, pos := _, after := _, guard := _ }) (v := _) rfl (by kernel_rfl) (by kernel_rfl) (by kernel_rfl) (fun _ _ _ h => h) (Or.inr ⟨by rfl, rfl⟩) (hH1) ?_
            simp only [Act.put, List.setIfInBounds_toArray, List.set_cons_zero, List.set_cons_succ]
            refine wpAnyH_take (i := 17) (oi := { dst := some 40, op := _, type := _, pos := _, after := _, guard := _ }) (v := _) rfl (by kernel_rfl) (by kernel_rfl) (by kernel_rfl) (fun _ _ _ h => h) (Or.inr ⟨by rfl, rfl⟩) (hH1) ?_
            simp only [Act.put, List.setIfInBounds_toArray, List.set_cons_zero, List.set_cons_succ]
            refine wpAnyH_take (i := 18) (oi := { dst := some 41, op := _, type := _, pos := _, after := _, guard := _ }) (v := _) rfl (by kernel_rfl) (by kernel_rfl) (by kernel_rfl) (fun _ _ _ h => h) (Or.inr ⟨by rfl, rfl⟩) (hH1) ?_
            simp only [Act.put, List.setIfInBounds_toArray, List.set_cons_zero, List.set_cons_succ]
            refine wpAnyH_take (i := 19) (oi := { dst := some 42, op := _, type := _, pos := _, after := _, guard := _ }) (v := _) rfl (by kernel_rfl) (by kernel_rfl) (by kernel_rfl) (fun _ _ _ h => h) (Or.inr ⟨by rfl, rfl⟩) (hH1) ?_
            simp only [Act.put, List.setIfInBounds_toArray, List.set_cons_zero, List.set_cons_succ]
            refine wpAnyH_take (i := 20) (oi := { dst := some 43, op := _, type := _, pos := _, after := _, guard := _ }) (v := _) rfl (by kernel_rfl) (by kernel_rfl) (by kernel_rfl) (fun _ _ _ h => h) (Or.inr ⟨by rfl, rfl⟩) (hH1) ?_
            simp only [Act.put, List.setIfInBounds_toArray, List.set_cons_zero, List.set_cons_succ]
            refine wpAnyH_take (i := 21) (oi := { dst := some 44, op := _, type := _, pos := _, after := _, guard := _ }) (v := _) rfl (by kernel_rfl) (by kernel_rfl) (by kernel_rfl) (fun _ _ _ h => h) (Or.inr ⟨by rfl, rfl⟩) (hH1) ?_
            simp only [Act.put, List.setIfInBounds_toArray, List.set_cons_zero, List.set_cons_succ]
            refine wpAnyH_take (i := 22) (oi := { dst := some 45, op := _, type := _, pos := _, after := _, guard := _ }) (v := _) rfl (by kernel_rfl) (by kernel_rfl) (by kernel_rfl) (fun _ _ _ h => h) (Or.inr ⟨by rfl, rfl⟩) (hH1) ?_
            simp only [Act.put, List.setIfInBounds_toArray, List.set_cons_zero, List.set_cons_succ]
            refine wpAnyH_take (i := 23) (oi := { dst := some 46, op := _, type := _, pos := _, after := _, guard := _ }) (v := _) rfl (by kernel_rfl) (by kernel_rfl) (by kernel_rfl) (fun _ _ _ h => h) (Or.inr ⟨by rfl, rfl⟩) (hH1) ?_
            simp only [Act.put, List.setIfInBounds_toArray, List.set_cons_zero, List.set_cons_succ]
            refine wpAnyH_take (i := 24) (oi := { dst := some 47, op := _, type := _, pos := _, after := _, guard := _ }) (v := _) rfl (by kernel_rfl) (by kernel_rfl) (by kernel_rfl) (fun _ _ _ h => h) (Or.inr ⟨by rfl, rfl⟩) (hH1) ?_
            simp only [Act.put, List.setIfInBounds_toArray, List.set_cons_zero, List.set_cons_succ]
            refine wpAnyH_take (i := 25) (oi := { dst := some 48, op := _, type := _, pos := _, after := _, guard := _ }) (v := _) rfl (by kernel_rfl) (by kernel_rfl) (by kernel_rfl) (fun _ _ _ h => h) (Or.inr ⟨by rfl, rfl⟩) (hH1) ?_
            simp only [Act.put, List.setIfInBounds_toArray, List.set_cons_zero, List.set_cons_succ]
            refine wpAnyH_take (i := 26) (oi := { dst := some 49, op := _, type := _, pos := _, after := _, guard := _ }) (v := _) rfl (by kernel_rfl) (by kernel_rfl) (by kernel_rfl) (fun _ _ _ h => h) (Or.inr ⟨by rfl, rfl⟩) (hH1) ?_
            simp only [Act.put, List.setIfInBounds_toArray, List.set_cons_zero, List.set_cons_succ]
            refine wpAnyH_take (i := 27) (oi := { dst := some 50, op := _, type := _, pos := _, after := _, guard := _ }) (v := ?_) rfl (by kernel_rfl) (by kernel_rfl) (by kernel_rfl) (fun _ _ _ h => h) (Or.inl ⟨by rfl, ?_⟩) (hH1) ?_
            rotate_left
            · (intro wx hSw; obtain ⟨⟨l0, q0, q1, q2, q3, q4, q5, q6, _, _⟩, p0, _⟩ := hSw; go_simp <;> with_reducible rfl)
            simp only [Act.put, List.setIfInBounds_toArray, List.set_cons_zero, List.set_cons_succ]
            refine wpAnyH_done (by kernel_rfl) ?_ _
            -- behind it: go_wp2_with fail, then go_meet (a cut) or go_ret; the condition at the end: hH1
            go_wp2_with fail
            go_ret
            have hbel := HB.out
            exact ⟨by first | (rw [HN.out]; done) | (rw [HN.out]; rfl), (by repeat' first | with_reducible exact Below.refl _ _ | with_reducible assumption | with_reducible refine below_drewN ?_ _ | with_reducible refine balloc ?_ _ | with_reducible refine Below.drew ?_ | with_reducible refine Below.setCell ?_ (by first | (simp; done) | (simp; omega) | omega) _ | with_reducible refine bstep ?_ (by assumption))⟩
          · simp only [hit] at R
            by_cases hk0 : k = 0
            · have HK := hide (show okE n f g n' f' g' E k = true by rw [hk0] at hit ⊢; exact okE_0 hit)
              have T : Hid (EV w wr.drew b (off + k * 7) (off + k * 7) (E k) (E k).it.id va vn vc r) := hide (EV.below ⟨t1, t1.c0, hbel⟩ (Below.drew (Below.refl _ _)))
              have hz : decide (0 < k) = false := decide_eq_false (by omega)
              have HK0 := hide hk0
              clear hbel hpre t1 hit hk0
              go_upto_region 6 with fail
              refine wp_region_held_drew (S := fun wx => EV w wx b (off + k * 7) (off + k * 7) (E k) (E k).it.id va vn vc r) (by kernel_rfl) (T.out) (fun hH0 => ?_)
              refine wpAnyH_take (i := 0) (oi := { dst := some 23, op := _, type := _, pos := _, after := _, guard := _ }) (v := ?_) rfl (by kernel_rfl) (by kernel_rfl) (by kernel_rfl) (fun _ _ _ h => h) (Or.inl ⟨by rfl, ?_⟩) (hH0) ?_
              rotate_left
              · (intro wx hSw; obtain ⟨⟨l0, q0, q1, q2, q3, q4, q5, q6, _, _⟩, p0, _⟩ := hSw; go_simp <;> with_reducible rfl)
              simp only [Act.put, List.setIfInBounds_toArray, List.set_cons_zero, List.set_cons_succ]
              refine wpAnyH_take (i := 1) (oi := { dst := some 24, op := _, type := _, pos := _, after := _, guard := _ }) (v := ?_) rfl (by kernel_rfl) (by kernel_rfl) (by kernel_rfl) (fun _ _ _ h => h) (Or.inl ⟨by rfl, ?_⟩) (hH0) ?_
              rotate_left
              · (intro wx hSw; obtain ⟨⟨l0, q0, q1, q2, q3, q4, q5, q6, _, _⟩, p0, _⟩ := hSw; go_simp <;> with_reducible rfl)
              simp only [Act.put, List.setIfInBounds_toArray, List.set_cons_zero, List.set_cons_succ]
              refine wpAnyH_take (i := 2) (oi := { dst := some 25, op := _, type := _, pos := _, after := _, guard := _ }) (v := ?_) rfl (by kernel_rfl) (by kernel_rfl) (by kernel_rfl) (fun _ _ _ h => h) (Or.inl ⟨by rfl, ?_⟩) (hH0) ?_
              rotate_left
              · (intro wx hSw; obtain ⟨⟨l0, q0, q1, q2, q3, q4, q5, q6, _, _⟩, p0, _⟩ := hSw; go_simp <;> with_reducible rfl)
              simp only [Act.put, List.setIfInBounds_toArray, List.set_cons_zero, List.set_cons_succ]
              refine wpAnyH_take (i := 3) (oi := { dst := some 26, op := _, type := _, pos := _, after := _, guard := _ }) (v := ?_) rfl (by kernel_rfl) (by kernel_rfl) (by kernel_rfl) (fun _ _ _ h => h) (Or.inl ⟨by rfl, ?_⟩) (hH0) ?_
              rotate_left
              · (intro wx hSw; obtain ⟨⟨l0, q0, q1, q2, q3, q4, q5, q6, _, _⟩, p0, _⟩ := hSw; go_simp <;> with_reducible rfl)
              simp only [Act.put, List.setIfInBounds_toArray, List.set_cons_zero, List.set_cons_succ]
              refine wpAnyH_take (i := 4) (oi := { dst := some 27, op := _, type := _, pos := _, after := _, guard := _ }) (v := ?_) rfl (by kernel_rfl) (by kernel_rfl) (by kernel_rfl) (fun _ _ _ h => h) (Or.inl ⟨by rfl, ?_⟩) (hH0) ?_
              rotate_left
              · (intro wx hSw; obtain ⟨⟨l0, q0, q1, q2, q3, q4, q5, q6, _, _⟩, p0, _⟩ := hSw; go_simp <;> with_reducible rfl)
              simp only [Act.put, List.setIfInBounds_toArray, List.set_cons_zero, List.set_cons_succ]
              refine wpAnyH_take (i := 5) (oi := { dst := some 28, op := _, type := _, pos := _, after := _, guard := _ }) (v := ?_) rfl (by kernel_rfl) (by kernel_rfl) (by kernel_rfl) (fun _ _ _ h => h) (Or.inl ⟨by rfl, ?_⟩) (hH0) ?_
              rotate_left
              · (intro wx hSw; obtain ⟨⟨l0, q0, q1, q2, q3, q4, q5, q6, _, _⟩, p0, _⟩ := hSw; go_simp <;> with_reducible rfl)
              simp only [Act.put, List.setIfInBounds_toArray, List.set_cons_zero, List.set_cons_succ]
              refine wpAnyH_ready (rs := [6]) (by kernel_rfl) (by simp) ?_
              refine AllReadyH.cons (o := { dst := some 29, op := _, type := _, pos := _, after := _, guard := _ }) rfl (fun K hK => ?_) AllReadyH.nil
              go_simp
              refine (R.out _ hH0).mono ?_
              rintro e w_c29_1 ⟨rfl, hb_c29_1⟩
              dsimp only
              refine hK.out _ _ (EV.below hH0 hb_c29_1) (fun hH1 => ?_)
              clear hK K
              refine wpAnyH_take (i := 7) (oi := { dst := some 30, op := _, type := _, pos := _, after := _, guard := _ }) (v := ?_) rfl (by kernel_rfl) (by kernel_rfl) (by kernel_rfl) (fun _ _ _ h => h) (Or.inl ⟨by rfl, ?_⟩) (hH1) ?_
              rotate_left
              · (intro wx hSw; obtain ⟨⟨l0, q0, q1, q2, q3, q4, q5, q6, _, _⟩, p0, _⟩ := hSw; go_simp <;> with_reducible rfl)
              simp only [Act.put, List.setIfInBounds_toArray, List.set_cons_zero, List.set_cons_succ]
              refine wpAnyH_take (i := 8) (oi := { dst := some 31, op := _, type := _, pos := _, after := _, guard := _ }) (v := ?_) rfl (by kernel_rfl) (by kernel_rfl) (by kernel_rfl) (fun _ _ _ h => h) (Or.inl ⟨by rfl, ?_⟩) (hH1) ?_
              rotate_left
              · (intro wx hSw; obtain ⟨⟨l0, q0, q1, q2, q3, q4, q5, q6, _, _⟩, p0, _⟩ := hSw; go_simp <;> with_reducible rfl)
              simp only [Act.put, List.setIfInBounds_toArray, List.set_cons_zero, List.set_cons_succ]
              refine wpAnyH_take (i := 9) (oi := { dst := some 32, op := _, type := _, pos := _, after := _, guard := _ }) (v := ?_) rfl (by kernel_rfl) (by kernel_rfl) (by kernel_rfl) (fun _ _ _ h => h) (Or.inl ⟨by rfl, ?_⟩) (hH1) ?_
              rotate_left
              · (intro wx hSw; obtain ⟨⟨l0, q0, q1, q2, q3, q4, q5, q6, _, _⟩, p0, _⟩ := hSw; go_simp <;> with_reducible rfl)
              simp only [Act.put, List.setIfInBounds_toArray, List.set_cons_zero, List.set_cons_succ]
              refine wpAnyH_take (i := 10) (oi := { dst := some 33, op := _, type := _, pos := _, after := _, guard := _ }) (v := ?_) rfl (by kernel_rfl) (by kernel_rfl) (by kernel_rfl) (fun _ _ _ h => h) (Or.inl ⟨by rfl, ?_⟩) (hH1) ?_
              rotate_left
              · (intro wx hSw; obtain ⟨⟨l0, q0, q1, q2, q3, q4, q5, q6, _, _⟩, p0, _⟩ := hSw; go_simp <;> with_reducible rfl)
              simp only [Act.put, List.setIfInBounds_toArray, List.set_cons_zero, List.set_cons_succ]
              refine wpAnyH_take (i := 11) (oi := { dst := some 34, op := _, type := _, pos := _, after := _, guard := _ }) (v := ?_) rfl (by kernel_rfl) (by kernel_rfl) (by kernel_rfl) (fun _ _ _ h => h) (Or.inl ⟨by rfl, ?_⟩) (hH1) ?_
              rotate_left
              · (intro wx hSw; obtain ⟨⟨l0, q0, q1, q2, q3, q4, q5, q6, _, _⟩, p0, _⟩ := hSw; go_simp <;> with_reducible rfl)
              simp only [Act.put, List.setIfInBounds_toArray, List.set_cons_zero, List.set_cons_succ]
              refine wpAnyH_take (i := 12) (oi := { dst := some 35, op := _, type := _, pos := _, after := _, guard := _ }) (v := _) rfl (by kernel_rfl) (by kernel_rfl) (by kernel_rfl) (fun _ _ _ h => h) (Or.inr ⟨by rfl, rfl⟩) (hH1) ?_
              simp only [Act.put, List.setIfInBounds_toArray, List.set_cons_zero, List.set_cons_succ]
              refine wpAnyH_take (i := 13) (oi := { dst := some 36, op := _, type := _, pos := _, after := _, guard := _ }) (v := _) rfl (by kernel_rfl) (by kernel_rfl) (by kernel_rfl) (fun _ _ _ h => h) (Or.inr ⟨by rfl, rfl⟩) (hH1) ?_
              simp only [Act.put, List.setIfInBounds_toArray, List.set_cons_zero, List.set_cons_succ]
              refine wpAnyH_take (i := 14) (oi := { dst := some 37, op := _, type := _, pos := _, after := _, guard := _ }) (v := _) rfl (by kernel_rfl) (by kernel_rfl) (by kernel_rfl) (fun _ _ _ h => h) (Or.inr ⟨by rfl, rfl⟩) (hH1) ?_
              simp only [Act.put, List.setIfInBounds_toArray, List.set_cons_zero, List.set_cons_succ]
              refine wpAnyH_take (i := 15) (oi := { dst := some 38, op := _, type := _, pos := _, after := _, guard := _ }) (v := _) rfl (by kernel_rfl) (by kernel_rfl) (by kernel_rfl) (fun _ _ _ h => h) (Or.inr ⟨by rfl, rfl⟩) (hH1) ?_
              simp only [Act.put, List.setIfInBounds_toArray, List.set_cons_zero, List.set_cons_succ]
              refine wpAnyH_take (i := 16) (oi := { dst := some 39, op := _, type := _, pos := _, after := _, guard := _ }) (v := _) rfl (by kernel_rfl) (by kernel_rfl) (by kernel_rfl) (fun _ _ _ h => h) (Or.inr ⟨by rfl, rfl⟩) (hH1) ?_
              simp only [Act.put, List.setIfInBounds_toArray, List.set_cons_zero, List.set_cons_succ]
              refine wpAnyH_take (i := 17) (oi := { dst := some 40, op := _, type := _, pos := _, after := _, guard := _ }) (v := _) rfl (by kernel_rfl) (by kernel_rfl) (by kernel_rfl) (fun _ _ _ h => h) (Or.inr ⟨by rfl, rfl⟩) (hH1) ?_
              simp only [Act.put, List.setIfInBounds_toArray, List.set_cons_zero, List.set_cons_succ]
              refine wpAnyH_take (i := 18) (oi := { dst := some 41, op := _, type := _, pos := _, after := _, guard := _ }) (v := _) rfl (by kernel_rfl) (by kernel_rfl) (by kernel_rfl) (fun _ _ _ h => h) (Or.inr ⟨by rfl, rfl⟩) (hH1) ?_
              simp only [Act.put, List.setIfInBounds_toArray, List.set_cons_zero, List.set_cons_succ]
              refine wpAnyH_take (i := 19) (oi := { dst := some 42, op := _, type := _, pos := _, after := _, guard := _ }) (v := _) rfl (by kernel_rfl) (by kernel_rfl) (by kernel_rfl) (fun _ _ _ h => h) (Or.inr ⟨by rfl, rfl⟩) (hH1) ?_
              simp only [Act.put, List.setIfInBounds_toArray, List.set_cons_zero, List.set_cons_succ]
              refine wpAnyH_take (i := 20) (oi := { dst := some 43, op := _, type := _, pos := _, after := _, guard := _ }) (v := _) rfl (by kernel_rfl) (by kernel_rfl) (by kernel_rfl) (fun _ _ _ h => h) (Or.inr ⟨by rfl, rfl⟩) (hH1) ?_
              simp only [Act.put, List.setIfInBounds_toArray, List.set_cons_zero, List.set_cons_succ]
              refine wpAnyH_take (i := 21) (oi := { dst := some 44, op := _, type := _, pos := _, after := _, guard := _ }) (v := _) rfl (by kernel_rfl) (by kernel_rfl) (by kernel_rfl) (fun _ _ _ h => h) (Or.inr ⟨by rfl, rfl⟩) (hH1) ?_
              simp only [Act.put, List.setIfInBounds_toArray, List.set_cons_zero, List.set_cons_succ]
              refine wpAnyH_take (i := 22) (oi := { dst := some 45, op := _, type := _, pos := _, after := _, guard := _ }) (v := _) rfl (by kernel_rfl) (by kernel_rfl) (by kernel_rfl) (fun _ _ _ h => h) (Or.inr ⟨by rfl, rfl⟩) (hH1) ?_
              simp only [Act.put, List.setIfInBounds_toArray, List.set_cons_zero, List.set_cons_succ]
              refine wpAnyH_take (i := 23) (oi := { dst := some 46, op := _, type := _, pos := _, after := _, guard := _ }) (v := _) rfl (by kernel_rfl) (by kernel_rfl) (by kernel_rfl) (fun _ _ _ h => h) (Or.inr ⟨by rfl, rfl⟩) (hH1) ?_
              simp only [Act.put, List.setIfInBounds_toArray, List.set_cons_zero, List.set_cons_succ]
              refine wpAnyH_take (i := 24) (oi := { dst := some 47, op := _, type := _, pos := _, after := _, guard := _ }) (v := _) rfl (by kernel_rfl) (by kernel_rfl) (by kernel_rfl) (fun _ _ _ h => h) (Or.inr ⟨by rfl, rfl⟩) (hH1) ?_
              simp only [Act.put, List.setIfInBounds_toArray, List.set_cons_zero, List.set_cons_succ]
              refine wpAnyH_take (i := 25) (oi := { dst := some 48, op := _, type := _, pos := _, after := _, guard := _ }) (v := _) rfl (by kernel_rfl) (by kernel_rfl) (by kernel_rfl) (fun _ _ _ h => h) (Or.inr ⟨by rfl, rfl⟩) (hH1) ?_
              simp only [Act.put, List.setIfInBounds_toArray, List.set_cons_zero, List.set_cons_succ]
              refine wpAnyH_take (i := 26) (oi := { dst := some 49, op := _, type := _, pos := _, after := _, guard := _ }) (v := ?_) rfl (by kernel_rfl) (by kernel_rfl) (by kernel_rfl) (fun _ _ _ h => h) (Or.inl ⟨by rfl, ?_⟩) (hH1) ?_
              rotate_left
              · (intro wx hSw; obtain ⟨⟨l0, q0, q1, q2, q3, q4, q5, q6, _, _⟩, p0, _⟩ := hSw; go_simp <;> with_reducible rfl)
              simp only [Act.put, List.setIfInBounds_toArray, List.set_cons_zero, List.set_cons_succ]
              refine wpAnyH_take (i := 27) (oi := { dst := some 50, op := _, type := _, pos := _, after := _, guard := _ }) (v := ?_) rfl (by kernel_rfl) (by kernel_rfl) (by kernel_rfl) (fun _ _ _ h => h) (Or.inl ⟨by rfl, ?_⟩) (hH1) ?_
              rotate_left
              · (intro wx hSw; obtain ⟨⟨l0, q0, q1, q2, q3, q4, q5, q6, _, _⟩, p0, _⟩ := hSw; go_simp <;> with_reducible rfl)
              simp only [Act.put, List.setIfInBounds_toArray, List.set_cons_zero, List.set_cons_succ]
              refine wpAnyH_done (by kernel_rfl) ?_ _
              -- behind it: go_wp2_with fail, then go_meet (a cut) or go_ret; the condition at the end: hH1
              go_wp2_with fail
              go_roundw
              case rel =>
                have hbel := HB.out
                exact ⟨k + 1, by omega, by go_num, fun j hj => (by rcases Nat.lt_succ_iff_lt_or_eq.1 hj with h | h; exact HP.out j h; rw [h]; exact HK.out), (by repeat' first | with_reducible exact Below.refl _ _ | with_reducible assumption | with_reducible refine below_drewN ?_ _ | with_reducible refine balloc ?_ _ | with_reducible refine Below.drew ?_ | with_reducible refine Below.setCell ?_ (by first | (simp; done) | (simp; omega) | omega) _ | with_reducible refine bstep ?_ (by assumption))⟩
              case measure => simp [intOf]; omega
            · obtain ⟨p, rfl⟩ : ∃ p, k = p + 1 := ⟨k - 1, by omega⟩
              obtain ⟨d, hd⟩ : ∃ d, decide ((E (p + 1)).it.id ≤ (E p).it.id) = d := ⟨_, rfl⟩
              have HK := hide (okE_s hit hd)
              have d0 := ((HC.out p (by omega)).below hb hbel).c0
              have T : Hid (EV w wr.drew b (off + (p + 1) * 7) (off + p * 7) (E (p + 1)) (E p).it.id va vn vc r) := hide (EV.below ⟨t1, d0, hbel⟩ (Below.drew (Below.refl _ _)))
              have hq : IntKind.i64.wrap (((p + 1 : Nat) : Int) - 1) = (p : Int) := by rw [wrapIn _ (by omega) (by omega)]; omega
              have hpi : (p : Int) < (m : Int) := by omega
              have hz : decide (0 < p + 1) = true := decide_eq_true (by omega)
              obtain ⟨k, hkk⟩ : ∃ k, p + 1 = k := ⟨_, rfl⟩
              rw [hkk] at hk HP hlt hlt' R HK T hq hz hd ⊢
              have HKK := hide hkk
              clear hbel hpre t1 hit d0 hk0 hkk
              go_upto_region 6 with fail
              refine wp_region_held_drew (S := fun wx => EV w wx b (off + k * 7) (off + p * 7) (E k) (E p).it.id va vn vc r) (by kernel_rfl) (T.out) (fun hH0 => ?_)
              refine wpAnyH_take (i := 0) (oi := { dst := some 23, op := _, type := _, pos := _, after := _, guard := _ }) (v := ?_) rfl (by kernel_rfl) (by kernel_rfl) (by kernel_rfl) (fun _ _ _ h => h) (Or.inl ⟨by rfl, ?_⟩) (hH0) ?_
              rotate_left
              · (intro wx hSw; obtain ⟨⟨l0, q0, q1, q2, q3, q4, q5, q6, _, _⟩, p0, _⟩ := hSw; go_simp <;> with_reducible rfl)
              simp only [Act.put, List.setIfInBounds_toArray, List.set_cons_zero, List.set_cons_succ]
              refine wpAnyH_take (i := 1) (oi := { dst := some 24, op := _, type := _, pos := _, after := _, guard := _ }) (v := ?_) rfl (by kernel_rfl) (by kernel_rfl) (by kernel_rfl) (fun _ _ _ h => h) (Or.inl ⟨by rfl, ?_⟩) (hH0) ?_
              rotate_left
              · (intro wx hSw; obtain ⟨⟨l0, q0, q1, q2, q3, q4, q5, q6, _, _⟩, p0, _⟩ := hSw; go_simp <;> with_reducible rfl)
              simp only [Act.put, List.setIfInBounds_toArray, List.set_cons_zero, List.set_cons_succ]
              refine wpAnyH_take (i := 2) (oi := { dst := some 25, op := _, type := _, pos := _, after := _, guard := _ }) (v := ?_) rfl (by kernel_rfl) (by kernel_rfl) (by kernel_rfl) (fun _ _ _ h => h) (Or.inl ⟨by rfl, ?_⟩) (hH0) ?_
              rotate_left
              · (intro wx hSw; obtain ⟨⟨l0, q0, q1, q2, q3, q4, q5, q6, _, _⟩, p0, _⟩ := hSw; go_simp <;> with_reducible rfl)
              simp only [Act.put, List.setIfInBounds_toArray, List.set_cons_zero, List.set_cons_succ]
              refine wpAnyH_take (i := 3) (oi := { dst := some 26, op := _, type := _, pos := _, after := _, guard := _ }) (v := ?_) rfl (by kernel_rfl) (by kernel_rfl) (by kernel_rfl) (fun _ _ _ h => h) (Or.inl ⟨by rfl, ?_⟩) (hH0) ?_
              rotate_left
              · (intro wx hSw; obtain ⟨⟨l0, q0, q1, q2, q3, q4, q5, q6, _, _⟩, p0, _⟩ := hSw; go_simp <;> with_reducible rfl)
              simp only [Act.put, List.setIfInBounds_toArray, List.set_cons_zero, List.set_cons_succ]
              refine wpAnyH_take (i := 4) (oi := { dst := some 27, op := _, type := _, pos := _, after := _, guard := _ }) (v := ?_) rfl (by kernel_rfl) (by kernel_rfl) (by kernel_rfl) (fun _ _ _ h => h) (Or.inl ⟨by rfl, ?_⟩) (hH0) ?_
              rotate_left
              · (intro wx hSw; obtain ⟨⟨l0, q0, q1, q2, q3, q4, q5, q6, _, _⟩, p0, _⟩ := hSw; go_simp <;> with_reducible rfl)
              simp only [Act.put, List.setIfInBounds_toArray, List.set_cons_zero, List.set_cons_succ]
              refine wpAnyH_take (i := 5) (oi := { dst := some 28, op := _, type := _, pos := _, after := _, guard := _ }) (v := ?_) rfl (by kernel_rfl) (by kernel_rfl) (by kernel_rfl) (fun _ _ _ h => h) (Or.inl ⟨by rfl, ?_⟩) (hH0) ?_
              rotate_left
              · (intro wx hSw; obtain ⟨⟨l0, q0, q1, q2, q3, q4, q5, q6, _, _⟩, p0, _⟩ := hSw; go_simp <;> with_reducible rfl)
              simp only [Act.put, List.setIfInBounds_toArray, List.set_cons_zero, List.set_cons_succ]
              refine wpAnyH_ready (rs := [6]) (by kernel_rfl) (by simp) ?_
              refine AllReadyH.cons (o := { dst := some 29, op := _, type := _, pos := _, after := _, guard := _ }) rfl (fun K hK => ?_) AllReadyH.nil
              go_simp
              refine (R.out _ hH0).mono ?_
              rintro e w_c29_1 ⟨rfl, hb_c29_1⟩
              dsimp only
              refine hK.out _ _ (EV.below hH0 hb_c29_1) (fun hH1 => ?_)
              clear hK K
              refine wpAnyH_take (i := 7) (oi := { dst := some 30, op := _, type := _, pos := _, after := _, guard := _ }) (v := ?_) rfl (by kernel_rfl) (by kernel_rfl) (by kernel_rfl) (fun _ _ _ h => h) (Or.inl ⟨by rfl, ?_⟩) (hH1) ?_
              rotate_left
              · (intro wx hSw; obtain ⟨⟨l0, q0, q1, q2, q3, q4, q5, q6, _, _⟩, p0, _⟩ := hSw; go_simp <;> with_reducible rfl)
              simp only [Act.put, List.setIfInBounds_toArray, List.set_cons_zero, List.set_cons_succ]
              refine wpAnyH_take (i := 8) (oi := { dst := some 31, op := _, type := _, pos := _, after := _, guard := _ }) (v := ?_) rfl (by kernel_rfl) (by kernel_rfl) (by kernel_rfl) (fun _ _ _ h => h) (Or.inl ⟨by rfl, ?_⟩) (hH1) ?_
              rotate_left
              · (intro wx hSw; obtain ⟨⟨l0, q0, q1, q2, q3, q4, q5, q6, _, _⟩, p0, _⟩ := hSw; go_simp <;> with_reducible rfl)
              simp only [Act.put, List.setIfInBounds_toArray, List.set_cons_zero, List.set_cons_succ]
              refine wpAnyH_take (i := 9) (oi := { dst := some 32, op := _, type := _, pos := _, after := _, guard := _ }) (v := ?_) rfl (by kernel_rfl) (by kernel_rfl) (by kernel_rfl) (fun _ _ _ h => h) (Or.inl ⟨by rfl, ?_⟩) (hH1) ?_
              rotate_left
              · (intro wx hSw; obtain ⟨⟨l0, q0, q1, q2, q3, q4, q5, q6, _, _⟩, p0, _⟩ := hSw; go_simp <;> with_reducible rfl)
              simp only [Act.put, List.setIfInBounds_toArray, List.set_cons_zero, List.set_cons_succ]
              refine wpAnyH_take (i := 10) (oi := { dst := some 33, op := _, type := _, pos := _, after := _, guard := _ }) (v := ?_) rfl (by kernel_rfl) (by kernel_rfl) (by kernel_rfl) (fun _ _ _ h => h) (Or.inl ⟨by rfl, ?_⟩) (hH1) ?_
              rotate_left
              · (intro wx hSw; obtain ⟨⟨l0, q0, q1, q2, q3, q4, q5, q6, _, _⟩, p0, _⟩ := hSw; go_simp <;> with_reducible rfl)
              simp only [Act.put, List.setIfInBounds_toArray, List.set_cons_zero, List.set_cons_succ]
              refine wpAnyH_take (i := 11) (oi := { dst := some 34, op := _, type := _, pos := _, after := _, guard := _ }) (v := ?_) rfl (by kernel_rfl) (by kernel_rfl) (by kernel_rfl) (fun _ _ _ h => h) (Or.inl ⟨by rfl, ?_⟩) (hH1) ?_
              rotate_left
              · (intro wx hSw; obtain ⟨⟨l0, q0, q1, q2, q3, q4, q5, q6, _, _⟩, p0, _⟩ := hSw; go_simp <;> with_reducible rfl)
              simp only [Act.put, List.setIfInBounds_toArray, List.set_cons_zero, List.set_cons_succ]
              refine wpAnyH_take (i := 12) (oi := { dst := some 35, op := _, type := _, pos := _, after := _, guard := _ }) (v := ?_) rfl (by kernel_rfl) (by kernel_rfl) (by kernel_rfl) (fun _ _ _ h => h) (Or.inl ⟨by rfl, ?_⟩) (hH1) ?_
              rotate_left
              · (intro wx hSw; obtain ⟨⟨l0, q0, q1, q2, q3, q4, q5, q6, _, _⟩, p0, _⟩ := hSw; go_simp <;> with_reducible rfl)
              simp only [Act.put, List.setIfInBounds_toArray, List.set_cons_zero, List.set_cons_succ]
              refine wpAnyH_take (i := 13) (oi := { dst := some 36, op := _, type := _, pos := _, after := _, guard := _ }) (v := ?_) rfl (by kernel_rfl) (by kernel_rfl) (by kernel_rfl) (fun _ _ _ h => h) (Or.inl ⟨by rfl, ?_⟩) (hH1) ?_
              rotate_left
              · (intro wx hSw; obtain ⟨⟨l0, q0, q1, q2, q3, q4, q5, q6, _, _⟩, p0, _⟩ := hSw; go_simp <;> with_reducible rfl)
              simp only [Act.put, List.setIfInBounds_toArray, List.set_cons_zero, List.set_cons_succ]
              refine wpAnyH_take (i := 14) (oi := { dst := some 37, op := _, type := _, pos := _, after := _, guard := _ }) (v := ?_) rfl (by kernel_rfl) (by kernel_rfl) (by kernel_rfl) (fun _ _ _ h => h) (Or.inl ⟨by rfl, ?_⟩) (hH1) ?_
              rotate_left
              · (intro wx hSw; obtain ⟨⟨l0, q0, q1, q2, q3, q4, q5, q6, _, _⟩, p0, _⟩ := hSw; go_simp <;> with_reducible rfl)
              simp only [Act.put, List.setIfInBounds_toArray, List.set_cons_zero, List.set_cons_succ]
              refine wpAnyH_take (i := 15) (oi := { dst := some 38, op := _, type := _, pos := _, after := _, guard := _ }) (v := ?_) rfl (by kernel_rfl) (by kernel_rfl) (by kernel_rfl) (fun _ _ _ h => h) (Or.inl ⟨by rfl, ?_⟩) (hH1) ?_
              rotate_left
              · (intro wx hSw; obtain ⟨⟨l0, q0, q1, q2, q3, q4, q5, q6, _, _⟩, p0, _⟩ := hSw; go_simp <;> with_reducible rfl)
              simp only [Act.put, List.setIfInBounds_toArray, List.set_cons_zero, List.set_cons_succ]
              refine wpAnyH_take (i := 16) (oi := { dst := some 39, op := _, type := _, pos := _, after := _, guard := _ }) (v := ?_) rfl (by kernel_rfl) (by kernel_rfl) (by kernel_rfl) (fun _ _ _ h => h) (Or.inl ⟨by rfl, ?_⟩) (hH1) ?_
              rotate_left
              · (intro wx hSw; obtain ⟨⟨l0, q0, q1, q2, q3, q4, q5, q6, _, _⟩, p0, _⟩ := hSw; go_simp <;> with_reducible rfl)
              simp only [Act.put, List.setIfInBounds_toArray, List.set_cons_zero, List.set_cons_succ]
              refine wpAnyH_take (i := 17) (oi := { dst := some 40, op := _, type := _, pos := _, after := _, guard := _ }) (v := ?_) rfl (by kernel_rfl) (by kernel_rfl) (by kernel_rfl) (fun _ _ _ h => h) (Or.inl ⟨by rfl, ?_⟩) (hH1) ?_
              rotate_left
              · (intro wx hSw; obtain ⟨⟨l0, q0, q1, q2, q3, q4, q5, q6, _, _⟩, p0, _⟩ := hSw; go_simp <;> with_reducible rfl)
              simp only [Act.put, List.setIfInBounds_toArray, List.set_cons_zero, List.set_cons_succ]
              refine wpAnyH_take (i := 18) (oi := { dst := some 41, op := _, type := _, pos := _, after := _, guard := _ }) (v := ?_) rfl (by kernel_rfl) (by kernel_rfl) (by kernel_rfl) (fun _ _ _ h => h) (Or.inl ⟨by rfl, ?_⟩) (hH1) ?_
              rotate_left
              · (intro wx hSw; obtain ⟨⟨l0, q0, q1, q2, q3, q4, q5, q6, _, _⟩, p0, _⟩ := hSw; go_simp <;> with_reducible rfl)
              simp only [Act.put, List.setIfInBounds_toArray, List.set_cons_zero, List.set_cons_succ]
              refine wpAnyH_take (i := 19) (oi := { dst := some 42, op := _, type := _, pos := _, after := _, guard := _ }) (v := ?_) rfl (by kernel_rfl) (by kernel_rfl) (by kernel_rfl) (fun _ _ _ h => h) (Or.inl ⟨by rfl, ?_⟩) (hH1) ?_
              rotate_left
              · (intro wx hSw; obtain ⟨⟨l0, q0, q1, q2, q3, q4, q5, q6, _, _⟩, p0, _⟩ := hSw; go_simp <;> with_reducible rfl)
              simp only [Act.put, List.setIfInBounds_toArray, List.set_cons_zero, List.set_cons_succ]
              refine wpAnyH_take (i := 20) (oi := { dst := some 43, op := _, type := _, pos := _, after := _, guard := _ }) (v := ?_) rfl (by kernel_rfl) (by kernel_rfl) (by kernel_rfl) (fun _ _ _ h => h) (Or.inl ⟨by rfl, ?_⟩) (hH1) ?_
              rotate_left
              · (intro wx hSw; obtain ⟨⟨l0, q0, q1, q2, q3, q4, q5, q6, _, _⟩, p0, _⟩ := hSw; go_simp <;> with_reducible rfl)
              simp only [Act.put, List.setIfInBounds_toArray, List.set_cons_zero, List.set_cons_succ]
              refine wpAnyH_take (i := 21) (oi := { dst := some 44, op := _, type := _, pos := _, after := _, guard := _ }) (v := ?_) rfl (by kernel_rfl) (by kernel_rfl) (by kernel_rfl) (fun _ _ _ h => h) (Or.inl ⟨by rfl, ?_⟩) (hH1) ?_
              rotate_left
              · (intro wx hSw; obtain ⟨⟨l0, q0, q1, q2, q3, q4, q5, q6, _, _⟩, p0, _⟩ := hSw; go_simp <;> with_reducible rfl)
              simp only [Act.put, List.setIfInBounds_toArray, List.set_cons_zero, List.set_cons_succ]
              refine wpAnyH_take (i := 22) (oi := { dst := some 45, op := _, type := _, pos := _, after := _, guard := _ }) (v := ?_) rfl (by kernel_rfl) (by kernel_rfl) (by kernel_rfl) (fun _ _ _ h => h) (Or.inl ⟨by rfl, ?_⟩) (hH1) ?_
              rotate_left
              · (intro wx hSw; obtain ⟨⟨l0, q0, q1, q2, q3, q4, q5, q6, _, _⟩, p0, _⟩ := hSw; go_simp <;> with_reducible rfl)
              simp only [Act.put, List.setIfInBounds_toArray, List.set_cons_zero, List.set_cons_succ]
              refine wpAnyH_take (i := 23) (oi := { dst := some 46, op := _, type := _, pos := _, after := _, guard := _ }) (v := ?_) rfl (by kernel_rfl) (by kernel_rfl) (by kernel_rfl) (fun _ _ _ h => h) (Or.inl ⟨by rfl, ?_⟩) (hH1) ?_
              rotate_left
              · (intro wx hSw; obtain ⟨⟨l0, q0, q1, q2, q3, q4, q5, q6, _, _⟩, p0, _⟩ := hSw; go_simp <;> with_reducible rfl)
              simp only [Act.put, List.setIfInBounds_toArray, List.set_cons_zero, List.set_cons_succ]
              refine wpAnyH_take (i := 24) (oi := { dst := some 47, op := _, type := _, pos := _, after := _, guard := _ }) (v := ?_) rfl (by kernel_rfl) (by kernel_rfl) (by kernel_rfl) (fun _ _ _ h => h) (Or.inl ⟨by rfl, ?_⟩) (hH1) ?_
              rotate_left
              · (intro wx hSw; obtain ⟨⟨l0, q0, q1, q2, q3, q4, q5, q6, _, _⟩, p0, _⟩ := hSw; go_simp <;> with_reducible rfl)
              simp only [Act.put, List.setIfInBounds_toArray, List.set_cons_zero, List.set_cons_succ]
              refine wpAnyH_take (i := 25) (oi := { dst := some 48, op := _, type := _, pos := _, after := _, guard := _ }) (v := ?_) rfl (by kernel_rfl) (by kernel_rfl) (by kernel_rfl) (fun _ _ _ h => h) (Or.inl ⟨by rfl, ?_⟩) (hH1) ?_
              rotate_left
              · (intro wx hSw; obtain ⟨⟨l0, q0, q1, q2, q3, q4, q5, q6, _, _⟩, p0, _⟩ := hSw; go_simp <;> with_reducible rfl)
              simp only [Act.put, List.setIfInBounds_toArray, List.set_cons_zero, List.set_cons_succ]
              refine wpAnyH_take (i := 26) (oi := { dst := some 49, op := _, type := _, pos := _, after := _, guard := _ }) (v := ?_) rfl (by kernel_rfl) (by kernel_rfl) (by kernel_rfl) (fun _ _ _ h => h) (Or.inl ⟨by rfl, ?_⟩) (hH1) ?_
              rotate_left
              · (intro wx hSw; obtain ⟨⟨l0, q0, q1, q2, q3, q4, q5, q6, _, _⟩, p0, _⟩ := hSw; go_simp <;> with_reducible rfl)
              simp only [Act.put, List.setIfInBounds_toArray, List.set_cons_zero, List.set_cons_succ]
              refine wpAnyH_take (i := 27) (oi := { dst := some 50, op := _, type := _, pos := _, after := _, guard := _ }) (v := ?_) rfl (by kernel_rfl) (by kernel_rfl) (by kernel_rfl) (fun _ _ _ h => h) (Or.inl ⟨by rfl, ?_⟩) (hH1) ?_
              rotate_left
              · (intro wx hSw; obtain ⟨⟨l0, q0, q1, q2, q3, q4, q5, q6, _, _⟩, p0, _⟩ := hSw; go_simp <;> with_reducible rfl)
              simp only [Act.put, List.setIfInBounds_toArray, List.set_cons_zero, List.set_cons_succ]
              refine wpAnyH_done (by kernel_rfl) ?_ _
              -- behind it: go_wp2_with fail, then go_meet (a cut) or go_ret; the condition at the end: hH1
              cases d
              · go_wp2_with fail
                go_roundw
                case rel =>
                  have hbel := HB.out
                  exact ⟨k + 1, by omega, by go_num, fun j hj => (by rcases Nat.lt_succ_iff_lt_or_eq.1 hj with h | h; exact HP.out j h; rw [h]; exact HK.out), (by repeat' first | with_reducible exact Below.refl _ _ | with_reducible assumption | with_reducible refine below_drewN ?_ _ | with_reducible refine balloc ?_ _ | with_reducible refine Below.drew ?_ | with_reducible refine Below.setCell ?_ (by first | (simp; done) | (simp; omega) | omega) _ | with_reducible refine bstep ?_ (by assumption))⟩
                case measure => simp [intOf]; omega
              · have HN := hide (allN_no hlt HK.out)
                go_wp2_with fail
                go_ret
                have hbel := HB.out
                exact ⟨by first | (rw [HN.out]; done) | (rw [HN.out]; rfl), (by repeat' first | with_reducible exact Below.refl _ _ | with_reducible assumption | with_reducible refine below_drewN ?_ _ | with_reducible refine balloc ?_ _ | with_reducible refine Below.drew ?_ | with_reducible refine Below.setCell ?_ (by first | (simp; done) | (simp; omega) | omega) _ | with_reducible refine bstep ?_ (by assumption))⟩
        · obtain rfl : k = m := by omega
          have HN := hide (allN_yes HP.out)
          clear hpre hbel
          go_wp2_with fail
          go_ret
          exact ⟨by first | (rw [HN.out]; done) | (rw [HN.out]; rfl), HB.out⟩
    · rw [decide_eq_false h60, Bool.false_and] at HS
      have h61 : 60 < (m : Int) := by omega
      have h62 : 60 < m := by omega
      rw [HS.out]
      clear HS
      go_enter Try.func6, Try.ntmps6
      go_wp2_with fail
      refine (BK.out _ (Below.refl _ _)).mono ?_
      rintro e w0 ⟨rfl, hb0⟩
      go_wp2_with fail
      go_ret
      exact ⟨rfl, hb0⟩

set_option maxHeartbeats 4000000 in
theorem sEntriesOk_none (a a' : Option Addr) (n cap n' cap' : Nat) (f g f' g' : Nat → Int) (la : Option Addr) (lc : Nat) (E : EL) (w : World) (h : PRow w a n f g) (h' : PRow w a' n' f' g') (hn : n ≤ 1048576) (hn' : n' ≤ 1048576) :
    Calls Try.prog 6 #[.slice a n cap, .slice a' n' cap', .slice la 0 lc] w fun e w' => e = .returned (.bool (entsS n f g n' f' g' 0 E)) ∧ Below w.heap.size w w' := by
  have BK := hide (fun w1 (hb : Below w.heap.size w w1) => l9Books_any a a' n cap n' cap' f g f' g' w1 (h.below hb) (h'.below hb) hn hn')
  have e : entsS n f g n' f' g' 0 E = alikeB n f g n' f' g' := by
    unfold entsS
    rw [allN_yes (fun i hi => absurd hi (by omega)), decide_eq_true (by omega), Bool.and_true, Bool.and_true]
  rw [e]
  clear e h h'
  obtain ⟨u, hu⟩ : ∃ u, alikeB n f g n' f' g' = u := ⟨_, rfl⟩
  rw [hu] at BK ⊢
  cases u
  · go_enter Try.func6, Try.ntmps6
    go_wp2_with fail
    refine (BK.out _ (Below.refl _ _)).mono ?_
    rintro e w1 ⟨rfl, hb1⟩
    go_wp2_with fail
    go_ret
    exact ⟨rfl, hb1⟩
  · go_enter Try.func6, Try.ntmps6
    go_wp2_with fail
    refine (BK.out _ (Below.refl _ _)).mono ?_
    rintro e w1 ⟨rfl, hb1⟩
    go_wp2_with fail
    refine wp_loop_rounds 1 ?_
    rw [rounds_succ]
    go_wp2
    go_ret
    exact ⟨rfl, hb1⟩

theorem sEntriesOk_any (a a' : Option Addr) (n cap n' cap' : Nat) (f g f' g' : Nat → Int) (la : Option Addr) (m lc : Nat) (E : EL) (w : World) (h : PRow w a n f g) (h' : PRow w a' n' f' g') (hn : n ≤ 1048576) (hn' : n' ≤ 1048576) (hl : ERow w la m E) (hm : m ≤ 1048576) (hv : ∀ i, i < m → (E i).it.vec.length ≤ 1048576) :
    Calls Try.prog 6 #[.slice a n cap, .slice a' n' cap', .slice la m lc] w fun e w' => e = .returned (.bool (entsP n f g n' f' g' m E)) ∧ Below w.heap.size w w' := by
  rw [← entsS_eq]
  rcases hl.lies with h0 | ⟨b, off, rfl, lt, hc⟩
  · subst h0
    exact sEntriesOk_none a a' n cap n' cap' f g f' g' la lc E w h h' hn hn'
  · exact sEntriesOk_some a a' n cap n' cap' f g f' g' b off m lc E w h h' hn hn' lt hc hm hv
end Go.Proofs.Ythiklcldbjmgfaa

/- The walk of FnExactEntriesOk. -/
namespace Go.Proofs.Ythiklcldbjmgfaa
open Go.RowKit
set_option maxRecDepth 8000
set_option linter.unusedSimpArgs false
set_option linter.unusedVariables false

/-- What the frame of a law tells of a slice of entries that came in. -/
def IsEntries (w : World) (a : Option Addr) (n : Nat) (E : EL) : Prop := ERow w a n E ∧ n ≤ 9223372036854775807 ∧ ∀ i, i < n → EnLe 9223372036854775807 (E i)

set_option maxHeartbeats 16000000 in
set_option maxRecDepth 8000 in
theorem exactEntriesOk_walk (a : Option Addr) (n cap : Nat) (f g : Nat → Int) (a' : Option Addr) (n' cap' : Nat) (f' g' : Nat → Int) (la : Option Addr) (m lc : Nat) (E : EL) (w : World) (h : IsPairs w a n f g) (h' : IsPairs w a' n' f' g') (he : IsEntries w la m E) :
    Calls Try.prog 3 #[.slice a n cap, .slice a' n' cap', .slice la m lc] w fun e w' => e = .returned (.bool true) ∧ Below w.heap.size w w' := by
  obtain ⟨hp, hl⟩ := h
  obtain ⟨hp', hl'⟩ := h'
  obtain ⟨hr, hm0, hE0⟩ := he
  by_cases hn : n ≤ 1048576
  · have SZ := hide (fun w' => szRangeS_any a n cap 1048576 w' (by omega) (by omega) hl)
    rw [if_neg (show ¬ (1048576 : Int) - (n : Int) < 0 by omega)] at SZ
    have hnl : ¬ (1048576 : Int) - (n : Int) < 0 := by omega
    have SZ' := hide (fun w' => szRangeS_any a' n' cap' (1048576 - (n : Int)) w' (by omega) (by omega) hl')
    by_cases hs : (1048576 : Int) - (n : Int) - (n' : Int) < 0
    · rw [if_pos hs] at SZ'
      clear hs
      go_enter Try.func3, Try.ntmps3
      go_wp2_with fail
      refine (SZ.out _).mono ?_
      rintro e w0 ⟨rfl, hw0⟩
      obtain rfl := hw0.symm
      go_wp2_with fail
      refine (SZ'.out _).mono ?_
      rintro e w1 ⟨rfl, hw1⟩
      obtain rfl := hw1.symm
      go_wp2_with fail
      go_ret
      exact ⟨rfl, Below.refl _ _⟩
    · rw [if_neg hs] at SZ'
      have SI := hide (szEntryS_any la m lc E (1048576 - (n : Int) - (n' : Int)) w hr (by omega) (by omega) hm0 hE0)
      go_enter Try.func3, Try.ntmps3
      go_wp2_with fail
      refine (SZ.out _).mono ?_
      rintro e w0 ⟨rfl, hw0⟩
      obtain rfl := hw0.symm
      clear hw0
      go_wp2_with fail
      refine (SZ'.out _).mono ?_
      rintro e w1 ⟨rfl, hw1⟩
      obtain rfl := hw1.symm
      clear hw1
      go_wp2_with fail
      refine SI.out.mono ?_
      rintro e w3 ⟨v, rfl, hv, hb3⟩
      have B3 := hide hb3
      clear hb3 SZ SZ' SI
      rcases hv with rfl | ⟨hv0, hv1, hv2⟩
      · go_wp2_with fail
        go_ret
        exact ⟨rfl, B3.out⟩
      · have hm : m ≤ 1048576 := by omega
        have hn' : n' ≤ 1048576 := by omega
        have hE : ∀ i, i < m → EnLe 1048576 (E i) := fun i hi => by have q := hv2 i hi; unfold EnLe at q ⊢; omega
        have hV : ∀ i, i < m → (E i).it.vec.length ≤ 1048576 := fun i hi => by have q := hE i hi; unfold EnLe at q; omega
        have hnv : ¬ v < 0 := by omega
        have TR := hide (fun w1 (hb : Below w.heap.size w w1) => toRangeS_any a n cap f g w1 (hp.below hb) hn)
        have TR' := hide (fun w1 (hb : Below w.heap.size w w1) => toRangeS_any a' n' cap' f' g' w1 (hp'.below hb) hn')
        have TE := hide (fun w1 (hb : Below w.heap.size w w1) => toEntryS_any la m lc E w1 (hr.below hb) hm hE)
        have SP := hide (fun b b' c w1 (o : OwnP w1 b n f g) (o' : OwnP w1 b' n' f' g') (oe : ERow w1 (some ⟨c, 0, none⟩) m E) => sEntriesOk_any (some ⟨b, 0, none⟩) (some ⟨b', 0, none⟩) n n n' n' f g f' g' (some ⟨c, 0, none⟩) m m E w1 o.prow o'.prow hn hn' oe hm hV)
        have IM := hide (fun b b' c w1 (o : OwnP w1 b n f g) (o' : OwnP w1 b' n' f' g') (oe : ERow w1 (some ⟨c, 0, none⟩) m E) => iEntriesOk_any (some ⟨b, 0, none⟩) (some ⟨b', 0, none⟩) n n n' n' f g f' g' (some ⟨c, 0, none⟩) m m E w1 o.prow o'.prow oe hm hV)
        generalize entsP n f g n' f' g' m E = ok at SP IM
        have EQ := hide (fun b b' w1 (o : OwnP w1 b n f g) (o' : OwnP w1 b' n f g) => eqRangeS_self (some ⟨b, 0, none⟩) (some ⟨b', 0, none⟩) n n n f g w1 o.prow o'.prow hn)
        have EQ' := hide (fun b b' w1 (o : OwnP w1 b n' f' g') (o' : OwnP w1 b' n' f' g') => eqRangeS_self (some ⟨b, 0, none⟩) (some ⟨b', 0, none⟩) n' n' n' f' g' w1 o.prow o'.prow hn')
        have EE := hide (fun c c' w1 (o : ERow w1 (some ⟨c, 0, none⟩) m E) (o' : ERow w1 (some ⟨c', 0, none⟩) m E) => eqEntryS_self (some ⟨c, 0, none⟩) (some ⟨c', 0, none⟩) m m m E w1 o o' hm hE)
        unfold ToRs at TR TR'
        have hvv : (ok != ok) = false := by simp
        clear hp hp' hr hl hl' hv0 hv1 hv2 hm0 hE0 hE hV
        go_wp2_with fail
        refine (TR.out _ B3.out).mono ?_
        rintro e w4 ⟨b4, rfl, l4, o4, hb4⟩
        have B4 := hide (bstep B3.out hb4)
        clear hb4 l4
        go_wp2_with fail
        refine (TR'.out _ B4.out).mono ?_
        rintro e w5 ⟨b5, rfl, l5, o5, hb5⟩
        have B5 := hide (bstep B4.out hb5)
        have o4 := o4.below hb5
        clear hb5 l5
        go_wp2_with fail
        refine (TE.out _ B5.out).mono ?_
        rintro e w6 ⟨c6, rfl, l6, o6, hb6⟩
        have B6 := hide (bstep B5.out hb6)
        have o4 := o4.below hb6
        have o5 := o5.below hb6
        clear hb6 l6
        go_wp2_with fail
        refine (SP.out _ _ _ _ o4 o5 o6).mono ?_
        rintro e w7 ⟨rfl, hb7⟩
        have B7 := hide (bstep B6.out hb7)
        clear hb7 o4 o5 o6 SP
        go_wp2_with fail
        refine (TR.out _ B7.out).mono ?_
        rintro e w8 ⟨b8, rfl, l8, o8, hb8⟩
        have B8 := hide (bstep B7.out hb8)
        clear hb8 l8
        go_wp2_with fail
        refine (TR'.out _ B8.out).mono ?_
        rintro e w9 ⟨b9, rfl, l9, o9, hb9⟩
        have B9 := hide (bstep B8.out hb9)
        have o8 := o8.below hb9
        clear hb9 l9
        go_wp2_with fail
        refine (TE.out _ B9.out).mono ?_
        rintro e w10 ⟨c10, rfl, l10, o10, hb10⟩
        have B10 := hide (bstep B9.out hb10)
        have o8 := o8.below hb10
        have o9 := o9.below hb10
        clear hb10 l10
        go_wp2_with fail
        refine (IM.out _ _ _ _ o8 o9 o10).mono ?_
        rintro e w11 ⟨rfl, hb11⟩
        have B11 := hide (bstep B10.out hb11)
        have o8 := o8.below hb11
        have o9 := o9.below hb11
        have o10 := o10.below hb11
        clear hb11
        go_wp2_with fail
        refine (TR.out _ B11.out).mono ?_
        rintro e w12 ⟨b12, rfl, l12, o12, hb12⟩
        have B12 := hide (bstep B11.out hb12)
        have o8 := o8.below hb12
        have o9 := o9.below hb12
        have o10 := o10.below hb12
        clear hb12 l12
        go_wp2_with fail
        refine (EQ.out _ _ _ o8 o12).mono ?_
        rintro e w13 ⟨rfl, hb13⟩
        have B13 := hide (bstep B12.out hb13)
        have o9 := o9.below hb13
        have o10 := o10.below hb13
        clear hb13 o8 o12
        go_wp2_with fail
        refine (TR'.out _ B13.out).mono ?_
        rintro e w14 ⟨b14, rfl, l14, o14, hb14⟩
        have B14 := hide (bstep B13.out hb14)
        have o9 := o9.below hb14
        have o10 := o10.below hb14
        clear hb14 l14
        go_wp2_with fail
        refine (EQ'.out _ _ _ o9 o14).mono ?_
        rintro e w15 ⟨rfl, hb15⟩
        have B15 := hide (bstep B14.out hb15)
        have o10 := o10.below hb15
        clear hb15 o9 o14
        go_wp2_with fail
        refine (TE.out _ B15.out).mono ?_
        rintro e w16 ⟨c16, rfl, l16, o16, hb16⟩
        have B16 := hide (bstep B15.out hb16)
        have o10 := o10.below hb16
        clear hb16 l16
        go_wp2_with fail
        refine (EE.out _ _ _ o10 o16).mono ?_
        rintro e w17 ⟨rfl, hb17⟩
        have B17 := hide (bstep B16.out hb17)
        go_wp2_with fail
        go_ret
        exact ⟨rfl, B17.out⟩
  · have SZ := hide (fun w' => szRangeS_any a n cap 1048576 w' (by omega) (by omega) hl)
    rw [if_pos (show (1048576 : Int) - (n : Int) < 0 by omega)] at SZ
    go_enter Try.func3, Try.ntmps3
    go_wp2_with fail
    refine (SZ.out _).mono ?_
    rintro e w0 ⟨rfl, hw0⟩
    obtain rfl := hw0.symm
    go_wp2_with fail
    go_ret
    exact ⟨rfl, Below.refl _ _⟩
end Go.Proofs.Ythiklcldbjmgfaa
