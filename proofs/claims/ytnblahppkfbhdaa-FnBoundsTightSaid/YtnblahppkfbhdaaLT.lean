/- The walk of FnBoundsTight. -/
import Derived.Test.YtnblahppkfbhdaaLR
import Derived.Deep.RegionHeldLaw
import Derived.Deep.RegionHeld3
namespace Go.Proofs.Ytnblahppkfbhdaa
open Go.RowKit
set_option linter.unusedSimpArgs false
set_option linter.unusedVariables false

/-- Two values own no block both. -/
def Apart (v v' : Value) : Prop := ∀ i, v.ownBlock = some i → v'.ownBlock = some i → False
theorem Apart.symm {v v' : Value} (h : Apart v v') : Apart v' v := fun i a b => h i b a
theorem owns_other {w w' : World} {base : Nat} {e : TypeId} {size : Nat} {v v' : Value} {n : Nat} {xs : List Value} (h : w.ownsRow base e size v' n xs) (hg : w.grownBy w' v.ownBlock) (hap : Apart v v') : w'.ownsRow base e size v' n xs := by
  have h0 := h
  refine ⟨h.1, ?_⟩
  rcases h.2 with h1 | ⟨g, cap, cur, hv, hb0, hh, hrest⟩
  · exact .inl h1
  · refine .inr ⟨g, cap, cur, hv, hb0, (hg.block g (Array.getElem?_eq_some_iff.1 hh).1 ?_).trans hh, hrest⟩
    intro e
    exact hap g e.symm (by rw [hv]; rfl)
theorem apart_new {w : World} {base : Nat} {e : TypeId} {size : Nat} {v v' : Value} {n : Nat} {xs : List Value} {g m c H : Nat} (h : w.ownsRow base e size v' n xs) (hap : Apart v v') (hs : w.heap.size = H) (hat : v.ownBlock = some g ∨ g = H) : Apart (.slice (some ⟨g, 0, none⟩) m c) v' := by
  intro i hi hi'
  have : i = g := by simpa [Value.ownBlock] using hi.symm
  subst this
  rcases hat with ha | ha
  · exact hap i ha hi'
  · have := (h.lt i hi').2; omega

def nearV (lo hi x : Int) : Int := min (max x lo) hi
def farV (lo hi x : Int) : Int := if x - lo < hi - x then hi else lo
theorem nearGo (l u x : Int) (h : l ≤ u) : (if u < (if x < l then l else x) then u else (if x < l then l else x)) = nearV l u x := by
  unfold nearV
  split <;> split <;> omega
def nearF (f g : Nat → Int) (ys : List Int) (i : Nat) : Int := nearV (f i) (g i) (nth ys i)
def farF (f g : Nat → Int) (ys : List Int) (i : Nat) : Int := farV (f i) (g i) (nth ys i)

def R2 (w0 wr : World) (v1 v2 : Value) (k1 k2 : Nat) (N F : Nat → Int) : Prop :=
  wr.ownsRow w0.heap.size 2 1 v1 k1 (vals N k1) ∧ wr.ownsRow w0.heap.size 2 1 v2 k2 (vals F k2) ∧ Apart v1 v2 ∧ Below w0.heap.size w0 wr

theorem near_sq {lo hi x : Int} (h : lo ≤ hi) : (nearV lo hi x - x) * (nearV lo hi x - x) = leastV lo hi x * leastV lo hi x := by
  by_cases h1 : x < lo
  · rw [show nearV lo hi x = lo from by unfold nearV; omega, show leastV lo hi x = lo - x from by unfold leastV; omega]
  · by_cases h2 : hi < x
    · rw [show nearV lo hi x = hi from by unfold nearV; omega, show leastV lo hi x = x - hi from by unfold leastV; omega]; exact sq_turn x hi
    · rw [show nearV lo hi x = x from by unfold nearV; omega, show leastV lo hi x = 0 from by unfold leastV; omega, show x - x = 0 by omega]
theorem far_sq {lo hi x : Int} (h : lo ≤ hi) : (farV lo hi x - x) * (farV lo hi x - x) = mostV lo hi x * mostV lo hi x := by
  unfold farV
  by_cases h1 : x - lo < hi - x
  · rw [if_pos h1, show mostV lo hi x = hi - x from by unfold mostV; omega]
  · rw [if_neg h1, show mostV lo hi x = x - lo from by unfold mostV; omega]; exact sq_turn x lo
theorem dsum_near {n : Nat} {f g : Nat → Int} {ys : List Int} (hr : ∀ i, i < n → f i ≤ g i) : ∀ m, m ≤ n → dsum (ints (nearF f g ys) n) ys m = sumSq (fun i => leastV (f i) (g i) (nth ys i)) m := by
  intro m
  induction m with
  | zero => intro _; rfl
  | succ m ih =>
    intro hm
    simp only [dsum, sumSq, ih (by omega)]
    rw [nth_ints _ _ _ (by omega)]
    have := near_sq (x := nth ys m) (hr m (by omega))
    unfold nearF
    omega
theorem dsum_far {n : Nat} {f g : Nat → Int} {ys : List Int} (hr : ∀ i, i < n → f i ≤ g i) : ∀ m, m ≤ n → dsum (ints (farF f g ys) n) ys m = sumSq (fun i => mostV (f i) (g i) (nth ys i)) m := by
  intro m
  induction m with
  | zero => intro _; rfl
  | succ m ih =>
    intro hm
    simp only [dsum, sumSq, ih (by omega)]
    rw [nth_ints _ _ _ (by omega)]
    have := far_sq (x := nth ys m) (hr m (by omega))
    unfold farF
    omega

set_option maxHeartbeats 8000000 in
set_option maxRecDepth 4000 in
theorem boundsTight_walk (a : Option Addr) (n cap : Nat) (zs : List Int) (w : World) (h : IsRow .u8 w a n cap zs) :
    Calls Try.prog 4 #[.slice a n cap] w fun e w' => e = .returned (.bool true) ∧ Below w.heap.size w w' := by
  obtain ⟨i0, hi, hz0, hz1, hz2⟩ := info_parts Try.infoI64
  have BG := hide (big_any a n cap w)
  by_cases hn : n ≤ 1048576
  · rw [decide_eq_false (show ¬ 1048576 < n by omega)] at BG
    have hcode := h.code hn
    have DR := hide (drawHighOf_any a n cap w hcode)
    clear h hcode
    go_enter Try.func4, Try.ntmps4
    go_wp2_with fail
    refine BG.out.mono ?_
    rintro e w' ⟨rfl, hw⟩
    obtain rfl := hw.symm
    clear BG hw
    go_wp2_with fail
    refine DR.out.mono ?_
    rintro e w1 ⟨a1, n1, c1, f, g, a2, n2, c2, ys, rfl, r1, bd, r2, h1, h2, hb1⟩
    clear DR
    have R1 := hide r1
    have RR := hide r2
    have LI := hide (fun w' (hb' : Below w1.heap.size w1 w') => iLowOf_any a1 a2 n1 c1 n2 c2 f g ys w' (R1.out.below hb') (RR.out.below hb') (by omega))
    have HI := hide (fun w' (hb' : Below w1.heap.size w1 w') => iHighOf_any a1 a2 n1 c1 n2 c2 f g ys w' (R1.out.below hb') (RR.out.below hb') (by omega))
    have LS := hide (fun w' (hb' : Below w1.heap.size w1 w') => sLowOf_any a1 a2 n1 c1 n2 c2 f g ys w' (R1.out.below hb') (RR.out.below hb') (by omega) (by omega))
    have HS := hide (fun w' (hb' : Below w1.heap.size w1 w') => sHighOf_any a1 a2 n1 c1 n2 c2 f g ys w' (R1.out.below hb') (RR.out.below hb') (by omega) (by omega))
    clear r1 r2 bd
    cases hF : formB n1 f g n2 ys
    · rw [hF] at LI HI LS HS
      simp only [Bool.false_eq_true, if_false] at LI HI LS HS
      clear hF
      go_wp2_with fail
      refine (LI.out _ (by repeat' first | with_reducible exact Below.refl _ _ | with_reducible assumption | with_reducible refine below_drewN ?_ _ | with_reducible refine balloc ?_ _ | with_reducible refine Below.drew ?_ | with_reducible refine Below.setCell ?_ (by first | (simp; done) | (simp; omega) | omega) _ | with_reducible refine bstep ?_ (by assumption))).mono ?_
      rintro e w2 ⟨rfl, hb2⟩
      go_wp2_with fail
      refine (HI.out _ hb2).mono ?_
      rintro e w3 ⟨rfl, hb3⟩
      have k3 := bstep hb2 hb3
      go_wp2_with fail
      refine (LS.out _ k3).mono ?_
      rintro e w4 ⟨rfl, hb4⟩
      have k4 := bstep k3 hb4
      go_wp2_with fail
      refine (HS.out _ k4).mono ?_
      rintro e w5 ⟨rfl, hb5⟩
      have k5 := bstep k4 hb5
      go_wp2_with fail
      refine (LS.out _ k5).mono ?_
      rintro e w6 ⟨rfl, hb6⟩
      have k6 := bstep k5 hb6
      go_wp2_with fail
      refine (HS.out _ k6).mono ?_
      rintro e w7 ⟨rfl, hb7⟩
      have k7 := bstep hb1 (bstep k6 hb7)
      go_wp2_with fail
      go_ret
      exact ⟨rfl, k7⟩
    · rw [hF] at LI HI LS HS
      simp only [if_true] at LI HI LS HS
      obtain ⟨hbx, hvx, hnm⟩ := form_parts hF
      have hn8 := boxB_num' hbx
      have HF := hide hF
      have HBX := hide hbx
      have HVX := hide hvx
      have HNM := hide hnm
      have l2 := RR.out.len
      have hl0 : 0 ≤ leastN n1 f g ys := (sumSq_bounds _ n1 (fun i hi => least_bounds (boxB_at' hbx hi) (vecOkB_at hvx (by omega))) n1 (Nat.le_refl _)).1
      have LL2 := hide l2
      clear hbx hvx hnm hF l2
      obtain ⟨lo, hlo⟩ : ∃ lo, leastN n1 f g ys = lo := ⟨_, rfl⟩
      obtain ⟨hi', hhi⟩ : ∃ hi', mostN n1 f g ys = hi' := ⟨_, rfl⟩
      rw [hlo] at LI LS hl0
      rw [hhi] at HI HS
      have HLO := hide hlo
      have HHI := hide hhi
      clear hlo hhi
      have t1 : (lo != lo) = false := by simp
      have t2 : (hi' != hi') = false := by simp
      have t3 : ¬ lo < 0 := by omega
      go_wp2_with fail
      refine (LI.out _ (by repeat' first | with_reducible exact Below.refl _ _ | with_reducible assumption | with_reducible refine below_drewN ?_ _ | with_reducible refine balloc ?_ _ | with_reducible refine Below.drew ?_ | with_reducible refine Below.setCell ?_ (by first | (simp; done) | (simp; omega) | omega) _ | with_reducible refine bstep ?_ (by assumption))).mono ?_
      rintro e w2 ⟨rfl, hb2⟩
      go_wp2_with fail
      refine (HI.out _ hb2).mono ?_
      rintro e w3 ⟨rfl, hb3⟩
      have k3 := bstep hb2 hb3
      go_wp2_with fail
      refine (LS.out _ k3).mono ?_
      rintro e w4 ⟨rfl, hb4⟩
      have k4 := bstep k3 hb4
      go_wp2_with fail
      refine (HS.out _ k4).mono ?_
      rintro e w5 ⟨rfl, hb5⟩
      have k5 := bstep k4 hb5
      have K5 := hide k5
      have BW := hide hb1
      have p1 := R1.out.below k5
      have p2 := RR.out.below k5
      obtain ⟨b, off, ea, lb, hc⟩ : ∃ b off, a1 = some ⟨b, off, none⟩ ∧ b < w5.heap.size ∧ ∀ i, i < n1 → w5.cell? ⟨b, off + i * 2, none⟩ = some (.int .i64 (f i)) ∧ w5.cell? ⟨b, off + i * 2 + 1, none⟩ = some (.int .i64 (g i)) := by
        rcases p1.lies with q | q
        · omega
        · exact q
      obtain ⟨b', off', ea', lb', hc'⟩ : ∃ b off, a2 = some ⟨b, off, none⟩ ∧ b < w5.heap.size ∧ ∀ i, i < n2 → w5.cell? ⟨b, off + i, none⟩ = some (.int .i64 (nth ys i)) := by
        rcases p2.lies with q | q
        · have := HNM.out; omega
        · exact q
      have HC := hide hc
      have HC' := hide hc'
      have P1 := hide p1
      have P2 := hide p2
      clear hb2 hb3 hb4 hb5 k3 k4 k5 p1 p2 hc hc' LI HI LS HS hb1
      subst ea ea'
      go_wp2_with fail
      go_loopw [7, 8, 9] (fun v1 v2 i wr => ∃ k : Nat, k ≤ n1 ∧ i = .int .i64 k ∧ R2 w5 wr v1 v2 k k (nearF f g ys) (farF f g ys)) (fun _ _ i _ => n1 - (intOf i).toNat)
      case atStart =>
        refine ⟨0, Nat.zero_le _, rfl, (World.ownsRow_made w5 #[] 0 (Nat.le_refl _) (Nat.zero_le _) rfl).alloc _, ?_, ?_, (by repeat' first | with_reducible exact Below.refl _ _ | with_reducible assumption | with_reducible refine below_drewN ?_ _ | with_reducible refine balloc ?_ _ | with_reducible refine Below.drew ?_ | with_reducible refine Below.setCell ?_ (by first | (simp; done) | (simp; omega) | omega) _ | with_reducible refine bstep ?_ (by assumption))⟩
        · have q := World.ownsRow_made (w5.alloc (.cells #[] 2)) (base := w5.heap.size) (e := 2) (size := 1) #[] 0 (by simp) (Nat.zero_le _) rfl
          rw [World.size_alloc] at q
          exact q
        · intro i q1 q2
          simp [Value.ownBlock] at q1 q2
          omega
      case round =>
        obtain ⟨k, hk, rfl, hrel⟩ := hrel
        have HR := hide hrel
        clear hrel
        by_cases hlt : k < n1
        · have hbel := HR.out.2.2.2
          have hk2 : k < n2 := by have := HNM.out; omega
          have Z := hide (fun (W : World) (hW : Below w5.heap.size w5 W) => And.intro ((hW.cell (p := ⟨b, off + k * 2, none⟩) lb).trans (HC.out k hlt).1) (And.intro ((hW.cell (p := ⟨b, off + k * 2 + 1, none⟩) lb).trans (HC.out k hlt).2) ((hW.cell (p := ⟨b', off' + k, none⟩) lb').trans (HC'.out k hk2))))
          have hr := boxB_at' HBX.out hlt
          have hx := vecOkB_at HVX.out (show k < ys.length by have := LL2.out; omega)
          simp only [rightB, compB, Bool.and_eq_true, decide_eq_true_eq] at hr hx
          have HN : Hid (nearF f g ys k = nearV (f k) (g k) (nth ys k)) := rfl
          have HFA : Hid (farF f g ys k = farV (f k) (g k) (nth ys k)) := rfl
          generalize f k = l at Z hr HN HFA
          generalize g k = u at Z hr HN HFA
          generalize nth ys k = x at Z hx HN HFA
          obtain ⟨z1, z2, z3⟩ := Z.out wr hbel
          have hlt1 : (k : Int) < (n1 : Int) := by omega
          have hlt2 : (k : Int) < (n2 : Int) := by omega
          have lw : b < wr.heap.size := Nat.lt_of_lt_of_le lb hbel.size
          have lw' : b' < wr.heap.size := Nat.lt_of_lt_of_le lb' hbel.size
          have sz := hbel.size
          clear hbel
          go_upto_region 13 with fail
          go_cut [7] from 54 to 113 (fun s wx => R2 w5 wx s u8 (k + 1) k (nearF f g ys) (farF f g ys))
          case first =>
            have TR := hide (show Tri wr b (off + k * 2) b' (off' + k) l u x from ⟨lw, lw', z1, z2, z3⟩)
            refine wp_region_held_drew (S := fun wx => Tri wx b (off + k * 2) b' (off' + k) l u x) (by kernel_rfl) (TR.out.drew) (fun hH0 => ?_)
            refine wpAnyH_take (i := 0) (oi := { dst := some 60, op := _, type := _, pos := _, after := _, guard := _ }) (v := ?_) rfl (by kernel_rfl) (by kernel_rfl) (by kernel_rfl) (fun _ _ _ h => h) (Or.inl ⟨by rfl, ?_⟩) (hH0) ?_
            rotate_left
            · (intro wx hSw; obtain ⟨_, _, q1, q2, q3⟩ := hSw; go_simp <;> with_reducible rfl)
            simp only [Act.put, List.setIfInBounds_toArray, List.set_cons_zero, List.set_cons_succ]
            refine wpAnyH_take (i := 1) (oi := { dst := some 61, op := _, type := _, pos := _, after := _, guard := _ }) (v := ?_) rfl (by kernel_rfl) (by kernel_rfl) (by kernel_rfl) (fun _ _ _ h => h) (Or.inl ⟨by rfl, ?_⟩) (hH0) ?_
            rotate_left
            · (intro wx hSw; obtain ⟨_, _, q1, q2, q3⟩ := hSw; go_simp <;> with_reducible rfl)
            simp only [Act.put, List.setIfInBounds_toArray, List.set_cons_zero, List.set_cons_succ]
            refine wpAnyH_take (i := 2) (oi := { dst := some 62, op := _, type := _, pos := _, after := _, guard := _ }) (v := ?_) rfl (by kernel_rfl) (by kernel_rfl) (by kernel_rfl) (fun _ _ _ h => h) (Or.inl ⟨by rfl, ?_⟩) (hH0) ?_
            rotate_left
            · (intro wx hSw; obtain ⟨_, _, q1, q2, q3⟩ := hSw; go_simp <;> with_reducible rfl)
            simp only [Act.put, List.setIfInBounds_toArray, List.set_cons_zero, List.set_cons_succ]
            refine wpAnyH_take (i := 3) (oi := { dst := some 63, op := _, type := _, pos := _, after := _, guard := _ }) (v := ?_) rfl (by kernel_rfl) (by kernel_rfl) (by kernel_rfl) (fun _ _ _ h => h) (Or.inl ⟨by rfl, ?_⟩) (hH0) ?_
            rotate_left
            · (intro wx hSw; obtain ⟨_, _, q1, q2, q3⟩ := hSw; go_simp <;> with_reducible rfl)
            simp only [Act.put, List.setIfInBounds_toArray, List.set_cons_zero, List.set_cons_succ]
            refine wpAnyH_take (i := 4) (oi := { dst := some 64, op := _, type := _, pos := _, after := _, guard := _ }) (v := ?_) rfl (by kernel_rfl) (by kernel_rfl) (by kernel_rfl) (fun _ _ _ h => h) (Or.inl ⟨by rfl, ?_⟩) (hH0) ?_
            rotate_left
            · (intro wx hSw; obtain ⟨_, _, q1, q2, q3⟩ := hSw; go_simp <;> with_reducible rfl)
            simp only [Act.put, List.setIfInBounds_toArray, List.set_cons_zero, List.set_cons_succ]
            refine wpAnyH_take (i := 5) (oi := { dst := some 65, op := _, type := _, pos := _, after := _, guard := _ }) (v := ?_) rfl (by kernel_rfl) (by kernel_rfl) (by kernel_rfl) (fun _ _ _ h => h) (Or.inl ⟨by rfl, ?_⟩) (hH0) ?_
            rotate_left
            · (intro wx hSw; obtain ⟨_, _, q1, q2, q3⟩ := hSw; go_simp <;> with_reducible rfl)
            simp only [Act.put, List.setIfInBounds_toArray, List.set_cons_zero, List.set_cons_succ]
            refine wpAnyH_take (i := 6) (oi := { dst := some 66, op := _, type := _, pos := _, after := _, guard := _ }) (v := ?_) rfl (by kernel_rfl) (by kernel_rfl) (by kernel_rfl) (fun _ _ _ h => h) (Or.inl ⟨by rfl, ?_⟩) (hH0) ?_
            rotate_left
            · (intro wx hSw; obtain ⟨_, _, q1, q2, q3⟩ := hSw; go_simp <;> with_reducible rfl)
            simp only [Act.put, List.setIfInBounds_toArray, List.set_cons_zero, List.set_cons_succ]
            refine wpAnyH_take (i := 7) (oi := { dst := some 67, op := _, type := _, pos := _, after := _, guard := _ }) (v := ?_) rfl (by kernel_rfl) (by kernel_rfl) (by kernel_rfl) (fun _ _ _ h => h) (Or.inl ⟨by rfl, ?_⟩) (hH0) ?_
            rotate_left
            · (intro wx hSw; obtain ⟨_, _, q1, q2, q3⟩ := hSw; go_simp <;> with_reducible rfl)
            simp only [Act.put, List.setIfInBounds_toArray, List.set_cons_zero, List.set_cons_succ]
            refine wpAnyH_take (i := 8) (oi := { dst := some 68, op := _, type := _, pos := _, after := _, guard := _ }) (v := ?_) rfl (by kernel_rfl) (by kernel_rfl) (by kernel_rfl) (fun _ _ _ h => h) (Or.inl ⟨by rfl, ?_⟩) (hH0) ?_
            rotate_left
            · (intro wx hSw; obtain ⟨_, _, q1, q2, q3⟩ := hSw; go_simp <;> with_reducible rfl)
            simp only [Act.put, List.setIfInBounds_toArray, List.set_cons_zero, List.set_cons_succ]
            refine wpAnyH_take (i := 9) (oi := { dst := some 69, op := _, type := _, pos := _, after := _, guard := _ }) (v := ?_) rfl (by kernel_rfl) (by kernel_rfl) (by kernel_rfl) (fun _ _ _ h => h) (Or.inl ⟨by rfl, ?_⟩) (hH0) ?_
            rotate_left
            · (intro wx hSw; obtain ⟨_, _, q1, q2, q3⟩ := hSw; go_simp <;> with_reducible rfl)
            simp only [Act.put, List.setIfInBounds_toArray, List.set_cons_zero, List.set_cons_succ]
            refine wpAnyH_take (i := 10) (oi := { dst := some 70, op := _, type := _, pos := _, after := _, guard := _ }) (v := ?_) rfl (by kernel_rfl) (by kernel_rfl) (by kernel_rfl) (fun _ _ _ h => h) (Or.inl ⟨by rfl, ?_⟩) (hH0) ?_
            rotate_left
            · (intro wx hSw; obtain ⟨_, _, q1, q2, q3⟩ := hSw; go_simp <;> with_reducible rfl)
            simp only [Act.put, List.setIfInBounds_toArray, List.set_cons_zero, List.set_cons_succ]
            refine wpAnyH_take (i := 11) (oi := { dst := some 71, op := _, type := _, pos := _, after := _, guard := _ }) (v := ?_) rfl (by kernel_rfl) (by kernel_rfl) (by kernel_rfl) (fun _ _ _ h => h) (Or.inl ⟨by rfl, ?_⟩) (hH0) ?_
            rotate_left
            · (intro wx hSw; obtain ⟨_, _, q1, q2, q3⟩ := hSw; go_simp <;> with_reducible rfl)
            simp only [Act.put, List.setIfInBounds_toArray, List.set_cons_zero, List.set_cons_succ]
            refine wpAnyH_take (i := 12) (oi := { dst := some 72, op := _, type := _, pos := _, after := _, guard := _ }) (v := ?_) rfl (by kernel_rfl) (by kernel_rfl) (by kernel_rfl) (fun _ _ _ h => h) (Or.inl ⟨by rfl, ?_⟩) (hH0) ?_
            rotate_left
            · (intro wx hSw; obtain ⟨_, _, q1, q2, q3⟩ := hSw; go_simp <;> with_reducible rfl)
            simp only [Act.put, List.setIfInBounds_toArray, List.set_cons_zero, List.set_cons_succ]
            refine wpAnyH_take (i := 13) (oi := { dst := some 73, op := _, type := _, pos := _, after := _, guard := _ }) (v := ?_) rfl (by kernel_rfl) (by kernel_rfl) (by kernel_rfl) (fun _ _ _ h => h) (Or.inl ⟨by rfl, ?_⟩) (hH0) ?_
            rotate_left
            · (intro wx hSw; obtain ⟨_, _, q1, q2, q3⟩ := hSw; go_simp <;> with_reducible rfl)
            simp only [Act.put, List.setIfInBounds_toArray, List.set_cons_zero, List.set_cons_succ]
            refine wpAnyH_take (i := 14) (oi := { dst := some 74, op := _, type := _, pos := _, after := _, guard := _ }) (v := ?_) rfl (by kernel_rfl) (by kernel_rfl) (by kernel_rfl) (fun _ _ _ h => h) (Or.inl ⟨by rfl, ?_⟩) (hH0) ?_
            rotate_left
            · (intro wx hSw; obtain ⟨_, _, q1, q2, q3⟩ := hSw; go_simp <;> with_reducible rfl)
            simp only [Act.put, List.setIfInBounds_toArray, List.set_cons_zero, List.set_cons_succ]
            refine wpAnyH_take (i := 15) (oi := { dst := some 75, op := _, type := _, pos := _, after := _, guard := _ }) (v := ?_) rfl (by kernel_rfl) (by kernel_rfl) (by kernel_rfl) (fun _ _ _ h => h) (Or.inl ⟨by rfl, ?_⟩) (hH0) ?_
            rotate_left
            · (intro wx hSw; obtain ⟨_, _, q1, q2, q3⟩ := hSw; go_simp <;> with_reducible rfl)
            simp only [Act.put, List.setIfInBounds_toArray, List.set_cons_zero, List.set_cons_succ]
            refine wpAnyH_take (i := 16) (oi := { dst := some 76, op := _, type := _, pos := _, after := _, guard := _ }) (v := ?_) rfl (by kernel_rfl) (by kernel_rfl) (by kernel_rfl) (fun _ _ _ h => h) (Or.inl ⟨by rfl, ?_⟩) (hH0) ?_
            rotate_left
            · (intro wx hSw; obtain ⟨_, _, q1, q2, q3⟩ := hSw; go_simp <;> with_reducible rfl)
            simp only [Act.put, List.setIfInBounds_toArray, List.set_cons_zero, List.set_cons_succ]
            refine wpAnyH_ready (rs := [17]) (by kernel_rfl) (by simp) ?_
            refine AllReadyH.cons (o := { dst := some 77, op := _, type := _, pos := _, after := _, guard := _ }) rfl (fun K hK => ?_) AllReadyH.nil
            go_simp
            refine hK.out _ _ (Tri.below hH0 (balloc (Below.refl _ _) _)) (fun hH2 => ?_)
            clear hK K
            refine wpAnyH_ready (rs := [18]) (by kernel_rfl) (by simp) ?_
            refine AllReadyH.cons (o := { dst := some 78, op := _, type := _, pos := _, after := _, guard := _ }) rfl (fun K hK => ?_) AllReadyH.nil
            refine step_append_lies _ rfl _ _ 25 rfl w5.heap.size 2 i0 (.int .i64 0) 1 8 Try.underlying25 hi hz0 hz1 hz2 rfl (by decide) _ _ _ rfl ((owns_drewP HR.out.1).alloc _) ⟨_, 0, none⟩ 1 1 [.int .i64 _] rfl rfl (one_new _ _ _) (by intro q hq; simp at hq; subst hq; rfl) (by omega) (by unfold maxLen; omega) (by omega) (by simp; omega) _ rfl ?_
            intro gg cc wq hown1 hgrow hat hglt
            have HBq := hide (below_appP ((balloc HR.out.2.2.2.drew _)) (by simp; omega) ((owns_drewP HR.out.1).alloc _) hgrow)
            have HO2 := hide (owns_other ((owns_drewP HR.out.2.1).alloc _) hgrow HR.out.2.2.1)
            have HAP := hide (apart_new (m := k + 1) (c := cc) ((owns_drewP HR.out.2.1).alloc _) HR.out.2.2.1 rfl hat)
            rw [nearGo l u x hr.2, ← HN.out, ← vals_succ] at hown1
            have HO1 := hide hown1
            clear hown1 hgrow hat
            obtain ⟨t1', t2', t3'⟩ := Z.out wq HBq.out
            refine hK.out _ _ (Tri.mk (Nat.lt_of_lt_of_le lb HBq.out.size) (Nat.lt_of_lt_of_le lb' HBq.out.size) t1' t2' t3') (fun hH3 => ?_)
            clear hK K
            simp only [Act.put, List.setIfInBounds_toArray, List.set_cons_zero, List.set_cons_succ]
            refine wpAnyH_take (i := 19) (oi := { dst := some 7, op := _, type := _, pos := _, after := _, guard := _ }) (v := ?_) rfl (by kernel_rfl) (by kernel_rfl) (by kernel_rfl) (fun _ _ _ h => h) (Or.inl ⟨by rfl, ?_⟩) (hH3) ?_
            rotate_left
            · (intro wx hSw; obtain ⟨_, _, q1, q2, q3⟩ := hSw; go_simp <;> with_reducible rfl)
            simp only [Act.put, List.setIfInBounds_toArray, List.set_cons_zero, List.set_cons_succ]
            refine wpAnyH_done (by kernel_rfl) ?_ _
            -- behind it: go_wp2_with fail, then go_meet (a cut) or go_ret; the condition at the end: hH0
            go_wp2_with fail
            all_goals
              go_meet
              exact ⟨HO1.out, HO2.out, HAP.out, HBq.out⟩
          case rest =>
            have hR := hide hcut
            clear hcut HR
            have hbel := hR.out.2.2.2
            obtain ⟨z1, z2, z3⟩ := Z.out _ hbel
            have f1 : IntKind.i64.wrap (u - x) = u - x := wrapIn _ (by omega) (by omega)
            have f2 : IntKind.i64.wrap (x - l) = x - l := wrapIn _ (by omega) (by omega)
            clear hbel
            by_cases hf : x - l < u - x
            · have hy : farF f g ys k = u := by rw [HFA.out]; unfold farV; rw [if_pos hf]
              have HY := hide hy
              clear hy
              go_upto_region 15 with fail
              go_region_held3 (fun w' => w'.cell? ⟨b, off + k * 2, none⟩ = some (.int .i64 l) ∧ w'.cell? ⟨b, off + k * 2 + 1, none⟩ = some (.int .i64 u) ∧ w'.cell? ⟨b', off' + k, none⟩ = some (.int .i64 x)) (refine ⟨?_, ?_, ?_⟩ <;> first | assumption | (simp [go_sem]; done)) (fail)
              all_goals
                go_wp2_with (at_builtin; refine wpList_append_lies _ rfl _ _ 25 rfl w5.heap.size 2 i0 (.int .i64 0) 1 8 Try.underlying25 hi hz0 hz1 hz2 rfl (by decide) _ _ _ rfl (World.ownsRow.alloc (owns_drewP hR.out.2.1) _) ⟨_, 0, none⟩ 1 1 [.int .i64 u] rfl rfl ?c1 ?c2 ?c3 ?c4 ?c5 ?c6 _ rfl ?_)
                case c1 => exact one_new _ _ _
                case c2 => intro q hq; simp at hq; subst hq; rfl
                case c3 => omega
                case c4 => first | omega | (unfold maxLen; omega)
                case c5 => omega
                case c6 => (have := hR.out.2.2.2.size; first | omega | (simp; omega))
                intro gg cc wq hown1 hgrow hat hglt
                have HBq := hide (below_appP ((balloc hR.out.2.2.2.drew _)) (by have := hR.out.2.2.2.size; simp; omega) (World.ownsRow.alloc (owns_drewP hR.out.2.1) _) hgrow)
                have HO1 := hide (owns_other (World.ownsRow.alloc (owns_drewP hR.out.1) _) hgrow hR.out.2.2.1.symm)
                have HAP := hide (apart_new (m := k + 1) (c := cc) (World.ownsRow.alloc (owns_drewP hR.out.1) (.cells #[.int .i64 u] 2)) hR.out.2.2.1.symm (by simp) hat)
                rw [← HY.out, ← vals_succ] at hown1
                have HO2 := hide hown1
                clear hown1 hgrow hat
                go_wp2_with fail
                go_roundw
                case rel => exact ⟨k + 1, by omega, by go_num, HO1.out, HO2.out, HAP.out.symm, HBq.out⟩
                case measure => simp [intOf]; omega
            · have hy : farF f g ys k = l := by rw [HFA.out]; unfold farV; rw [if_neg hf]
              have HY := hide hy
              clear hy
              go_upto_region 15 with fail
              go_region_held3 (fun w' => w'.cell? ⟨b, off + k * 2, none⟩ = some (.int .i64 l) ∧ w'.cell? ⟨b, off + k * 2 + 1, none⟩ = some (.int .i64 u) ∧ w'.cell? ⟨b', off' + k, none⟩ = some (.int .i64 x)) (refine ⟨?_, ?_, ?_⟩ <;> first | assumption | (simp [go_sem]; done)) (fail)
              all_goals
                go_wp2_with (at_builtin; refine wpList_append_lies _ rfl _ _ 25 rfl w5.heap.size 2 i0 (.int .i64 0) 1 8 Try.underlying25 hi hz0 hz1 hz2 rfl (by decide) _ _ _ rfl (World.ownsRow.alloc (owns_drewP hR.out.2.1) _) ⟨_, 0, none⟩ 1 1 [.int .i64 l] rfl rfl ?c1 ?c2 ?c3 ?c4 ?c5 ?c6 _ rfl ?_)
                case c2 => first | rfl | (intro q hq; simp at hq; subst hq; rfl)
                case c4 => first | omega | (unfold maxLen; omega)
                case c5 => omega
                case c6 => (have := hR.out.2.2.2.size; first | omega | (simp; omega))
                intro gg cc wq hown1 hgrow hat hglt
                have HBq := hide (below_appP ((balloc hR.out.2.2.2.drew _)) (by have := hR.out.2.2.2.size; simp; omega) (World.ownsRow.alloc (owns_drewP hR.out.2.1) _) hgrow)
                have HO1 := hide (owns_other (World.ownsRow.alloc (owns_drewP hR.out.1) _) hgrow hR.out.2.2.1.symm)
                have HAP := hide (apart_new (m := k + 1) (c := cc) (World.ownsRow.alloc (owns_drewP hR.out.1) (.cells #[.int .i64 l] 2)) hR.out.2.2.1.symm (by simp) hat)
                rw [← HY.out, ← vals_succ] at hown1
                have HO2 := hide hown1
                clear hown1 hgrow hat
                go_wp2_with fail
                go_roundw
                case rel => exact ⟨k + 1, by omega, by go_num, HO1.out, HO2.out, HAP.out.symm, HBq.out⟩
                case measure => simp [intOf]; omega
        · obtain rfl : k = n1 := by omega
          obtain ⟨o1, o2, _, hbel⟩ := HR.out
          obtain ⟨a7, c7, hv7, r7, _⟩ := row_of_owns o1
          obtain ⟨a8, c8, hv8, r8, _⟩ := row_of_owns o2
          subst hv7 hv8
          have hrr : ∀ i, i < k → f i ≤ g i := fun i hi => by
            have := boxB_at' HBX.out hi
            simp only [rightB, compB, Bool.and_eq_true, decide_eq_true_eq] at this
            omega
          have bn : ∀ j, j < k → f j ≤ nth (ints (nearF f g ys) k) j ∧ nth (ints (nearF f g ys) k) j ≤ g j := fun j hj => by
            rw [nth_ints _ _ _ hj]; unfold nearF nearV; have := hrr j hj; omega
          have bf : ∀ j, j < k → f j ≤ nth (ints (farF f g ys) k) j ∧ nth (ints (farF f g ys) k) j ≤ g j := fun j hj => by
            rw [nth_ints _ _ _ hj]; unfold farF farV; have := hrr j hj; split <;> omega
          have vn := vecOk_between HBX.out (ints_len _ _) bn
          have vf := vecOk_between HBX.out (ints_len _ _) bf
          have pn : pairB (ints (nearF f g ys) k) ys = true := by
            unfold pairB
            rw [vn, HVX.out, ints_len, decide_eq_true (by have := LL2.out; have := HNM.out; omega)]; rfl
          have pf : pairB (ints (farF f g ys) k) ys = true := by
            unfold pairB
            rw [vf, HVX.out, ints_len, decide_eq_true (by have := LL2.out; have := HNM.out; omega)]; rfl
          have dn : distL (ints (nearF f g ys) k) ys = lo := by
            unfold distL
            rw [pn, if_pos rfl, ints_len, dsum_near hrr k (Nat.le_refl _)]
            exact HLO.out
          have df : distL (ints (farF f g ys) k) ys = hi' := by
            unfold distL
            rw [pf, if_pos rfl, ints_len, dsum_far hrr k (Nat.le_refl _)]
            exact HHI.out
          have hq := P1.out.below hbel
          have hq2 := P2.out.below hbel
          have HA := hide (fun w' (hb' : Below wr.heap.size wr w') => iBoxHas_any (some ⟨b, off, none⟩) a7 k c1 k c7 f g (ints (nearF f g ys) k) w' (hq.below hb') (r7.below hb') (by omega))
          have HB := hide (fun w' (hb' : Below wr.heap.size wr w') => iBoxHas_any (some ⟨b, off, none⟩) a8 k c1 k c8 f g (ints (farF f g ys) k) w' (hq.below hb') (r8.below hb') (by omega))
          have HQ := hide (fun w' (hb' : Below wr.heap.size wr w') => iBoxHas_any (some ⟨b, off, none⟩) (some ⟨b', off', none⟩) k c1 n2 c2 f g ys w' (hq.below hb') (hq2.below hb') (by omega))
          have DN := hide (fun w' (hb' : Below wr.heap.size wr w') => iDistOf_any a7 (some ⟨b', off', none⟩) k c7 n2 c2 (ints (nearF f g ys) k) ys w' (r7.below hb') (hq2.below hb') (by omega) (by omega))
          have DF := hide (fun w' (hb' : Below wr.heap.size wr w') => iDistOf_any a8 (some ⟨b', off', none⟩) k c8 n2 c2 (ints (farF f g ys) k) ys w' (r8.below hb') (hq2.below hb') (by omega) (by omega))
          rw [show boxHasB k f g k (ints (nearF f g ys) k) = true from by unfold boxHasB formB; rw [HBX.out, vn, hasN_between HBX.out bn, decide_eq_true rfl]; rfl] at HA
          rw [show boxHasB k f g k (ints (farF f g ys) k) = true from by unfold boxHasB formB; rw [HBX.out, vf, hasN_between HBX.out bf, decide_eq_true rfl]; rfl] at HB
          have hz : (lo == 0) = boxHasB k f g n2 ys := by
            have := least_zero LL2.out HF.out
            rw [HLO.out] at this
            unfold boxHasB
            rw [HF.out, Bool.true_and]; exact this
          rw [← hz] at HQ
          rw [dn] at DN
          rw [df] at DF
          have u1 : (lo == lo) = true := by simp
          have u2 : (hi' == hi') = true := by simp
          obtain ⟨zb, hzb⟩ : ∃ zb, (lo == 0) = zb := ⟨_, rfl⟩
          rw [hzb] at HQ
          have u3 : (zb == zb) = true := by cases zb <;> rfl
          have BB := hide (bstep BW.out (bstep K5.out hbel))
          clear hq hq2 dn df pn pf vn vf bn bf hrr o1 o2 r7 r8 hz hbel HR
          go_wp2_with fail
          refine (HA.out _ (by repeat' first | with_reducible exact Below.refl _ _ | with_reducible assumption | with_reducible refine below_drewN ?_ _ | with_reducible refine balloc ?_ _ | with_reducible refine Below.drew ?_ | with_reducible refine Below.setCell ?_ (by first | (simp; done) | (simp; omega) | omega) _ | with_reducible refine bstep ?_ (by assumption))).mono ?_
          rintro e w6 ⟨rfl, hb6⟩
          go_wp2_with fail
          refine (HB.out _ hb6).mono ?_
          rintro e w7 ⟨rfl, hb7⟩
          have k7 := bstep hb6 hb7
          go_wp2_with fail
          refine (DN.out _ k7).mono ?_
          rintro e w8 ⟨rfl, hb8⟩
          have k8 := bstep k7 hb8
          go_wp2_with fail
          refine (DF.out _ k8).mono ?_
          rintro e w9 ⟨rfl, hb9⟩
          have k9 := bstep k8 hb9
          go_wp2_with fail
          refine (HQ.out _ k9).mono ?_
          rintro e w10 ⟨rfl, hb10⟩
          have k10 := bstep BB.out (bstep k9 hb10)
          go_wp2_with fail
          go_ret
          exact ⟨rfl, k10⟩
  · rw [decide_eq_true (show 1048576 < n by omega)] at BG
    go_enter Try.func4, Try.ntmps4
    go_wp2_with fail
    refine BG.out.mono ?_
    rintro e w' ⟨rfl, rfl⟩
    go_wp2
    go_ret
    exact ⟨rfl, (by repeat' first | with_reducible exact Below.refl _ _ | with_reducible assumption | with_reducible refine below_drewN ?_ _ | with_reducible refine balloc ?_ _ | with_reducible refine Below.drew ?_ | with_reducible refine Below.setCell ?_ (by first | (simp; done) | (simp; omega) | omega) _ | with_reducible refine bstep ?_ (by assumption))⟩
end Go.Proofs.Ytnblahppkfbhdaa
