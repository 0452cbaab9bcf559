/- ItemsOk of the program. -/
import Derived.Test.YthiklcldbjmgfaaZ11
import Derived.Test.YthiklcldbjmgfaaZ10
namespace Go.Proofs.Ythiklcldbjmgfaa
open Go.RowKit
set_option maxRecDepth 8000
set_option linter.unusedSimpArgs false
set_option linter.unusedVariables false

/-- What a look at one item reads: its box, and the id of the one ahead. -/
structure IW (w : World) (b o1 q : Nat) (x : It) (y : Int) (a : Option Addr) (n c : Nat) : Prop where
  l : b < w.heap.size
  t : Tri w q (.int .i64 x.id) (.int .i64 x.tags) (.slice a n c)
  r : Row w a n x.vec
  d0 : w.cell? ⟨b, o1, none⟩ = some (.int .i64 y)

theorem IW.below {w w' : World} {b o1 q : Nat} {x : It} {y : Int} {a : Option Addr} {n c : Nat} (h : IW w b o1 q x y a n c) (hb : Below w.heap.size w w') : IW w' b o1 q x y a n c :=
  ⟨Nat.lt_of_lt_of_le h.l hb.size, h.t.below hb, h.r.below hb, (hb.cell (p := ⟨b, o1, none⟩) h.l).trans h.d0⟩

theorem IW.drew {w : World} {b o1 q : Nat} {x : It} {y : Int} {a : Option Addr} {n c : Nat} (h : IW w b o1 q x y a n c) : IW w.drew b o1 q x y a n c :=
  ⟨h.l, h.t.drew, ⟨h.r.len, h.r.lies⟩, h.d0⟩

theorem IW.new {w : World} {b o1 : Nat} {x : It} {y : Int} {a : Option Addr} {n c : Nat} (T : TypeId) (l : b < w.heap.size) (r : Row w a n x.vec) (d0 : w.cell? ⟨b, o1, none⟩ = some (.int .i64 y)) : IW (w.alloc (.cells #[.int .i64 x.id, .int .i64 x.tags, .slice a n c] T)) b o1 w.heap.size x y a n c :=
  have hb := balloc (Below.refl _ w) (.cells #[.int .i64 x.id, .int .i64 x.tags, .slice a n c] T)
  ⟨Nat.lt_of_lt_of_le l hb.size, Tri.new w _ _ _ T, r.below hb, (hb.cell (p := ⟨b, o1, none⟩) l).trans d0⟩

set_option maxRecDepth 4000 in
set_option maxHeartbeats 4000000 in
theorem iItemsOk_some (dim : Int) (b off n cap : Nat) (L : IL) (w : World) (hd1 : 1 ≤ dim) (hd8 : dim ≤ 8) (hn : n ≤ 60) (hv : ∀ i, i < n → (L i).vec.length ≤ 1048576) (hb : b < w.heap.size) (hc : ∀ i, i < n → IAt w b (off + i * 3) (L i)) :
    Calls Try.prog 18 #[.int .i64 dim, .slice (some ⟨b, off, none⟩) n cap] w fun e w' => e = .returned (.bool (allN n (okI dim L))) ∧ Below w.heap.size w w' := by
  have HC := hide hc
  have HV := hide hv
  clear hc hv
  go_enter Try.func18, Try.ntmps18
  go_wp2_with fail
  go_loopw [20] (fun i wr => ∃ k : Nat, k ≤ n ∧ i = .int .i64 k ∧ (∀ j, j < k → okI dim L j = true) ∧ Below w.heap.size w wr) (fun i _ => n - (intOf i).toNat)
  case atStart => exact ⟨0, Nat.zero_le _, rfl, fun j h => absurd h (by omega), (by repeat' first | with_reducible exact Below.refl _ _ | with_reducible assumption | with_reducible refine below_drewN ?_ _ | with_reducible refine balloc ?_ _ | with_reducible refine Below.drew ?_ | with_reducible refine Below.setCell ?_ (by first | (simp; done) | (simp; omega) | omega) _ | with_reducible refine bstep ?_ (by assumption))⟩
  case round =>
    obtain ⟨k, hk, rfl, hpre, hbel⟩ := hrel
    have HP := hide hpre
    have HB := hide hbel
    by_cases hlt : k < n
    · obtain ⟨c0, c1, va, vn, vc, c2, vr⟩ := (HC.out k hlt).below hb hbel
      have R := hide (fun w1 {y : Int} {o1 q : Nat} (t : IW w1 b o1 q (L k) y va vn vc) => fits_any dim (L k) va vn vc w1 t.r (by rw [← vr.len]; exact HV.out k hlt))
      have hlt' : (k : Int) < (n : Int) := by omega
      have hl1 : b < wr.heap.size := Nat.lt_of_lt_of_le hb hbel.size
      cases hit : itemB dim (L k)
      · have hno : allN n (okI dim L) = false := allN_no hlt (okI_no1 hit)
        have HN := hide hno
        have T := hide (IW.new (c := vc) 43 hl1 vr c0)
        simp only [hit] at R
        clear hbel hpre vr hno hit
        go_upto_region 6 with fail
        clear c0 c1 c2
        refine wp_region_held_drew (S := fun wx => IW wx b (off + k * 3) wr.heap.size (L k) (L k).id va vn vc) (by kernel_rfl) (T.out.drew) (fun hH0 => ?_)
        refine wpAnyH_take (i := 0) (oi := { dst := some 25, op := _, type := _, pos := _, after := _, guard := _ }) (v := ?_) rfl (by kernel_rfl) (by kernel_rfl) (by kernel_rfl) (fun _ _ _ h => h) (Or.inl ⟨by rfl, ?_⟩) (hH0) ?_
        rotate_left
        · (intro wx hSw; obtain ⟨l0, ⟨_, q0, q1, q2, _, _, _⟩, r0, q3⟩ := hSw; go_simp <;> with_reducible rfl)
        simp only [Act.put, List.setIfInBounds_toArray, List.set_cons_zero, List.set_cons_succ]
        refine wpAnyH_take (i := 1) (oi := { dst := some 26, op := _, type := _, pos := _, after := _, guard := _ }) (v := ?_) rfl (by kernel_rfl) (by kernel_rfl) (by kernel_rfl) (fun _ _ _ h => h) (Or.inl ⟨by rfl, ?_⟩) (hH0) ?_
        rotate_left
        · (intro wx hSw; obtain ⟨l0, ⟨_, q0, q1, q2, _, _, _⟩, r0, q3⟩ := hSw; go_simp <;> with_reducible rfl)
        simp only [Act.put, List.setIfInBounds_toArray, List.set_cons_zero, List.set_cons_succ]
        refine wpAnyH_ready (rs := [2]) (by kernel_rfl) (by simp) ?_
        refine AllReadyH.cons (o := { dst := some 27, op := _, type := _, pos := _, after := _, guard := _ }) rfl (fun K hK => ?_) AllReadyH.nil
        go_simp
        refine (R.out _ hH0).mono ?_
        rintro e w_c27_1 ⟨rfl, hb_c27_1⟩
        dsimp only
        refine hK.out _ _ (IW.below hH0 hb_c27_1) (fun hH1 => ?_)
        clear hK K
        refine wpAnyH_take (i := 3) (oi := { dst := some 28, op := _, type := _, pos := _, after := _, guard := _ }) (v := ?_) rfl (by kernel_rfl) (by kernel_rfl) (by kernel_rfl) (fun _ _ _ h => h) (Or.inl ⟨by rfl, ?_⟩) (hH1) ?_
        rotate_left
        · (intro wx hSw; obtain ⟨l0, ⟨_, q0, q1, q2, _, _, _⟩, r0, q3⟩ := hSw; go_simp <;> with_reducible rfl)
        simp only [Act.put, List.setIfInBounds_toArray, List.set_cons_zero, List.set_cons_succ]
        refine wpAnyH_take (i := 4) (oi := { dst := some 29, op := _, type := _, pos := _, after := _, guard := _ }) (v := ?_) rfl (by kernel_rfl) (by kernel_rfl) (by kernel_rfl) (fun _ _ _ h => h) (Or.inl ⟨by rfl, ?_⟩) (hH1) ?_
        rotate_left
        · (intro wx hSw; obtain ⟨l0, ⟨_, q0, q1, q2, _, _, _⟩, r0, q3⟩ := hSw; go_simp <;> with_reducible rfl)
        simp only [Act.put, List.setIfInBounds_toArray, List.set_cons_zero, List.set_cons_succ]
        refine wpAnyH_take (i := 5) (oi := { dst := some 30, op := _, type := _, pos := _, after := _, guard := _ }) (v := _) rfl (by kernel_rfl) (by kernel_rfl) (by kernel_rfl) (fun _ _ _ h => h) (Or.inr ⟨by rfl, rfl⟩) (hH1) ?_
        simp only [Act.put, List.setIfInBounds_toArray, List.set_cons_zero, List.set_cons_succ]
        refine wpAnyH_take (i := 6) (oi := { dst := some 31, op := _, type := _, pos := _, after := _, guard := _ }) (v := _) rfl (by kernel_rfl) (by kernel_rfl) (by kernel_rfl) (fun _ _ _ h => h) (Or.inr ⟨by rfl, rfl⟩) (hH1) ?_
        simp only [Act.put, List.setIfInBounds_toArray, List.set_cons_zero, List.set_cons_succ]
        refine wpAnyH_take (i := 7) (oi := { dst := some 32, op := _, type := _, pos := _, after := _, guard := _ }) (v := _) rfl (by kernel_rfl) (by kernel_rfl) (by kernel_rfl) (fun _ _ _ h => h) (Or.inr ⟨by rfl, rfl⟩) (hH1) ?_
        simp only [Act.put, List.setIfInBounds_toArray, List.set_cons_zero, List.set_cons_succ]
        refine wpAnyH_take (i := 8) (oi := { dst := some 33, op := _, type := _, pos := _, after := _, guard := _ }) (v := _) rfl (by kernel_rfl) (by kernel_rfl) (by kernel_rfl) (fun _ _ _ h => h) (Or.inr ⟨by rfl, rfl⟩) (hH1) ?_
        simp only [Act.put, List.setIfInBounds_toArray, List.set_cons_zero, List.set_cons_succ]
        refine wpAnyH_take (i := 9) (oi := { dst := some 34, op := _, type := _, pos := _, after := _, guard := _ }) (v := _) rfl (by kernel_rfl) (by kernel_rfl) (by kernel_rfl) (fun _ _ _ h => h) (Or.inr ⟨by rfl, rfl⟩) (hH1) ?_
        simp only [Act.put, List.setIfInBounds_toArray, List.set_cons_zero, List.set_cons_succ]
        refine wpAnyH_take (i := 10) (oi := { dst := some 35, op := _, type := _, pos := _, after := _, guard := _ }) (v := _) rfl (by kernel_rfl) (by kernel_rfl) (by kernel_rfl) (fun _ _ _ h => h) (Or.inr ⟨by rfl, rfl⟩) (hH1) ?_
        simp only [Act.put, List.setIfInBounds_toArray, List.set_cons_zero, List.set_cons_succ]
        refine wpAnyH_take (i := 11) (oi := { dst := some 36, op := _, type := _, pos := _, after := _, guard := _ }) (v := _) rfl (by kernel_rfl) (by kernel_rfl) (by kernel_rfl) (fun _ _ _ h => h) (Or.inr ⟨by rfl, rfl⟩) (hH1) ?_
        simp only [Act.put, List.setIfInBounds_toArray, List.set_cons_zero, List.set_cons_succ]
        refine wpAnyH_take (i := 12) (oi := { dst := some 37, op := _, type := _, pos := _, after := _, guard := _ }) (v := _) rfl (by kernel_rfl) (by kernel_rfl) (by kernel_rfl) (fun _ _ _ h => h) (Or.inr ⟨by rfl, rfl⟩) (hH1) ?_
        simp only [Act.put, List.setIfInBounds_toArray, List.set_cons_zero, List.set_cons_succ]
        refine wpAnyH_take (i := 13) (oi := { dst := some 38, op := _, type := _, pos := _, after := _, guard := _ }) (v := _) rfl (by kernel_rfl) (by kernel_rfl) (by kernel_rfl) (fun _ _ _ h => h) (Or.inr ⟨by rfl, rfl⟩) (hH1) ?_
        simp only [Act.put, List.setIfInBounds_toArray, List.set_cons_zero, List.set_cons_succ]
        refine wpAnyH_take (i := 14) (oi := { dst := some 39, op := _, type := _, pos := _, after := _, guard := _ }) (v := _) rfl (by kernel_rfl) (by kernel_rfl) (by kernel_rfl) (fun _ _ _ h => h) (Or.inr ⟨by rfl, rfl⟩) (hH1) ?_
        simp only [Act.put, List.setIfInBounds_toArray, List.set_cons_zero, List.set_cons_succ]
        refine wpAnyH_take (i := 15) (oi := { dst := some 40, op := _, type := _, pos := _, after := _, guard := _ }) (v := _) rfl (by kernel_rfl) (by kernel_rfl) (by kernel_rfl) (fun _ _ _ h => h) (Or.inr ⟨by rfl, rfl⟩) (hH1) ?_
        simp only [Act.put, List.setIfInBounds_toArray, List.set_cons_zero, List.set_cons_succ]
        refine wpAnyH_take (i := 16) (oi := { dst := some 41, op := _, type := _, pos := _, after := _, guard := _ }) (v := _) rfl (by kernel_rfl) (by kernel_rfl) (by kernel_rfl) (fun _ _ _ h => h) (Or.inr ⟨by rfl, rfl⟩) (hH1) ?_
        simp only [Act.put, List.setIfInBounds_toArray, List.set_cons_zero, List.set_cons_succ]
        refine wpAnyH_take (i := 17) (oi := { dst := some 42, op := _, type := _, pos := _, after := _, guard := _ }) (v := _) rfl (by kernel_rfl) (by kernel_rfl) (by kernel_rfl) (fun _ _ _ h => h) (Or.inr ⟨by rfl, rfl⟩) (hH1) ?_
        simp only [Act.put, List.setIfInBounds_toArray, List.set_cons_zero, List.set_cons_succ]
        refine wpAnyH_take (i := 18) (oi := { dst := some 43, op := _, type := _, pos := _, after := _, guard := _ }) (v := ?_) rfl (by kernel_rfl) (by kernel_rfl) (by kernel_rfl) (fun _ _ _ h => h) (Or.inl ⟨by rfl, ?_⟩) (hH1) ?_
        rotate_left
        · (intro wx hSw; obtain ⟨l0, ⟨_, q0, q1, q2, _, _, _⟩, r0, q3⟩ := hSw; go_simp <;> with_reducible rfl)
        simp only [Act.put, List.setIfInBounds_toArray, List.set_cons_zero, List.set_cons_succ]
        refine wpAnyH_done (by kernel_rfl) ?_ _
        -- behind it: go_wp2_with fail, then go_meet (a cut) or go_ret; the condition at the end: hH1
        go_wp2_with fail
        go_ret
        have hbel := HB.out
        exact ⟨by rw [HN.out]; rfl, (by repeat' first | with_reducible exact Below.refl _ _ | with_reducible assumption | with_reducible refine below_drewN ?_ _ | with_reducible refine balloc ?_ _ | with_reducible refine Below.drew ?_ | with_reducible refine Below.setCell ?_ (by first | (simp; done) | (simp; omega) | omega) _ | with_reducible refine bstep ?_ (by assumption))⟩
      · simp only [hit] at R
        by_cases hk0 : k = 0
        · have HK := hide (show okI dim L k = true by rw [hk0] at hit ⊢; exact okI_0 hit)
          have T := hide (IW.new (c := vc) 43 hl1 vr c0)
          have hz : decide (0 < k) = false := decide_eq_false (by omega)
          have HK0 := hide hk0
          clear hbel hpre vr hit hk0
          go_upto_region 6 with fail
          clear c0 c1 c2
          refine wp_region_held_drew (S := fun wx => IW wx b (off + k * 3) wr.heap.size (L k) (L k).id va vn vc) (by kernel_rfl) (T.out.drew) (fun hH0 => ?_)
          refine wpAnyH_take (i := 0) (oi := { dst := some 25, op := _, type := _, pos := _, after := _, guard := _ }) (v := ?_) rfl (by kernel_rfl) (by kernel_rfl) (by kernel_rfl) (fun _ _ _ h => h) (Or.inl ⟨by rfl, ?_⟩) (hH0) ?_
          rotate_left
          · (intro wx hSw; obtain ⟨l0, ⟨_, q0, q1, q2, _, _, _⟩, r0, q3⟩ := hSw; go_simp <;> with_reducible rfl)
          simp only [Act.put, List.setIfInBounds_toArray, List.set_cons_zero, List.set_cons_succ]
          refine wpAnyH_take (i := 1) (oi := { dst := some 26, op := _, type := _, pos := _, after := _, guard := _ }) (v := ?_) rfl (by kernel_rfl) (by kernel_rfl) (by kernel_rfl) (fun _ _ _ h => h) (Or.inl ⟨by rfl, ?_⟩) (hH0) ?_
          rotate_left
          · (intro wx hSw; obtain ⟨l0, ⟨_, q0, q1, q2, _, _, _⟩, r0, q3⟩ := hSw; go_simp <;> with_reducible rfl)
          simp only [Act.put, List.setIfInBounds_toArray, List.set_cons_zero, List.set_cons_succ]
          refine wpAnyH_ready (rs := [2]) (by kernel_rfl) (by simp) ?_
          refine AllReadyH.cons (o := { dst := some 27, op := _, type := _, pos := _, after := _, guard := _ }) rfl (fun K hK => ?_) AllReadyH.nil
          go_simp
          refine (R.out _ hH0).mono ?_
          rintro e w_c27_1 ⟨rfl, hb_c27_1⟩
          dsimp only
          refine hK.out _ _ (IW.below hH0 hb_c27_1) (fun hH1 => ?_)
          clear hK K
          refine wpAnyH_take (i := 3) (oi := { dst := some 28, op := _, type := _, pos := _, after := _, guard := _ }) (v := ?_) rfl (by kernel_rfl) (by kernel_rfl) (by kernel_rfl) (fun _ _ _ h => h) (Or.inl ⟨by rfl, ?_⟩) (hH1) ?_
          rotate_left
          · (intro wx hSw; obtain ⟨l0, ⟨_, q0, q1, q2, _, _, _⟩, r0, q3⟩ := hSw; go_simp <;> with_reducible rfl)
          simp only [Act.put, List.setIfInBounds_toArray, List.set_cons_zero, List.set_cons_succ]
          refine wpAnyH_take (i := 4) (oi := { dst := some 29, op := _, type := _, pos := _, after := _, guard := _ }) (v := ?_) rfl (by kernel_rfl) (by kernel_rfl) (by kernel_rfl) (fun _ _ _ h => h) (Or.inl ⟨by rfl, ?_⟩) (hH1) ?_
          rotate_left
          · (intro wx hSw; obtain ⟨l0, ⟨_, q0, q1, q2, _, _, _⟩, r0, q3⟩ := hSw; go_simp <;> with_reducible rfl)
          simp only [Act.put, List.setIfInBounds_toArray, List.set_cons_zero, List.set_cons_succ]
          refine wpAnyH_take (i := 5) (oi := { dst := some 30, op := _, type := _, pos := _, after := _, guard := _ }) (v := ?_) rfl (by kernel_rfl) (by kernel_rfl) (by kernel_rfl) (fun _ _ _ h => h) (Or.inl ⟨by rfl, ?_⟩) (hH1) ?_
          rotate_left
          · (intro wx hSw; obtain ⟨l0, ⟨_, q0, q1, q2, _, _, _⟩, r0, q3⟩ := hSw; go_simp <;> with_reducible rfl)
          simp only [Act.put, List.setIfInBounds_toArray, List.set_cons_zero, List.set_cons_succ]
          refine wpAnyH_take (i := 6) (oi := { dst := some 31, op := _, type := _, pos := _, after := _, guard := _ }) (v := ?_) rfl (by kernel_rfl) (by kernel_rfl) (by kernel_rfl) (fun _ _ _ h => h) (Or.inl ⟨by rfl, ?_⟩) (hH1) ?_
          rotate_left
          · (intro wx hSw; obtain ⟨l0, ⟨_, q0, q1, q2, _, _, _⟩, r0, q3⟩ := hSw; go_simp <;> with_reducible rfl)
          simp only [Act.put, List.setIfInBounds_toArray, List.set_cons_zero, List.set_cons_succ]
          refine wpAnyH_take (i := 7) (oi := { dst := some 32, op := _, type := _, pos := _, after := _, guard := _ }) (v := ?_) rfl (by kernel_rfl) (by kernel_rfl) (by kernel_rfl) (fun _ _ _ h => h) (Or.inl ⟨by rfl, ?_⟩) (hH1) ?_
          rotate_left
          · (intro wx hSw; obtain ⟨l0, ⟨_, q0, q1, q2, _, _, _⟩, r0, q3⟩ := hSw; go_simp <;> with_reducible rfl)
          simp only [Act.put, List.setIfInBounds_toArray, List.set_cons_zero, List.set_cons_succ]
          refine wpAnyH_take (i := 8) (oi := { dst := some 33, op := _, type := _, pos := _, after := _, guard := _ }) (v := _) rfl (by kernel_rfl) (by kernel_rfl) (by kernel_rfl) (fun _ _ _ h => h) (Or.inr ⟨by rfl, rfl⟩) (hH1) ?_
          simp only [Act.put, List.setIfInBounds_toArray, List.set_cons_zero, List.set_cons_succ]
          refine wpAnyH_take (i := 9) (oi := { dst := some 34, op := _, type := _, pos := _, after := _, guard := _ }) (v := _) rfl (by kernel_rfl) (by kernel_rfl) (by kernel_rfl) (fun _ _ _ h => h) (Or.inr ⟨by rfl, rfl⟩) (hH1) ?_
          simp only [Act.put, List.setIfInBounds_toArray, List.set_cons_zero, List.set_cons_succ]
          refine wpAnyH_take (i := 10) (oi := { dst := some 35, op := _, type := _, pos := _, after := _, guard := _ }) (v := _) rfl (by kernel_rfl) (by kernel_rfl) (by kernel_rfl) (fun _ _ _ h => h) (Or.inr ⟨by rfl, rfl⟩) (hH1) ?_
          simp only [Act.put, List.setIfInBounds_toArray, List.set_cons_zero, List.set_cons_succ]
          refine wpAnyH_take (i := 11) (oi := { dst := some 36, op := _, type := _, pos := _, after := _, guard := _ }) (v := _) rfl (by kernel_rfl) (by kernel_rfl) (by kernel_rfl) (fun _ _ _ h => h) (Or.inr ⟨by rfl, rfl⟩) (hH1) ?_
          simp only [Act.put, List.setIfInBounds_toArray, List.set_cons_zero, List.set_cons_succ]
          refine wpAnyH_take (i := 12) (oi := { dst := some 37, op := _, type := _, pos := _, after := _, guard := _ }) (v := _) rfl (by kernel_rfl) (by kernel_rfl) (by kernel_rfl) (fun _ _ _ h => h) (Or.inr ⟨by rfl, rfl⟩) (hH1) ?_
          simp only [Act.put, List.setIfInBounds_toArray, List.set_cons_zero, List.set_cons_succ]
          refine wpAnyH_take (i := 13) (oi := { dst := some 38, op := _, type := _, pos := _, after := _, guard := _ }) (v := _) rfl (by kernel_rfl) (by kernel_rfl) (by kernel_rfl) (fun _ _ _ h => h) (Or.inr ⟨by rfl, rfl⟩) (hH1) ?_
          simp only [Act.put, List.setIfInBounds_toArray, List.set_cons_zero, List.set_cons_succ]
          refine wpAnyH_take (i := 14) (oi := { dst := some 39, op := _, type := _, pos := _, after := _, guard := _ }) (v := _) rfl (by kernel_rfl) (by kernel_rfl) (by kernel_rfl) (fun _ _ _ h => h) (Or.inr ⟨by rfl, rfl⟩) (hH1) ?_
          simp only [Act.put, List.setIfInBounds_toArray, List.set_cons_zero, List.set_cons_succ]
          refine wpAnyH_take (i := 15) (oi := { dst := some 40, op := _, type := _, pos := _, after := _, guard := _ }) (v := _) rfl (by kernel_rfl) (by kernel_rfl) (by kernel_rfl) (fun _ _ _ h => h) (Or.inr ⟨by rfl, rfl⟩) (hH1) ?_
          simp only [Act.put, List.setIfInBounds_toArray, List.set_cons_zero, List.set_cons_succ]
          refine wpAnyH_take (i := 16) (oi := { dst := some 41, op := _, type := _, pos := _, after := _, guard := _ }) (v := _) rfl (by kernel_rfl) (by kernel_rfl) (by kernel_rfl) (fun _ _ _ h => h) (Or.inr ⟨by rfl, rfl⟩) (hH1) ?_
          simp only [Act.put, List.setIfInBounds_toArray, List.set_cons_zero, List.set_cons_succ]
          refine wpAnyH_take (i := 17) (oi := { dst := some 42, op := _, type := _, pos := _, after := _, guard := _ }) (v := ?_) rfl (by kernel_rfl) (by kernel_rfl) (by kernel_rfl) (fun _ _ _ h => h) (Or.inl ⟨by rfl, ?_⟩) (hH1) ?_
          rotate_left
          · (intro wx hSw; obtain ⟨l0, ⟨_, q0, q1, q2, _, _, _⟩, r0, q3⟩ := hSw; go_simp <;> with_reducible rfl)
          simp only [Act.put, List.setIfInBounds_toArray, List.set_cons_zero, List.set_cons_succ]
          refine wpAnyH_take (i := 18) (oi := { dst := some 43, op := _, type := _, pos := _, after := _, guard := _ }) (v := ?_) rfl (by kernel_rfl) (by kernel_rfl) (by kernel_rfl) (fun _ _ _ h => h) (Or.inl ⟨by rfl, ?_⟩) (hH1) ?_
          rotate_left
          · (intro wx hSw; obtain ⟨l0, ⟨_, q0, q1, q2, _, _, _⟩, r0, q3⟩ := hSw; go_simp <;> with_reducible rfl)
          simp only [Act.put, List.setIfInBounds_toArray, List.set_cons_zero, List.set_cons_succ]
          refine wpAnyH_done (by kernel_rfl) ?_ _
          -- behind it: go_wp2_with fail, then go_meet (a cut) or go_ret; the condition at the end: hH1
          go_wp2_with fail
          go_roundw
          case rel =>
            have hbel := HB.out
            exact ⟨k + 1, by omega, by go_num, fun j hj => (by rcases Nat.lt_succ_iff_lt_or_eq.1 hj with h | h; exact HP.out j h; rw [h]; exact HK.out), (by repeat' first | with_reducible exact Below.refl _ _ | with_reducible assumption | with_reducible refine below_drewN ?_ _ | with_reducible refine balloc ?_ _ | with_reducible refine Below.drew ?_ | with_reducible refine Below.setCell ?_ (by first | (simp; done) | (simp; omega) | omega) _ | with_reducible refine bstep ?_ (by assumption))⟩
          case measure => simp [intOf]; omega
        · obtain ⟨p, rfl⟩ : ∃ p, k = p + 1 := ⟨k - 1, by omega⟩
          obtain ⟨d, hd⟩ : ∃ d, decide ((L (p + 1)).id ≤ (L p).id) = d := ⟨_, rfl⟩
          have HK := hide (okI_s hit hd)
          have d0 := ((HC.out p (by omega)).below hb hbel).c0
          have T := hide (IW.new (c := vc) 43 hl1 vr d0)
          have hq : IntKind.i64.wrap (((p + 1 : Nat) : Int) - 1) = (p : Int) := by rw [wrapIn _ (by omega) (by omega)]; omega
          have hpi : (p : Int) < (n : Int) := by omega
          have hz : decide (0 < p + 1) = true := decide_eq_true (by omega)
          obtain ⟨k, hkk⟩ : ∃ k, p + 1 = k := ⟨_, rfl⟩
          rw [hkk] at hk HP hlt hlt' R HK T hq hz hd c0 c1 c2 ⊢
          have HKK := hide hkk
          clear hbel hpre vr hit d0 hk0 hkk
          go_upto_region 6 with fail
          clear c0 c1 c2
          refine wp_region_held_drew (S := fun wx => IW wx b (off + p * 3) wr.heap.size (L k) (L p).id va vn vc) (by kernel_rfl) (T.out.drew) (fun hH0 => ?_)
          refine wpAnyH_take (i := 0) (oi := { dst := some 25, op := _, type := _, pos := _, after := _, guard := _ }) (v := ?_) rfl (by kernel_rfl) (by kernel_rfl) (by kernel_rfl) (fun _ _ _ h => h) (Or.inl ⟨by rfl, ?_⟩) (hH0) ?_
          rotate_left
          · (intro wx hSw; obtain ⟨l0, ⟨_, q0, q1, q2, _, _, _⟩, r0, q3⟩ := hSw; go_simp <;> with_reducible rfl)
          simp only [Act.put, List.setIfInBounds_toArray, List.set_cons_zero, List.set_cons_succ]
          refine wpAnyH_take (i := 1) (oi := { dst := some 26, op := _, type := _, pos := _, after := _, guard := _ }) (v := ?_) rfl (by kernel_rfl) (by kernel_rfl) (by kernel_rfl) (fun _ _ _ h => h) (Or.inl ⟨by rfl, ?_⟩) (hH0) ?_
          rotate_left
          · (intro wx hSw; obtain ⟨l0, ⟨_, q0, q1, q2, _, _, _⟩, r0, q3⟩ := hSw; go_simp <;> with_reducible rfl)
          simp only [Act.put, List.setIfInBounds_toArray, List.set_cons_zero, List.set_cons_succ]
          refine wpAnyH_ready (rs := [2]) (by kernel_rfl) (by simp) ?_
          refine AllReadyH.cons (o := { dst := some 27, op := _, type := _, pos := _, after := _, guard := _ }) rfl (fun K hK => ?_) AllReadyH.nil
          go_simp
          refine (R.out _ hH0).mono ?_
          rintro e w_c27_1 ⟨rfl, hb_c27_1⟩
          dsimp only
          refine hK.out _ _ (IW.below hH0 hb_c27_1) (fun hH1 => ?_)
          clear hK K
          refine wpAnyH_take (i := 3) (oi := { dst := some 28, op := _, type := _, pos := _, after := _, guard := _ }) (v := ?_) rfl (by kernel_rfl) (by kernel_rfl) (by kernel_rfl) (fun _ _ _ h => h) (Or.inl ⟨by rfl, ?_⟩) (hH1) ?_
          rotate_left
          · (intro wx hSw; obtain ⟨l0, ⟨_, q0, q1, q2, _, _, _⟩, r0, q3⟩ := hSw; go_simp <;> with_reducible rfl)
          simp only [Act.put, List.setIfInBounds_toArray, List.set_cons_zero, List.set_cons_succ]
          refine wpAnyH_take (i := 4) (oi := { dst := some 29, op := _, type := _, pos := _, after := _, guard := _ }) (v := ?_) rfl (by kernel_rfl) (by kernel_rfl) (by kernel_rfl) (fun _ _ _ h => h) (Or.inl ⟨by rfl, ?_⟩) (hH1) ?_
          rotate_left
          · (intro wx hSw; obtain ⟨l0, ⟨_, q0, q1, q2, _, _, _⟩, r0, q3⟩ := hSw; go_simp <;> with_reducible rfl)
          simp only [Act.put, List.setIfInBounds_toArray, List.set_cons_zero, List.set_cons_succ]
          refine wpAnyH_take (i := 5) (oi := { dst := some 30, op := _, type := _, pos := _, after := _, guard := _ }) (v := ?_) rfl (by kernel_rfl) (by kernel_rfl) (by kernel_rfl) (fun _ _ _ h => h) (Or.inl ⟨by rfl, ?_⟩) (hH1) ?_
          rotate_left
          · (intro wx hSw; obtain ⟨l0, ⟨_, q0, q1, q2, _, _, _⟩, r0, q3⟩ := hSw; go_simp <;> with_reducible rfl)
          simp only [Act.put, List.setIfInBounds_toArray, List.set_cons_zero, List.set_cons_succ]
          refine wpAnyH_take (i := 6) (oi := { dst := some 31, op := _, type := _, pos := _, after := _, guard := _ }) (v := ?_) rfl (by kernel_rfl) (by kernel_rfl) (by kernel_rfl) (fun _ _ _ h => h) (Or.inl ⟨by rfl, ?_⟩) (hH1) ?_
          rotate_left
          · (intro wx hSw; obtain ⟨l0, ⟨_, q0, q1, q2, _, _, _⟩, r0, q3⟩ := hSw; go_simp <;> with_reducible rfl)
          simp only [Act.put, List.setIfInBounds_toArray, List.set_cons_zero, List.set_cons_succ]
          refine wpAnyH_take (i := 7) (oi := { dst := some 32, op := _, type := _, pos := _, after := _, guard := _ }) (v := ?_) rfl (by kernel_rfl) (by kernel_rfl) (by kernel_rfl) (fun _ _ _ h => h) (Or.inl ⟨by rfl, ?_⟩) (hH1) ?_
          rotate_left
          · (intro wx hSw; obtain ⟨l0, ⟨_, q0, q1, q2, _, _, _⟩, r0, q3⟩ := hSw; go_simp <;> with_reducible rfl)
          simp only [Act.put, List.setIfInBounds_toArray, List.set_cons_zero, List.set_cons_succ]
          refine wpAnyH_take (i := 8) (oi := { dst := some 33, op := _, type := _, pos := _, after := _, guard := _ }) (v := ?_) rfl (by kernel_rfl) (by kernel_rfl) (by kernel_rfl) (fun _ _ _ h => h) (Or.inl ⟨by rfl, ?_⟩) (hH1) ?_
          rotate_left
          · (intro wx hSw; obtain ⟨l0, ⟨_, q0, q1, q2, _, _, _⟩, r0, q3⟩ := hSw; go_simp <;> with_reducible rfl)
          simp only [Act.put, List.setIfInBounds_toArray, List.set_cons_zero, List.set_cons_succ]
          refine wpAnyH_take (i := 9) (oi := { dst := some 34, op := _, type := _, pos := _, after := _, guard := _ }) (v := ?_) rfl (by kernel_rfl) (by kernel_rfl) (by kernel_rfl) (fun _ _ _ h => h) (Or.inl ⟨by rfl, ?_⟩) (hH1) ?_
          rotate_left
          · (intro wx hSw; obtain ⟨l0, ⟨_, q0, q1, q2, _, _, _⟩, r0, q3⟩ := hSw; go_simp <;> with_reducible rfl)
          simp only [Act.put, List.setIfInBounds_toArray, List.set_cons_zero, List.set_cons_succ]
          refine wpAnyH_take (i := 10) (oi := { dst := some 35, op := _, type := _, pos := _, after := _, guard := _ }) (v := ?_) rfl (by kernel_rfl) (by kernel_rfl) (by kernel_rfl) (fun _ _ _ h => h) (Or.inl ⟨by rfl, ?_⟩) (hH1) ?_
          rotate_left
          · (intro wx hSw; obtain ⟨l0, ⟨_, q0, q1, q2, _, _, _⟩, r0, q3⟩ := hSw; go_simp <;> with_reducible rfl)
          simp only [Act.put, List.setIfInBounds_toArray, List.set_cons_zero, List.set_cons_succ]
          refine wpAnyH_take (i := 11) (oi := { dst := some 36, op := _, type := _, pos := _, after := _, guard := _ }) (v := ?_) rfl (by kernel_rfl) (by kernel_rfl) (by kernel_rfl) (fun _ _ _ h => h) (Or.inl ⟨by rfl, ?_⟩) (hH1) ?_
          rotate_left
          · (intro wx hSw; obtain ⟨l0, ⟨_, q0, q1, q2, _, _, _⟩, r0, q3⟩ := hSw; go_simp <;> with_reducible rfl)
          simp only [Act.put, List.setIfInBounds_toArray, List.set_cons_zero, List.set_cons_succ]
          refine wpAnyH_take (i := 12) (oi := { dst := some 37, op := _, type := _, pos := _, after := _, guard := _ }) (v := ?_) rfl (by kernel_rfl) (by kernel_rfl) (by kernel_rfl) (fun _ _ _ h => h) (Or.inl ⟨by rfl, ?_⟩) (hH1) ?_
          rotate_left
          · (intro wx hSw; obtain ⟨l0, ⟨_, q0, q1, q2, _, _, _⟩, r0, q3⟩ := hSw; go_simp <;> with_reducible rfl)
          simp only [Act.put, List.setIfInBounds_toArray, List.set_cons_zero, List.set_cons_succ]
          refine wpAnyH_take (i := 13) (oi := { dst := some 38, op := _, type := _, pos := _, after := _, guard := _ }) (v := ?_) rfl (by kernel_rfl) (by kernel_rfl) (by kernel_rfl) (fun _ _ _ h => h) (Or.inl ⟨by rfl, ?_⟩) (hH1) ?_
          rotate_left
          · (intro wx hSw; obtain ⟨l0, ⟨_, q0, q1, q2, _, _, _⟩, r0, q3⟩ := hSw; go_simp <;> with_reducible rfl)
          simp only [Act.put, List.setIfInBounds_toArray, List.set_cons_zero, List.set_cons_succ]
          refine wpAnyH_take (i := 14) (oi := { dst := some 39, op := _, type := _, pos := _, after := _, guard := _ }) (v := ?_) rfl (by kernel_rfl) (by kernel_rfl) (by kernel_rfl) (fun _ _ _ h => h) (Or.inl ⟨by rfl, ?_⟩) (hH1) ?_
          rotate_left
          · (intro wx hSw; obtain ⟨l0, ⟨_, q0, q1, q2, _, _, _⟩, r0, q3⟩ := hSw; go_simp <;> with_reducible rfl)
          simp only [Act.put, List.setIfInBounds_toArray, List.set_cons_zero, List.set_cons_succ]
          refine wpAnyH_take (i := 15) (oi := { dst := some 40, op := _, type := _, pos := _, after := _, guard := _ }) (v := ?_) rfl (by kernel_rfl) (by kernel_rfl) (by kernel_rfl) (fun _ _ _ h => h) (Or.inl ⟨by rfl, ?_⟩) (hH1) ?_
          rotate_left
          · (intro wx hSw; obtain ⟨l0, ⟨_, q0, q1, q2, _, _, _⟩, r0, q3⟩ := hSw; go_simp <;> with_reducible rfl)
          simp only [Act.put, List.setIfInBounds_toArray, List.set_cons_zero, List.set_cons_succ]
          refine wpAnyH_take (i := 16) (oi := { dst := some 41, op := _, type := _, pos := _, after := _, guard := _ }) (v := ?_) rfl (by kernel_rfl) (by kernel_rfl) (by kernel_rfl) (fun _ _ _ h => h) (Or.inl ⟨by rfl, ?_⟩) (hH1) ?_
          rotate_left
          · (intro wx hSw; obtain ⟨l0, ⟨_, q0, q1, q2, _, _, _⟩, r0, q3⟩ := hSw; go_simp <;> with_reducible rfl)
          simp only [Act.put, List.setIfInBounds_toArray, List.set_cons_zero, List.set_cons_succ]
          refine wpAnyH_take (i := 17) (oi := { dst := some 42, op := _, type := _, pos := _, after := _, guard := _ }) (v := ?_) rfl (by kernel_rfl) (by kernel_rfl) (by kernel_rfl) (fun _ _ _ h => h) (Or.inl ⟨by rfl, ?_⟩) (hH1) ?_
          rotate_left
          · (intro wx hSw; obtain ⟨l0, ⟨_, q0, q1, q2, _, _, _⟩, r0, q3⟩ := hSw; go_simp <;> with_reducible rfl)
          simp only [Act.put, List.setIfInBounds_toArray, List.set_cons_zero, List.set_cons_succ]
          refine wpAnyH_take (i := 18) (oi := { dst := some 43, op := _, type := _, pos := _, after := _, guard := _ }) (v := ?_) rfl (by kernel_rfl) (by kernel_rfl) (by kernel_rfl) (fun _ _ _ h => h) (Or.inl ⟨by rfl, ?_⟩) (hH1) ?_
          rotate_left
          · (intro wx hSw; obtain ⟨l0, ⟨_, q0, q1, q2, _, _, _⟩, r0, q3⟩ := hSw; go_simp <;> with_reducible rfl)
          simp only [Act.put, List.setIfInBounds_toArray, List.set_cons_zero, List.set_cons_succ]
          refine wpAnyH_done (by kernel_rfl) ?_ _
          -- behind it: go_wp2_with fail, then go_meet (a cut) or go_ret; the condition at the end: hH1
          cases d
          · go_wp2_with fail
            go_roundw
            case rel =>
              have hbel := HB.out
              exact ⟨k + 1, by omega, by go_num, fun j hj => (by rcases Nat.lt_succ_iff_lt_or_eq.1 hj with h | h; exact HP.out j h; rw [h]; exact HK.out), (by repeat' first | with_reducible exact Below.refl _ _ | with_reducible assumption | with_reducible refine below_drewN ?_ _ | with_reducible refine balloc ?_ _ | with_reducible refine Below.drew ?_ | with_reducible refine Below.setCell ?_ (by first | (simp; done) | (simp; omega) | omega) _ | with_reducible refine bstep ?_ (by assumption))⟩
            case measure => simp [intOf]; omega
          · have hno : allN n (okI dim L) = false := allN_no hlt HK.out
            have HN := hide hno
            clear hno
            go_wp2_with fail
            go_ret
            have hbel := HB.out
            exact ⟨by rw [HN.out]; rfl, (by repeat' first | with_reducible exact Below.refl _ _ | with_reducible assumption | with_reducible refine below_drewN ?_ _ | with_reducible refine balloc ?_ _ | with_reducible refine Below.drew ?_ | with_reducible refine Below.setCell ?_ (by first | (simp; done) | (simp; omega) | omega) _ | with_reducible refine bstep ?_ (by assumption))⟩
    · obtain rfl : k = n := by omega
      have e : allN k (okI dim L) = true := allN_yes HP.out
      have E := hide e
      clear e hpre hbel
      go_wp2_with fail
      go_ret
      exact ⟨by rw [E.out]; rfl, HB.out⟩

set_option maxHeartbeats 400000 in
theorem iItemsOk_no (dim : Int) (a : Option Addr) (n cap : Nat) (w : World) (h : ¬ (1 ≤ dim ∧ dim ≤ 8 ∧ n ≤ 60)) (hn : n ≤ 1048576) :
    Calls Try.prog 18 #[.int .i64 dim, .slice a n cap] w fun e w' => e = .returned (.bool false) ∧ Below w.heap.size w w' := by
  by_cases h1 : dim < 1
  · go_enter Try.func18, Try.ntmps18
    go_wp2
    go_ret
    exact ⟨rfl, (by repeat' first | with_reducible exact Below.refl _ _ | with_reducible assumption | with_reducible refine below_drewN ?_ _ | with_reducible refine balloc ?_ _ | with_reducible refine Below.drew ?_ | with_reducible refine Below.setCell ?_ (by first | (simp; done) | (simp; omega) | omega) _ | with_reducible refine bstep ?_ (by assumption))⟩
  · by_cases h2 : 8 < dim
    · go_enter Try.func18, Try.ntmps18
      go_wp2
      go_ret
      exact ⟨rfl, (by repeat' first | with_reducible exact Below.refl _ _ | with_reducible assumption | with_reducible refine below_drewN ?_ _ | with_reducible refine balloc ?_ _ | with_reducible refine Below.drew ?_ | with_reducible refine Below.setCell ?_ (by first | (simp; done) | (simp; omega) | omega) _ | with_reducible refine bstep ?_ (by assumption))⟩
    · have h3 : 60 < n := by omega
      have h4 : (60 : Int) < (n : Int) := by omega
      go_enter Try.func18, Try.ntmps18
      go_wp2
      go_ret
      exact ⟨rfl, (by repeat' first | with_reducible exact Below.refl _ _ | with_reducible assumption | with_reducible refine below_drewN ?_ _ | with_reducible refine balloc ?_ _ | with_reducible refine Below.drew ?_ | with_reducible refine Below.setCell ?_ (by first | (simp; done) | (simp; omega) | omega) _ | with_reducible refine bstep ?_ (by assumption))⟩

set_option maxHeartbeats 400000 in
theorem iItemsOk_none (dim : Int) (a : Option Addr) (n cap : Nat) (w : World) (hd1 : 1 ≤ dim) (hd8 : dim ≤ 8) (hn : n < 1) :
    Calls Try.prog 18 #[.int .i64 dim, .slice a n cap] w fun e w' => e = .returned (.bool true) ∧ Below w.heap.size w w' := by
  obtain rfl : n = 0 := by omega
  go_enter Try.func18, Try.ntmps18
  go_wp2
  refine wp_loop_rounds 1 ?_
  rw [rounds_succ]
  go_wp2
  go_ret
  exact ⟨rfl, (by repeat' first | with_reducible exact Below.refl _ _ | with_reducible assumption | with_reducible refine below_drewN ?_ _ | with_reducible refine balloc ?_ _ | with_reducible refine Below.drew ?_ | with_reducible refine Below.setCell ?_ (by first | (simp; done) | (simp; omega) | omega) _ | with_reducible refine bstep ?_ (by assumption))⟩

theorem iItemsOk_any (dim : Int) (a : Option Addr) (n cap : Nat) (L : IL) (w : World) (h : IRow w a n L) (hn : n ≤ 1048576) (hv : ∀ i, i < n → (L i).vec.length ≤ 1048576) :
    Calls Try.prog 18 #[.int .i64 dim, .slice a n cap] w fun e w' => e = .returned (.bool (itemsB dim n L)) ∧ Below w.heap.size w w' := by
  by_cases hd : 1 ≤ dim ∧ dim ≤ 8 ∧ n ≤ 60
  · have e : itemsB dim n L = allN n (okI dim L) := by
      unfold itemsB inB
      rw [decide_eq_true (show 1 ≤ dim ∧ dim ≤ 8 from ⟨hd.1, hd.2.1⟩), decide_eq_true hd.2.2]
      rfl
    rw [e]
    rcases h.lies with h0 | ⟨b, off, rfl, lt, hc⟩
    · rw [allN_yes (fun i hi => absurd hi (by omega))]
      exact iItemsOk_none dim a n cap w hd.1 hd.2.1 (by omega)
    · exact iItemsOk_some dim b off n cap L w hd.1 hd.2.1 hd.2.2 hv lt hc
  · have e : itemsB dim n L = false := by
      unfold itemsB inB
      by_cases h1 : 1 ≤ dim ∧ dim ≤ 8
      · rw [decide_eq_true h1, decide_eq_false (show ¬ n ≤ 60 from fun h => hd ⟨h1.1, h1.2, h⟩)]
        rfl
      · rw [decide_eq_false h1]
        rfl
    rw [e]
    exact iItemsOk_no dim a n cap w hd hn
end Go.Proofs.Ythiklcldbjmgfaa

/- eqRangeS of the laws. -/
namespace Go.Proofs.Ythiklcldbjmgfaa
open Go.RowKit
set_option maxRecDepth 8000
set_option linter.unusedSimpArgs false
set_option linter.unusedVariables false

set_option maxHeartbeats 1600000 in
theorem eqRangeS_some (b off n cap b' off' cap' : Nat) (f g f' g' : Nat → Int) (w : World) (hn : n ≤ 1048576) (hb : b < w.heap.size) (hb' : b' < w.heap.size)
    (hc : ∀ i, i < n → w.cell? ⟨b, off + i * 2, none⟩ = some (.int .i64 (f i)) ∧ w.cell? ⟨b, off + i * 2 + 1, none⟩ = some (.int .i64 (g i)))
    (hc' : ∀ i, i < n → w.cell? ⟨b', off' + i * 2, none⟩ = some (.int .i64 (f' i)) ∧ w.cell? ⟨b', off' + i * 2 + 1, none⟩ = some (.int .i64 (g' i))) :
    Calls Try.prog 10 #[.slice (some ⟨b, off, none⟩) n cap, .slice (some ⟨b', off', none⟩) n cap'] w fun e w' => e = .returned (.bool (sameB n f g f' g')) ∧ Below w.heap.size w w' := by
  go_enter Try.func10, Try.ntmps10
  go_wp2
  go_loopw [5] (fun i wr => ∃ k : Nat, k ≤ n ∧ i = .int .i64 k ∧ (∀ j, j < k → (decide (f j = f' j) && decide (g j = g' j)) = true) ∧ Below w.heap.size w wr) (fun i _ => n - (intOf i).toNat)
  case atStart => exact ⟨0, Nat.zero_le _, rfl, fun j h => absurd h (by omega), (by repeat' first | with_reducible exact Below.refl _ _ | with_reducible assumption | with_reducible refine below_drewN ?_ _ | with_reducible refine balloc ?_ _ | with_reducible refine Below.drew ?_ | with_reducible refine Below.setCell ?_ (by first | (simp; done) | (simp; omega) | omega) _ | with_reducible refine bstep ?_ (by assumption))⟩
  case round =>
    obtain ⟨k, hk, rfl, hpre, hbel⟩ := hrel
    have HP := hide hpre
    have HC := hide hc
    have HC' := hide hc'
    have HB := hide hbel
    by_cases hlt : k < n
    · have z1 : wr.cell? ⟨b, off + k * 2, none⟩ = some (.int .i64 (f k)) := (hbel.cell (p := ⟨b, off + k * 2, none⟩) hb).trans (hc k hlt).1
      have z2 : wr.cell? ⟨b, off + k * 2 + 1, none⟩ = some (.int .i64 (g k)) := (hbel.cell (p := ⟨b, off + k * 2 + 1, none⟩) hb).trans (hc k hlt).2
      have z3 : wr.cell? ⟨b', off' + k * 2, none⟩ = some (.int .i64 (f' k)) := (hbel.cell (p := ⟨b', off' + k * 2, none⟩) hb').trans (hc' k hlt).1
      have z4 : wr.cell? ⟨b', off' + k * 2 + 1, none⟩ = some (.int .i64 (g' k)) := (hbel.cell (p := ⟨b', off' + k * 2 + 1, none⟩) hb').trans (hc' k hlt).2
      have hlt' : (k : Int) < (n : Int) := by omega
      have l1 : b < wr.heap.size := Nat.lt_of_lt_of_le hb hbel.size
      have l2 : b' < wr.heap.size := Nat.lt_of_lt_of_le hb' hbel.size
      have R := hide (eqRange_any (f k) (g k) (f' k) (g' k))
      clear hpre hbel hc hc'
      obtain ⟨v, hv⟩ : ∃ v, (decide (f k = f' k) && decide (g k = g' k)) = v := ⟨_, rfl⟩
      have HE := hide hv
      rw [hv] at R
      clear hv
      go_upto_region 6 with fail
      go_region_held3 (fun w' => w'.cell? ⟨b, off + k * 2, none⟩ = some (.int .i64 (f k)) ∧ w'.cell? ⟨b, off + k * 2 + 1, none⟩ = some (.int .i64 (g k)) ∧ w'.cell? ⟨b', off' + k * 2, none⟩ = some (.int .i64 (f' k)) ∧ w'.cell? ⟨b', off' + k * 2 + 1, none⟩ = some (.int .i64 (g' k))) (refine ⟨?_, ?_, ?_, ?_⟩ <;> first | assumption | (simp [go_sem]; done)) ((go_at_call 22; refine (R.out _).mono ?_; rintro e wn ⟨rfl, hbn⟩; have s1 := (hbn.cell (p := ⟨b, off + k * 2, none⟩) l1).trans z1; have s2 := (hbn.cell (p := ⟨b, off + k * 2 + 1, none⟩) l1).trans z2; have s3 := (hbn.cell (p := ⟨b', off' + k * 2, none⟩) l2).trans z3; have s4 := (hbn.cell (p := ⟨b', off' + k * 2 + 1, none⟩) l2).trans z4))
      all_goals
        cases v
        · go_wp2_with fail
          go_ret
          refine ⟨by rw [show sameB n f g f' g' = false from allN_no hlt HE.out]; rfl, ?_⟩
          have hbel := HB.out
          exact (by repeat' first | with_reducible exact Below.refl _ _ | with_reducible assumption | with_reducible refine below_drewN ?_ _ | with_reducible refine balloc ?_ _ | with_reducible refine Below.drew ?_ | with_reducible refine Below.setCell ?_ (by first | (simp; done) | (simp; omega) | omega) _ | with_reducible refine bstep ?_ (by assumption))
        · go_wp2_with fail
          go_roundw
          case rel =>
            have hbel := HB.out
            exact ⟨k + 1, by omega, by go_num, fun j hj => (by rcases Nat.lt_succ_iff_lt_or_eq.1 hj with h | h; exact HP.out j h; rw [h]; exact HE.out), (by repeat' first | with_reducible exact Below.refl _ _ | with_reducible assumption | with_reducible refine below_drewN ?_ _ | with_reducible refine balloc ?_ _ | with_reducible refine Below.drew ?_ | with_reducible refine Below.setCell ?_ (by first | (simp; done) | (simp; omega) | omega) _ | with_reducible refine bstep ?_ (by assumption))⟩
          case measure => simp [intOf]; omega
    · clear hpre hbel hc hc'
      go_wp2
      go_ret
      exact ⟨by rw [show sameB n f g f' g' = true from allN_yes fun j hj => HP.out j (by omega)]; rfl, HB.out⟩

set_option maxHeartbeats 400000 in
theorem eqRangeS_len (a a' : Option Addr) (n cap n' cap' : Nat) (w : World) (h : ¬ n = n') :
    Calls Try.prog 10 #[.slice a n cap, .slice a' n' cap'] w fun e w' => e = .returned (.bool false) ∧ Below w.heap.size w w' := by
  have hne : ((n : Int) != (n' : Int)) = true := by rw [bne_iff_ne]; omega
  go_enter Try.func10, Try.ntmps10
  go_wp2
  go_ret
  exact ⟨rfl, (by repeat' first | with_reducible exact Below.refl _ _ | with_reducible assumption | with_reducible refine below_drewN ?_ _ | with_reducible refine balloc ?_ _ | with_reducible refine Below.drew ?_ | with_reducible refine Below.setCell ?_ (by first | (simp; done) | (simp; omega) | omega) _ | with_reducible refine bstep ?_ (by assumption))⟩

set_option maxHeartbeats 400000 in
theorem eqRangeS_none (a a' : Option Addr) (n cap cap' : Nat) (w : World) (hn : n < 1) :
    Calls Try.prog 10 #[.slice a n cap, .slice a' n cap'] w fun e w' => e = .returned (.bool true) ∧ Below w.heap.size w w' := by
  go_enter Try.func10, Try.ntmps10
  go_wp2
  refine wp_loop_rounds 1 ?_
  rw [rounds_succ]
  go_wp2
  go_ret
  exact ⟨rfl, (by repeat' first | with_reducible exact Below.refl _ _ | with_reducible assumption | with_reducible refine below_drewN ?_ _ | with_reducible refine balloc ?_ _ | with_reducible refine Below.drew ?_ | with_reducible refine Below.setCell ?_ (by first | (simp; done) | (simp; omega) | omega) _ | with_reducible refine bstep ?_ (by assumption))⟩

theorem eqRangeS_any (a a' : Option Addr) (n cap n' cap' : Nat) (f g f' g' : Nat → Int) (w : World) (h : PRow w a n f g) (h' : PRow w a' n' f' g') (hn : n ≤ 1048576) :
    Calls Try.prog 10 #[.slice a n cap, .slice a' n' cap'] w fun e w' => e = .returned (.bool (decide (n = n') && sameB n f g f' g')) ∧ Below w.heap.size w w' := by
  by_cases e : n = n'
  · subst e
    rw [decide_eq_true rfl, Bool.true_and]
    by_cases h0 : n = 0
    · rw [show sameB n f g f' g' = true from allN_yes fun i hi => absurd hi (by omega)]
      exact eqRangeS_none a a' n cap cap' w (by omega)
    · rcases h.lies with q | ⟨b, off, rfl, lt, hc⟩
      · omega
      · rcases h'.lies with q | ⟨b', off', rfl, lt', hc'⟩
        · omega
        · exact eqRangeS_some b off n cap b' off' cap' f g f' g' w hn lt lt' hc hc'
  · rw [decide_eq_false e, Bool.false_and]
    exact eqRangeS_len a a' n cap n' cap' w e

/-- Two slices of the same ranges. -/
theorem eqRangeS_self (a a' : Option Addr) (n cap cap' : Nat) (f g : Nat → Int) (w : World) (h : PRow w a n f g) (h' : PRow w a' n f g) (hn : n ≤ 1048576) :
    Calls Try.prog 10 #[.slice a n cap, .slice a' n cap'] w fun e w' => e = .returned (.bool true) ∧ Below w.heap.size w w' := by
  have := eqRangeS_any a a' n cap n cap' f g f g w h h' hn
  rwa [sameB_self, decide_eq_true rfl] at this
end Go.Proofs.Ythiklcldbjmgfaa
