/- ItemsOk of the program. -/
import Derived.Test.YthhgflclljaakaaZ11
import Derived.BigQuiet
import Derived.Deep.QuietTactic
import Derived.Test.YthhgflclljaakaaZ1
import Derived.Deep.RegionHeld3
import Derived.Deep.Slices
namespace Go.Proofs.Ythhgflclljaakaa
open Go.RowKit
set_option maxRecDepth 8000
set_option linter.unusedSimpArgs false
set_option linter.unusedVariables false

/-- What a look at one item reads: its box, and the id of the one ahead. -/
structure IW (w : World) (b o1 q : Nat) (x : It) (y : Int) (a : Option Addr) (n c : Nat) : Prop where
  l : b < w.heap.size
  t : Tri w q (.int .i64 x.id) (.int .i64 x.tags) (.slice a n c)
  r : Row w a n x.vec
  d0 : w.cell? ⟨b, o1, none⟩ = some (.int .i64 y)

theorem IW.below {w w' : World} {b o1 q : Nat} {x : It} {y : Int} {a : Option Addr} {n c : Nat} (h : IW w b o1 q x y a n c) (hb : Below w.heap.size w w') : IW w' b o1 q x y a n c :=
  ⟨Nat.lt_of_lt_of_le h.l hb.size, h.t.below hb, h.r.below hb, (hb.cell (p := ⟨b, o1, none⟩) h.l).trans h.d0⟩

theorem IW.drew {w : World} {b o1 q : Nat} {x : It} {y : Int} {a : Option Addr} {n c : Nat} (h : IW w b o1 q x y a n c) : IW w.drew b o1 q x y a n c :=
  ⟨h.l, h.t.drew, ⟨h.r.len, h.r.lies⟩, h.d0⟩

theorem IW.new {w : World} {b o1 : Nat} {x : It} {y : Int} {a : Option Addr} {n c : Nat} (T : TypeId) (l : b < w.heap.size) (r : Row w a n x.vec) (d0 : w.cell? ⟨b, o1, none⟩ = some (.int .i64 y)) : IW (w.alloc (.cells #[.int .i64 x.id, .int .i64 x.tags, .slice a n c] T)) b o1 w.heap.size x y a n c :=
  have hb := balloc (Below.refl _ w) (.cells #[.int .i64 x.id, .int .i64 x.tags, .slice a n c] T)
  ⟨Nat.lt_of_lt_of_le l hb.size, Tri.new w _ _ _ T, r.below hb, (hb.cell (p := ⟨b, o1, none⟩) l).trans d0⟩

set_option maxRecDepth 4000 in
set_option maxHeartbeats 4000000 in
theorem iItemsOk_some (dim : Int) (b off n cap : Nat) (L : IL) (w : World) (hd1 : 1 ≤ dim) (hd8 : dim ≤ 8) (hn : n ≤ 60) (hv : ∀ i, i < n → (L i).vec.length ≤ 1048576) (hb : b < w.heap.size) (hc : ∀ i, i < n → IAt w b (off + i * 3) (L i)) :
    Calls Try.prog 45 #[.int .i64 dim, .slice (some ⟨b, off, none⟩) n cap] w fun e w' => e = .returned (.bool (allN n (okI dim L))) ∧ Below w.heap.size w w' := by
  have HC := hide hc
  have HV := hide hv
  clear hc hv
  go_enter Try.func45, Try.ntmps45
  go_wp2_with fail
  go_loopw [20] (fun i wr => ∃ k : Nat, k ≤ n ∧ i = .int .i64 k ∧ (∀ j, j < k → okI dim L j = true) ∧ Below w.heap.size w wr) (fun i _ => n - (intOf i).toNat)
  case atStart => exact ⟨0, Nat.zero_le _, rfl, fun j h => absurd h (by omega), (by repeat' first | with_reducible exact Below.refl _ _ | with_reducible assumption | with_reducible refine below_drewN ?_ _ | with_reducible refine balloc ?_ _ | with_reducible refine Below.drew ?_ | with_reducible refine Below.setCell ?_ (by first | (simp; done) | (simp; omega) | omega) _ | with_reducible refine bstep ?_ (by assumption))⟩
  case round =>
    obtain ⟨k, hk, rfl, hpre, hbel⟩ := hrel
    have HP := hide hpre
    have HB := hide hbel
    by_cases hlt : k < n
    · obtain ⟨c0, c1, va, vn, vc, c2, vr⟩ := (HC.out k hlt).below hb hbel
      have R := hide (fun w1 {y : Int} {o1 q : Nat} (t : IW w1 b o1 q (L k) y va vn vc) => fits_any dim (L k) va vn vc w1 t.r (by rw [← vr.len]; exact HV.out k hlt))
      have hlt' : (k : Int) < (n : Int) := by omega
      have hl1 : b < wr.heap.size := Nat.lt_of_lt_of_le hb hbel.size
      cases hit : itemB dim (L k)
      · have hno : allN n (okI dim L) = false := allN_no hlt (okI_no1 hit)
        have HN := hide hno
        have T := hide (IW.new (c := vc) 37 hl1 vr c0)
        simp only [hit] at R
        clear hbel hpre vr hno hit
        go_upto_region 6 with fail
        clear c0 c1 c2
        refine wp_region_held_drew (S := fun wx => IW wx b (off + k * 3) wr.heap.size (L k) (L k).id va vn vc) (by kernel_rfl) (T.out.drew) (fun hH0 => ?_)
        refine wpAnyH_take (i := 0) (oi := { dst := some 25, op := _, type := _, pos := _, after := _, guard := _ }) (v := ?_) rfl (by kernel_rfl) (by kernel_rfl) (by kernel_rfl) (fun _ _ _ h => h) (Or.inl ⟨by rfl, ?_⟩) (hH0) ?_
        rotate_left
        · (intro wx hSw; obtain ⟨l0, ⟨_, q0, q1, q2, _, _, _⟩, r0, q3⟩ := hSw; go_simp <;> with_reducible rfl)
        simp only [Act.put, List.setIfInBounds_toArray, List.set_cons_zero, List.set_cons_succ]
        refine wpAnyH_take (i := 1) (oi := { dst := some 26, op := _, type := _, pos := _, after := _, guard := _ }) (v := ?_) rfl (by kernel_rfl) (by kernel_rfl) (by kernel_rfl) (fun _ _ _ h => h) (Or.inl ⟨by rfl, ?_⟩) (hH0) ?_
        rotate_left
        · (intro wx hSw; obtain ⟨l0, ⟨_, q0, q1, q2, _, _, _⟩, r0, q3⟩ := hSw; go_simp <;> with_reducible rfl)
        simp only [Act.put, List.setIfInBounds_toArray, List.set_cons_zero, List.set_cons_succ]
        refine wpAnyH_ready (rs := [2]) (by kernel_rfl) (by simp) ?_
        refine AllReadyH.cons (o := { dst := some 27, op := _, type := _, pos := _, after := _, guard := _ }) rfl (fun K hK => ?_) AllReadyH.nil
        go_simp
        refine (R.out _ hH0).mono ?_
        rintro e w_c27_1 ⟨rfl, hb_c27_1⟩
        dsimp only
        refine hK.out _ _ (IW.below hH0 hb_c27_1) (fun hH1 => ?_)
        clear hK K
        refine wpAnyH_take (i := 3) (oi := { dst := some 28, op := _, type := _, pos := _, after := _, guard := _ }) (v := ?_) rfl (by kernel_rfl) (by kernel_rfl) (by kernel_rfl) (fun _ _ _ h => h) (Or.inl ⟨by rfl, ?_⟩) (hH1) ?_
        rotate_left
        · (intro wx hSw; obtain ⟨l0, ⟨_, q0, q1, q2, _, _, _⟩, r0, q3⟩ := hSw; go_simp <;> with_reducible rfl)
        simp only [Act.put, List.setIfInBounds_toArray, List.set_cons_zero, List.set_cons_succ]
        refine wpAnyH_take (i := 4) (oi := { dst := some 29, op := _, type := _, pos := _, after := _, guard := _ }) (v := ?_) rfl (by kernel_rfl) (by kernel_rfl) (by kernel_rfl) (fun _ _ _ h => h) (Or.inl ⟨by rfl, ?_⟩) (hH1) ?_
        rotate_left
        · (intro wx hSw; obtain ⟨l0, ⟨_, q0, q1, q2, _, _, _⟩, r0, q3⟩ := hSw; go_simp <;> with_reducible rfl)
        simp only [Act.put, List.setIfInBounds_toArray, List.set_cons_zero, List.set_cons_succ]
        refine wpAnyH_take (i := 5) (oi := { dst := some 30, op := _, type := _, pos := _, after := _, guard := _ }) (v := _) rfl (by kernel_rfl) (by kernel_rfl) (by kernel_rfl) (fun _ _ _ h => h) (Or.inr ⟨by rfl, rfl⟩) (hH1) ?_
        simp only [Act.put, List.setIfInBounds_toArray, List.set_cons_zero, List.set_cons_succ]
        refine wpAnyH_take (i := 6) (oi := { dst := some 31, op := _, type := _, pos := _, after := _, guard := _ }) (v := _) rfl (by kernel_rfl) (by kernel_rfl) (by kernel_rfl) (fun _ _ _ h => h) (Or.inr ⟨by rfl, rfl⟩) (hH1) ?_
        simp only [Act.put, List.setIfInBounds_toArray, List.set_cons_zero, List.set_cons_succ]
        refine wpAnyH_take (i := 7) (oi := { dst := some 32, op := _, type := _, pos := _, after := _, guard := _ }) (v := _) rfl (by kernel_rfl) (by kernel_rfl) (by kernel_rfl) (fun _ _ _ h => h) (Or.inr ⟨by rfl, rfl⟩) (hH1) ?_
        simp only [Act.put, List.setIfInBounds_toArray, List.set_cons_zero, List.set_cons_succ]
        refine wpAnyH_take (i := 8) (oi := { dst := some 33, op := _, type := _, pos := _, after := _, guard := _ }) (v := _) rfl (by kernel_rfl) (by kernel_rfl) (by kernel_rfl) (fun _ _ _ h => h) (Or.inr ⟨by rfl, rfl⟩) (hH1) ?_
        simp only [Act.put, List.setIfInBounds_toArray, List.set_cons_zero, List.set_cons_succ]
        refine wpAnyH_take (i := 9) (oi := { dst := some 34, op := _, type := _, pos := _, after := _, guard := _ }) (v := _) rfl (by kernel_rfl) (by kernel_rfl) (by kernel_rfl) (fun _ _ _ h => h) (Or.inr ⟨by rfl, rfl⟩) (hH1) ?_
        simp only [Act.put, List.setIfInBounds_toArray, List.set_cons_zero, List.set_cons_succ]
        refine wpAnyH_take (i := 10) (oi := { dst := some 35, op := _, type := _, pos := _, after := _, guard := _ }) (v := _) rfl (by kernel_rfl) (by kernel_rfl) (by kernel_rfl) (fun _ _ _ h => h) (Or.inr ⟨by rfl, rfl⟩) (hH1) ?_
        simp only [Act.put, List.setIfInBounds_toArray, List.set_cons_zero, List.set_cons_succ]
        refine wpAnyH_take (i := 11) (oi := { dst := some 36, op := _, type := _, pos := _, after := _, guard := _ }) (v := _) rfl (by kernel_rfl) (by kernel_rfl) (by kernel_rfl) (fun _ _ _ h => h) (Or.inr ⟨by rfl, rfl⟩) (hH1) ?_
        simp only [Act.put, List.setIfInBounds_toArray, List.set_cons_zero, List.set_cons_succ]
        refine wpAnyH_take (i := 12) (oi := { dst := some 37, op := _, type := _, pos := _, after := _, guard := _ }) (v := _) rfl (by kernel_rfl) (by kernel_rfl) (by kernel_rfl) (fun _ _ _ h => h) (Or.inr ⟨by rfl, rfl⟩) (hH1) ?_
        simp only [Act.put, List.setIfInBounds_toArray, List.set_cons_zero, List.set_cons_succ]
        refine wpAnyH_take (i := 13) (oi := { dst := some 38, op := _, type := _, pos := _, after := _, guard := _ }) (v := _) rfl (by kernel_rfl) (by kernel_rfl) (by kernel_rfl) (fun _ _ _ h => h) (Or.inr ⟨by rfl, rfl⟩) (hH1) ?_
        simp only [Act.put, List.setIfInBounds_toArray, List.set_cons_zero, List.set_cons_succ]
        refine wpAnyH_take (i := 14) (oi := { dst := some 39, op := _, type := _, pos := _, after := _, guard := _ }) (v := _) rfl (by kernel_rfl) (by kernel_rfl) (by kernel_rfl) (fun _ _ _ h => h) (Or.inr ⟨by rfl, rfl⟩) (hH1) ?_
        simp only [Act.put, List.setIfInBounds_toArray, List.set_cons_zero, List.set_cons_succ]
        refine wpAnyH_take (i := 15) (oi := { dst := some 40, op := _, type := _, pos := _, after := _, guard := _ }) (v := _) rfl (by kernel_rfl) (by kernel_rfl) (by kernel_rfl) (fun _ _ _ h => h) (Or.inr ⟨by rfl, rfl⟩) (hH1) ?_
        simp only [Act.put, List.setIfInBounds_toArray, List.set_cons_zero, List.set_cons_succ]
        refine wpAnyH_take (i := 16) (oi := { dst := some 41, op := _, type := _, pos := _, after := _, guard := _ }) (v := _) rfl (by kernel_rfl) (by kernel_rfl) (by kernel_rfl) (fun _ _ _ h => h) (Or.inr ⟨by rfl, rfl⟩) (hH1) ?_
        simp only [Act.put, List.setIfInBounds_toArray, List.set_cons_zero, List.set_cons_succ]
        refine wpAnyH_take (i := 17) (oi := { dst := some 42, op := _, type := _, pos := _, after := _, guard := _ }) (v := _) rfl (by kernel_rfl) (by kernel_rfl) (by kernel_rfl) (fun _ _ _ h => h) (Or.inr ⟨by rfl, rfl⟩) (hH1) ?_
        simp only [Act.put, List.setIfInBounds_toArray, List.set_cons_zero, List.set_cons_succ]
        refine wpAnyH_take (i := 18) (oi := { dst := some 43, op := _, type := _, pos := _, after := _, guard := _ }) (v := ?_) rfl (by kernel_rfl) (by kernel_rfl) (by kernel_rfl) (fun _ _ _ h => h) (Or.inl ⟨by rfl, ?_⟩) (hH1) ?_
        rotate_left
        · (intro wx hSw; obtain ⟨l0, ⟨_, q0, q1, q2, _, _, _⟩, r0, q3⟩ := hSw; go_simp <;> with_reducible rfl)
        simp only [Act.put, List.setIfInBounds_toArray, List.set_cons_zero, List.set_cons_succ]
        refine wpAnyH_done (by kernel_rfl) ?_ _
        -- behind it: go_wp2_with fail, then go_meet (a cut) or go_ret; the condition at the end: hH1
        go_wp2_with fail
        go_ret
        have hbel := HB.out
        exact ⟨by rw [HN.out]; rfl, (by repeat' first | with_reducible exact Below.refl _ _ | with_reducible assumption | with_reducible refine below_drewN ?_ _ | with_reducible refine balloc ?_ _ | with_reducible refine Below.drew ?_ | with_reducible refine Below.setCell ?_ (by first | (simp; done) | (simp; omega) | omega) _ | with_reducible refine bstep ?_ (by assumption))⟩
      · simp only [hit] at R
        by_cases hk0 : k = 0
        · have HK := hide (show okI dim L k = true by rw [hk0] at hit ⊢; exact okI_0 hit)
          have T := hide (IW.new (c := vc) 37 hl1 vr c0)
          have hz : decide (0 < k) = false := decide_eq_false (by omega)
          have HK0 := hide hk0
          clear hbel hpre vr hit hk0
          go_upto_region 6 with fail
          clear c0 c1 c2
          refine wp_region_held_drew (S := fun wx => IW wx b (off + k * 3) wr.heap.size (L k) (L k).id va vn vc) (by kernel_rfl) (T.out.drew) (fun hH0 => ?_)
          refine wpAnyH_take (i := 0) (oi := { dst := some 25, op := _, type := _, pos := _, after := _, guard := _ }) (v := ?_) rfl (by kernel_rfl) (by kernel_rfl) (by kernel_rfl) (fun _ _ _ h => h) (Or.inl ⟨by rfl, ?_⟩) (hH0) ?_
          rotate_left
          · (intro wx hSw; obtain ⟨l0, ⟨_, q0, q1, q2, _, _, _⟩, r0, q3⟩ := hSw; go_simp <;> with_reducible rfl)
          simp only [Act.put, List.setIfInBounds_toArray, List.set_cons_zero, List.set_cons_succ]
          refine wpAnyH_take (i := 1) (oi := { dst := some 26, op := _, type := _, pos := _, after := _, guard := _ }) (v := ?_) rfl (by kernel_rfl) (by kernel_rfl) (by kernel_rfl) (fun _ _ _ h => h) (Or.inl ⟨by rfl, ?_⟩) (hH0) ?_
          rotate_left
          · (intro wx hSw; obtain ⟨l0, ⟨_, q0, q1, q2, _, _, _⟩, r0, q3⟩ := hSw; go_simp <;> with_reducible rfl)
          simp only [Act.put, List.setIfInBounds_toArray, List.set_cons_zero, List.set_cons_succ]
          refine wpAnyH_ready (rs := [2]) (by kernel_rfl) (by simp) ?_
          refine AllReadyH.cons (o := { dst := some 27, op := _, type := _, pos := _, after := _, guard := _ }) rfl (fun K hK => ?_) AllReadyH.nil
          go_simp
          refine (R.out _ hH0).mono ?_
          rintro e w_c27_1 ⟨rfl, hb_c27_1⟩
          dsimp only
          refine hK.out _ _ (IW.below hH0 hb_c27_1) (fun hH1 => ?_)
          clear hK K
          refine wpAnyH_take (i := 3) (oi := { dst := some 28, op := _, type := _, pos := _, after := _, guard := _ }) (v := ?_) rfl (by kernel_rfl) (by kernel_rfl) (by kernel_rfl) (fun _ _ _ h => h) (Or.inl ⟨by rfl, ?_⟩) (hH1) ?_
          rotate_left
          · (intro wx hSw; obtain ⟨l0, ⟨_, q0, q1, q2, _, _, _⟩, r0, q3⟩ := hSw; go_simp <;> with_reducible rfl)
          simp only [Act.put, List.setIfInBounds_toArray, List.set_cons_zero, List.set_cons_succ]
          refine wpAnyH_take (i := 4) (oi := { dst := some 29, op := _, type := _, pos := _, after := _, guard := _ }) (v := ?_) rfl (by kernel_rfl) (by kernel_rfl) (by kernel_rfl) (fun _ _ _ h => h) (Or.inl ⟨by rfl, ?_⟩) (hH1) ?_
          rotate_left
          · (intro wx hSw; obtain ⟨l0, ⟨_, q0, q1, q2, _, _, _⟩, r0, q3⟩ := hSw; go_simp <;> with_reducible rfl)
          simp only [Act.put, List.setIfInBounds_toArray, List.set_cons_zero, List.set_cons_succ]
          refine wpAnyH_take (i := 5) (oi := { dst := some 30, op := _, type := _, pos := _, after := _, guard := _ }) (v := ?_) rfl (by kernel_rfl) (by kernel_rfl) (by kernel_rfl) (fun _ _ _ h => h) (Or.inl ⟨by rfl, ?_⟩) (hH1) ?_
          rotate_left
          · (intro wx hSw; obtain ⟨l0, ⟨_, q0, q1, q2, _, _, _⟩, r0, q3⟩ := hSw; go_simp <;> with_reducible rfl)
          simp only [Act.put, List.setIfInBounds_toArray, List.set_cons_zero, List.set_cons_succ]
          refine wpAnyH_take (i := 6) (oi := { dst := some 31, op := _, type := _, pos := _, after := _, guard := _ }) (v := ?_) rfl (by kernel_rfl) (by kernel_rfl) (by kernel_rfl) (fun _ _ _ h => h) (Or.inl ⟨by rfl, ?_⟩) (hH1) ?_
          rotate_left
          · (intro wx hSw; obtain ⟨l0, ⟨_, q0, q1, q2, _, _, _⟩, r0, q3⟩ := hSw; go_simp <;> with_reducible rfl)
          simp only [Act.put, List.setIfInBounds_toArray, List.set_cons_zero, List.set_cons_succ]
          refine wpAnyH_take (i := 7) (oi := { dst := some 32, op := _, type := _, pos := _, after := _, guard := _ }) (v := ?_) rfl (by kernel_rfl) (by kernel_rfl) (by kernel_rfl) (fun _ _ _ h => h) (Or.inl ⟨by rfl, ?_⟩) (hH1) ?_
          rotate_left
          · (intro wx hSw; obtain ⟨l0, ⟨_, q0, q1, q2, _, _, _⟩, r0, q3⟩ := hSw; go_simp <;> with_reducible rfl)
          simp only [Act.put, List.setIfInBounds_toArray, List.set_cons_zero, List.set_cons_succ]
          refine wpAnyH_take (i := 8) (oi := { dst := some 33, op := _, type := _, pos := _, after := _, guard := _ }) (v := _) rfl (by kernel_rfl) (by kernel_rfl) (by kernel_rfl) (fun _ _ _ h => h) (Or.inr ⟨by rfl, rfl⟩) (hH1) ?_
          simp only [Act.put, List.setIfInBounds_toArray, List.set_cons_zero, List.set_cons_succ]
          refine wpAnyH_take (i := 9) (oi := { dst := some 34, op := _, type := _, pos := _, after := _, guard := _ }) (v := _) rfl (by kernel_rfl) (by kernel_rfl) (by kernel_rfl) (fun _ _ _ h => h) (Or.inr ⟨by rfl, rfl⟩) (hH1) ?_
          simp only [Act.put, List.setIfInBounds_toArray, List.set_cons_zero, List.set_cons_succ]
          refine wpAnyH_take (i := 10) (oi := { dst := some 35, op := _, type := _, pos := _, after := _, guard := _ }) (v := _) rfl (by kernel_rfl) (by kernel_rfl) (by kernel_rfl) (fun _ _ _ h => h) (Or.inr ⟨by rfl, rfl⟩) (hH1) ?_
          simp only [Act.put, List.setIfInBounds_toArray, List.set_cons_zero, List.set_cons_succ]
          refine wpAnyH_take (i := 11) (oi := { dst := some 36, op := _, type := _, pos := _, after := _, guard := _ }) (v := _) rfl (by kernel_rfl) (by kernel_rfl) (by kernel_rfl) (fun _ _ _ h => h) (Or.inr ⟨by rfl, rfl⟩) (hH1) ?_
          simp only [Act.put, List.setIfInBounds_toArray, List.set_cons_zero, List.set_cons_succ]
          refine wpAnyH_take (i := 12) (oi := { dst := some 37, op := _, type := _, pos := _, after := _, guard := _ }) (v := _) rfl (by kernel_rfl) (by kernel_rfl) (by kernel_rfl) (fun _ _ _ h => h) (Or.inr ⟨by rfl, rfl⟩) (hH1) ?_
          simp only [Act.put, List.setIfInBounds_toArray, List.set_cons_zero, List.set_cons_succ]
          refine wpAnyH_take (i := 13) (oi := { dst := some 38, op := _, type := _, pos := _, after := _, guard := _ }) (v := _) rfl (by kernel_rfl) (by kernel_rfl) (by kernel_rfl) (fun _ _ _ h => h) (Or.inr ⟨by rfl, rfl⟩) (hH1) ?_
          simp only [Act.put, List.setIfInBounds_toArray, List.set_cons_zero, List.set_cons_succ]
          refine wpAnyH_take (i := 14) (oi := { dst := some 39, op := _, type := _, pos := _, after := _, guard := _ }) (v := _) rfl (by kernel_rfl) (by kernel_rfl) (by kernel_rfl) (fun _ _ _ h => h) (Or.inr ⟨by rfl, rfl⟩) (hH1) ?_
          simp only [Act.put, List.setIfInBounds_toArray, List.set_cons_zero, List.set_cons_succ]
          refine wpAnyH_take (i := 15) (oi := { dst := some 40, op := _, type := _, pos := _, after := _, guard := _ }) (v := _) rfl (by kernel_rfl) (by kernel_rfl) (by kernel_rfl) (fun _ _ _ h => h) (Or.inr ⟨by rfl, rfl⟩) (hH1) ?_
          simp only [Act.put, List.setIfInBounds_toArray, List.set_cons_zero, List.set_cons_succ]
          refine wpAnyH_take (i := 16) (oi := { dst := some 41, op := _, type := _, pos := _, after := _, guard := _ }) (v := _) rfl (by kernel_rfl) (by kernel_rfl) (by kernel_rfl) (fun _ _ _ h => h) (Or.inr ⟨by rfl, rfl⟩) (hH1) ?_
          simp only [Act.put, List.setIfInBounds_toArray, List.set_cons_zero, List.set_cons_succ]
          refine wpAnyH_take (i := 17) (oi := { dst := some 42, op := _, type := _, pos := _, after := _, guard := _ }) (v := ?_) rfl (by kernel_rfl) (by kernel_rfl) (by kernel_rfl) (fun _ _ _ h => h) (Or.inl ⟨by rfl, ?_⟩) (hH1) ?_
          rotate_left
          · (intro wx hSw; obtain ⟨l0, ⟨_, q0, q1, q2, _, _, _⟩, r0, q3⟩ := hSw; go_simp <;> with_reducible rfl)
          simp only [Act.put, List.setIfInBounds_toArray, List.set_cons_zero, List.set_cons_succ]
          refine wpAnyH_take (i := 18) (oi := { dst := some 43, op := _, type := _, pos := _, after := _, guard := _ }) (v := ?_) rfl (by kernel_rfl) (by kernel_rfl) (by kernel_rfl) (fun _ _ _ h => h) (Or.inl ⟨by rfl, ?_⟩) (hH1) ?_
          rotate_left
          · (intro wx hSw; obtain ⟨l0, ⟨_, q0, q1, q2, _, _, _⟩, r0, q3⟩ := hSw; go_simp <;> with_reducible rfl)
          simp only [Act.put, List.setIfInBounds_toArray, List.set_cons_zero, List.set_cons_succ]
          refine wpAnyH_done (by kernel_rfl) ?_ _
          -- behind it: go_wp2_with fail, then go_meet (a cut) or go_ret; the condition at the end: hH1
          go_wp2_with fail
          go_roundw
          case rel =>
            have hbel := HB.out
            exact ⟨k + 1, by omega, by go_num, fun j hj => (by rcases Nat.lt_succ_iff_lt_or_eq.1 hj with h | h; exact HP.out j h; rw [h]; exact HK.out), (by repeat' first | with_reducible exact Below.refl _ _ | with_reducible assumption | with_reducible refine below_drewN ?_ _ | with_reducible refine balloc ?_ _ | with_reducible refine Below.drew ?_ | with_reducible refine Below.setCell ?_ (by first | (simp; done) | (simp; omega) | omega) _ | with_reducible refine bstep ?_ (by assumption))⟩
          case measure => simp [intOf]; omega
        · obtain ⟨p, rfl⟩ : ∃ p, k = p + 1 := ⟨k - 1, by omega⟩
          obtain ⟨d, hd⟩ : ∃ d, decide ((L (p + 1)).id ≤ (L p).id) = d := ⟨_, rfl⟩
          have HK := hide (okI_s hit hd)
          have d0 := ((HC.out p (by omega)).below hb hbel).c0
          have T := hide (IW.new (c := vc) 37 hl1 vr d0)
          have hq : IntKind.i64.wrap (((p + 1 : Nat) : Int) - 1) = (p : Int) := by rw [wrapIn _ (by omega) (by omega)]; omega
          have hpi : (p : Int) < (n : Int) := by omega
          have hz : decide (0 < p + 1) = true := decide_eq_true (by omega)
          obtain ⟨k, hkk⟩ : ∃ k, p + 1 = k := ⟨_, rfl⟩
          rw [hkk] at hk HP hlt hlt' R HK T hq hz hd c0 c1 c2 ⊢
          have HKK := hide hkk
          clear hbel hpre vr hit d0 hk0 hkk
          go_upto_region 6 with fail
          clear c0 c1 c2
          refine wp_region_held_drew (S := fun wx => IW wx b (off + p * 3) wr.heap.size (L k) (L p).id va vn vc) (by kernel_rfl) (T.out.drew) (fun hH0 => ?_)
          refine wpAnyH_take (i := 0) (oi := { dst := some 25, op := _, type := _, pos := _, after := _, guard := _ }) (v := ?_) rfl (by kernel_rfl) (by kernel_rfl) (by kernel_rfl) (fun _ _ _ h => h) (Or.inl ⟨by rfl, ?_⟩) (hH0) ?_
          rotate_left
          · (intro wx hSw; obtain ⟨l0, ⟨_, q0, q1, q2, _, _, _⟩, r0, q3⟩ := hSw; go_simp <;> with_reducible rfl)
          simp only [Act.put, List.setIfInBounds_toArray, List.set_cons_zero, List.set_cons_succ]
          refine wpAnyH_take (i := 1) (oi := { dst := some 26, op := _, type := _, pos := _, after := _, guard := _ }) (v := ?_) rfl (by kernel_rfl) (by kernel_rfl) (by kernel_rfl) (fun _ _ _ h => h) (Or.inl ⟨by rfl, ?_⟩) (hH0) ?_
          rotate_left
          · (intro wx hSw; obtain ⟨l0, ⟨_, q0, q1, q2, _, _, _⟩, r0, q3⟩ := hSw; go_simp <;> with_reducible rfl)
          simp only [Act.put, List.setIfInBounds_toArray, List.set_cons_zero, List.set_cons_succ]
          refine wpAnyH_ready (rs := [2]) (by kernel_rfl) (by simp) ?_
          refine AllReadyH.cons (o := { dst := some 27, op := _, type := _, pos := _, after := _, guard := _ }) rfl (fun K hK => ?_) AllReadyH.nil
          go_simp
          refine (R.out _ hH0).mono ?_
          rintro e w_c27_1 ⟨rfl, hb_c27_1⟩
          dsimp only
          refine hK.out _ _ (IW.below hH0 hb_c27_1) (fun hH1 => ?_)
          clear hK K
          refine wpAnyH_take (i := 3) (oi := { dst := some 28, op := _, type := _, pos := _, after := _, guard := _ }) (v := ?_) rfl (by kernel_rfl) (by kernel_rfl) (by kernel_rfl) (fun _ _ _ h => h) (Or.inl ⟨by rfl, ?_⟩) (hH1) ?_
          rotate_left
          · (intro wx hSw; obtain ⟨l0, ⟨_, q0, q1, q2, _, _, _⟩, r0, q3⟩ := hSw; go_simp <;> with_reducible rfl)
          simp only [Act.put, List.setIfInBounds_toArray, List.set_cons_zero, List.set_cons_succ]
          refine wpAnyH_take (i := 4) (oi := { dst := some 29, op := _, type := _, pos := _, after := _, guard := _ }) (v := ?_) rfl (by kernel_rfl) (by kernel_rfl) (by kernel_rfl) (fun _ _ _ h => h) (Or.inl ⟨by rfl, ?_⟩) (hH1) ?_
          rotate_left
          · (intro wx hSw; obtain ⟨l0, ⟨_, q0, q1, q2, _, _, _⟩, r0, q3⟩ := hSw; go_simp <;> with_reducible rfl)
          simp only [Act.put, List.setIfInBounds_toArray, List.set_cons_zero, List.set_cons_succ]
          refine wpAnyH_take (i := 5) (oi := { dst := some 30, op := _, type := _, pos := _, after := _, guard := _ }) (v := ?_) rfl (by kernel_rfl) (by kernel_rfl) (by kernel_rfl) (fun _ _ _ h => h) (Or.inl ⟨by rfl, ?_⟩) (hH1) ?_
          rotate_left
          · (intro wx hSw; obtain ⟨l0, ⟨_, q0, q1, q2, _, _, _⟩, r0, q3⟩ := hSw; go_simp <;> with_reducible rfl)
          simp only [Act.put, List.setIfInBounds_toArray, List.set_cons_zero, List.set_cons_succ]
          refine wpAnyH_take (i := 6) (oi := { dst := some 31, op := _, type := _, pos := _, after := _, guard := _ }) (v := ?_) rfl (by kernel_rfl) (by kernel_rfl) (by kernel_rfl) (fun _ _ _ h => h) (Or.inl ⟨by rfl, ?_⟩) (hH1) ?_
          rotate_left
          · (intro wx hSw; obtain ⟨l0, ⟨_, q0, q1, q2, _, _, _⟩, r0, q3⟩ := hSw; go_simp <;> with_reducible rfl)
          simp only [Act.put, List.setIfInBounds_toArray, List.set_cons_zero, List.set_cons_succ]
          refine wpAnyH_take (i := 7) (oi := { dst := some 32, op := _, type := _, pos := _, after := _, guard := _ }) (v := ?_) rfl (by kernel_rfl) (by kernel_rfl) (by kernel_rfl) (fun _ _ _ h => h) (Or.inl ⟨by rfl, ?_⟩) (hH1) ?_
          rotate_left
          · (intro wx hSw; obtain ⟨l0, ⟨_, q0, q1, q2, _, _, _⟩, r0, q3⟩ := hSw; go_simp <;> with_reducible rfl)
          simp only [Act.put, List.setIfInBounds_toArray, List.set_cons_zero, List.set_cons_succ]
          refine wpAnyH_take (i := 8) (oi := { dst := some 33, op := _, type := _, pos := _, after := _, guard := _ }) (v := ?_) rfl (by kernel_rfl) (by kernel_rfl) (by kernel_rfl) (fun _ _ _ h => h) (Or.inl ⟨by rfl, ?_⟩) (hH1) ?_
          rotate_left
          · (intro wx hSw; obtain ⟨l0, ⟨_, q0, q1, q2, _, _, _⟩, r0, q3⟩ := hSw; go_simp <;> with_reducible rfl)
          simp only [Act.put, List.setIfInBounds_toArray, List.set_cons_zero, List.set_cons_succ]
          refine wpAnyH_take (i := 9) (oi := { dst := some 34, op := _, type := _, pos := _, after := _, guard := _ }) (v := ?_) rfl (by kernel_rfl) (by kernel_rfl) (by kernel_rfl) (fun _ _ _ h => h) (Or.inl ⟨by rfl, ?_⟩) (hH1) ?_
          rotate_left
          · (intro wx hSw; obtain ⟨l0, ⟨_, q0, q1, q2, _, _, _⟩, r0, q3⟩ := hSw; go_simp <;> with_reducible rfl)
          simp only [Act.put, List.setIfInBounds_toArray, List.set_cons_zero, List.set_cons_succ]
          refine wpAnyH_take (i := 10) (oi := { dst := some 35, op := _, type := _, pos := _, after := _, guard := _ }) (v := ?_) rfl (by kernel_rfl) (by kernel_rfl) (by kernel_rfl) (fun _ _ _ h => h) (Or.inl ⟨by rfl, ?_⟩) (hH1) ?_
          rotate_left
          · (intro wx hSw; obtain ⟨l0, ⟨_, q0, q1, q2, _, _, _⟩, r0, q3⟩ := hSw; go_simp <;> with_reducible rfl)
          simp only [Act.put, List.setIfInBounds_toArray, List.set_cons_zero, List.set_cons_succ]
          refine wpAnyH_take (i := 11) (oi := { dst := some 36, op := _, type := _, pos := _, after := _, guard := _ }) (v := ?_) rfl (by kernel_rfl) (by kernel_rfl) (by kernel_rfl) (fun _ _ _ h => h) (Or.inl ⟨by rfl, ?_⟩) (hH1) ?_
          rotate_left
          · (intro wx hSw; obtain ⟨l0, ⟨_, q0, q1, q2, _, _, _⟩, r0, q3⟩ := hSw; go_simp <;> with_reducible rfl)
          simp only [Act.put, List.setIfInBounds_toArray, List.set_cons_zero, List.set_cons_succ]
          refine wpAnyH_take (i := 12) (oi := { dst := some 37, op := _, type := _, pos := _, after := _, guard := _ }) (v := ?_) rfl (by kernel_rfl) (by kernel_rfl) (by kernel_rfl) (fun _ _ _ h => h) (Or.inl ⟨by rfl, ?_⟩) (hH1) ?_
          rotate_left
          · (intro wx hSw; obtain ⟨l0, ⟨_, q0, q1, q2, _, _, _⟩, r0, q3⟩ := hSw; go_simp <;> with_reducible rfl)
          simp only [Act.put, List.setIfInBounds_toArray, List.set_cons_zero, List.set_cons_succ]
          refine wpAnyH_take (i := 13) (oi := { dst := some 38, op := _, type := _, pos := _, after := _, guard := _ }) (v := ?_) rfl (by kernel_rfl) (by kernel_rfl) (by kernel_rfl) (fun _ _ _ h => h) (Or.inl ⟨by rfl, ?_⟩) (hH1) ?_
          rotate_left
          · (intro wx hSw; obtain ⟨l0, ⟨_, q0, q1, q2, _, _, _⟩, r0, q3⟩ := hSw; go_simp <;> with_reducible rfl)
          simp only [Act.put, List.setIfInBounds_toArray, List.set_cons_zero, List.set_cons_succ]
          refine wpAnyH_take (i := 14) (oi := { dst := some 39, op := _, type := _, pos := _, after := _, guard := _ }) (v := ?_) rfl (by kernel_rfl) (by kernel_rfl) (by kernel_rfl) (fun _ _ _ h => h) (Or.inl ⟨by rfl, ?_⟩) (hH1) ?_
          rotate_left
          · (intro wx hSw; obtain ⟨l0, ⟨_, q0, q1, q2, _, _, _⟩, r0, q3⟩ := hSw; go_simp <;> with_reducible rfl)
          simp only [Act.put, List.setIfInBounds_toArray, List.set_cons_zero, List.set_cons_succ]
          refine wpAnyH_take (i := 15) (oi := { dst := some 40, op := _, type := _, pos := _, after := _, guard := _ }) (v := ?_) rfl (by kernel_rfl) (by kernel_rfl) (by kernel_rfl) (fun _ _ _ h => h) (Or.inl ⟨by rfl, ?_⟩) (hH1) ?_
          rotate_left
          · (intro wx hSw; obtain ⟨l0, ⟨_, q0, q1, q2, _, _, _⟩, r0, q3⟩ := hSw; go_simp <;> with_reducible rfl)
          simp only [Act.put, List.setIfInBounds_toArray, List.set_cons_zero, List.set_cons_succ]
          refine wpAnyH_take (i := 16) (oi := { dst := some 41, op := _, type := _, pos := _, after := _, guard := _ }) (v := ?_) rfl (by kernel_rfl) (by kernel_rfl) (by kernel_rfl) (fun _ _ _ h => h) (Or.inl ⟨by rfl, ?_⟩) (hH1) ?_
          rotate_left
          · (intro wx hSw; obtain ⟨l0, ⟨_, q0, q1, q2, _, _, _⟩, r0, q3⟩ := hSw; go_simp <;> with_reducible rfl)
          simp only [Act.put, List.setIfInBounds_toArray, List.set_cons_zero, List.set_cons_succ]
          refine wpAnyH_take (i := 17) (oi := { dst := some 42, op := _, type := _, pos := _, after := _, guard := _ }) (v := ?_) rfl (by kernel_rfl) (by kernel_rfl) (by kernel_rfl) (fun _ _ _ h => h) (Or.inl ⟨by rfl, ?_⟩) (hH1) ?_
          rotate_left
          · (intro wx hSw; obtain ⟨l0, ⟨_, q0, q1, q2, _, _, _⟩, r0, q3⟩ := hSw; go_simp <;> with_reducible rfl)
          simp only [Act.put, List.setIfInBounds_toArray, List.set_cons_zero, List.set_cons_succ]
          refine wpAnyH_take (i := 18) (oi := { dst := some 43, op := _, type := _, pos := _, after := _, guard := _ }) (v := ?_) rfl (by kernel_rfl) (by kernel_rfl) (by kernel_rfl) (fun _ _ _ h => h) (Or.inl ⟨by rfl, ?_⟩) (hH1) ?_
          rotate_left
          · (intro wx hSw; obtain ⟨l0, ⟨_, q0, q1, q2, _, _, _⟩, r0, q3⟩ := hSw; go_simp <;> with_reducible rfl)
          simp only [Act.put, List.setIfInBounds_toArray, List.set_cons_zero, List.set_cons_succ]
          refine wpAnyH_done (by kernel_rfl) ?_ _
          -- behind it: go_wp2_with fail, then go_meet (a cut) or go_ret; the condition at the end: hH1
          cases d
          · go_wp2_with fail
            go_roundw
            case rel =>
              have hbel := HB.out
              exact ⟨k + 1, by omega, by go_num, fun j hj => (by rcases Nat.lt_succ_iff_lt_or_eq.1 hj with h | h; exact HP.out j h; rw [h]; exact HK.out), (by repeat' first | with_reducible exact Below.refl _ _ | with_reducible assumption | with_reducible refine below_drewN ?_ _ | with_reducible refine balloc ?_ _ | with_reducible refine Below.drew ?_ | with_reducible refine Below.setCell ?_ (by first | (simp; done) | (simp; omega) | omega) _ | with_reducible refine bstep ?_ (by assumption))⟩
            case measure => simp [intOf]; omega
          · have hno : allN n (okI dim L) = false := allN_no hlt HK.out
            have HN := hide hno
            clear hno
            go_wp2_with fail
            go_ret
            have hbel := HB.out
            exact ⟨by rw [HN.out]; rfl, (by repeat' first | with_reducible exact Below.refl _ _ | with_reducible assumption | with_reducible refine below_drewN ?_ _ | with_reducible refine balloc ?_ _ | with_reducible refine Below.drew ?_ | with_reducible refine Below.setCell ?_ (by first | (simp; done) | (simp; omega) | omega) _ | with_reducible refine bstep ?_ (by assumption))⟩
    · obtain rfl : k = n := by omega
      have e : allN k (okI dim L) = true := allN_yes HP.out
      have E := hide e
      clear e hpre hbel
      go_wp2_with fail
      go_ret
      exact ⟨by rw [E.out]; rfl, HB.out⟩

set_option maxHeartbeats 400000 in
theorem iItemsOk_no (dim : Int) (a : Option Addr) (n cap : Nat) (w : World) (h : ¬ (1 ≤ dim ∧ dim ≤ 8 ∧ n ≤ 60)) (hn : n ≤ 1048576) :
    Calls Try.prog 45 #[.int .i64 dim, .slice a n cap] w fun e w' => e = .returned (.bool false) ∧ Below w.heap.size w w' := by
  by_cases h1 : dim < 1
  · go_enter Try.func45, Try.ntmps45
    go_wp2
    go_ret
    exact ⟨rfl, (by repeat' first | with_reducible exact Below.refl _ _ | with_reducible assumption | with_reducible refine below_drewN ?_ _ | with_reducible refine balloc ?_ _ | with_reducible refine Below.drew ?_ | with_reducible refine Below.setCell ?_ (by first | (simp; done) | (simp; omega) | omega) _ | with_reducible refine bstep ?_ (by assumption))⟩
  · by_cases h2 : 8 < dim
    · go_enter Try.func45, Try.ntmps45
      go_wp2
      go_ret
      exact ⟨rfl, (by repeat' first | with_reducible exact Below.refl _ _ | with_reducible assumption | with_reducible refine below_drewN ?_ _ | with_reducible refine balloc ?_ _ | with_reducible refine Below.drew ?_ | with_reducible refine Below.setCell ?_ (by first | (simp; done) | (simp; omega) | omega) _ | with_reducible refine bstep ?_ (by assumption))⟩
    · have h3 : 60 < n := by omega
      have h4 : (60 : Int) < (n : Int) := by omega
      go_enter Try.func45, Try.ntmps45
      go_wp2
      go_ret
      exact ⟨rfl, (by repeat' first | with_reducible exact Below.refl _ _ | with_reducible assumption | with_reducible refine below_drewN ?_ _ | with_reducible refine balloc ?_ _ | with_reducible refine Below.drew ?_ | with_reducible refine Below.setCell ?_ (by first | (simp; done) | (simp; omega) | omega) _ | with_reducible refine bstep ?_ (by assumption))⟩

set_option maxHeartbeats 400000 in
theorem iItemsOk_none (dim : Int) (a : Option Addr) (n cap : Nat) (w : World) (hd1 : 1 ≤ dim) (hd8 : dim ≤ 8) (hn : n < 1) :
    Calls Try.prog 45 #[.int .i64 dim, .slice a n cap] w fun e w' => e = .returned (.bool true) ∧ Below w.heap.size w w' := by
  obtain rfl : n = 0 := by omega
  go_enter Try.func45, Try.ntmps45
  go_wp2
  refine wp_loop_rounds 1 ?_
  rw [rounds_succ]
  go_wp2
  go_ret
  exact ⟨rfl, (by repeat' first | with_reducible exact Below.refl _ _ | with_reducible assumption | with_reducible refine below_drewN ?_ _ | with_reducible refine balloc ?_ _ | with_reducible refine Below.drew ?_ | with_reducible refine Below.setCell ?_ (by first | (simp; done) | (simp; omega) | omega) _ | with_reducible refine bstep ?_ (by assumption))⟩

theorem iItemsOk_any (dim : Int) (a : Option Addr) (n cap : Nat) (L : IL) (w : World) (h : IRow w a n L) (hn : n ≤ 1048576) (hv : ∀ i, i < n → (L i).vec.length ≤ 1048576) :
    Calls Try.prog 45 #[.int .i64 dim, .slice a n cap] w fun e w' => e = .returned (.bool (itemsB dim n L)) ∧ Below w.heap.size w w' := by
  by_cases hd : 1 ≤ dim ∧ dim ≤ 8 ∧ n ≤ 60
  · have e : itemsB dim n L = allN n (okI dim L) := by
      unfold itemsB inB
      rw [decide_eq_true (show 1 ≤ dim ∧ dim ≤ 8 from ⟨hd.1, hd.2.1⟩), decide_eq_true hd.2.2]
      rfl
    rw [e]
    rcases h.lies with h0 | ⟨b, off, rfl, lt, hc⟩
    · rw [allN_yes (fun i hi => absurd hi (by omega))]
      exact iItemsOk_none dim a n cap w hd.1 hd.2.1 (by omega)
    · exact iItemsOk_some dim b off n cap L w hd.1 hd.2.1 hd.2.2 hv lt hc
  · have e : itemsB dim n L = false := by
      unfold itemsB inB
      by_cases h1 : 1 ≤ dim ∧ dim ≤ 8
      · rw [decide_eq_true h1, decide_eq_false (show ¬ n ≤ 60 from fun h => hd ⟨h1.1, h1.2, h⟩)]
        rfl
      · rw [decide_eq_false h1]
        rfl
    rw [e]
    exact iItemsOk_no dim a n cap w hd hn
end Go.Proofs.Ythhgflclljaakaa

/- placeOf of the program: sort.Search over items that rise. -/
namespace Go.Proofs.Ythhgflclljaakaa
open Go.RowKit
set_option maxRecDepth 8000
set_option linter.unusedSimpArgs false
set_option linter.unusedVariables false



/-- Where the item of an id is, or would be. -/
structure IsPlace (n : Nat) (L : IL) (id : Int) (p : Nat) : Prop where
  le : p ≤ n
  lo : ∀ i, i < p → (L i).id < id
  hi : ∀ i, p ≤ i → i < n → id ≤ (L i).id



/-- The answer of placeOf. -/
def PlaceR (w : World) (n : Nat) (L : IL) (id : Int) (e : Ending) (w' : World) : Prop :=
  ∃ p : Nat, e = .returned (.tuple #[.int .i64 p, .bool (decide (p < n ∧ (L p).id = id))]) ∧ IsPlace n L id p ∧ Below w.heap.size w w'







end Go.Proofs.Ythhgflclljaakaa
/- Rows of Nears of the call's own; contracts of the laws' small functions over them: szNearS, toNearS, eqNearS. -/
namespace Go.Proofs.Ythhgflclljaakaa
open Go.RowKit
set_option maxRecDepth 8000
set_option linter.unusedSimpArgs false
set_option linter.unusedVariables false

theorem Try.infoNear : (Try.prog.info? 52).map (fun i => (i.zero, i.size, i.bytes)) = some (some (.agg #[.int .i64 0, .int .i64 0]), 2, 16) := by kernel_rfl

/-- A row of Nears of the call's own, that may be written. -/
def OwnN (w : World) (b n : Nat) (f g : Nat → Int) : Prop := w.rowIs b 52 (n * 2) (pcell f g)

theorem OwnN.lt {w : World} {b n : Nat} {f g : Nat → Int} (h : OwnN w b n f g) : b < w.heap.size := World.rowIs.lt h

theorem OwnN.c0 {w : World} {b n : Nat} {f g : Nat → Int} (h : OwnN w b n f g) {i : Nat} (hi : i < n) : w.cell? ⟨b, i * 2, none⟩ = some (.int .i64 (f i)) := by
  rw [World.rowIs.cell h (show i * 2 < n * 2 by omega), pcell_lo]

theorem OwnN.c1 {w : World} {b n : Nat} {f g : Nat → Int} (h : OwnN w b n f g) {i : Nat} (hi : i < n) : w.cell? ⟨b, i * 2 + 1, none⟩ = some (.int .i64 (g i)) := by
  rw [World.rowIs.cell h (show i * 2 + 1 < n * 2 by omega), pcell_hi]

theorem OwnN.prow {w : World} {b n : Nat} {f g : Nat → Int} (h : OwnN w b n f g) : PRow w (some ⟨b, 0, none⟩) n f g :=
  ⟨.inr ⟨b, 0, rfl, h.lt, fun i hi => by rw [Nat.zero_add]; exact ⟨h.c0 hi, h.c1 hi⟩⟩⟩

theorem OwnN.below {w w' : World} {b n : Nat} {f g : Nat → Int} (h : OwnN w b n f g) (hb : Below w.heap.size w w') : OwnN w' b n f g := World.rowIs.of_block h (hb.block b (World.rowIs.lt h))

theorem OwnN.congr {w : World} {b n : Nat} {f g f' g' : Nat → Int} (h : OwnN w b n f g) (hf : ∀ i, i < n → f i = f' i) (hg : ∀ i, i < n → g i = g' i) : OwnN w b n f' g' := by
  refine World.rowIs.congr h fun j hj => ?_
  unfold pcell
  rw [hf (j / 2) (by omega), hg (j / 2) (by omega)]

theorem OwnN.made (w : World) (n : Nat) : OwnN (w.alloc (.cells (madeCells #[.int .i64 0, .int .i64 0] (n * 2)) 52)) w.heap.size n (fun _ => 0) (fun _ => 0) := by
  refine ⟨_, Go.Deep.blk_alloc_new _ _, size_madeCells _ _, fun i hi => ?_⟩
  rcases (show i % 2 = 0 ∨ i % 2 = 1 by omega) with h | h <;> simp [madeCells, hi, h, pcell]

theorem OwnN.set {w : World} {b n : Nat} {f g : Nat → Int} (h : OwnN w b n f g) (k : Nat) (x y : Int) :
    OwnN ((w.setCell ⟨b, k * 2, none⟩ (.int .i64 x)).setCell ⟨b, k * 2 + 1, none⟩ (.int .i64 y)) b n (fun i => if i = k then x else f i) (fun i => if i = k then y else g i) := by
  refine (World.rowIs.set (World.rowIs.set h (k * 2) _) (k * 2 + 1) _).congr fun j hj => ?_
  unfold pcell
  dsimp only
  rcases (show j % 2 = 0 ∨ j % 2 = 1 by omega) with h | h
  · rw [if_neg (show ¬ j = k * 2 + 1 by omega)]
    by_cases e : j = k * 2
    · rw [if_pos e, if_pos h, if_pos (show j / 2 = k by omega)]
    · rw [if_neg e, if_pos h, if_pos h, if_neg (show ¬ j / 2 = k by omega)]
  · by_cases e : j = k * 2 + 1
    · rw [if_pos e, if_neg (by omega), if_pos (show j / 2 = k by omega)]
    · rw [if_neg e, if_neg (by omega), if_neg (by omega), if_neg (by omega), if_neg (show ¬ j / 2 = k by omega)]

theorem OwnN.step {w : World} {b n k : Nat} {f g : Nat → Int} (h : OwnN w b n (upTo k f) (upTo k g)) :
    OwnN ((w.setCell ⟨b, k * 2, none⟩ (.int .i64 (f k))).setCell ⟨b, k * 2 + 1, none⟩ (.int .i64 (g k))) b n (upTo (k + 1) f) (upTo (k + 1) g) := by
  refine (h.set k (f k) (g k)).congr (fun i _ => ?_) (fun i _ => ?_)
  all_goals
    unfold upTo
    by_cases e : i = k
    · subst e; simp
    · by_cases l : i < k
      · simp [e, l, show i < k + 1 by omega]
      · simp [e, l, show ¬ i < k + 1 by omega]



def ToNs (w : World) (n : Nat) (f g : Nat → Int) (e : Ending) (w' : World) : Prop :=
  ∃ b, e = .returned (.slice (some ⟨b, 0, none⟩) n n) ∧ w.heap.size ≤ b ∧ OwnN w' b n f g ∧ Below w.heap.size w w'





end Go.Proofs.Ythhgflclljaakaa
/- Heaps as plain functions: a list of Nears as a function of the place; how one goes up, how one goes down. A row of Nears of the call's own, as such a list. -/
namespace Go.Proofs.Ythhgflclljaakaa
open Go.RowKit
set_option maxRecDepth 8000
set_option linter.unusedSimpArgs false
set_option linter.unusedVariables false

def NL : Type := Nat → Int × Int
def lt2 (x y : Int × Int) : Bool := lessB x.1 x.2 y.1 y.2
def swp (L : NL) (i j : Nat) : NL := fun k => if k = i then L j else if k = j then L i else L k
def NL.put (L : NL) (i : Nat) (x : Int × Int) : NL := fun k => if k = i then x else L k

/-- The one at place j goes up as long as the one above it is less (t: more steps than there are). -/
def upF : Nat → Nat → NL → NL
  | 0, _, L => L
  | t + 1, j, L => if j = 0 then L else if lt2 (L ((j - 1) / 2)) (L j) = true then upF t ((j - 1) / 2) (swp L ((j - 1) / 2) j) else L
def upL (j : Nat) (L : NL) : NL := upF j j L

theorem upF_fuel : ∀ (t t' j : Nat) (L : NL), j ≤ t → j ≤ t' → upF t j L = upF t' j L := by
  intro t
  induction t with
  | zero =>
    intro t' j L h h'
    obtain rfl : j = 0 := by omega
    cases t' with
    | zero => rfl
    | succ t' => rw [upF, upF, if_pos rfl]
  | succ t ih =>
    intro t' j L h h'
    cases t' with
    | zero =>
      obtain rfl : j = 0 := by omega
      rw [upF, upF, if_pos rfl]
    | succ t' =>
      rw [upF, upF]
      by_cases h0 : j = 0
      · rw [if_pos h0, if_pos h0]
      · rw [if_neg h0, if_neg h0, ih t' _ _ (by omega) (by omega)]

/-- The greater one of the two below place i, of n. -/
def kid (n i : Nat) (L : NL) : Nat := if 2 * i + 2 < n ∧ lt2 (L (2 * i + 1)) (L (2 * i + 2)) = true then 2 * i + 2 else 2 * i + 1

theorem kid_gt (n i : Nat) (L : NL) : i < kid n i L := by unfold kid; split <;> omega

theorem kid_lt {n i : Nat} (L : NL) (h : 2 * i + 1 < n) : kid n i L < n := by unfold kid; split <;> omega

/-- The one at place i, of n, goes down as long as one below it is greater (t: more steps than there are). -/
def dnF : Nat → Nat → Nat → NL → NL
  | 0, _, _, L => L
  | t + 1, n, i, L => if 2 * i + 1 < n then if lt2 (L i) (L (kid n i L)) = true then dnF t n (kid n i L) (swp L i (kid n i L)) else L else L
def dnL (n i : Nat) (L : NL) : NL := dnF (n - i) n i L

theorem dnF_fuel (n : Nat) : ∀ (t t' i : Nat) (L : NL), n - i ≤ t → n - i ≤ t' → dnF t n i L = dnF t' n i L := by
  intro t
  induction t with
  | zero =>
    intro t' i L h h'
    cases t' with
    | zero => rfl
    | succ t' => rw [dnF, dnF, if_neg (by omega)]
  | succ t ih =>
    intro t' i L h h'
    cases t' with
    | zero => rw [dnF, dnF, if_neg (by omega)]
    | succ t' =>
      rw [dnF, dnF]
      by_cases h1 : 2 * i + 1 < n
      · have := kid_gt n i L
        rw [if_pos h1, if_pos h1, ih t' _ _ (by omega) (by omega)]
      · rw [if_neg h1, if_neg h1]

theorem upL_zero (L : NL) : upL 0 L = L := rfl

theorem upL_yes {j : Nat} {L : NL} (h0 : ¬ j = 0) (h : lt2 (L ((j - 1) / 2)) (L j) = true) : upL j L = upL ((j - 1) / 2) (swp L ((j - 1) / 2) j) := by
  obtain ⟨k, rfl⟩ : ∃ k, j = k + 1 := ⟨j - 1, by omega⟩
  unfold upL
  rw [upF, if_neg h0, if_pos h]
  exact upF_fuel _ _ _ _ (by omega) (by omega)

theorem upL_no {j : Nat} {L : NL} (h : lt2 (L ((j - 1) / 2)) (L j) = false) : upL j L = L := by
  unfold upL
  cases j with
  | zero => rfl
  | succ k => rw [upF, if_neg (by omega), if_neg (by rw [h]; decide)]

theorem dnL_out {n i : Nat} {L : NL} (h : ¬ 2 * i + 1 < n) : dnL n i L = L := by
  unfold dnL
  cases n - i with
  | zero => rfl
  | succ k => rw [dnF, if_neg h]

theorem dnL_yes {n i : Nat} {L : NL} (h : 2 * i + 1 < n) (hl : lt2 (L i) (L (kid n i L)) = true) : dnL n i L = dnL n (kid n i L) (swp L i (kid n i L)) := by
  unfold dnL
  obtain ⟨k, hk⟩ : ∃ k, n - i = k + 1 := ⟨n - i - 1, by omega⟩
  have := kid_gt n i L
  rw [hk, dnF, if_pos h, if_pos hl]
  exact dnF_fuel n _ _ _ _ (by omega) (by omega)

theorem dnL_no {n i : Nat} {L : NL} (hl : lt2 (L i) (L (kid n i L)) = false) : dnL n i L = L := by
  unfold dnL
  cases n - i with
  | zero => rfl
  | succ k =>
    rw [dnF]
    by_cases h : 2 * i + 1 < n
    · rw [if_pos h, if_neg (by rw [hl]; decide)]
    · rw [if_neg h]

/-- What lies at n and behind does not matter to one that goes down. -/
theorem dnL_congr (n : Nat) : ∀ (t i : Nat) (L M : NL), n - i ≤ t → i < n → (∀ k, k < n → L k = M k) → ∀ k, k < n → dnL n i L k = dnL n i M k := by
  intro t
  induction t with
  | zero => intro i L M ht hi; omega
  | succ t ih =>
    intro i L M ht hi h k hk
    by_cases h1 : 2 * i + 1 < n
    · have hkid : kid n i L = kid n i M := by
        unfold kid
        by_cases h2 : 2 * i + 2 < n
        · rw [h (2 * i + 1) h1, h (2 * i + 2) h2]
        · rw [if_neg (fun q => h2 q.1), if_neg (fun q => h2 q.1)]
      have hlt := kid_lt L h1
      have hgt := kid_gt n i L
      have hc : lt2 (L i) (L (kid n i L)) = lt2 (M i) (M (kid n i M)) := by rw [← hkid, h i hi, h _ hlt]
      cases hb : lt2 (L i) (L (kid n i L))
      · rw [dnL_no hb, dnL_no (hc ▸ hb)]
        exact h k hk
      · rw [dnL_yes h1 hb, dnL_yes h1 (hc ▸ hb), ← hkid]
        refine ih _ _ _ (by omega) hlt (fun j hj => ?_) k hk
        unfold swp
        rw [h _ hlt, h i hi, h j hj]
    · rw [dnL_out h1, dnL_out h1]
      exact h k hk

/-- A row of m Nears of the call's own that holds the list L. -/
def OwnL (w : World) (b m : Nat) (L : NL) : Prop := OwnN w b m (fun i => (L i).1) (fun i => (L i).2)

theorem OwnL.below {w w' : World} {b m : Nat} {L : NL} (h : OwnL w b m L) (hb : Below w.heap.size w w') : OwnL w' b m L := OwnN.below h hb

theorem OwnL.lt {w : World} {b m : Nat} {L : NL} (h : OwnL w b m L) : b < w.heap.size := OwnN.lt h

theorem OwnL.away {w : World} {b m : Nat} {L : NL} (h : OwnL w b m L) (p : Addr) (v : Value) (hp : b ≠ p.block) : OwnL (w.setCell p v) b m L := World.rowIs.of_block h (Below.heap_setCell w p v b hp)

theorem OwnL.set {w : World} {b m : Nat} {L : NL} (h : OwnL w b m L) (k : Nat) (x y : Int) :
    OwnL ((w.setCell ⟨b, k * 2, none⟩ (.int .i64 x)).setCell ⟨b, k * 2 + 1, none⟩ (.int .i64 y)) b m (L.put k (x, y)) := by
  refine (OwnN.set h k x y).congr (fun i _ => ?_) (fun i _ => ?_)
  all_goals
    unfold NL.put
    by_cases e : i = k <;> simp [e]

theorem OwnL.congr {w : World} {b m : Nat} {L M : NL} (h : OwnL w b m L) (hLM : ∀ i, i < m → L i = M i) : OwnL w b m M :=
  OwnN.congr h (fun i hi => by rw [hLM i hi]) (fun i hi => by rw [hLM i hi])

theorem OwnL.but {g : Nat} {w w' : World} {b m : Nat} {L : NL} (h : OwnL w b m L) (hb : But g w w') (hne : b ≠ g) : OwnL w' b m L := World.rowIs.of_block h (hb.block b h.lt hne)

theorem swp_put (L : NL) (i j : Nat) : (L.put i (L j)).put j (L i) = swp L i j := by
  funext k
  unfold NL.put swp
  by_cases hj : k = j
  · subst hj
    by_cases hi : k = i
    · subst hi; simp
    · simp [hi]
  · simp [hj]

theorem But.ofBelow {g : Nat} {a b : World} (h : Below a.heap.size a b) : But g a b := ⟨h.os, h.tape, h.output, h.size, fun k hk _ => h.block k hk⟩

theorem But.cellN {g : Nat} {w w' : World} (h : But g w w') {c o : Nat} (hc : c < w.heap.size) (hne : c ≠ g) : w'.cell? ⟨c, o, none⟩ = w.cell? ⟨c, o, none⟩ := World.cell?_of_block (h.block c hc hne)

theorem But.froz {g : Nat} {w w' : World} (h : But g w w') {c o : Nat} (hc : c < w.heap.size) (hne : c ≠ g) : w'.frozen? ⟨c, o, none⟩ = w.frozen? ⟨c, o, none⟩ := World.frozen?_of_block (h.block c hc hne)
end Go.Proofs.Ythhgflclljaakaa

/- A row of which the first ones are a list. -/
namespace Go.Proofs.Ythhgflclljaakaa
open Go.RowKit
set_option maxRecDepth 8000
set_option linter.unusedSimpArgs false
set_option linter.unusedVariables false

/-- The list of two rows of numbers. -/
def listL (n : Nat) (f g : Nat → Int) : NL := fun i => if i < n then (f i, g i) else (0, 0)
/-- A row of the call's own whose first m Nears are the list L, whatever lies behind them. -/
def RowL (w : World) (b m : Nat) (L : NL) : Prop :=
  ∃ c : Array Value, w.heap[b]? = some (.cells c 52 (0, 0)) ∧ m * 2 ≤ c.size ∧ ∀ i, i < m → c[i * 2]? = some (.int .i64 (L i).1) ∧ c[i * 2 + 1]? = some (.int .i64 (L i).2)

theorem OwnL.rowl {w : World} {b m : Nat} {L : NL} (h : OwnL w b m L) : RowL w b m L := by
  obtain ⟨c, hc, hs, hv⟩ := h
  refine ⟨c, hc, by omega, fun i hi => ⟨?_, ?_⟩⟩
  · rw [hv (i * 2) (by omega), pcell_lo]
  · rw [hv (i * 2 + 1) (by omega), pcell_hi]

theorem OwnN.rowl {w : World} {b m : Nat} {f g : Nat → Int} (h : OwnN w b m f g) : RowL w b m (fun i => (f i, g i)) := OwnL.rowl (L := fun i => (f i, g i)) h

theorem RowL.lt {w : World} {b m : Nat} {L : NL} (h : RowL w b m L) : b < w.heap.size := by
  obtain ⟨c, hc, _⟩ := h
  exact (Array.getElem?_eq_some_iff.1 hc).1

theorem RowL.c0 {w : World} {b m : Nat} {L : NL} (h : RowL w b m L) {i : Nat} (hi : i < m) : w.cell? ⟨b, i * 2, none⟩ = some (.int .i64 (L i).1) := by
  obtain ⟨c, hc, _, hv⟩ := h
  simp [World.cell?, hc, (hv i hi).1]

theorem RowL.c1 {w : World} {b m : Nat} {L : NL} (h : RowL w b m L) {i : Nat} (hi : i < m) : w.cell? ⟨b, i * 2 + 1, none⟩ = some (.int .i64 (L i).2) := by
  obtain ⟨c, hc, _, hv⟩ := h
  simp [World.cell?, hc, (hv i hi).2]

theorem RowL.froz {w : World} {b m : Nat} {L : NL} (h : RowL w b m L) (o : Nat) : w.frozen? ⟨b, o, none⟩ = false := by
  obtain ⟨c, hc, _⟩ := h
  simp [World.frozen?, hc]

theorem RowL.block {w w' : World} {b m : Nat} {L : NL} (h : RowL w b m L) (hb : w'.heap[b]? = w.heap[b]?) : RowL w' b m L := by
  obtain ⟨c, hc, hr⟩ := h
  exact ⟨c, hb.trans hc, hr⟩

theorem RowL.below {w w' : World} {b m : Nat} {L : NL} (h : RowL w b m L) (hb : Below w.heap.size w w') : RowL w' b m L := h.block (hb.block b h.lt)

theorem RowL.but {g : Nat} {w w' : World} {b m : Nat} {L : NL} (h : RowL w b m L) (hb : But g w w') (hne : b ≠ g) : RowL w' b m L := h.block (hb.block b h.lt hne)

theorem RowL.drew {w : World} {b m : Nat} {L : NL} (h : RowL w b m L) : RowL w.drew b m L := h

theorem RowL.away {w : World} {b m : Nat} {L : NL} (h : RowL w b m L) (p : Addr) (v : Value) (hp : b ≠ p.block) : RowL (w.setCell p v) b m L := h.block (Below.heap_setCell w p v b hp)

theorem RowL.less {w : World} {b m k : Nat} {L : NL} (h : RowL w b m L) (hk : k ≤ m) : RowL w b k L := by
  obtain ⟨c, hc, hs, hv⟩ := h
  exact ⟨c, hc, by omega, fun i hi => hv i (by omega)⟩

theorem RowL.congr {w : World} {b m : Nat} {L M : NL} (h : RowL w b m L) (hLM : ∀ i, i < m → L i = M i) : RowL w b m M := by
  obtain ⟨c, hc, hs, hv⟩ := h
  exact ⟨c, hc, hs, fun i hi => hLM i hi ▸ hv i hi⟩

theorem RowL.prow {w : World} {b m : Nat} {L : NL} (h : RowL w b m L) : PRow w (some ⟨b, 0, none⟩) m (fun i => (L i).1) (fun i => (L i).2) :=
  ⟨.inr ⟨b, 0, rfl, h.lt, fun i hi => by rw [Nat.zero_add]; exact ⟨h.c0 hi, h.c1 hi⟩⟩⟩

theorem heap_set {w : World} {b o : Nat} {c : Array Value} {t : TypeId} {v : Value} (h : w.heap[b]? = some (.cells c t (0, 0))) : (w.setCell ⟨b, o, none⟩ v).heap[b]? = some (.cells (c.setIfInBounds o v) t (0, 0)) := by
  have hlt := (Array.getElem?_eq_some_iff.1 h).1
  simp [World.setCell, h, hlt, Array.getElem_modify, (Array.getElem?_eq_some_iff.1 h).2]

theorem RowL.set {w : World} {b m : Nat} {L : NL} (h : RowL w b m L) (k : Nat) (x y : Int) :
    RowL ((w.setCell ⟨b, k * 2, none⟩ (.int .i64 x)).setCell ⟨b, k * 2 + 1, none⟩ (.int .i64 y)) b m (L.put k (x, y)) := by
  obtain ⟨c, hc, hs, hv⟩ := h
  refine ⟨_, heap_set (heap_set hc), by simpa using hs, fun i hi => ?_⟩
  have h0 := hv i hi
  unfold NL.put
  by_cases e : i = k
  · subst e
    have l0 : i * 2 < c.size := by omega
    have l1 : i * 2 + 1 < c.size := by omega
    simp [Array.getElem?_setIfInBounds, l0, l1]
  · simp [Array.getElem?_setIfInBounds, e, show ¬ k * 2 + 1 = i * 2 by omega, show ¬ k * 2 = i * 2 by omega, show ¬ k * 2 + 1 = i * 2 + 1 by omega, show ¬ k * 2 = i * 2 + 1 by omega, h0.1, h0.2]
end Go.Proofs.Ythhgflclljaakaa

/- Marks over Nears: markNearS, heldNearS of the laws. -/
namespace Go.Proofs.Ythhgflclljaakaa
open Go.RowKit
set_option maxRecDepth 8000
set_option linter.unusedSimpArgs false
set_option linter.unusedVariables false

def markL (q : Int) : NL := fun i => (q + 2 * (i : Int), q + 2 * (i : Int) + 1)
def mixL (k : Nat) (A B : NL) : NL := fun i => if i < k then A i else B i

theorem mixL_put (k : Nat) (A B : NL) : (mixL k A B).put k (A k) = mixL (k + 1) A B := by
  funext i
  unfold NL.put mixL
  by_cases e : i = k
  · subst e; simp
  · by_cases l : i < k
    · simp [e, l, show i < k + 1 by omega]
    · simp [e, l, show ¬ i < k + 1 by omega]

/-- A slice of l Nears that may be written, at or behind block B. -/
def Wr (w : World) (a : Option Addr) (l : Nat) (L : NL) (B : Nat) : Prop := l = 0 ∨ ∃ b, a = some ⟨b, 0, none⟩ ∧ B ≤ b ∧ RowL w b l L
/-- Nothing old has turned, or, of a slice with something in it, its row alone. -/
def Turn (a : Option Addr) (l B : Nat) (w w' : World) : Prop := Below w.heap.size w w' ∨ (l ≠ 0 ∧ ∃ b, a = some ⟨b, 0, none⟩ ∧ B ≤ b ∧ But b w w')

theorem Wr.below {w w' : World} {a : Option Addr} {l : Nat} {L : NL} {B : Nat} (h : Wr w a l L B) (hb : Below w.heap.size w w') : Wr w' a l L B := by
  rcases h with h0 | ⟨b, e, hB, hr⟩
  · exact .inl h0
  · exact .inr ⟨b, e, hB, hr.below hb⟩

theorem Wr.prow {w : World} {a : Option Addr} {l : Nat} {L : NL} {B : Nat} (h : Wr w a l L B) : PRow w a l (fun i => (L i).1) (fun i => (L i).2) := by
  rcases h with h0 | ⟨b, rfl, hB, hr⟩
  · exact ⟨.inl h0⟩
  · exact hr.prow

theorem Turn.low {a : Option Addr} {l B X : Nat} {w w' : World} (h : Turn a l B w w') (hX : X ≤ B) (hs : X ≤ w.heap.size) : Below X w w' := by
  rcases h with h | ⟨_, b, _, hb, hbut⟩
  · exact h.mono hs
  · exact hbut.below (by omega) hs

theorem Turn.after {a : Option Addr} {l B : Nat} {x w w' : World} (h : Turn a l B w w') (k : Below x.heap.size x w) : Turn a l B x w' := by
  rcases h with h | ⟨h0, b, e, hb, hbut⟩
  · exact .inl (bstep k h)
  · exact .inr ⟨h0, b, e, hb, (But.ofBelow k).trans hbut⟩
/-- A row that lies behind another one. -/
theorem Wr.turn {w w' : World} {c : Option Addr} {m : Nat} {M : NL} {C : Nat} {b l B : Nat} (h : Wr w c m M C) (t : Turn (some ⟨b, 0, none⟩) l B w w') (hb : b < C) : Wr w' c m M C := by
  rcases t with t | ⟨h0, b', e, hb', hbut⟩
  · exact h.below t
  · cases e
    rcases h with h1 | ⟨x, ex, hx, hr⟩
    · exact .inl h1
    · exact .inr ⟨x, ex, hx, hr.but hbut (by omega)⟩











end Go.Proofs.Ythhgflclljaakaa