/- The reader of drawn bytes: hurt, of texts. -/
import Derived.Test.YtggjcccdeaadbaaGreatDoorZ12
import Derived.Test.YtggjcccdeaadbaaGreatDoorZ21
import Derived.Deep.RegionHeld3
import Derived.BigQuiet
namespace Go.Proofs.YtggjcccdeaadbaaGreatDoor
open Go.RowKit
set_option maxRecDepth 8000
set_option linter.unusedSimpArgs false
set_option linter.unusedVariables false

/-- Some text, not much longer. -/
def StrPost (B : Nat) (w : World) (rb : Nat) (a : Option Addr) (n c m : Nat) (e : Ending) (w' : World) : Prop :=
  ∃ t : ByteArray, e = .returned (.string t) ∧ t.size ≤ m ∧ Rd B w' rb a n c ∧ But rb w w'

theorem ext_size (s : ByteArray) (i j : Nat) : (s.extract i j).size ≤ s.size := by
  rw [ext_mid, bs_size, size_list, List.length_drop, List.length_take]; omega

theorem ext_len (s : ByteArray) (i j : Nat) (h : i ≤ j) (hj : j ≤ s.size) : (s.extract i j).size = j - i := by
  rw [ext_mid, bs_size, List.length_drop, List.length_take, ← size_list]; omega
structure RQ (B : Nat) (w0 w : World) (rb : Nat) (a : Option Addr) (n c : Nat) : Prop where
  rd : Rd B w rb a n c
  bt : But rb w0 w

theorem RQ.below {B : Nat} {w0 w w' : World} {rb : Nat} {a : Option Addr} {n c : Nat} (h : RQ B w0 w rb a n c) (hb : Below w.heap.size w w') : RQ B w0 w' rb a n c :=
  ⟨h.rd.stays hb, h.bt.trans ⟨hb.os, hb.tape, hb.output, hb.size, fun k hk _ => hb.block k hk⟩⟩

theorem one_size (b : UInt8) : (⟨#[b]⟩ : ByteArray).size = 1 := rfl

theorem four (v : Int) (h0 : 0 ≤ v) (h1 : v ≤ 3) : v = 0 ∨ v = 1 ∨ v = 2 ∨ v = 3 := by omega

set_option maxHeartbeats 4000000 in
set_option maxRecDepth 8000 in
theorem hurtStr_any (B rb n c : Nat) (a : Option Addr) (s : ByteArray) (w : World) (h : Rd B w rb a n c) (hB : B ≤ w.heap.size) (h2 : s.size ≤ 250) :
    Calls Tryz.prog 22 #[.pointer (some ⟨rb, 0, none⟩), .string s] w fun e w' => StrPost B w rb a n c (s.size + 1) e w' := by
  have N := hide (fun m w1 (h : Rd B w1 rb a n c) (h2 : m ≤ 256) => below_all B rb n c a m w1 h h2)
  have HH := hide h
  have lr := h.lt
  clear h
  go_enter Tryz.func22, Tryz.ntmps22
  go_wp2_with fail
  refine (N.out 6 _ HH.out (by omega)).mono ?_
  rintro e w1 ⟨v, rfl, v0, v1, hr1, hb1⟩
  have R1 := hide hr1
  have B1 := hide hb1
  have l1 := hb1.size
  clear hr1 hb1 HH
  have hD : v = 1 ∨ v = 2 ∨ v = 3 ∨ ((v == 1) = false ∧ (v == 2) = false ∧ (v == 3) = false) := by
    simp only [beq_eq_false_iff_ne]; omega
  rcases hD with rfl | rfl | rfl | ⟨q1, q2, q3⟩
  · go_wp2_with fail
    refine (N.out _ _ R1.out (by omega)).mono ?_
    rintro e w2 ⟨x, rfl, x0, x1, hr2, hb2⟩
    obtain ⟨k, rfl⟩ : ∃ k : Nat, x = (k : Int) := ⟨x.toNat, by omega⟩
    have hk : k ≤ s.size := by omega
    go_wp2_with fail
    go_ret
    exact ⟨_, rfl, Nat.le_succ_of_le (ext_size s 0 k), hr2, B1.out.trans hb2⟩
  · by_cases h1 : s.size = 0
    · have hp : ¬ 0 < (s.size : Int) := by omega
      clear h1
      go_wp2_with fail
      go_ret
      exact ⟨_, rfl, by omega, R1.out, B1.out⟩
    · have hp : 0 < (s.size : Int) := by omega
      go_wp2_with fail
      refine (N.out _ _ R1.out (by omega)).mono ?_
      rintro e w2 ⟨x, rfl, x0, x1, hr2, hb2⟩
      obtain ⟨k, rfl⟩ : ∃ k : Nat, x = (k : Int) := ⟨x.toNat, by omega⟩
      have hk : k < s.size := by omega
      have hk1 : k ≤ s.size := by omega
      have hk2 : k + 1 ≤ s.size := by omega
      have hw1 : IntKind.i64.wrap ((k : Int) + 1) = (k : Int) + 1 := wrapIn _ (by omega) (by omega)
      have hk3 : (k : Int) + 1 ≤ (s.size : Int) := by omega
      have hk4 : 0 ≤ (k : Int) + 1 := by omega
      have L1 := ext_len s 0 k (by omega) hk1
      have L2 := ext_len s (k + 1) s.size hk2 (Nat.le_refl _)
      obtain ⟨A, hA⟩ : ∃ A, s.extract 0 k = A := ⟨_, rfl⟩
      obtain ⟨C, hC⟩ : ∃ A, s.extract (k + 1) s.size = A := ⟨_, rfl⟩
      rw [hA] at L1
      rw [hC] at L2
      have q1 : ¬ 9223372036854775807 < A.size + 1 := by omega
      have q2 : ¬ 9223372036854775807 < A.size + 1 + C.size := by omega
      have HL : Hid (A.size + 1 + C.size ≤ s.size + 1) := hide (by omega)
      have Q2 := hide (⟨hr2.stays (Below.drew (Below.refl _ _)), (B1.out.trans hb2).drew⟩ : RQ B w w2.drew rb a n c)
      have l2 := hb2.size
      clear hr2 hb2 L1 L2 x0 x1
      go_wp2_with fail
      refine wp_region_held_drew (S := fun wx => RQ B w wx rb a n c) (by kernel_rfl) (Q2.out) (fun hH0 => ?_)
      refine wpAnyH_take (i := 0) (oi := { dst := some 26, op := _, type := _, pos := _, after := _, guard := _ }) (v := ?_) rfl (by kernel_rfl) (by kernel_rfl) (by kernel_rfl) (fun _ _ _ h => h) (Or.inl ⟨by rfl, ?_⟩) (hH0) ?_
      rotate_left
      · (intro wx hSw; obtain ⟨_, _⟩ := hSw; go_simp <;> with_reducible rfl)
      simp only [Act.put, List.setIfInBounds_toArray, List.set_cons_zero, List.set_cons_succ]
      refine wpAnyH_take (i := 1) (oi := { dst := some 27, op := _, type := _, pos := _, after := _, guard := _ }) (v := ?_) rfl (by kernel_rfl) (by kernel_rfl) (by kernel_rfl) (fun _ _ _ h => h) (Or.inl ⟨by rfl, ?_⟩) (hH0) ?_
      rotate_left
      · (intro wx hSw; obtain ⟨_, _⟩ := hSw; go_simp <;> with_reducible rfl)
      simp only [Act.put, List.setIfInBounds_toArray, List.set_cons_zero, List.set_cons_succ]
      refine wpAnyH_take (i := 2) (oi := { dst := some 28, op := _, type := _, pos := _, after := _, guard := _ }) (v := ?_) rfl (by kernel_rfl) (by kernel_rfl) (by kernel_rfl) (fun _ _ _ h => h) (Or.inl ⟨by rfl, ?_⟩) (hH0) ?_
      rotate_left
      · (intro wx hSw; obtain ⟨_, _⟩ := hSw; go_simp <;> with_reducible rfl)
      simp only [Act.put, List.setIfInBounds_toArray, List.set_cons_zero, List.set_cons_succ]
      refine wpAnyH_take (i := 4) (oi := { dst := some 30, op := _, type := _, pos := _, after := _, guard := _ }) (v := ?_) rfl (by kernel_rfl) (by kernel_rfl) (by kernel_rfl) (fun _ _ _ h => h) (Or.inl ⟨by rfl, ?_⟩) (hH0) ?_
      rotate_left
      · (intro wx hSw; obtain ⟨_, _⟩ := hSw; go_simp <;> with_reducible rfl)
      simp only [Act.put, List.setIfInBounds_toArray, List.set_cons_zero, List.set_cons_succ]
      refine wpAnyH_take (i := 9) (oi := { dst := some 35, op := _, type := _, pos := _, after := _, guard := _ }) (v := ?_) rfl (by kernel_rfl) (by kernel_rfl) (by kernel_rfl) (fun _ _ _ h => h) (Or.inl ⟨by rfl, ?_⟩) (hH0) ?_
      rotate_left
      · (intro wx hSw; obtain ⟨_, _⟩ := hSw; go_simp <;> with_reducible rfl)
      simp only [Act.put, List.setIfInBounds_toArray, List.set_cons_zero, List.set_cons_succ]
      refine wpAnyH_take (i := 10) (oi := { dst := some 36, op := _, type := _, pos := _, after := _, guard := _ }) (v := ?_) rfl (by kernel_rfl) (by kernel_rfl) (by kernel_rfl) (fun _ _ _ h => h) (Or.inl ⟨by rfl, ?_⟩) (hH0) ?_
      rotate_left
      · (intro wx hSw; obtain ⟨_, _⟩ := hSw; go_simp <;> with_reducible rfl)
      simp only [Act.put, List.setIfInBounds_toArray, List.set_cons_zero, List.set_cons_succ]
      refine wpAnyH_take (i := 11) (oi := { dst := some 37, op := _, type := _, pos := _, after := _, guard := _ }) (v := ?_) rfl (by kernel_rfl) (by kernel_rfl) (by kernel_rfl) (fun _ _ _ h => h) (Or.inl ⟨by rfl, ?_⟩) (hH0) ?_
      rotate_left
      · (intro wx hSw; obtain ⟨_, _⟩ := hSw; go_simp <;> with_reducible rfl)
      simp only [Act.put, List.setIfInBounds_toArray, List.set_cons_zero, List.set_cons_succ]
      refine wpAnyH_take (i := 12) (oi := { dst := some 38, op := _, type := _, pos := _, after := _, guard := _ }) (v := ?_) rfl (by kernel_rfl) (by kernel_rfl) (by kernel_rfl) (fun _ _ _ h => h) (Or.inl ⟨by rfl, ?_⟩) (hH0) ?_
      rotate_left
      · (intro wx hSw; obtain ⟨_, _⟩ := hSw; go_simp <;> with_reducible rfl)
      simp only [Act.put, List.setIfInBounds_toArray, List.set_cons_zero, List.set_cons_succ]
      -- behind it: go_wp2_with fail, then go_meet (a cut) or go_ret; the condition at the end: hH0
      refine wpAnyH_ready (rs := [3, 5]) (by kernel_rfl) (by simp) ?_
      refine AllReadyH.cons (o := { dst := some 29, op := _, type := _, pos := _, after := _, guard := _ }) rfl (fun K hK => ?_) (AllReadyH.cons (o := { dst := some 31, op := _, type := _, pos := _, after := _, guard := _ }) rfl (fun K hK => ?_) AllReadyH.nil)
      · go_simp
        refine hK.out _ _ (RQ.below hH0 (balloc (Below.refl _ _) _)) (fun hH1 => ?_)
        clear hK K
        refine wpAnyH_ready (rs := [5]) (by kernel_rfl) (by simp) ?_
        refine AllReadyH.cons (o := { dst := some 31, op := _, type := _, pos := _, after := _, guard := _ }) rfl (fun K hK => ?_) AllReadyH.nil
        go_simp
        refine (N.out 4 _ hH1.rd (by omega)).mono ?_
        rintro e w5 ⟨y, rfl, y0, y1, hr5, hb5⟩
        dsimp only
        refine hK.out _ _ (⟨hr5, hH1.bt.trans hb5⟩ : RQ B w w5 rb a n c) (fun hH9 => ?_)
        clear hK K
        have ne : ¬ w2.heap.size = rb := by omega
        rcases four y y0 (by omega) with rfl | rfl | rfl | rfl
        · have z := hb5.cell (p := ⟨w2.heap.size, 0, none⟩) (by simp) ne
          simp at z
          clear hb5 hr5
          refine wpAnyH_ready (rs := [6]) (by kernel_rfl) (by simp) ?_
          refine AllReadyH.cons (o := { dst := some 32, op := _, type := _, pos := _, after := _, guard := _ }) rfl (fun K hK => ?_) AllReadyH.nil
          go_simp
          refine hK.out _ _ hH9 (fun hH10 => ?_)
          clear hK K
          refine wpAnyH_ready (rs := [7]) (by kernel_rfl) (by simp) ?_
          refine AllReadyH.cons (o := { dst := some 33, op := _, type := _, pos := _, after := _, guard := _ }) rfl (fun K hK => ?_) AllReadyH.nil
          go_simp
          refine hK.out _ _ hH10 (fun hH11 => ?_)
          clear hK K
          refine wpAnyH_take (i := 8) (oi := { dst := some 34, op := _, type := _, pos := _, after := _, guard := _ }) (v := ?_) rfl (by kernel_rfl) (by kernel_rfl) (by kernel_rfl) (fun _ _ _ h => h) (Or.inl ⟨by rfl, ?_⟩) (hH11) ?_
          rotate_left
          · (intro wx hSw; obtain ⟨_, _⟩ := hSw; go_simp <;> with_reducible rfl)
          simp only [Act.put, List.setIfInBounds_toArray, List.set_cons_zero, List.set_cons_succ]
          refine wpAnyH_take (i := 13) (oi := { dst := some 39, op := _, type := _, pos := _, after := _, guard := _ }) (v := ?_) rfl (by kernel_rfl) (by kernel_rfl) (by kernel_rfl) (fun _ _ _ h => h) (Or.inl ⟨by rfl, ?_⟩) (hH11) ?_
          rotate_left
          · (intro wx hSw; obtain ⟨_, _⟩ := hSw; go_simp <;> with_reducible rfl)
          simp only [Act.put, List.setIfInBounds_toArray, List.set_cons_zero, List.set_cons_succ]
          refine wpAnyH_take (i := 14) (oi := { dst := some 4, op := _, type := _, pos := _, after := _, guard := _ }) (v := ?_) rfl (by kernel_rfl) (by kernel_rfl) (by kernel_rfl) (fun _ _ _ h => h) (Or.inl ⟨by rfl, ?_⟩) (hH11) ?_
          rotate_left
          · (intro wx hSw; obtain ⟨_, _⟩ := hSw; go_simp <;> with_reducible rfl)
          simp only [Act.put, List.setIfInBounds_toArray, List.set_cons_zero, List.set_cons_succ]
          refine wpAnyH_done (by kernel_rfl) ?_ _
          -- behind it: go_wp2_with fail, then go_meet (a cut) or go_ret; the condition at the end: hH11
          go_wp2_with fail
          go_ret
          exact ⟨_, rfl, by (have := HL.out; rw [ByteArray.size_append, ByteArray.size_append, one_size]; omega), hH11.rd, hH11.bt⟩
        · have z := hb5.cell (p := ⟨w2.heap.size, 1, none⟩) (by simp) ne
          simp at z
          clear hb5 hr5
          refine wpAnyH_ready (rs := [6]) (by kernel_rfl) (by simp) ?_
          refine AllReadyH.cons (o := { dst := some 32, op := _, type := _, pos := _, after := _, guard := _ }) rfl (fun K hK => ?_) AllReadyH.nil
          go_simp
          refine hK.out _ _ hH9 (fun hH10 => ?_)
          clear hK K
          refine wpAnyH_ready (rs := [7]) (by kernel_rfl) (by simp) ?_
          refine AllReadyH.cons (o := { dst := some 33, op := _, type := _, pos := _, after := _, guard := _ }) rfl (fun K hK => ?_) AllReadyH.nil
          go_simp
          refine hK.out _ _ hH10 (fun hH11 => ?_)
          clear hK K
          refine wpAnyH_take (i := 8) (oi := { dst := some 34, op := _, type := _, pos := _, after := _, guard := _ }) (v := ?_) rfl (by kernel_rfl) (by kernel_rfl) (by kernel_rfl) (fun _ _ _ h => h) (Or.inl ⟨by rfl, ?_⟩) (hH11) ?_
          rotate_left
          · (intro wx hSw; obtain ⟨_, _⟩ := hSw; go_simp <;> with_reducible rfl)
          simp only [Act.put, List.setIfInBounds_toArray, List.set_cons_zero, List.set_cons_succ]
          refine wpAnyH_take (i := 13) (oi := { dst := some 39, op := _, type := _, pos := _, after := _, guard := _ }) (v := ?_) rfl (by kernel_rfl) (by kernel_rfl) (by kernel_rfl) (fun _ _ _ h => h) (Or.inl ⟨by rfl, ?_⟩) (hH11) ?_
          rotate_left
          · (intro wx hSw; obtain ⟨_, _⟩ := hSw; go_simp <;> with_reducible rfl)
          simp only [Act.put, List.setIfInBounds_toArray, List.set_cons_zero, List.set_cons_succ]
          refine wpAnyH_take (i := 14) (oi := { dst := some 4, op := _, type := _, pos := _, after := _, guard := _ }) (v := ?_) rfl (by kernel_rfl) (by kernel_rfl) (by kernel_rfl) (fun _ _ _ h => h) (Or.inl ⟨by rfl, ?_⟩) (hH11) ?_
          rotate_left
          · (intro wx hSw; obtain ⟨_, _⟩ := hSw; go_simp <;> with_reducible rfl)
          simp only [Act.put, List.setIfInBounds_toArray, List.set_cons_zero, List.set_cons_succ]
          refine wpAnyH_done (by kernel_rfl) ?_ _
          -- behind it: go_wp2_with fail, then go_meet (a cut) or go_ret; the condition at the end: hH11
          go_wp2_with fail
          go_ret
          exact ⟨_, rfl, by (have := HL.out; rw [ByteArray.size_append, ByteArray.size_append, one_size]; omega), hH11.rd, hH11.bt⟩
        · have z := hb5.cell (p := ⟨w2.heap.size, 2, none⟩) (by simp) ne
          simp at z
          clear hb5 hr5
          refine wpAnyH_ready (rs := [6]) (by kernel_rfl) (by simp) ?_
          refine AllReadyH.cons (o := { dst := some 32, op := _, type := _, pos := _, after := _, guard := _ }) rfl (fun K hK => ?_) AllReadyH.nil
          go_simp
          refine hK.out _ _ hH9 (fun hH10 => ?_)
          clear hK K
          refine wpAnyH_ready (rs := [7]) (by kernel_rfl) (by simp) ?_
          refine AllReadyH.cons (o := { dst := some 33, op := _, type := _, pos := _, after := _, guard := _ }) rfl (fun K hK => ?_) AllReadyH.nil
          go_simp
          refine hK.out _ _ hH10 (fun hH11 => ?_)
          clear hK K
          refine wpAnyH_take (i := 8) (oi := { dst := some 34, op := _, type := _, pos := _, after := _, guard := _ }) (v := ?_) rfl (by kernel_rfl) (by kernel_rfl) (by kernel_rfl) (fun _ _ _ h => h) (Or.inl ⟨by rfl, ?_⟩) (hH11) ?_
          rotate_left
          · (intro wx hSw; obtain ⟨_, _⟩ := hSw; go_simp <;> with_reducible rfl)
          simp only [Act.put, List.setIfInBounds_toArray, List.set_cons_zero, List.set_cons_succ]
          refine wpAnyH_take (i := 13) (oi := { dst := some 39, op := _, type := _, pos := _, after := _, guard := _ }) (v := ?_) rfl (by kernel_rfl) (by kernel_rfl) (by kernel_rfl) (fun _ _ _ h => h) (Or.inl ⟨by rfl, ?_⟩) (hH11) ?_
          rotate_left
          · (intro wx hSw; obtain ⟨_, _⟩ := hSw; go_simp <;> with_reducible rfl)
          simp only [Act.put, List.setIfInBounds_toArray, List.set_cons_zero, List.set_cons_succ]
          refine wpAnyH_take (i := 14) (oi := { dst := some 4, op := _, type := _, pos := _, after := _, guard := _ }) (v := ?_) rfl (by kernel_rfl) (by kernel_rfl) (by kernel_rfl) (fun _ _ _ h => h) (Or.inl ⟨by rfl, ?_⟩) (hH11) ?_
          rotate_left
          · (intro wx hSw; obtain ⟨_, _⟩ := hSw; go_simp <;> with_reducible rfl)
          simp only [Act.put, List.setIfInBounds_toArray, List.set_cons_zero, List.set_cons_succ]
          refine wpAnyH_done (by kernel_rfl) ?_ _
          -- behind it: go_wp2_with fail, then go_meet (a cut) or go_ret; the condition at the end: hH11
          go_wp2_with fail
          go_ret
          exact ⟨_, rfl, by (have := HL.out; rw [ByteArray.size_append, ByteArray.size_append, one_size]; omega), hH11.rd, hH11.bt⟩
        · have z := hb5.cell (p := ⟨w2.heap.size, 3, none⟩) (by simp) ne
          simp at z
          clear hb5 hr5
          refine wpAnyH_ready (rs := [6]) (by kernel_rfl) (by simp) ?_
          refine AllReadyH.cons (o := { dst := some 32, op := _, type := _, pos := _, after := _, guard := _ }) rfl (fun K hK => ?_) AllReadyH.nil
          go_simp
          refine hK.out _ _ hH9 (fun hH10 => ?_)
          clear hK K
          refine wpAnyH_ready (rs := [7]) (by kernel_rfl) (by simp) ?_
          refine AllReadyH.cons (o := { dst := some 33, op := _, type := _, pos := _, after := _, guard := _ }) rfl (fun K hK => ?_) AllReadyH.nil
          go_simp
          refine hK.out _ _ hH10 (fun hH11 => ?_)
          clear hK K
          refine wpAnyH_take (i := 8) (oi := { dst := some 34, op := _, type := _, pos := _, after := _, guard := _ }) (v := ?_) rfl (by kernel_rfl) (by kernel_rfl) (by kernel_rfl) (fun _ _ _ h => h) (Or.inl ⟨by rfl, ?_⟩) (hH11) ?_
          rotate_left
          · (intro wx hSw; obtain ⟨_, _⟩ := hSw; go_simp <;> with_reducible rfl)
          simp only [Act.put, List.setIfInBounds_toArray, List.set_cons_zero, List.set_cons_succ]
          refine wpAnyH_take (i := 13) (oi := { dst := some 39, op := _, type := _, pos := _, after := _, guard := _ }) (v := ?_) rfl (by kernel_rfl) (by kernel_rfl) (by kernel_rfl) (fun _ _ _ h => h) (Or.inl ⟨by rfl, ?_⟩) (hH11) ?_
          rotate_left
          · (intro wx hSw; obtain ⟨_, _⟩ := hSw; go_simp <;> with_reducible rfl)
          simp only [Act.put, List.setIfInBounds_toArray, List.set_cons_zero, List.set_cons_succ]
          refine wpAnyH_take (i := 14) (oi := { dst := some 4, op := _, type := _, pos := _, after := _, guard := _ }) (v := ?_) rfl (by kernel_rfl) (by kernel_rfl) (by kernel_rfl) (fun _ _ _ h => h) (Or.inl ⟨by rfl, ?_⟩) (hH11) ?_
          rotate_left
          · (intro wx hSw; obtain ⟨_, _⟩ := hSw; go_simp <;> with_reducible rfl)
          simp only [Act.put, List.setIfInBounds_toArray, List.set_cons_zero, List.set_cons_succ]
          refine wpAnyH_done (by kernel_rfl) ?_ _
          -- behind it: go_wp2_with fail, then go_meet (a cut) or go_ret; the condition at the end: hH11
          go_wp2_with fail
          go_ret
          exact ⟨_, rfl, by (have := HL.out; rw [ByteArray.size_append, ByteArray.size_append, one_size]; omega), hH11.rd, hH11.bt⟩
      · go_simp
        refine (N.out 4 _ hH0.rd (by omega)).mono ?_
        rintro e w5 ⟨y, rfl, y0, y1, hr5, hb5⟩
        dsimp only
        refine hK.out _ _ (⟨hr5, hH0.bt.trans hb5⟩ : RQ B w w5 rb a n c) (fun hH1 => ?_)
        clear hK K
        refine wpAnyH_ready (rs := [3]) (by kernel_rfl) (by simp) ?_
        refine AllReadyH.cons (o := { dst := some 29, op := _, type := _, pos := _, after := _, guard := _ }) rfl (fun K hK => ?_) AllReadyH.nil
        go_simp
        refine hK.out _ _ (RQ.below hH1 (balloc (Below.refl _ _) _)) (fun hH9 => ?_)
        clear hK K
        rcases four y y0 (by omega) with rfl | rfl | rfl | rfl
        · clear hb5 hr5
          refine wpAnyH_ready (rs := [6]) (by kernel_rfl) (by simp) ?_
          refine AllReadyH.cons (o := { dst := some 32, op := _, type := _, pos := _, after := _, guard := _ }) rfl (fun K hK => ?_) AllReadyH.nil
          go_simp
          refine hK.out _ _ hH9 (fun hH10 => ?_)
          clear hK K
          refine wpAnyH_ready (rs := [7]) (by kernel_rfl) (by simp) ?_
          refine AllReadyH.cons (o := { dst := some 33, op := _, type := _, pos := _, after := _, guard := _ }) rfl (fun K hK => ?_) AllReadyH.nil
          go_simp
          refine hK.out _ _ hH10 (fun hH11 => ?_)
          clear hK K
          refine wpAnyH_take (i := 8) (oi := { dst := some 34, op := _, type := _, pos := _, after := _, guard := _ }) (v := ?_) rfl (by kernel_rfl) (by kernel_rfl) (by kernel_rfl) (fun _ _ _ h => h) (Or.inl ⟨by rfl, ?_⟩) (hH11) ?_
          rotate_left
          · (intro wx hSw; obtain ⟨_, _⟩ := hSw; go_simp <;> with_reducible rfl)
          simp only [Act.put, List.setIfInBounds_toArray, List.set_cons_zero, List.set_cons_succ]
          refine wpAnyH_take (i := 13) (oi := { dst := some 39, op := _, type := _, pos := _, after := _, guard := _ }) (v := ?_) rfl (by kernel_rfl) (by kernel_rfl) (by kernel_rfl) (fun _ _ _ h => h) (Or.inl ⟨by rfl, ?_⟩) (hH11) ?_
          rotate_left
          · (intro wx hSw; obtain ⟨_, _⟩ := hSw; go_simp <;> with_reducible rfl)
          simp only [Act.put, List.setIfInBounds_toArray, List.set_cons_zero, List.set_cons_succ]
          refine wpAnyH_take (i := 14) (oi := { dst := some 4, op := _, type := _, pos := _, after := _, guard := _ }) (v := ?_) rfl (by kernel_rfl) (by kernel_rfl) (by kernel_rfl) (fun _ _ _ h => h) (Or.inl ⟨by rfl, ?_⟩) (hH11) ?_
          rotate_left
          · (intro wx hSw; obtain ⟨_, _⟩ := hSw; go_simp <;> with_reducible rfl)
          simp only [Act.put, List.setIfInBounds_toArray, List.set_cons_zero, List.set_cons_succ]
          refine wpAnyH_done (by kernel_rfl) ?_ _
          -- behind it: go_wp2_with fail, then go_meet (a cut) or go_ret; the condition at the end: hH11
          go_wp2_with fail
          go_ret
          exact ⟨_, rfl, by (have := HL.out; rw [ByteArray.size_append, ByteArray.size_append, one_size]; omega), hH11.rd, hH11.bt⟩
        · clear hb5 hr5
          refine wpAnyH_ready (rs := [6]) (by kernel_rfl) (by simp) ?_
          refine AllReadyH.cons (o := { dst := some 32, op := _, type := _, pos := _, after := _, guard := _ }) rfl (fun K hK => ?_) AllReadyH.nil
          go_simp
          refine hK.out _ _ hH9 (fun hH10 => ?_)
          clear hK K
          refine wpAnyH_ready (rs := [7]) (by kernel_rfl) (by simp) ?_
          refine AllReadyH.cons (o := { dst := some 33, op := _, type := _, pos := _, after := _, guard := _ }) rfl (fun K hK => ?_) AllReadyH.nil
          go_simp
          refine hK.out _ _ hH10 (fun hH11 => ?_)
          clear hK K
          refine wpAnyH_take (i := 8) (oi := { dst := some 34, op := _, type := _, pos := _, after := _, guard := _ }) (v := ?_) rfl (by kernel_rfl) (by kernel_rfl) (by kernel_rfl) (fun _ _ _ h => h) (Or.inl ⟨by rfl, ?_⟩) (hH11) ?_
          rotate_left
          · (intro wx hSw; obtain ⟨_, _⟩ := hSw; go_simp <;> with_reducible rfl)
          simp only [Act.put, List.setIfInBounds_toArray, List.set_cons_zero, List.set_cons_succ]
          refine wpAnyH_take (i := 13) (oi := { dst := some 39, op := _, type := _, pos := _, after := _, guard := _ }) (v := ?_) rfl (by kernel_rfl) (by kernel_rfl) (by kernel_rfl) (fun _ _ _ h => h) (Or.inl ⟨by rfl, ?_⟩) (hH11) ?_
          rotate_left
          · (intro wx hSw; obtain ⟨_, _⟩ := hSw; go_simp <;> with_reducible rfl)
          simp only [Act.put, List.setIfInBounds_toArray, List.set_cons_zero, List.set_cons_succ]
          refine wpAnyH_take (i := 14) (oi := { dst := some 4, op := _, type := _, pos := _, after := _, guard := _ }) (v := ?_) rfl (by kernel_rfl) (by kernel_rfl) (by kernel_rfl) (fun _ _ _ h => h) (Or.inl ⟨by rfl, ?_⟩) (hH11) ?_
          rotate_left
          · (intro wx hSw; obtain ⟨_, _⟩ := hSw; go_simp <;> with_reducible rfl)
          simp only [Act.put, List.setIfInBounds_toArray, List.set_cons_zero, List.set_cons_succ]
          refine wpAnyH_done (by kernel_rfl) ?_ _
          -- behind it: go_wp2_with fail, then go_meet (a cut) or go_ret; the condition at the end: hH11
          go_wp2_with fail
          go_ret
          exact ⟨_, rfl, by (have := HL.out; rw [ByteArray.size_append, ByteArray.size_append, one_size]; omega), hH11.rd, hH11.bt⟩
        · clear hb5 hr5
          refine wpAnyH_ready (rs := [6]) (by kernel_rfl) (by simp) ?_
          refine AllReadyH.cons (o := { dst := some 32, op := _, type := _, pos := _, after := _, guard := _ }) rfl (fun K hK => ?_) AllReadyH.nil
          go_simp
          refine hK.out _ _ hH9 (fun hH10 => ?_)
          clear hK K
          refine wpAnyH_ready (rs := [7]) (by kernel_rfl) (by simp) ?_
          refine AllReadyH.cons (o := { dst := some 33, op := _, type := _, pos := _, after := _, guard := _ }) rfl (fun K hK => ?_) AllReadyH.nil
          go_simp
          refine hK.out _ _ hH10 (fun hH11 => ?_)
          clear hK K
          refine wpAnyH_take (i := 8) (oi := { dst := some 34, op := _, type := _, pos := _, after := _, guard := _ }) (v := ?_) rfl (by kernel_rfl) (by kernel_rfl) (by kernel_rfl) (fun _ _ _ h => h) (Or.inl ⟨by rfl, ?_⟩) (hH11) ?_
          rotate_left
          · (intro wx hSw; obtain ⟨_, _⟩ := hSw; go_simp <;> with_reducible rfl)
          simp only [Act.put, List.setIfInBounds_toArray, List.set_cons_zero, List.set_cons_succ]
          refine wpAnyH_take (i := 13) (oi := { dst := some 39, op := _, type := _, pos := _, after := _, guard := _ }) (v := ?_) rfl (by kernel_rfl) (by kernel_rfl) (by kernel_rfl) (fun _ _ _ h => h) (Or.inl ⟨by rfl, ?_⟩) (hH11) ?_
          rotate_left
          · (intro wx hSw; obtain ⟨_, _⟩ := hSw; go_simp <;> with_reducible rfl)
          simp only [Act.put, List.setIfInBounds_toArray, List.set_cons_zero, List.set_cons_succ]
          refine wpAnyH_take (i := 14) (oi := { dst := some 4, op := _, type := _, pos := _, after := _, guard := _ }) (v := ?_) rfl (by kernel_rfl) (by kernel_rfl) (by kernel_rfl) (fun _ _ _ h => h) (Or.inl ⟨by rfl, ?_⟩) (hH11) ?_
          rotate_left
          · (intro wx hSw; obtain ⟨_, _⟩ := hSw; go_simp <;> with_reducible rfl)
          simp only [Act.put, List.setIfInBounds_toArray, List.set_cons_zero, List.set_cons_succ]
          refine wpAnyH_done (by kernel_rfl) ?_ _
          -- behind it: go_wp2_with fail, then go_meet (a cut) or go_ret; the condition at the end: hH11
          go_wp2_with fail
          go_ret
          exact ⟨_, rfl, by (have := HL.out; rw [ByteArray.size_append, ByteArray.size_append, one_size]; omega), hH11.rd, hH11.bt⟩
        · clear hb5 hr5
          refine wpAnyH_ready (rs := [6]) (by kernel_rfl) (by simp) ?_
          refine AllReadyH.cons (o := { dst := some 32, op := _, type := _, pos := _, after := _, guard := _ }) rfl (fun K hK => ?_) AllReadyH.nil
          go_simp
          refine hK.out _ _ hH9 (fun hH10 => ?_)
          clear hK K
          refine wpAnyH_ready (rs := [7]) (by kernel_rfl) (by simp) ?_
          refine AllReadyH.cons (o := { dst := some 33, op := _, type := _, pos := _, after := _, guard := _ }) rfl (fun K hK => ?_) AllReadyH.nil
          go_simp
          refine hK.out _ _ hH10 (fun hH11 => ?_)
          clear hK K
          refine wpAnyH_take (i := 8) (oi := { dst := some 34, op := _, type := _, pos := _, after := _, guard := _ }) (v := ?_) rfl (by kernel_rfl) (by kernel_rfl) (by kernel_rfl) (fun _ _ _ h => h) (Or.inl ⟨by rfl, ?_⟩) (hH11) ?_
          rotate_left
          · (intro wx hSw; obtain ⟨_, _⟩ := hSw; go_simp <;> with_reducible rfl)
          simp only [Act.put, List.setIfInBounds_toArray, List.set_cons_zero, List.set_cons_succ]
          refine wpAnyH_take (i := 13) (oi := { dst := some 39, op := _, type := _, pos := _, after := _, guard := _ }) (v := ?_) rfl (by kernel_rfl) (by kernel_rfl) (by kernel_rfl) (fun _ _ _ h => h) (Or.inl ⟨by rfl, ?_⟩) (hH11) ?_
          rotate_left
          · (intro wx hSw; obtain ⟨_, _⟩ := hSw; go_simp <;> with_reducible rfl)
          simp only [Act.put, List.setIfInBounds_toArray, List.set_cons_zero, List.set_cons_succ]
          refine wpAnyH_take (i := 14) (oi := { dst := some 4, op := _, type := _, pos := _, after := _, guard := _ }) (v := ?_) rfl (by kernel_rfl) (by kernel_rfl) (by kernel_rfl) (fun _ _ _ h => h) (Or.inl ⟨by rfl, ?_⟩) (hH11) ?_
          rotate_left
          · (intro wx hSw; obtain ⟨_, _⟩ := hSw; go_simp <;> with_reducible rfl)
          simp only [Act.put, List.setIfInBounds_toArray, List.set_cons_zero, List.set_cons_succ]
          refine wpAnyH_done (by kernel_rfl) ?_ _
          -- behind it: go_wp2_with fail, then go_meet (a cut) or go_ret; the condition at the end: hH11
          go_wp2_with fail
          go_ret
          exact ⟨_, rfl, by (have := HL.out; rw [ByteArray.size_append, ByteArray.size_append, one_size]; omega), hH11.rd, hH11.bt⟩
  · go_wp2_with fail
    refine (N.out 4 _ (R1.out.alloc _) (by omega)).mono ?_
    rintro e w2 ⟨x, rfl, x0, x1, hr2, hb2⟩
    have T2 := hide (B1.out.trans ((((But.refl rb w1).alloc _)).trans hb2))
    have ne : ¬ w1.heap.size = rb := by omega
    rcases four x x0 (by omega) with rfl | rfl | rfl | rfl
    · have z := hb2.cell (p := ⟨w1.heap.size, 0, none⟩) (by simp) ne
      simp at z
      clear hb2
      go_wp2_with fail
      go_ret
      exact ⟨_, rfl, by simp [ByteArray.size_append]; exact Nat.le_refl _, hr2, T2.out⟩
    · have z := hb2.cell (p := ⟨w1.heap.size, 1, none⟩) (by simp) ne
      simp at z
      clear hb2
      go_wp2_with fail
      go_ret
      exact ⟨_, rfl, by simp [ByteArray.size_append]; exact Nat.le_refl _, hr2, T2.out⟩
    · have z := hb2.cell (p := ⟨w1.heap.size, 2, none⟩) (by simp) ne
      simp at z
      clear hb2
      go_wp2_with fail
      go_ret
      exact ⟨_, rfl, by simp [ByteArray.size_append]; exact Nat.le_refl _, hr2, T2.out⟩
    · have z := hb2.cell (p := ⟨w1.heap.size, 3, none⟩) (by simp) ne
      simp at z
      clear hb2
      go_wp2_with fail
      go_ret
      exact ⟨_, rfl, by simp [ByteArray.size_append]; exact Nat.le_refl _, hr2, T2.out⟩
  · go_wp2_with fail
    go_ret
    exact ⟨_, rfl, by omega, R1.out, B1.out⟩
end Go.Proofs.YtggjcccdeaadbaaGreatDoor
