/- sameItem, sameItems of the laws, where both are the same items. -/
import Derived.Test.YtcbmfannbaaokaaIC
import Derived.Test.YtcbmfannbaaokaaVS
namespace Go.Proofs.Ytcbmfannbaaokaa
open Go.RowKit
set_option linter.unusedSimpArgs false
set_option linter.unusedVariables false

set_option maxHeartbeats 800000 in
theorem sameItem_self (x : It) (a a' : Option Addr) (n n' cap cap1 : Nat) (w : World) (h : Row w a n x.vec) (h' : Row w a' n' x.vec) (hn : n ≤ 1048576) :
    Calls Try.prog 13 #[.agg #[.int .i64 x.id, .int .i64 x.tags, .slice a n cap], .agg #[.int .i64 x.id, .int .i64 x.tags, .slice a' n' cap1]] w fun e w' => e = .returned (.bool true) ∧ Below w.heap.size w w' := by
  have R := hide (fun w1 (hb : Below w.heap.size w w1) => sameInts_any a a' n cap n' cap1 x.vec x.vec w1 (h.below hb) (h'.below hb) hn)
  have g1 : (x.id == x.id) = true := by simp
  have g2 : (x.tags == x.tags) = true := by simp
  clear h h'
  go_enter Try.func13, Try.ntmps13
  go_wp2_with fail
  refine (R.out _ (by repeat' first | with_reducible exact Below.refl _ _ | with_reducible assumption | with_reducible refine below_drewN ?_ _ | with_reducible refine balloc ?_ _ | with_reducible refine Below.drew ?_ | with_reducible refine Below.setCell ?_ (by first | (simp; done) | (simp; omega) | omega) _ | with_reducible refine bstep ?_ (by assumption))).mono ?_
  rintro e w1 ⟨rfl, hb1⟩
  rw [show decide True = true from rfl]
  go_wp2_with fail
  go_ret
  exact ⟨rfl, (by repeat' first | with_reducible exact Below.refl _ _ | with_reducible assumption | with_reducible refine below_drewN ?_ _ | with_reducible refine balloc ?_ _ | with_reducible refine Below.drew ?_ | with_reducible refine Below.setCell ?_ (by first | (simp; done) | (simp; omega) | omega) _ | with_reducible refine bstep ?_ (by assumption))⟩

set_option maxHeartbeats 2000000 in
theorem sameItems_some (b off n cap b1 off1 cap1 : Nat) (L : IL) (w : World) (hn : n ≤ 1048576) (hv : ∀ i, i < n → (L i).vec.length ≤ 1048576) (hb : b < w.heap.size) (hb1 : b1 < w.heap.size)
    (hc : ∀ i, i < n → IAt w b (off + i * 3) (L i)) (hc1 : ∀ i, i < n → IAt w b1 (off1 + i * 3) (L i)) :
    Calls Try.prog 9 #[.slice (some ⟨b, off, none⟩) n cap, .slice (some ⟨b1, off1, none⟩) n cap1] w fun e w' => e = .returned (.bool true) ∧ Below w.heap.size w w' := by
  have HC := hide hc
  have HC1 := hide hc1
  have HV := hide hv
  clear hc hc1 hv
  go_enter Try.func9, Try.ntmps9
  go_wp2
  go_loopw [5] (fun i wr => ∃ k : Nat, k ≤ n ∧ i = .int .i64 k ∧ Below w.heap.size w wr) (fun i _ => n - (intOf i).toNat)
  case atStart => exact ⟨0, Nat.zero_le _, rfl, (by repeat' first | with_reducible exact Below.refl _ _ | with_reducible assumption | with_reducible refine below_drewN ?_ _ | with_reducible refine balloc ?_ _ | with_reducible refine Below.drew ?_ | with_reducible refine Below.setCell ?_ (by first | (simp; done) | (simp; omega) | omega) _ | with_reducible refine bstep ?_ (by assumption))⟩
  case round =>
    obtain ⟨k, hk, rfl, hbel⟩ := hrel
    have HB := hide hbel
    by_cases hlt : k < n
    · obtain ⟨c0, c1, va, vn, vc, c2, vr⟩ := (HC.out k hlt).below hb hbel
      obtain ⟨d0, d1, va1, vn1, vc1, d2, vr1⟩ := (HC1.out k hlt).below hb1 hbel
      have T := hide (Two.mk (Nat.lt_of_lt_of_le hb hbel.size) (Nat.lt_of_lt_of_le hb1 hbel.size) vr vr1 c0 c1 c2 d0 d1 d2)
      have R := hide (fun w1 (t : Two w1 b (off + k * 3) b1 (off1 + k * 3) (L k) va va1 vn vn1 vc vc1) => sameItem_self (L k) va va1 vn vn1 vc vc1 w1 t.r t.r' (by rw [← vr.len]; exact HV.out k hlt))
      have hlt' : (k : Int) < (n : Int) := by omega
      clear hbel vr vr1 c0 c1 c2 d0 d1 d2
      go_upto_region 6 with fail
      refine wp_region_held_drew (S := fun wx => Two wx b (off + k * 3) b1 (off1 + k * 3) (L k) va va1 vn vn1 vc vc1) (by kernel_rfl) (T.out.drew) (fun hH0 => ?_)
      refine wpAnyH_take (i := 0) (oi := { dst := some 17, op := _, type := _, pos := _, after := _, guard := _ }) (v := ?_) rfl (by kernel_rfl) (by kernel_rfl) (by kernel_rfl) (fun _ _ _ h => h) (Or.inl ⟨by rfl, ?_⟩) (hH0) ?_
      rotate_left
      · (intro wx hSw; obtain ⟨l0, l1, r0, r1, q0, q1, q2, q3, q4, q5⟩ := hSw; go_simp <;> with_reducible rfl)
      simp only [Act.put, List.setIfInBounds_toArray, List.set_cons_zero, List.set_cons_succ]
      refine wpAnyH_take (i := 1) (oi := { dst := some 18, op := _, type := _, pos := _, after := _, guard := _ }) (v := ?_) rfl (by kernel_rfl) (by kernel_rfl) (by kernel_rfl) (fun _ _ _ h => h) (Or.inl ⟨by rfl, ?_⟩) (hH0) ?_
      rotate_left
      · (intro wx hSw; obtain ⟨l0, l1, r0, r1, q0, q1, q2, q3, q4, q5⟩ := hSw; go_simp <;> with_reducible rfl)
      simp only [Act.put, List.setIfInBounds_toArray, List.set_cons_zero, List.set_cons_succ]
      refine wpAnyH_take (i := 2) (oi := { dst := some 19, op := _, type := _, pos := _, after := _, guard := _ }) (v := ?_) rfl (by kernel_rfl) (by kernel_rfl) (by kernel_rfl) (fun _ _ _ h => h) (Or.inl ⟨by rfl, ?_⟩) (hH0) ?_
      rotate_left
      · (intro wx hSw; obtain ⟨l0, l1, r0, r1, q0, q1, q2, q3, q4, q5⟩ := hSw; go_simp <;> with_reducible rfl)
      simp only [Act.put, List.setIfInBounds_toArray, List.set_cons_zero, List.set_cons_succ]
      refine wpAnyH_take (i := 3) (oi := { dst := some 20, op := _, type := _, pos := _, after := _, guard := _ }) (v := ?_) rfl (by kernel_rfl) (by kernel_rfl) (by kernel_rfl) (fun _ _ _ h => h) (Or.inl ⟨by rfl, ?_⟩) (hH0) ?_
      rotate_left
      · (intro wx hSw; obtain ⟨l0, l1, r0, r1, q0, q1, q2, q3, q4, q5⟩ := hSw; go_simp <;> with_reducible rfl)
      simp only [Act.put, List.setIfInBounds_toArray, List.set_cons_zero, List.set_cons_succ]
      refine wpAnyH_take (i := 4) (oi := { dst := some 21, op := _, type := _, pos := _, after := _, guard := _ }) (v := ?_) rfl (by kernel_rfl) (by kernel_rfl) (by kernel_rfl) (fun _ _ _ h => h) (Or.inl ⟨by rfl, ?_⟩) (hH0) ?_
      rotate_left
      · (intro wx hSw; obtain ⟨l0, l1, r0, r1, q0, q1, q2, q3, q4, q5⟩ := hSw; go_simp <;> with_reducible rfl)
      simp only [Act.put, List.setIfInBounds_toArray, List.set_cons_zero, List.set_cons_succ]
      refine wpAnyH_take (i := 5) (oi := { dst := some 22, op := _, type := _, pos := _, after := _, guard := _ }) (v := ?_) rfl (by kernel_rfl) (by kernel_rfl) (by kernel_rfl) (fun _ _ _ h => h) (Or.inl ⟨by rfl, ?_⟩) (hH0) ?_
      rotate_left
      · (intro wx hSw; obtain ⟨l0, l1, r0, r1, q0, q1, q2, q3, q4, q5⟩ := hSw; go_simp <;> with_reducible rfl)
      simp only [Act.put, List.setIfInBounds_toArray, List.set_cons_zero, List.set_cons_succ]
      refine wpAnyH_take (i := 6) (oi := { dst := some 23, op := _, type := _, pos := _, after := _, guard := _ }) (v := ?_) rfl (by kernel_rfl) (by kernel_rfl) (by kernel_rfl) (fun _ _ _ h => h) (Or.inl ⟨by rfl, ?_⟩) (hH0) ?_
      rotate_left
      · (intro wx hSw; obtain ⟨l0, l1, r0, r1, q0, q1, q2, q3, q4, q5⟩ := hSw; go_simp <;> with_reducible rfl)
      simp only [Act.put, List.setIfInBounds_toArray, List.set_cons_zero, List.set_cons_succ]
      refine wpAnyH_take (i := 7) (oi := { dst := some 24, op := _, type := _, pos := _, after := _, guard := _ }) (v := ?_) rfl (by kernel_rfl) (by kernel_rfl) (by kernel_rfl) (fun _ _ _ h => h) (Or.inl ⟨by rfl, ?_⟩) (hH0) ?_
      rotate_left
      · (intro wx hSw; obtain ⟨l0, l1, r0, r1, q0, q1, q2, q3, q4, q5⟩ := hSw; go_simp <;> with_reducible rfl)
      simp only [Act.put, List.setIfInBounds_toArray, List.set_cons_zero, List.set_cons_succ]
      refine wpAnyH_ready (rs := [8]) (by kernel_rfl) (by simp) ?_
      refine AllReadyH.cons (o := { dst := some 25, op := _, type := _, pos := _, after := _, guard := _ }) rfl (fun K hK => ?_) AllReadyH.nil
      go_simp
      refine (R.out _ hH0).mono ?_
      rintro e w_c25_1 ⟨rfl, hb_c25_1⟩
      dsimp only
      refine hK.out _ _ (Two.below hH0 hb_c25_1) (fun hH1 => ?_)
      clear hK K
      refine wpAnyH_take (i := 9) (oi := { dst := some 26, op := _, type := _, pos := _, after := _, guard := _ }) (v := ?_) rfl (by kernel_rfl) (by kernel_rfl) (by kernel_rfl) (fun _ _ _ h => h) (Or.inl ⟨by rfl, ?_⟩) (hH1) ?_
      rotate_left
      · (intro wx hSw; obtain ⟨l0, l1, r0, r1, q0, q1, q2, q3, q4, q5⟩ := hSw; go_simp <;> with_reducible rfl)
      simp only [Act.put, List.setIfInBounds_toArray, List.set_cons_zero, List.set_cons_succ]
      refine wpAnyH_done (by kernel_rfl) ?_ _
      -- behind it: go_wp2_with fail, then go_meet (a cut) or go_ret; the condition at the end: hH1
      go_wp2_with fail
      go_roundw
      case rel =>
        have hbel := HB.out
        exact ⟨k + 1, by omega, by go_num, (by repeat' first | with_reducible exact Below.refl _ _ | with_reducible assumption | with_reducible refine below_drewN ?_ _ | with_reducible refine balloc ?_ _ | with_reducible refine Below.drew ?_ | with_reducible refine Below.setCell ?_ (by first | (simp; done) | (simp; omega) | omega) _ | with_reducible refine bstep ?_ (by assumption))⟩
      case measure => simp [intOf]; omega
    · go_wp2
      go_ret
      exact ⟨rfl, HB.out⟩

set_option maxHeartbeats 400000 in
theorem sameItems_none (a a1 : Option Addr) (n cap cap1 : Nat) (w : World) (hn : n < 1) :
    Calls Try.prog 9 #[.slice a n cap, .slice a1 n cap1] w fun e w' => e = .returned (.bool true) ∧ Below w.heap.size w w' := by
  go_enter Try.func9, Try.ntmps9
  go_wp2
  refine wp_loop_rounds 1 ?_
  rw [rounds_succ]
  go_wp2
  go_ret
  exact ⟨rfl, (by repeat' first | with_reducible exact Below.refl _ _ | with_reducible assumption | with_reducible refine below_drewN ?_ _ | with_reducible refine balloc ?_ _ | with_reducible refine Below.drew ?_ | with_reducible refine Below.setCell ?_ (by first | (simp; done) | (simp; omega) | omega) _ | with_reducible refine bstep ?_ (by assumption))⟩

/-- Two slices of the same items. -/
theorem sameItems_self (a a1 : Option Addr) (n cap cap1 : Nat) (L : IL) (w : World) (h : IRow w a n L) (h1 : IRow w a1 n L) (hn : n ≤ 1048576) (hv : ∀ i, i < n → (L i).vec.length ≤ 1048576) :
    Calls Try.prog 9 #[.slice a n cap, .slice a1 n cap1] w fun e w' => e = .returned (.bool true) ∧ Below w.heap.size w w' := by
  by_cases h0 : n = 0
  · exact sameItems_none a a1 n cap cap1 w (by omega)
  · rcases h.lies with q | ⟨b, off, rfl, lt, hc⟩
    · omega
    · rcases h1.lies with q | ⟨b1, off1, rfl, lt1, hc1⟩
      · omega
      · exact sameItems_some b off n cap b1 off1 cap1 L w hn hv lt lt1 hc hc1
end Go.Proofs.Ytcbmfannbaaokaa
