/- Packed rows of the program: a place's codes laid into one, and taken out. -/
import Derived.Test.YtcgeebdhkdfkpaaCE
namespace Go.Proofs.Ytcgeebdhkdfkpaa
open Go.RowKit
set_option maxRecDepth 8000
set_option linter.unusedSimpArgs false
set_option linter.unusedVariables false

set_option maxHeartbeats 800000 in
theorem with_out (A B C D n : Int) (k : Nat) (x y : Int) (w : World) (hk : k < 8) :
    Calls Try.prog 29 #[.agg #[.int .u8 A, .int .u32 B, .int .u64 C, .int .u8 D, .int .i64 n], .int .i64 k, .agg #[.int .i64 x, .int .i64 y, .int .i64 (-1)]] w fun e w' => e = .returned (.agg #[.int .u8 A, .int .u32 B, .int .u64 C, .int .u8 (bits .or .u8 D (2 ^ k % 256)), .int .i64 n]) ∧ Below w.heap.size w w' := by
  go_enter Try.func29, Try.ntmps29
  go_wp2_with fail
  go_region
  all_goals
    go_wp2_with fail
    refine bodyPost_ret (v := .agg #[.int .u8 A, .int .u32 B, .int .u64 C, .int .u8 (bits .or .u8 D (2 ^ k % 256)), .int .i64 n]) ?_ rfl ⟨rfl, (by repeat' first | with_reducible exact Below.refl _ _ | with_reducible assumption | with_reducible refine below_drewN ?_ _ | with_reducible refine balloc ?_ _ | with_reducible refine Below.drew ?_ | with_reducible refine Below.setCell ?_ (by first | (simp; done) | (simp; omega) | omega) _ | with_reducible refine bstep ?_ (by assumption))⟩
    simp [results, Try.results29, go_sem]

set_option maxHeartbeats 1600000 in
theorem with_in (A B C D n : Int) (k : Nat) (x y z : Int) (w : World) (hk : k < 8) (hz : ¬ z = -1) :
    Calls Try.prog 29 #[.agg #[.int .u8 A, .int .u32 B, .int .u64 C, .int .u8 D, .int .i64 n], .int .i64 k, .agg #[.int .i64 x, .int .i64 y, .int .i64 z]] w fun e w' => e = .returned (.agg #[.int .u8 (bits .or .u8 A (x % 256 * 2 ^ k % 256)), .int .u32 (bits .or .u32 B (y % 4294967296 * 2 ^ (4 * k) % 4294967296)), .int .u64 (bits .or .u64 C (z % 18446744073709551616 * 2 ^ (8 * k) % 18446744073709551616)), .int .u8 D, .int .i64 n]) ∧ Below w.heap.size w w' := by
  have hz' : (z == -1) = false := by simpa using hz
  go_enter Try.func29, Try.ntmps29
  go_wp2_with fail
  go_region
  go_wp2_with fail
  go_region
  go_wp2_with fail
  go_region
  all_goals
    go_wp2_with fail
    refine bodyPost_ret (v := .agg #[.int .u8 (bits .or .u8 A (x % 256 * 2 ^ k % 256)), .int .u32 (bits .or .u32 B (y % 4294967296 * 2 ^ (4 * k) % 4294967296)), .int .u64 (bits .or .u64 C (z % 18446744073709551616 * 2 ^ (8 * k) % 18446744073709551616)), .int .u8 D, .int .i64 n]) ?_ rfl ⟨rfl, (by repeat' first | with_reducible exact Below.refl _ _ | with_reducible assumption | with_reducible refine below_drewN ?_ _ | with_reducible refine balloc ?_ _ | with_reducible refine Below.drew ?_ | with_reducible refine Below.setCell ?_ (by first | (simp; done) | (simp; omega) | omega) _ | with_reducible refine bstep ?_ (by assumption))⟩
    simp [results, Try.results29, go_sem, IntKind.wrap_u64]



theorem bits_and_lt (k : IntKind) (hk : k = .u8 ∨ k = .u32) (x y : Int) : 0 ≤ bits .and k x y ∧ bits .and k x y < 4294967296 := by
  unfold bits
  rcases hk with rfl | rfl
  · simp only [IntKind.wrap_u8]; omega
  · simp only [IntKind.wrap_u32]; omega



/-- What codesOf holds: its range, and the box of its answer. -/
structure CO (w : World) (b : Nat) (lo hi : Int) : Prop where
  lt : b + 1 < w.heap.size
  c0 : w.cell? ⟨b, 0, none⟩ = some (.int .i64 lo)
  c1 : w.cell? ⟨b, 1, none⟩ = some (.int .i64 hi)
  z0 : ∃ u, w.cell? ⟨b + 1, 0, none⟩ = some u
  z1 : ∃ u, w.cell? ⟨b + 1, 1, none⟩ = some u
  z2 : ∃ u, w.cell? ⟨b + 1, 2, none⟩ = some u
  f0 : w.frozen? ⟨b + 1, 0, none⟩ = false
  f1 : w.frozen? ⟨b + 1, 1, none⟩ = false
  f2 : w.frozen? ⟨b + 1, 2, none⟩ = false

theorem CO.below {w w' : World} {b : Nat} {lo hi : Int} (h : CO w b lo hi) (hb : Below w.heap.size w w') : CO w' b lo hi :=
  ⟨Nat.lt_of_lt_of_le h.lt hb.size, (hb.cell (p := ⟨b, 0, none⟩) (by have := h.lt; show b < _; omega)).trans h.c0, (hb.cell (p := ⟨b, 1, none⟩) (by have := h.lt; show b < _; omega)).trans h.c1,
    h.z0.imp fun u hu => (hb.cell (p := ⟨b + 1, 0, none⟩) h.lt).trans hu, h.z1.imp fun u hu => (hb.cell (p := ⟨b + 1, 1, none⟩) h.lt).trans hu, h.z2.imp fun u hu => (hb.cell (p := ⟨b + 1, 2, none⟩) h.lt).trans hu,
    (hb.frozen (p := ⟨b + 1, 0, none⟩) h.lt).trans h.f0, (hb.frozen (p := ⟨b + 1, 1, none⟩) h.lt).trans h.f1, (hb.frozen (p := ⟨b + 1, 2, none⟩) h.lt).trans h.f2⟩

theorem CO.set {w : World} {b : Nat} {lo hi : Int} (h : CO w b lo hi) (u v x : Value) : CO (((w.setCell ⟨b + 1, 0, none⟩ u).setCell ⟨b + 1, 1, none⟩ v).setCell ⟨b + 1, 2, none⟩ x) b lo hi := by
  obtain ⟨h0, h1, h2, ⟨u0, h3⟩, ⟨u1, h4⟩, ⟨u2, h5⟩, h6, h7, h8⟩ := h
  exact ⟨by simpa [World.setCell] using h0, by simp [go_sem, h1], by simp [go_sem, h2], ⟨u, by simp [go_sem, h3, h4, h5]⟩, ⟨v, by simp [go_sem, h3, h4, h5]⟩, ⟨x, by simp [go_sem, h3, h4, h5]⟩, by simp [go_sem, h6], by simp [go_sem, h7], by simp [go_sem, h8]⟩

set_option maxHeartbeats 1600000 in
set_option maxRecDepth 4000 in
theorem codesOf_any (lo hi x : Int) (w : World) :
    Calls Try.prog 30 #[.agg #[.int .i64 lo, .int .i64 hi], .int .i64 x] w fun e w' => e = .returned (.agg #[.int .i64 (codeB lo hi 1 x), .int .i64 (codeB lo hi 2 x), .int .i64 (codeB lo hi 3 x)]) ∧ Below w.heap.size w w' := by
  have H1 := hide (iCodeOf_any lo hi 1 x)
  have H2 := hide (iCodeOf_any lo hi 2 x)
  have H3 := hide (iCodeOf_any lo hi 3 x)
  generalize codeB lo hi 1 x = a at H1 ⊢
  generalize codeB lo hi 2 x = b at H2 ⊢
  generalize codeB lo hi 3 x = c at H3 ⊢
  have bw : Below w.heap.size w ((w.alloc (.cells #[.int .i64 lo, .int .i64 hi] 42)).alloc (.cells #[.int .i64 0, .int .i64 0, .int .i64 0] 60)).drew := Below.drew (balloc (balloc (Below.refl _ _) _) _)
  have S0 : Hid (CO ((w.alloc (.cells #[.int .i64 lo, .int .i64 hi] 42)).alloc (.cells #[.int .i64 0, .int .i64 0, .int .i64 0] 60)).drew w.heap.size lo hi) := hide ⟨by simp, by simp [go_sem], by simp [go_sem], ⟨_, by simp [go_sem]; rfl⟩, ⟨_, by simp [go_sem]; rfl⟩, ⟨_, by simp [go_sem]; rfl⟩, by simp [go_sem], by simp [go_sem], by simp [go_sem]⟩
  go_enter Try.func30, Try.ntmps30
  go_wp2_with fail
  refine wp_region_held_drew (S := fun wx => CO wx w.heap.size lo hi) (by kernel_rfl) (S0.out) (fun hH0 => ?_)
  refine wpAnyH_take (i := 0) (oi := { dst := some 5, op := _, type := _, pos := _, after := _, guard := _ }) (v := ?_) rfl (by kernel_rfl) (by kernel_rfl) (by kernel_rfl) (fun _ _ _ h => h) (Or.inl ⟨by rfl, ?_⟩) (hH0) ?_
  rotate_left
  · (intro wx hSw; obtain ⟨_, q0, q1, _, _, _, _, _, _⟩ := hSw; go_simp <;> with_reducible rfl)
  simp only [Act.put, List.setIfInBounds_toArray, List.set_cons_zero, List.set_cons_succ]
  refine wpAnyH_take (i := 1) (oi := { dst := some 6, op := _, type := _, pos := _, after := _, guard := _ }) (v := ?_) rfl (by kernel_rfl) (by kernel_rfl) (by kernel_rfl) (fun _ _ _ h => h) (Or.inl ⟨by rfl, ?_⟩) (hH0) ?_
  rotate_left
  · (intro wx hSw; obtain ⟨_, q0, q1, _, _, _, _, _, _⟩ := hSw; go_simp <;> with_reducible rfl)
  simp only [Act.put, List.setIfInBounds_toArray, List.set_cons_zero, List.set_cons_succ]
  refine wpAnyH_take (i := 3) (oi := { dst := some 8, op := _, type := _, pos := _, after := _, guard := _ }) (v := ?_) rfl (by kernel_rfl) (by kernel_rfl) (by kernel_rfl) (fun _ _ _ h => h) (Or.inl ⟨by rfl, ?_⟩) (hH0) ?_
  rotate_left
  · (intro wx hSw; obtain ⟨_, q0, q1, _, _, _, _, _, _⟩ := hSw; go_simp <;> with_reducible rfl)
  simp only [Act.put, List.setIfInBounds_toArray, List.set_cons_zero, List.set_cons_succ]
  refine wpAnyH_take (i := 4) (oi := { dst := some 9, op := _, type := _, pos := _, after := _, guard := _ }) (v := ?_) rfl (by kernel_rfl) (by kernel_rfl) (by kernel_rfl) (fun _ _ _ h => h) (Or.inl ⟨by rfl, ?_⟩) (hH0) ?_
  rotate_left
  · (intro wx hSw; obtain ⟨_, q0, q1, _, _, _, _, _, _⟩ := hSw; go_simp <;> with_reducible rfl)
  simp only [Act.put, List.setIfInBounds_toArray, List.set_cons_zero, List.set_cons_succ]
  refine wpAnyH_take (i := 6) (oi := { dst := some 11, op := _, type := _, pos := _, after := _, guard := _ }) (v := ?_) rfl (by kernel_rfl) (by kernel_rfl) (by kernel_rfl) (fun _ _ _ h => h) (Or.inl ⟨by rfl, ?_⟩) (hH0) ?_
  rotate_left
  · (intro wx hSw; obtain ⟨_, q0, q1, _, _, _, _, _, _⟩ := hSw; go_simp <;> with_reducible rfl)
  simp only [Act.put, List.setIfInBounds_toArray, List.set_cons_zero, List.set_cons_succ]
  refine wpAnyH_take (i := 7) (oi := { dst := some 12, op := _, type := _, pos := _, after := _, guard := _ }) (v := ?_) rfl (by kernel_rfl) (by kernel_rfl) (by kernel_rfl) (fun _ _ _ h => h) (Or.inl ⟨by rfl, ?_⟩) (hH0) ?_
  rotate_left
  · (intro wx hSw; obtain ⟨_, q0, q1, _, _, _, _, _, _⟩ := hSw; go_simp <;> with_reducible rfl)
  simp only [Act.put, List.setIfInBounds_toArray, List.set_cons_zero, List.set_cons_succ]
  refine wpAnyH_ready (rs := [2]) (by kernel_rfl) (by simp) ?_
  refine AllReadyH.cons (o := { dst := some 7, op := _, type := _, pos := _, after := _, guard := _ }) rfl (fun K hK => ?_) AllReadyH.nil
  go_simp
  refine (H1.out _).mono ?_
  rintro e w_c7_1 ⟨rfl, hb_c7_1⟩
  dsimp only
  refine hK.out _ _ (CO.below hH0 hb_c7_1) (fun hH1 => ?_)
  clear hK K
  refine wpAnyH_ready (rs := [5]) (by kernel_rfl) (by simp) ?_
  refine AllReadyH.cons (o := { dst := some 10, op := _, type := _, pos := _, after := _, guard := _ }) rfl (fun K hK => ?_) AllReadyH.nil
  go_simp
  refine (H2.out _).mono ?_
  rintro e w_c10_2 ⟨rfl, hb_c10_2⟩
  dsimp only
  refine hK.out _ _ (CO.below hH1 hb_c10_2) (fun hH2 => ?_)
  clear hK K
  refine wpAnyH_ready (rs := [8]) (by kernel_rfl) (by simp) ?_
  refine AllReadyH.cons (o := { dst := some 13, op := _, type := _, pos := _, after := _, guard := _ }) rfl (fun K hK => ?_) AllReadyH.nil
  go_simp
  refine (H3.out _).mono ?_
  rintro e w_c13_3 ⟨rfl, hb_c13_3⟩
  dsimp only
  refine hK.out _ _ (CO.below hH2 hb_c13_3) (fun hH3 => ?_)
  clear hK K
  refine wpAnyH_take (i := 9) (oi := { dst := some 14, op := _, type := _, pos := _, after := _, guard := _ }) (v := ?_) rfl (by kernel_rfl) (by kernel_rfl) (by kernel_rfl) (fun _ _ _ h => h) (Or.inl ⟨by rfl, ?_⟩) (hH3) ?_
  rotate_left
  · (intro wx hSw; obtain ⟨_, q0, q1, _, _, _, _, _, _⟩ := hSw; go_simp <;> with_reducible rfl)
  simp only [Act.put, List.setIfInBounds_toArray, List.set_cons_zero, List.set_cons_succ]
  -- behind it: go_wp2_with fail, then go_meet (a cut) or go_ret; the condition at the end: hH3
  refine wpAnyH_ready (rs := [10]) (by kernel_rfl) (by simp) ?_
  refine AllReadyH.cons (o := { dst := none, op := _, type := _, pos := _, after := _, guard := _ }) rfl (fun K hK => ?_) AllReadyH.nil
  obtain ⟨_, q0, q1, ⟨u0, p0⟩, ⟨u1, p1⟩, ⟨u2, p2⟩, p3, p4, p5⟩ := id hH3
  go_simp
  refine hK.out _ _ (CO.set hH3 _ _ _) (fun hH4 => ?_)
  clear hK K
  refine wpAnyH_done (by kernel_rfl) ?_ _
  have s1 := hb_c7_1.size
  have s2 := hb_c10_2.size
  have s3 := hb_c13_3.size
  simp at s1
  go_wp2_with fail
  refine bodyPost_ret (v := .agg #[.int .i64 a, .int .i64 b, .int .i64 c]) ?_ rfl ⟨rfl, ?_⟩
  · simp [results, Try.results30, go_sem, p0, p1, p2]
  · exact (((bstep (bstep (bstep bw hb_c7_1) hb_c10_2) hb_c13_3).setCell (by simp) _).setCell (by simp) _).setCell (by simp) _

end Go.Proofs.Ytcgeebdhkdfkpaa
