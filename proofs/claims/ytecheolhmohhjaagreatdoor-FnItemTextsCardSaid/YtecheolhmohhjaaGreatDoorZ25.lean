/- Texts of items: ItemText of the program and of the model; the walk of the law FnExactItemText. -/
import Derived.Test.YtecheolhmohhjaaGreatDoorZ23
import Derived.Test.YtecheolhmohhjaaGreatDoorZ11
import Derived.Test.YtecheolhmohhjaaGreatDoorZ17
import Derived.Deep.RegionHeld3
import Derived.BigQuiet
namespace Go.Proofs.YtecheolhmohhjaaGreatDoor
open Go.RowKit
set_option maxRecDepth 8000
set_option linter.unusedSimpArgs false
set_option linter.unusedVariables false

def itemT (x : It) : List UInt8 := (((Lib.itoa x.id ++ [32]) ++ Lib.itoa x.tags) ++ [32]) ++ vecT x.vec
def itemTB (x : It) : List UInt8 := if itemB x.vec.length x then itemT x else []
/-- What an item's text is written with. -/
structure IQ (w0 w : World) (b : Nat) (x : It) (a : Option Addr) (n cap : Nat) : Prop where
  lt : b < w.heap.size
  c0 : w.cell? ⟨b, 0, none⟩ = some (.int .i64 x.id)
  c1 : w.cell? ⟨b, 1, none⟩ = some (.int .i64 x.tags)
  c2 : w.cell? ⟨b, 2, none⟩ = some (.slice a n cap)
  row : Row w a n x.vec
  bel : Below w0.heap.size w0 w

theorem IQ.below {w0 w w' : World} {b : Nat} {x : It} {a : Option Addr} {n cap : Nat} (h : IQ w0 w b x a n cap) (hb : Below w.heap.size w w') : IQ w0 w' b x a n cap :=
  ⟨Nat.lt_of_lt_of_le h.lt hb.size, (hb.cell (p := ⟨b, 0, none⟩) h.lt).trans h.c0, (hb.cell (p := ⟨b, 1, none⟩) h.lt).trans h.c1, (hb.cell (p := ⟨b, 2, none⟩) h.lt).trans h.c2, h.row.below hb, bstep h.bel hb⟩

theorem IQ.drew {w0 w : World} {b : Nat} {x : It} {a : Option Addr} {n cap : Nat} (h : IQ w0 w b x a n cap) : IQ w0 w.drew b x a n cap := h.below (Below.drew (Below.refl _ _))

theorem IQ.new (w : World) (x : It) (a : Option Addr) (n cap : Nat) (T : TypeId) (h : Row w a n x.vec) : IQ w (w.alloc (.cells #[.int .i64 x.id, .int .i64 x.tags, .slice a n cap] T)) w.heap.size x a n cap :=
  ⟨by simp, by simp, by simp, by simp, h.below (balloc (Below.refl _ _) _), balloc (Below.refl _ _) _⟩

theorem bytes_eqI {a b : ByteArray} (h : a.data.toList = b.data.toList) : a = b := by rw [← bs_of a, h, bs_of]

theorem l1Dec_bsI (x : Int) (w : World) (h0 : -9223372036854775808 ≤ x) (h1 : x ≤ 9223372036854775807) :
    Calls Tryz.prog 27 #[.int .i64 x] w fun e w' => e = .returned (.string (bs (Lib.itoa x))) ∧ Below w.heap.size w w' := l1Dec_any x w h0 h1

theorem itoa_len21I {x : Int} (h0 : -9223372036854775808 ≤ x) (h1 : x ≤ 9223372036854775807) : (bs (Lib.itoa x)).size ≤ 21 := by
  rw [bs_size]
  rcases lt_or_geI x 0 with p | p
  · rw [itoa_min p, List.length_cons]
    have := dec_len20 (n := x.natAbs) (by omega)
    omega
  · rw [itoa_pos p]
    have := dec_len20 (n := x.toNat) (by omega)
    omega

theorem item_parts {d : Int} {x : It} (h : itemB d x = true) : 1 ≤ x.id ∧ x.id ≤ 9999 ∧ 0 ≤ x.tags ∧ x.tags ≤ 255 ∧ vecOkB x.vec = true := by
  unfold itemB inB at h
  simp only [Bool.and_eq_true, decide_eq_true_eq] at h
  exact ⟨h.1.1.1.1, h.1.1.1.2, h.1.1.2.1, h.1.1.2.2, h.1.2⟩

set_option maxHeartbeats 4000000 in
set_option maxRecDepth 4000 in
theorem iItemText_any (x : It) (a : Option Addr) (n cap : Nat) (w : World) (h : Row w a n x.vec) (hn : n ≤ 1048576) (T : Tab w) :
    Calls Tryz.prog 6 #[.agg #[.int .i64 x.id, .int .i64 x.tags, .slice a n cap]] w fun e w' => e = .returned (.string (bs (itemTB x))) ∧ Below w.heap.size w w' := by
  have hl := h.len
  have FI := hide (fun w1 (q : IQ w w1 w.heap.size x a n cap) => fits_any (n : Int) x a n cap w1 q.row hn)
  unfold itemTB
  rw [hl]
  obtain ⟨ok, hok⟩ : ∃ ok, itemB (n : Int) x = ok := ⟨_, rfl⟩
  rw [hok] at FI
  rw [hok]
  have Q0 := hide (IQ.new w x a n cap 26 h)
  cases ok
  · rw [if_neg (by decide)]
    obtain ⟨_, y0, y1, y2, _, _⟩ := Q0.out
    clear hok hl h T
    go_enter Tryz.func6, Tryz.ntmps6
    go_wp2_with fail
    refine (FI.out _ Q0.out).mono ?_
    rintro e w1 ⟨rfl, hb1⟩
    go_wp2_with fail
    go_ret
    exact ⟨rfl, bstep Q0.out.bel hb1⟩
  · rw [if_pos rfl]
    obtain ⟨a1, a2, a3, a4, hv⟩ := item_parts hok
    have vl : (bs (vecT x.vec)).size ≤ 176 := by
      obtain ⟨⟨n1, n8⟩, hm⟩ := vecOk_mem hv
      have := vecT_len _ x.vec rfl hm
      rw [bs_size]; omega
    have vt : vecTB x.vec = vecT x.vec := by unfold vecTB; rw [hv, if_pos rfl]
    have N1 := hide (fun w1 (q : IQ w w1 w.heap.size x a n cap) => numberText_any x.id w1 (by omega) (by omega) (T.below q.bel))
    have N2 := hide (fun w1 (q : IQ w w1 w.heap.size x a n cap) => numberText_any x.tags w1 (by omega) (by omega) (T.below q.bel))
    have N3 := hide (fun w1 (q : IQ w w1 w.heap.size x a n cap) => iVecText_any a n cap x.vec w1 q.row hn (T.below q.bel))
    rw [vt] at N3
    have s1 := itoa_len21I (x := x.id) (by omega) (by omega)
    have s2 := itoa_len21I (x := x.tags) (by omega) (by omega)
    have E1 := hide (bs_list (Lib.itoa x.id))
    have E2 := hide (bs_list (Lib.itoa x.tags))
    have E3 := hide (bs_list (vecT x.vec))
    obtain ⟨A, hA⟩ : ∃ A, bs (Lib.itoa x.id) = A := ⟨_, rfl⟩
    obtain ⟨B, hBB⟩ : ∃ A, bs (Lib.itoa x.tags) = A := ⟨_, rfl⟩
    obtain ⟨C, hC⟩ : ∃ A, bs (vecT x.vec) = A := ⟨_, rfl⟩
    rw [hA] at N1 s1 E1
    rw [hBB] at N2 s2 E2
    rw [hC] at N3 vl E3
    have q1 : ¬ 9223372036854775807 < A.size + 1 := by omega
    have q2 : ¬ 9223372036854775807 < A.size + 1 + B.size := by omega
    have q3 : ¬ 9223372036854775807 < A.size + 1 + B.size + 1 := by omega
    have q4 : ¬ 9223372036854775807 < A.size + 1 + B.size + 1 + C.size := by omega
    obtain ⟨_, y0, y1, y2, _, _⟩ := Q0.out
    clear hok hl h hv vt hA hBB hC a1 a2 a3 a4 s1 s2 vl T
    go_enter Tryz.func6, Tryz.ntmps6
    go_wp2_with fail
    refine (FI.out _ Q0.out).mono ?_
    rintro e w1 ⟨rfl, hb1⟩
    have Q1 := hide (Q0.out.below hb1)
    clear y0 y1 y2 hb1 Q0
    go_wp2_with fail
    refine wp_region_held_drew (S := fun wx => IQ w wx w.heap.size x a n cap) (by kernel_rfl) (Q1.out.drew) (fun hH0 => ?_)
    refine wpAnyH_take (i := 0) (oi := { dst := some 9, op := _, type := _, pos := _, after := _, guard := _ }) (v := ?_) rfl (by kernel_rfl) (by kernel_rfl) (by kernel_rfl) (fun _ _ _ h => h) (Or.inl ⟨by rfl, ?_⟩) (hH0) ?_
    rotate_left
    · (intro wx hSw; obtain ⟨_, y0, y1, y2, _, _⟩ := hSw; go_simp <;> with_reducible rfl)
    simp only [Act.put, List.setIfInBounds_toArray, List.set_cons_zero, List.set_cons_succ]
    refine wpAnyH_take (i := 1) (oi := { dst := some 10, op := _, type := _, pos := _, after := _, guard := _ }) (v := ?_) rfl (by kernel_rfl) (by kernel_rfl) (by kernel_rfl) (fun _ _ _ h => h) (Or.inl ⟨by rfl, ?_⟩) (hH0) ?_
    rotate_left
    · (intro wx hSw; obtain ⟨_, y0, y1, y2, _, _⟩ := hSw; go_simp <;> with_reducible rfl)
    simp only [Act.put, List.setIfInBounds_toArray, List.set_cons_zero, List.set_cons_succ]
    refine wpAnyH_take (i := 4) (oi := { dst := some 13, op := _, type := _, pos := _, after := _, guard := _ }) (v := ?_) rfl (by kernel_rfl) (by kernel_rfl) (by kernel_rfl) (fun _ _ _ h => h) (Or.inl ⟨by rfl, ?_⟩) (hH0) ?_
    rotate_left
    · (intro wx hSw; obtain ⟨_, y0, y1, y2, _, _⟩ := hSw; go_simp <;> with_reducible rfl)
    simp only [Act.put, List.setIfInBounds_toArray, List.set_cons_zero, List.set_cons_succ]
    refine wpAnyH_take (i := 5) (oi := { dst := some 14, op := _, type := _, pos := _, after := _, guard := _ }) (v := ?_) rfl (by kernel_rfl) (by kernel_rfl) (by kernel_rfl) (fun _ _ _ h => h) (Or.inl ⟨by rfl, ?_⟩) (hH0) ?_
    rotate_left
    · (intro wx hSw; obtain ⟨_, y0, y1, y2, _, _⟩ := hSw; go_simp <;> with_reducible rfl)
    simp only [Act.put, List.setIfInBounds_toArray, List.set_cons_zero, List.set_cons_succ]
    refine wpAnyH_take (i := 9) (oi := { dst := some 18, op := _, type := _, pos := _, after := _, guard := _ }) (v := ?_) rfl (by kernel_rfl) (by kernel_rfl) (by kernel_rfl) (fun _ _ _ h => h) (Or.inl ⟨by rfl, ?_⟩) (hH0) ?_
    rotate_left
    · (intro wx hSw; obtain ⟨_, y0, y1, y2, _, _⟩ := hSw; go_simp <;> with_reducible rfl)
    simp only [Act.put, List.setIfInBounds_toArray, List.set_cons_zero, List.set_cons_succ]
    refine wpAnyH_take (i := 10) (oi := { dst := some 19, op := _, type := _, pos := _, after := _, guard := _ }) (v := ?_) rfl (by kernel_rfl) (by kernel_rfl) (by kernel_rfl) (fun _ _ _ h => h) (Or.inl ⟨by rfl, ?_⟩) (hH0) ?_
    rotate_left
    · (intro wx hSw; obtain ⟨_, y0, y1, y2, _, _⟩ := hSw; go_simp <;> with_reducible rfl)
    simp only [Act.put, List.setIfInBounds_toArray, List.set_cons_zero, List.set_cons_succ]
    refine wpAnyH_ready (rs := [2]) (by kernel_rfl) (by simp) ?_
    refine AllReadyH.cons (o := { dst := some 11, op := _, type := _, pos := _, after := _, guard := _ }) rfl (fun K hK => ?_) AllReadyH.nil
    go_simp
    refine (N1.out _ hH0).mono ?_
    rintro e w_c11_1 ⟨rfl, hb_c11_1⟩
    dsimp only
    refine hK.out _ _ (IQ.below hH0 hb_c11_1) (fun hH1 => ?_)
    clear hK K
    refine wpAnyH_take (i := 3) (oi := { dst := some 12, op := _, type := _, pos := _, after := _, guard := _ }) (v := ?_) rfl (by kernel_rfl) (by kernel_rfl) (by kernel_rfl) (fun _ _ _ h => h) (Or.inl ⟨by rfl, ?_⟩) (hH1) ?_
    rotate_left
    · (intro wx hSw; obtain ⟨_, y0, y1, y2, _, _⟩ := hSw; go_simp <;> with_reducible rfl)
    simp only [Act.put, List.setIfInBounds_toArray, List.set_cons_zero, List.set_cons_succ]
    refine wpAnyH_ready (rs := [6]) (by kernel_rfl) (by simp) ?_
    refine AllReadyH.cons (o := { dst := some 15, op := _, type := _, pos := _, after := _, guard := _ }) rfl (fun K hK => ?_) AllReadyH.nil
    go_simp
    refine (N2.out _ hH1).mono ?_
    rintro e w_c15_2 ⟨rfl, hb_c15_2⟩
    dsimp only
    refine hK.out _ _ (IQ.below hH1 hb_c15_2) (fun hH2 => ?_)
    clear hK K
    refine wpAnyH_take (i := 7) (oi := { dst := some 16, op := _, type := _, pos := _, after := _, guard := _ }) (v := ?_) rfl (by kernel_rfl) (by kernel_rfl) (by kernel_rfl) (fun _ _ _ h => h) (Or.inl ⟨by rfl, ?_⟩) (hH2) ?_
    rotate_left
    · (intro wx hSw; obtain ⟨_, y0, y1, y2, _, _⟩ := hSw; go_simp <;> with_reducible rfl)
    simp only [Act.put, List.setIfInBounds_toArray, List.set_cons_zero, List.set_cons_succ]
    refine wpAnyH_take (i := 8) (oi := { dst := some 17, op := _, type := _, pos := _, after := _, guard := _ }) (v := ?_) rfl (by kernel_rfl) (by kernel_rfl) (by kernel_rfl) (fun _ _ _ h => h) (Or.inl ⟨by rfl, ?_⟩) (hH2) ?_
    rotate_left
    · (intro wx hSw; obtain ⟨_, y0, y1, y2, _, _⟩ := hSw; go_simp <;> with_reducible rfl)
    simp only [Act.put, List.setIfInBounds_toArray, List.set_cons_zero, List.set_cons_succ]
    refine wpAnyH_ready (rs := [11]) (by kernel_rfl) (by simp) ?_
    refine AllReadyH.cons (o := { dst := some 20, op := _, type := _, pos := _, after := _, guard := _ }) rfl (fun K hK => ?_) AllReadyH.nil
    go_simp
    refine (N3.out _ hH2).mono ?_
    rintro e w_c20_3 ⟨rfl, hb_c20_3⟩
    dsimp only
    refine hK.out _ _ (IQ.below hH2 hb_c20_3) (fun hH3 => ?_)
    clear hK K
    refine wpAnyH_take (i := 12) (oi := { dst := some 21, op := _, type := _, pos := _, after := _, guard := _ }) (v := ?_) rfl (by kernel_rfl) (by kernel_rfl) (by kernel_rfl) (fun _ _ _ h => h) (Or.inl ⟨by rfl, ?_⟩) (hH3) ?_
    rotate_left
    · (intro wx hSw; obtain ⟨_, y0, y1, y2, _, _⟩ := hSw; go_simp <;> with_reducible rfl)
    simp only [Act.put, List.setIfInBounds_toArray, List.set_cons_zero, List.set_cons_succ]
    refine wpAnyH_take (i := 13) (oi := { dst := some 2, op := _, type := _, pos := _, after := _, guard := _ }) (v := ?_) rfl (by kernel_rfl) (by kernel_rfl) (by kernel_rfl) (fun _ _ _ h => h) (Or.inl ⟨by rfl, ?_⟩) (hH3) ?_
    rotate_left
    · (intro wx hSw; obtain ⟨_, y0, y1, y2, _, _⟩ := hSw; go_simp <;> with_reducible rfl)
    simp only [Act.put, List.setIfInBounds_toArray, List.set_cons_zero, List.set_cons_succ]
    refine wpAnyH_done (by kernel_rfl) ?_ _
    -- behind it: go_wp2_with fail, then go_meet (a cut) or go_ret; the condition at the end: hH3
    have Q2 := hide hH3
    go_wp2_with fail
    go_ret
    refine ⟨ret_str ?_, Q2.out.bel⟩
    unfold itemT
    exact bytes_eqI (by rw [bs_list, str_app, str_app, str_app, str_app, E1.out, E2.out, E3.out])

set_option maxHeartbeats 4000000 in
set_option maxRecDepth 4000 in
theorem sItemText_any (x : It) (a : Option Addr) (n cap : Nat) (w : World) (h : Row w a n x.vec) (hn : n ≤ 1048576) :
    Calls Tryz.prog 10 #[.agg #[.int .i64 x.id, .int .i64 x.tags, .slice a n cap]] w fun e w' => e = .returned (.string (bs (itemTB x))) ∧ Below w.heap.size w w' := by
  have hl := h.len
  have FI := hide (fun w1 (q : IQ w w1 w.heap.size x a n cap) => l7Item_any (n : Int) x a n cap w1 q.row hn)
  unfold itemTB
  rw [hl]
  obtain ⟨ok, hok⟩ : ∃ ok, itemB (n : Int) x = ok := ⟨_, rfl⟩
  rw [hok] at FI
  rw [hok]
  have Q0 := hide (IQ.new w x a n cap 26 h)
  cases ok
  · rw [if_neg (by decide)]
    obtain ⟨_, y0, y1, y2, _, _⟩ := Q0.out
    clear hok hl h
    go_enter Tryz.func10, Tryz.ntmps10
    go_wp2_with fail
    refine (FI.out _ Q0.out).mono ?_
    rintro e w1 ⟨rfl, hb1⟩
    go_wp2_with fail
    go_ret
    exact ⟨rfl, bstep Q0.out.bel hb1⟩
  · rw [if_pos rfl]
    obtain ⟨a1, a2, a3, a4, hv⟩ := item_parts hok
    have vl : (bs (vecT x.vec)).size ≤ 176 := by
      obtain ⟨⟨n1, n8⟩, hm⟩ := vecOk_mem hv
      have := vecT_len _ x.vec rfl hm
      rw [bs_size]; omega
    have vt : vecTB x.vec = vecT x.vec := by unfold vecTB; rw [hv, if_pos rfl]
    have N1 := hide (fun w1 (q : IQ w w1 w.heap.size x a n cap) => l1Dec_bsI x.id w1 (by omega) (by omega))
    have N2 := hide (fun w1 (q : IQ w w1 w.heap.size x a n cap) => l1Dec_bsI x.tags w1 (by omega) (by omega))
    have N3 := hide (fun w1 (q : IQ w w1 w.heap.size x a n cap) => sVecText_any a n cap x.vec w1 q.row hn)
    rw [vt] at N3
    have s1 := itoa_len21I (x := x.id) (by omega) (by omega)
    have s2 := itoa_len21I (x := x.tags) (by omega) (by omega)
    have E1 := hide (bs_list (Lib.itoa x.id))
    have E2 := hide (bs_list (Lib.itoa x.tags))
    have E3 := hide (bs_list (vecT x.vec))
    obtain ⟨A, hA⟩ : ∃ A, bs (Lib.itoa x.id) = A := ⟨_, rfl⟩
    obtain ⟨B, hBB⟩ : ∃ A, bs (Lib.itoa x.tags) = A := ⟨_, rfl⟩
    obtain ⟨C, hC⟩ : ∃ A, bs (vecT x.vec) = A := ⟨_, rfl⟩
    rw [hA] at N1 s1 E1
    rw [hBB] at N2 s2 E2
    rw [hC] at N3 vl E3
    have q1 : ¬ 9223372036854775807 < A.size + 1 := by omega
    have q2 : ¬ 9223372036854775807 < A.size + 1 + B.size := by omega
    have q3 : ¬ 9223372036854775807 < A.size + 1 + B.size + 1 := by omega
    have q4 : ¬ 9223372036854775807 < A.size + 1 + B.size + 1 + C.size := by omega
    obtain ⟨_, y0, y1, y2, _, _⟩ := Q0.out
    clear hok hl h hv vt hA hBB hC a1 a2 a3 a4 s1 s2 vl
    go_enter Tryz.func10, Tryz.ntmps10
    go_wp2_with fail
    refine (FI.out _ Q0.out).mono ?_
    rintro e w1 ⟨rfl, hb1⟩
    have Q1 := hide (Q0.out.below hb1)
    clear y0 y1 y2 hb1 Q0
    go_wp2_with fail
    refine wp_region_held_drew (S := fun wx => IQ w wx w.heap.size x a n cap) (by kernel_rfl) (Q1.out.drew) (fun hH0 => ?_)
    refine wpAnyH_take (i := 0) (oi := { dst := some 9, op := _, type := _, pos := _, after := _, guard := _ }) (v := ?_) rfl (by kernel_rfl) (by kernel_rfl) (by kernel_rfl) (fun _ _ _ h => h) (Or.inl ⟨by rfl, ?_⟩) (hH0) ?_
    rotate_left
    · (intro wx hSw; obtain ⟨_, y0, y1, y2, _, _⟩ := hSw; go_simp <;> with_reducible rfl)
    simp only [Act.put, List.setIfInBounds_toArray, List.set_cons_zero, List.set_cons_succ]
    refine wpAnyH_take (i := 1) (oi := { dst := some 10, op := _, type := _, pos := _, after := _, guard := _ }) (v := ?_) rfl (by kernel_rfl) (by kernel_rfl) (by kernel_rfl) (fun _ _ _ h => h) (Or.inl ⟨by rfl, ?_⟩) (hH0) ?_
    rotate_left
    · (intro wx hSw; obtain ⟨_, y0, y1, y2, _, _⟩ := hSw; go_simp <;> with_reducible rfl)
    simp only [Act.put, List.setIfInBounds_toArray, List.set_cons_zero, List.set_cons_succ]
    refine wpAnyH_take (i := 4) (oi := { dst := some 13, op := _, type := _, pos := _, after := _, guard := _ }) (v := ?_) rfl (by kernel_rfl) (by kernel_rfl) (by kernel_rfl) (fun _ _ _ h => h) (Or.inl ⟨by rfl, ?_⟩) (hH0) ?_
    rotate_left
    · (intro wx hSw; obtain ⟨_, y0, y1, y2, _, _⟩ := hSw; go_simp <;> with_reducible rfl)
    simp only [Act.put, List.setIfInBounds_toArray, List.set_cons_zero, List.set_cons_succ]
    refine wpAnyH_take (i := 5) (oi := { dst := some 14, op := _, type := _, pos := _, after := _, guard := _ }) (v := ?_) rfl (by kernel_rfl) (by kernel_rfl) (by kernel_rfl) (fun _ _ _ h => h) (Or.inl ⟨by rfl, ?_⟩) (hH0) ?_
    rotate_left
    · (intro wx hSw; obtain ⟨_, y0, y1, y2, _, _⟩ := hSw; go_simp <;> with_reducible rfl)
    simp only [Act.put, List.setIfInBounds_toArray, List.set_cons_zero, List.set_cons_succ]
    refine wpAnyH_take (i := 9) (oi := { dst := some 18, op := _, type := _, pos := _, after := _, guard := _ }) (v := ?_) rfl (by kernel_rfl) (by kernel_rfl) (by kernel_rfl) (fun _ _ _ h => h) (Or.inl ⟨by rfl, ?_⟩) (hH0) ?_
    rotate_left
    · (intro wx hSw; obtain ⟨_, y0, y1, y2, _, _⟩ := hSw; go_simp <;> with_reducible rfl)
    simp only [Act.put, List.setIfInBounds_toArray, List.set_cons_zero, List.set_cons_succ]
    refine wpAnyH_take (i := 10) (oi := { dst := some 19, op := _, type := _, pos := _, after := _, guard := _ }) (v := ?_) rfl (by kernel_rfl) (by kernel_rfl) (by kernel_rfl) (fun _ _ _ h => h) (Or.inl ⟨by rfl, ?_⟩) (hH0) ?_
    rotate_left
    · (intro wx hSw; obtain ⟨_, y0, y1, y2, _, _⟩ := hSw; go_simp <;> with_reducible rfl)
    simp only [Act.put, List.setIfInBounds_toArray, List.set_cons_zero, List.set_cons_succ]
    refine wpAnyH_ready (rs := [2]) (by kernel_rfl) (by simp) ?_
    refine AllReadyH.cons (o := { dst := some 11, op := _, type := _, pos := _, after := _, guard := _ }) rfl (fun K hK => ?_) AllReadyH.nil
    go_simp
    refine (N1.out _ hH0).mono ?_
    rintro e w_c11_1 ⟨rfl, hb_c11_1⟩
    dsimp only
    refine hK.out _ _ (IQ.below hH0 hb_c11_1) (fun hH1 => ?_)
    clear hK K
    refine wpAnyH_take (i := 3) (oi := { dst := some 12, op := _, type := _, pos := _, after := _, guard := _ }) (v := ?_) rfl (by kernel_rfl) (by kernel_rfl) (by kernel_rfl) (fun _ _ _ h => h) (Or.inl ⟨by rfl, ?_⟩) (hH1) ?_
    rotate_left
    · (intro wx hSw; obtain ⟨_, y0, y1, y2, _, _⟩ := hSw; go_simp <;> with_reducible rfl)
    simp only [Act.put, List.setIfInBounds_toArray, List.set_cons_zero, List.set_cons_succ]
    refine wpAnyH_ready (rs := [6]) (by kernel_rfl) (by simp) ?_
    refine AllReadyH.cons (o := { dst := some 15, op := _, type := _, pos := _, after := _, guard := _ }) rfl (fun K hK => ?_) AllReadyH.nil
    go_simp
    refine (N2.out _ hH1).mono ?_
    rintro e w_c15_2 ⟨rfl, hb_c15_2⟩
    dsimp only
    refine hK.out _ _ (IQ.below hH1 hb_c15_2) (fun hH2 => ?_)
    clear hK K
    refine wpAnyH_take (i := 7) (oi := { dst := some 16, op := _, type := _, pos := _, after := _, guard := _ }) (v := ?_) rfl (by kernel_rfl) (by kernel_rfl) (by kernel_rfl) (fun _ _ _ h => h) (Or.inl ⟨by rfl, ?_⟩) (hH2) ?_
    rotate_left
    · (intro wx hSw; obtain ⟨_, y0, y1, y2, _, _⟩ := hSw; go_simp <;> with_reducible rfl)
    simp only [Act.put, List.setIfInBounds_toArray, List.set_cons_zero, List.set_cons_succ]
    refine wpAnyH_take (i := 8) (oi := { dst := some 17, op := _, type := _, pos := _, after := _, guard := _ }) (v := ?_) rfl (by kernel_rfl) (by kernel_rfl) (by kernel_rfl) (fun _ _ _ h => h) (Or.inl ⟨by rfl, ?_⟩) (hH2) ?_
    rotate_left
    · (intro wx hSw; obtain ⟨_, y0, y1, y2, _, _⟩ := hSw; go_simp <;> with_reducible rfl)
    simp only [Act.put, List.setIfInBounds_toArray, List.set_cons_zero, List.set_cons_succ]
    refine wpAnyH_ready (rs := [11]) (by kernel_rfl) (by simp) ?_
    refine AllReadyH.cons (o := { dst := some 20, op := _, type := _, pos := _, after := _, guard := _ }) rfl (fun K hK => ?_) AllReadyH.nil
    go_simp
    refine (N3.out _ hH2).mono ?_
    rintro e w_c20_3 ⟨rfl, hb_c20_3⟩
    dsimp only
    refine hK.out _ _ (IQ.below hH2 hb_c20_3) (fun hH3 => ?_)
    clear hK K
    refine wpAnyH_take (i := 12) (oi := { dst := some 21, op := _, type := _, pos := _, after := _, guard := _ }) (v := ?_) rfl (by kernel_rfl) (by kernel_rfl) (by kernel_rfl) (fun _ _ _ h => h) (Or.inl ⟨by rfl, ?_⟩) (hH3) ?_
    rotate_left
    · (intro wx hSw; obtain ⟨_, y0, y1, y2, _, _⟩ := hSw; go_simp <;> with_reducible rfl)
    simp only [Act.put, List.setIfInBounds_toArray, List.set_cons_zero, List.set_cons_succ]
    refine wpAnyH_take (i := 13) (oi := { dst := some 2, op := _, type := _, pos := _, after := _, guard := _ }) (v := ?_) rfl (by kernel_rfl) (by kernel_rfl) (by kernel_rfl) (fun _ _ _ h => h) (Or.inl ⟨by rfl, ?_⟩) (hH3) ?_
    rotate_left
    · (intro wx hSw; obtain ⟨_, y0, y1, y2, _, _⟩ := hSw; go_simp <;> with_reducible rfl)
    simp only [Act.put, List.setIfInBounds_toArray, List.set_cons_zero, List.set_cons_succ]
    refine wpAnyH_done (by kernel_rfl) ?_ _
    -- behind it: go_wp2_with fail, then go_meet (a cut) or go_ret; the condition at the end: hH3
    have Q2 := hide hH3
    go_wp2_with fail
    go_ret
    refine ⟨ret_str ?_, Q2.out.bel⟩
    unfold itemT
    exact bytes_eqI (by rw [bs_list, str_app, str_app, str_app, str_app, E1.out, E2.out, E3.out])
end Go.Proofs.YtecheolhmohhjaaGreatDoor
