/- The program's heap of the greatest: its methods. -/
import Derived.Test.YtkonckgapicdfaaHI
import Derived.BigRegion
namespace Go.Proofs.Ytkonckgapicdfaa
open Go.RowKit
set_option maxRecDepth 8000
set_option linter.unusedSimpArgs false
set_option linter.unusedVariables false

theorem meth_Len (c : Nat) (v : Value) (w : World) (h : w.cell? ⟨c, 0, none⟩ = some v) : (method 185 37 (.pointer (some ⟨c, 0, none⟩)) "Len").run Try.prog w = .ok (54, v) w := by
  have e : (method 185 37 (.pointer (some ⟨c, 0, none⟩)) "Len").run Try.prog w = (Sem.load .plain ⟨c, 0, none⟩ fun v => .pure (54, v)).run Try.prog w := by kernel_rfl
  rw [e]
  simp [Sem.run, h]

theorem meth_Less (c : Nat) (v : Value) (w : World) (h : w.cell? ⟨c, 0, none⟩ = some v) : (method 185 37 (.pointer (some ⟨c, 0, none⟩)) "Less").run Try.prog w = .ok (55, v) w := by
  have e : (method 185 37 (.pointer (some ⟨c, 0, none⟩)) "Less").run Try.prog w = (Sem.load .plain ⟨c, 0, none⟩ fun v => .pure (55, v)).run Try.prog w := by kernel_rfl
  rw [e]
  simp [Sem.run, h]

theorem meth_Swap (c : Nat) (v : Value) (w : World) (h : w.cell? ⟨c, 0, none⟩ = some v) : (method 185 37 (.pointer (some ⟨c, 0, none⟩)) "Swap").run Try.prog w = .ok (56, v) w := by
  have e : (method 185 37 (.pointer (some ⟨c, 0, none⟩)) "Swap").run Try.prog w = (Sem.load .plain ⟨c, 0, none⟩ fun v => .pure (56, v)).run Try.prog w := by kernel_rfl
  rw [e]
  simp [Sem.run, h]

theorem meth_Push (c : Nat) (w : World) : (method 185 37 (.pointer (some ⟨c, 0, none⟩)) "Push").run Try.prog w = .ok (60, .pointer (some ⟨c, 0, none⟩)) w := by kernel_rfl

theorem meth_Pop (c : Nat) (w : World) : (method 185 37 (.pointer (some ⟨c, 0, none⟩)) "Pop").run Try.prog w = .ok (57, .pointer (some ⟨c, 0, none⟩)) w := by kernel_rfl

set_option maxHeartbeats 400000 in
theorem gLen_any (a : Option Addr) (n cap : Nat) (w : World) :
    Calls Try.prog 54 #[.slice a n cap] w fun e w' => e = .returned (.int .i64 n) ∧ w' = w := by
  go_enter Try.func54, Try.ntmps54
  go_wp2
  go_ret
  exact ⟨rfl, rfl⟩

theorem OwnL.drew {w : World} {b m : Nat} {L : NL} (h : OwnL w b m L) : OwnL w.drew b m L := World.rowIs.of_block h rfl

/-- Four cells of one block that are read. -/
structure Qd (w : World) (b i j : Nat) (x y : Int × Int) : Prop where
  lt : b < w.heap.size
  c0 : w.cell? ⟨b, i * 2, none⟩ = some (.int .i64 x.1)
  c1 : w.cell? ⟨b, i * 2 + 1, none⟩ = some (.int .i64 x.2)
  d0 : w.cell? ⟨b, j * 2, none⟩ = some (.int .i64 y.1)
  d1 : w.cell? ⟨b, j * 2 + 1, none⟩ = some (.int .i64 y.2)

theorem Qd.below {w w' : World} {b i j : Nat} {x y : Int × Int} (h : Qd w b i j x y) (B : Below w.heap.size w w') : Qd w' b i j x y :=
  ⟨Nat.lt_of_lt_of_le h.lt B.size, (B.cell (p := ⟨b, i * 2, none⟩) h.lt).trans h.c0, (B.cell (p := ⟨b, i * 2 + 1, none⟩) h.lt).trans h.c1, (B.cell (p := ⟨b, j * 2, none⟩) h.lt).trans h.d0, (B.cell (p := ⟨b, j * 2 + 1, none⟩) h.lt).trans h.d1⟩

theorem Qd.drew {w : World} {b i j : Nat} {x y : Int × Int} (h : Qd w b i j x y) : Qd w.drew b i j x y := ⟨h.lt, h.c0, h.c1, h.d0, h.d1⟩

theorem OwnL.qd {w : World} {b m : Nat} {L : NL} (h : OwnL w b m L) {i j : Nat} (hi : i < m) (hj : j < m) : Qd w b i j (L i) (L j) :=
  ⟨h.lt, OwnN.c0 h hi, OwnN.c1 h hi, OwnN.c0 h hj, OwnN.c1 h hj⟩

set_option maxHeartbeats 800000 in
theorem gLess_any (b m l cap : Nat) (L : NL) (i j : Nat) (w : World) (h : OwnL w b m L) (hl : l ≤ m) (hi : i < l) (hj : j < l) :
    Calls Try.prog 55 #[.slice (some ⟨b, 0, none⟩) l cap, .int .i64 i, .int .i64 j] w fun e w' => e = .returned (.bool (lt2 (L j) (L i))) ∧ Below w.heap.size w w' := by
  have Q := hide (h.qd (i := j) (j := i) (by omega) (by omega))
  have hi' : (i : Int) < (l : Int) := by omega
  have hj' : (j : Int) < (l : Int) := by omega
  have LE := hide (less_any (L j).1 (L j).2 (L i).1 (L i).2)
  unfold lt2
  clear h
  go_enter Try.func55, Try.ntmps55
  go_upto_region 1 with fail
  refine wp_region_held_drew (S := fun wx => Qd wx b j i (L j) (L i)) (by kernel_rfl) (Q.out.drew) (fun hH0 => ?_)
  refine wpAnyH_take (i := 0) (oi := { dst := some 7, op := _, type := _, pos := _, after := _, guard := _ }) (v := ?_) rfl (by kernel_rfl) (by kernel_rfl) (by kernel_rfl) (fun _ _ _ h => h) (Or.inl ⟨by rfl, ?_⟩) (hH0) ?_
  rotate_left
  · (intro wx hSw; obtain ⟨l0, q0, q1, q2, q3⟩ := hSw; go_simp <;> with_reducible rfl)
  simp only [Act.put, List.setIfInBounds_toArray, List.set_cons_zero, List.set_cons_succ]
  refine wpAnyH_take (i := 1) (oi := { dst := some 8, op := _, type := _, pos := _, after := _, guard := _ }) (v := ?_) rfl (by kernel_rfl) (by kernel_rfl) (by kernel_rfl) (fun _ _ _ h => h) (Or.inl ⟨by rfl, ?_⟩) (hH0) ?_
  rotate_left
  · (intro wx hSw; obtain ⟨l0, q0, q1, q2, q3⟩ := hSw; go_simp <;> with_reducible rfl)
  simp only [Act.put, List.setIfInBounds_toArray, List.set_cons_zero, List.set_cons_succ]
  refine wpAnyH_take (i := 2) (oi := { dst := some 9, op := _, type := _, pos := _, after := _, guard := _ }) (v := ?_) rfl (by kernel_rfl) (by kernel_rfl) (by kernel_rfl) (fun _ _ _ h => h) (Or.inl ⟨by rfl, ?_⟩) (hH0) ?_
  rotate_left
  · (intro wx hSw; obtain ⟨l0, q0, q1, q2, q3⟩ := hSw; go_simp <;> with_reducible rfl)
  simp only [Act.put, List.setIfInBounds_toArray, List.set_cons_zero, List.set_cons_succ]
  refine wpAnyH_take (i := 3) (oi := { dst := some 10, op := _, type := _, pos := _, after := _, guard := _ }) (v := ?_) rfl (by kernel_rfl) (by kernel_rfl) (by kernel_rfl) (fun _ _ _ h => h) (Or.inl ⟨by rfl, ?_⟩) (hH0) ?_
  rotate_left
  · (intro wx hSw; obtain ⟨l0, q0, q1, q2, q3⟩ := hSw; go_simp <;> with_reducible rfl)
  simp only [Act.put, List.setIfInBounds_toArray, List.set_cons_zero, List.set_cons_succ]
  refine wpAnyH_take (i := 4) (oi := { dst := some 11, op := _, type := _, pos := _, after := _, guard := _ }) (v := ?_) rfl (by kernel_rfl) (by kernel_rfl) (by kernel_rfl) (fun _ _ _ h => h) (Or.inl ⟨by rfl, ?_⟩) (hH0) ?_
  rotate_left
  · (intro wx hSw; obtain ⟨l0, q0, q1, q2, q3⟩ := hSw; go_simp <;> with_reducible rfl)
  simp only [Act.put, List.setIfInBounds_toArray, List.set_cons_zero, List.set_cons_succ]
  refine wpAnyH_take (i := 5) (oi := { dst := some 12, op := _, type := _, pos := _, after := _, guard := _ }) (v := ?_) rfl (by kernel_rfl) (by kernel_rfl) (by kernel_rfl) (fun _ _ _ h => h) (Or.inl ⟨by rfl, ?_⟩) (hH0) ?_
  rotate_left
  · (intro wx hSw; obtain ⟨l0, q0, q1, q2, q3⟩ := hSw; go_simp <;> with_reducible rfl)
  simp only [Act.put, List.setIfInBounds_toArray, List.set_cons_zero, List.set_cons_succ]
  refine wpAnyH_take (i := 6) (oi := { dst := some 13, op := _, type := _, pos := _, after := _, guard := _ }) (v := ?_) rfl (by kernel_rfl) (by kernel_rfl) (by kernel_rfl) (fun _ _ _ h => h) (Or.inl ⟨by rfl, ?_⟩) (hH0) ?_
  rotate_left
  · (intro wx hSw; obtain ⟨l0, q0, q1, q2, q3⟩ := hSw; go_simp <;> with_reducible rfl)
  simp only [Act.put, List.setIfInBounds_toArray, List.set_cons_zero, List.set_cons_succ]
  refine wpAnyH_take (i := 7) (oi := { dst := some 14, op := _, type := _, pos := _, after := _, guard := _ }) (v := ?_) rfl (by kernel_rfl) (by kernel_rfl) (by kernel_rfl) (fun _ _ _ h => h) (Or.inl ⟨by rfl, ?_⟩) (hH0) ?_
  rotate_left
  · (intro wx hSw; obtain ⟨l0, q0, q1, q2, q3⟩ := hSw; go_simp <;> with_reducible rfl)
  simp only [Act.put, List.setIfInBounds_toArray, List.set_cons_zero, List.set_cons_succ]
  refine wpAnyH_ready (rs := [8]) (by kernel_rfl) (by simp) ?_
  refine AllReadyH.cons (o := { dst := some 15, op := _, type := _, pos := _, after := _, guard := _ }) rfl (fun K hK => ?_) AllReadyH.nil
  go_simp
  refine (LE.out _).mono ?_
  rintro e w_c15_1 ⟨rfl, hb_c15_1⟩
  dsimp only
  refine hK.out _ _ (Qd.below hH0 hb_c15_1) (fun hH1 => ?_)
  clear hK K
  refine wpAnyH_take (i := 9) (oi := { dst := some 6, op := _, type := _, pos := _, after := _, guard := _ }) (v := ?_) rfl (by kernel_rfl) (by kernel_rfl) (by kernel_rfl) (fun _ _ _ h => h) (Or.inl ⟨by rfl, ?_⟩) (hH1) ?_
  rotate_left
  · (intro wx hSw; obtain ⟨l0, q0, q1, q2, q3⟩ := hSw; go_simp <;> with_reducible rfl)
  simp only [Act.put, List.setIfInBounds_toArray, List.set_cons_zero, List.set_cons_succ]
  refine wpAnyH_done (by kernel_rfl) ?_ _
  -- behind it: go_wp2_with fail, then go_meet (a cut) or go_ret; the condition at the end: hH1
  go_wp2_with fail
  go_ret
  exact ⟨rfl, (by repeat' first | with_reducible exact Below.refl _ _ | with_reducible assumption | with_reducible refine below_drewN ?_ _ | with_reducible refine balloc ?_ _ | with_reducible refine Below.drew ?_ | with_reducible refine Below.setCell ?_ (by first | (simp; done) | (simp; omega) | omega) _ | with_reducible refine bstep ?_ (by assumption))⟩

set_option maxHeartbeats 1600000 in
theorem gSwap_any (b m l cap : Nat) (L : NL) (i j : Nat) (w : World) (h : OwnL w b m L) (hl : l ≤ m) (hi : i < l) (hj : j < l) :
    Calls Try.prog 56 #[.slice (some ⟨b, 0, none⟩) l cap, .int .i64 i, .int .i64 j] w fun e w' => e = .returned (.tuple #[]) ∧ But b w w' ∧ OwnL w' b m (swp L i j) := by
  have q := h.qd (i := i) (j := j) (by omega) (by omega)
  obtain ⟨l0, c0, c1, d0, d1⟩ := q
  have hi' : (i : Int) < (l : Int) := by omega
  have hj' : (j : Int) < (l : Int) := by omega
  have f0 := World.rowIs.frozen h (i * 2)
  have f1 := World.rowIs.frozen h (i * 2 + 1)
  have f2 := World.rowIs.frozen h (j * 2)
  have f3 := World.rowIs.frozen h (j * 2 + 1)
  have H := hide h
  clear h
  by_cases e : i = j
  · subst e
    go_enter Try.func56, Try.ntmps56
    go_wp2_with fail
    go_big_region
    go_wp2_with fail
    go_end0
    exact ⟨rfl, (((((But.refl b w).setCell _ _).setCell _ _).setCell _ _).setCell _ _).drew, (swp_put L i i ▸ ((H.out.set i (L i).1 (L i).2).set i (L i).1 (L i).2)).drew⟩
  · have e1 : ¬ j * 2 = i * 2 := by omega
    have e2 : ¬ j * 2 = i * 2 + 1 := by omega
    have e3 : ¬ j * 2 + 1 = i * 2 := by omega
    have e4 : ¬ j * 2 + 1 = i * 2 + 1 := by omega
    go_enter Try.func56, Try.ntmps56
    go_wp2_with fail
    go_big_region
    go_wp2_with fail
    go_end0
    exact ⟨rfl, (((((But.refl b w).setCell _ _).setCell _ _).setCell _ _).setCell _ _).drew, (swp_put L i j ▸ ((H.out.set i (L j).1 (L j).2).set j (L i).1 (L i).2)).drew⟩
end Go.Proofs.Ytkonckgapicdfaa
