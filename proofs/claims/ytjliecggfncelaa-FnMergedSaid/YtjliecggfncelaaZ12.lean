/- The program's heap of the greatest: its methods. -/
import Derived.Test.YtjliecggfncelaaZ9
import Derived.BigRegion
namespace Go.Proofs.Ytjliecggfncelaa
open Go.RowKit
set_option maxRecDepth 8000
set_option linter.unusedSimpArgs false
set_option linter.unusedVariables false

theorem meth_Len (c : Nat) (v : Value) (w : World) (h : w.cell? ⟨c, 0, none⟩ = some v) : (method 227 91 (.pointer (some ⟨c, 0, none⟩)) "Len").run Try.prog w = .ok (91, v) w := by
  have e : (method 227 91 (.pointer (some ⟨c, 0, none⟩)) "Len").run Try.prog w = (Sem.load .plain ⟨c, 0, none⟩ fun v => .pure (91, v)).run Try.prog w := by kernel_rfl
  rw [e]
  simp [Sem.run, h]

theorem meth_Less (c : Nat) (v : Value) (w : World) (h : w.cell? ⟨c, 0, none⟩ = some v) : (method 227 91 (.pointer (some ⟨c, 0, none⟩)) "Less").run Try.prog w = .ok (92, v) w := by
  have e : (method 227 91 (.pointer (some ⟨c, 0, none⟩)) "Less").run Try.prog w = (Sem.load .plain ⟨c, 0, none⟩ fun v => .pure (92, v)).run Try.prog w := by kernel_rfl
  rw [e]
  simp [Sem.run, h]

theorem meth_Swap (c : Nat) (v : Value) (w : World) (h : w.cell? ⟨c, 0, none⟩ = some v) : (method 227 91 (.pointer (some ⟨c, 0, none⟩)) "Swap").run Try.prog w = .ok (93, v) w := by
  have e : (method 227 91 (.pointer (some ⟨c, 0, none⟩)) "Swap").run Try.prog w = (Sem.load .plain ⟨c, 0, none⟩ fun v => .pure (93, v)).run Try.prog w := by kernel_rfl
  rw [e]
  simp [Sem.run, h]

theorem meth_Push (c : Nat) (w : World) : (method 227 91 (.pointer (some ⟨c, 0, none⟩)) "Push").run Try.prog w = .ok (95, .pointer (some ⟨c, 0, none⟩)) w := by kernel_rfl

theorem meth_Pop (c : Nat) (w : World) : (method 227 91 (.pointer (some ⟨c, 0, none⟩)) "Pop").run Try.prog w = .ok (94, .pointer (some ⟨c, 0, none⟩)) w := by kernel_rfl

set_option maxHeartbeats 400000 in
theorem gLen_any (a : Option Addr) (n cap : Nat) (w : World) :
    Calls Try.prog 91 #[.slice a n cap] w fun e w' => e = .returned (.int .i64 n) ∧ w' = w := by
  go_enter Try.func91, Try.ntmps91
  go_wp2
  go_ret
  exact ⟨rfl, rfl⟩

theorem OwnL.drew {w : World} {b m : Nat} {L : NL} (h : OwnL w b m L) : OwnL w.drew b m L := World.rowIs.of_block h rfl

/-- Four cells of one block that are read. -/
structure Qd (w : World) (b i j : Nat) (x y : Int × Int) : Prop where
  lt : b < w.heap.size
  c0 : w.cell? ⟨b, i * 2, none⟩ = some (.int .i64 x.1)
  c1 : w.cell? ⟨b, i * 2 + 1, none⟩ = some (.int .i64 x.2)
  d0 : w.cell? ⟨b, j * 2, none⟩ = some (.int .i64 y.1)
  d1 : w.cell? ⟨b, j * 2 + 1, none⟩ = some (.int .i64 y.2)

theorem Qd.below {w w' : World} {b i j : Nat} {x y : Int × Int} (h : Qd w b i j x y) (B : Below w.heap.size w w') : Qd w' b i j x y :=
  ⟨Nat.lt_of_lt_of_le h.lt B.size, (B.cell (p := ⟨b, i * 2, none⟩) h.lt).trans h.c0, (B.cell (p := ⟨b, i * 2 + 1, none⟩) h.lt).trans h.c1, (B.cell (p := ⟨b, j * 2, none⟩) h.lt).trans h.d0, (B.cell (p := ⟨b, j * 2 + 1, none⟩) h.lt).trans h.d1⟩

theorem Qd.drew {w : World} {b i j : Nat} {x y : Int × Int} (h : Qd w b i j x y) : Qd w.drew b i j x y := ⟨h.lt, h.c0, h.c1, h.d0, h.d1⟩

theorem OwnL.qd {w : World} {b m : Nat} {L : NL} (h : OwnL w b m L) {i j : Nat} (hi : i < m) (hj : j < m) : Qd w b i j (L i) (L j) :=
  ⟨h.lt, OwnN.c0 h hi, OwnN.c1 h hi, OwnN.c0 h hj, OwnN.c1 h hj⟩

set_option maxHeartbeats 800000 in
theorem gLess_any (b m l cap : Nat) (L : NL) (i j : Nat) (w : World) (h : OwnL w b m L) (hl : l ≤ m) (hi : i < l) (hj : j < l) :
    Calls Try.prog 92 #[.slice (some ⟨b, 0, none⟩) l cap, .int .i64 i, .int .i64 j] w fun e w' => e = .returned (.bool (lt2 (L j) (L i))) ∧ Below w.heap.size w w' := by
  have Q := hide (h.qd (i := j) (j := i) (by omega) (by omega))
  have hi' : (i : Int) < (l : Int) := by omega
  have hj' : (j : Int) < (l : Int) := by omega
  have LE := hide (less_any (L j).1 (L j).2 (L i).1 (L i).2)
  unfold lt2
  clear h
  go_enter Try.func92, Try.ntmps92
  go_upto_region 1 with fail
  refine wp_region_held_drew (S := fun wx => Qd wx b j i (L j) (L i)) (by kernel_rfl) (Q.out.drew) (fun hH0 => ?_)
  refine wpAnyH_take (i := 0) (oi := { dst := some 7, op := _, type := _, pos := _, after := _, guard := _ }) (v := ?_) rfl (by kernel_rfl) (by kernel_rfl) (by kernel_rfl) (fun _ _ _ h => h) (Or.inl ⟨by rfl, ?_⟩) (hH0) ?_
  rotate_left
  · (intro wx hSw; obtain ⟨l0, q0, q1, q2, q3⟩ := hSw; go_simp <;> with_reducible rfl)
  simp only [Act.put, List.setIfInBounds_toArray, List.set_cons_zero, List.set_cons_succ]
  refine wpAnyH_take (i := 1) (oi := { dst := some 8, op := _, type := _, pos := _, after := _, guard := _ }) (v := ?_) rfl (by kernel_rfl) (by kernel_rfl) (by kernel_rfl) (fun _ _ _ h => h) (Or.inl ⟨by rfl, ?_⟩) (hH0) ?_
  rotate_left
  · (intro wx hSw; obtain ⟨l0, q0, q1, q2, q3⟩ := hSw; go_simp <;> with_reducible rfl)
  simp only [Act.put, List.setIfInBounds_toArray, List.set_cons_zero, List.set_cons_succ]
  refine wpAnyH_take (i := 2) (oi := { dst := some 9, op := _, type := _, pos := _, after := _, guard := _ }) (v := ?_) rfl (by kernel_rfl) (by kernel_rfl) (by kernel_rfl) (fun _ _ _ h => h) (Or.inl ⟨by rfl, ?_⟩) (hH0) ?_
  rotate_left
  · (intro wx hSw; obtain ⟨l0, q0, q1, q2, q3⟩ := hSw; go_simp <;> with_reducible rfl)
  simp only [Act.put, List.setIfInBounds_toArray, List.set_cons_zero, List.set_cons_succ]
  refine wpAnyH_take (i := 3) (oi := { dst := some 10, op := _, type := _, pos := _, after := _, guard := _ }) (v := ?_) rfl (by kernel_rfl) (by kernel_rfl) (by kernel_rfl) (fun _ _ _ h => h) (Or.inl ⟨by rfl, ?_⟩) (hH0) ?_
  rotate_left
  · (intro wx hSw; obtain ⟨l0, q0, q1, q2, q3⟩ := hSw; go_simp <;> with_reducible rfl)
  simp only [Act.put, List.setIfInBounds_toArray, List.set_cons_zero, List.set_cons_succ]
  refine wpAnyH_take (i := 4) (oi := { dst := some 11, op := _, type := _, pos := _, after := _, guard := _ }) (v := ?_) rfl (by kernel_rfl) (by kernel_rfl) (by kernel_rfl) (fun _ _ _ h => h) (Or.inl ⟨by rfl, ?_⟩) (hH0) ?_
  rotate_left
  · (intro wx hSw; obtain ⟨l0, q0, q1, q2, q3⟩ := hSw; go_simp <;> with_reducible rfl)
  simp only [Act.put, List.setIfInBounds_toArray, List.set_cons_zero, List.set_cons_succ]
  refine wpAnyH_take (i := 5) (oi := { dst := some 12, op := _, type := _, pos := _, after := _, guard := _ }) (v := ?_) rfl (by kernel_rfl) (by kernel_rfl) (by kernel_rfl) (fun _ _ _ h => h) (Or.inl ⟨by rfl, ?_⟩) (hH0) ?_
  rotate_left
  · (intro wx hSw; obtain ⟨l0, q0, q1, q2, q3⟩ := hSw; go_simp <;> with_reducible rfl)
  simp only [Act.put, List.setIfInBounds_toArray, List.set_cons_zero, List.set_cons_succ]
  refine wpAnyH_take (i := 6) (oi := { dst := some 13, op := _, type := _, pos := _, after := _, guard := _ }) (v := ?_) rfl (by kernel_rfl) (by kernel_rfl) (by kernel_rfl) (fun _ _ _ h => h) (Or.inl ⟨by rfl, ?_⟩) (hH0) ?_
  rotate_left
  · (intro wx hSw; obtain ⟨l0, q0, q1, q2, q3⟩ := hSw; go_simp <;> with_reducible rfl)
  simp only [Act.put, List.setIfInBounds_toArray, List.set_cons_zero, List.set_cons_succ]
  refine wpAnyH_take (i := 7) (oi := { dst := some 14, op := _, type := _, pos := _, after := _, guard := _ }) (v := ?_) rfl (by kernel_rfl) (by kernel_rfl) (by kernel_rfl) (fun _ _ _ h => h) (Or.inl ⟨by rfl, ?_⟩) (hH0) ?_
  rotate_left
  · (intro wx hSw; obtain ⟨l0, q0, q1, q2, q3⟩ := hSw; go_simp <;> with_reducible rfl)
  simp only [Act.put, List.setIfInBounds_toArray, List.set_cons_zero, List.set_cons_succ]
  refine wpAnyH_ready (rs := [8]) (by kernel_rfl) (by simp) ?_
  refine AllReadyH.cons (o := { dst := some 15, op := _, type := _, pos := _, after := _, guard := _ }) rfl (fun K hK => ?_) AllReadyH.nil
  go_simp
  refine (LE.out _).mono ?_
  rintro e w_c15_1 ⟨rfl, hb_c15_1⟩
  dsimp only
  refine hK.out _ _ (Qd.below hH0 hb_c15_1) (fun hH1 => ?_)
  clear hK K
  refine wpAnyH_take (i := 9) (oi := { dst := some 6, op := _, type := _, pos := _, after := _, guard := _ }) (v := ?_) rfl (by kernel_rfl) (by kernel_rfl) (by kernel_rfl) (fun _ _ _ h => h) (Or.inl ⟨by rfl, ?_⟩) (hH1) ?_
  rotate_left
  · (intro wx hSw; obtain ⟨l0, q0, q1, q2, q3⟩ := hSw; go_simp <;> with_reducible rfl)
  simp only [Act.put, List.setIfInBounds_toArray, List.set_cons_zero, List.set_cons_succ]
  refine wpAnyH_done (by kernel_rfl) ?_ _
  -- behind it: go_wp2_with fail, then go_meet (a cut) or go_ret; the condition at the end: hH1
  go_wp2_with fail
  go_ret
  exact ⟨rfl, (by repeat' first | with_reducible exact Below.refl _ _ | with_reducible assumption | with_reducible refine below_drewN ?_ _ | with_reducible refine balloc ?_ _ | with_reducible refine Below.drew ?_ | with_reducible refine Below.setCell ?_ (by first | (simp; done) | (simp; omega) | omega) _ | with_reducible refine bstep ?_ (by assumption))⟩

set_option maxHeartbeats 1600000 in
theorem gSwap_any (b m l cap : Nat) (L : NL) (i j : Nat) (w : World) (h : OwnL w b m L) (hl : l ≤ m) (hi : i < l) (hj : j < l) :
    Calls Try.prog 93 #[.slice (some ⟨b, 0, none⟩) l cap, .int .i64 i, .int .i64 j] w fun e w' => e = .returned (.tuple #[]) ∧ But b w w' ∧ OwnL w' b m (swp L i j) := by
  have q := h.qd (i := i) (j := j) (by omega) (by omega)
  obtain ⟨l0, c0, c1, d0, d1⟩ := q
  have hi' : (i : Int) < (l : Int) := by omega
  have hj' : (j : Int) < (l : Int) := by omega
  have f0 := World.rowIs.frozen h (i * 2)
  have f1 := World.rowIs.frozen h (i * 2 + 1)
  have f2 := World.rowIs.frozen h (j * 2)
  have f3 := World.rowIs.frozen h (j * 2 + 1)
  have H := hide h
  clear h
  by_cases e : i = j
  · subst e
    go_enter Try.func93, Try.ntmps93
    go_wp2_with fail
    go_big_region
    go_wp2_with fail
    go_end0
    exact ⟨rfl, (((((But.refl b w).setCell _ _).setCell _ _).setCell _ _).setCell _ _).drew, (swp_put L i i ▸ ((H.out.set i (L i).1 (L i).2).set i (L i).1 (L i).2)).drew⟩
  · have e1 : ¬ j * 2 = i * 2 := by omega
    have e2 : ¬ j * 2 = i * 2 + 1 := by omega
    have e3 : ¬ j * 2 + 1 = i * 2 := by omega
    have e4 : ¬ j * 2 + 1 = i * 2 + 1 := by omega
    go_enter Try.func93, Try.ntmps93
    go_wp2_with fail
    go_big_region
    go_wp2_with fail
    go_end0
    exact ⟨rfl, (((((But.refl b w).setCell _ _).setCell _ _).setCell _ _).setCell _ _).drew, (swp_put L i j ▸ ((H.out.set i (L j).1 (L j).2).set j (L i).1 (L i).2)).drew⟩
end Go.Proofs.Ytjliecggfncelaa

/- The library's heap over the program's: up, down, Push, Pop. -/
namespace Go.Proofs.Ytjliecggfncelaa
open Go.RowKit
set_option maxRecDepth 8000
set_option linter.unusedSimpArgs false
set_option linter.unusedVariables false

set_option maxHeartbeats 1600000 in
theorem hUp_any (c b m l cap : Nat) (L : NL) (j : Nat) (w : World) (hc : c < w.heap.size) (hcb : c ≠ b) (hv : w.cell? ⟨c, 0, none⟩ = some (.slice (some ⟨b, 0, none⟩) l cap)) (h : OwnL w b m L) (hl : l ≤ m) (hj : j < l) (hm : m ≤ 1048576) :
    Calls Try.prog 69 #[.iface 91 (.pointer (some ⟨c, 0, none⟩)), .int .i64 j] w fun e w' => e = .returned (.tuple #[]) ∧ But b w w' ∧ OwnL w' b m (upL j L) := by
  have HV := hide hv
  have H := hide h
  clear hv h
  go_enter Try.func69, Try.ntmps69
  go_wp2_with fail
  go_loopw [1] (fun i wr => ∃ (k : Nat) (M : NL), i = .int .i64 k ∧ k < l ∧ But b w wr ∧ OwnL wr b m M ∧ upL k M = upL j L) (fun i _ => (intOf i).toNat)
  case atStart => exact ⟨j, L, rfl, hj, But.refl b w, H.out, rfl⟩
  case round =>
    obtain ⟨k, M, rfl, hk, hb, hM, hup⟩ := hrel
    have HB := hide hb
    have HM := hide hM
    have HU := hide hup
    have hv : wr.cell? ⟨c, 0, none⟩ = some (.slice (some ⟨b, 0, none⟩) l cap) := (hb.cellN hc hcb).trans HV.out
    have hcr : c < wr.heap.size := Nat.lt_of_lt_of_le hc hb.size
    clear hb hM hup
    by_cases h0 : k = 0
    · subst h0
      have hq : Int.tdiv (-1) 2 = 0 := by decide
      go_wp2_with fail
      go_end0
      exact ⟨rfl, HB.out, by rw [← HU.out, upL_zero]; exact HM.out⟩
    · obtain ⟨p, hp⟩ : ∃ p, (k - 1) / 2 = p := ⟨_, rfl⟩
      have hq : Int.tdiv ((k : Int) - 1) 2 = (p : Int) := by rw [Int.tdiv_eq_ediv_of_nonneg (by omega)]; omega
      have hpk : ((p : Int) == (k : Int)) = false := by simp; omega
      have ML := meth_Less c _ wr hv
      have LE := hide (gLess_any b m l cap M k p wr HM.out hl hk (by omega))
      obtain ⟨v, hv2⟩ : ∃ v, lt2 (M p) (M k) = v := ⟨_, rfl⟩
      rw [hv2] at LE
      have HV2 := hide hv2
      clear hv2
      go_wp2_with fail
      refine LE.out.mono ?_
      rintro e w1 ⟨rfl, hb1⟩
      have hv1 : w1.cell? ⟨c, 0, none⟩ = some (.slice (some ⟨b, 0, none⟩) l cap) := (hb1.cell (p := ⟨c, 0, none⟩) hcr).trans hv
      have HM1 := hide (HM.out.below hb1)
      have HB1 := hide (HB.out.trans (But.ofBelow hb1))
      have hc1 : c < w1.heap.size := Nat.lt_of_lt_of_le hcr hb1.size
      clear hv ML LE HB HM hb1
      cases v
      · go_wp2_with fail
        go_end0
        exact ⟨rfl, HB1.out, by rw [← HU.out, upL_no (by rw [hp]; exact HV2.out)]; exact HM1.out⟩
      · have MS := meth_Swap c _ w1 hv1
        have SW := hide (gSwap_any b m l cap M p k w1 HM1.out hl (by omega) hk)
        go_wp2_with fail
        refine SW.out.mono ?_
        rintro e w2 ⟨rfl, hb2, hM2⟩
        have HM2 := hide hM2
        have HB2 := hide (HB1.out.trans hb2)
        clear hM2 hb2 SW MS hv1
        go_wp2_with fail
        go_roundw
        case rel => exact ⟨p, swp M p k, rfl, by omega, HB2.out, HM2.out, by rw [← HU.out, upL_yes h0 (by rw [hp]; exact HV2.out), hp]⟩
        case measure => simp [intOf]; omega

set_option maxHeartbeats 3200000 in
theorem hDown_any (c b m l cap : Nat) (L : NL) (n : Nat) (w : World) (hc : c < w.heap.size) (hcb : c ≠ b) (hv : w.cell? ⟨c, 0, none⟩ = some (.slice (some ⟨b, 0, none⟩) l cap)) (h : OwnL w b m L) (hl : l ≤ m) (hn : n ≤ l) (hm : m ≤ 1048576) :
    Calls Try.prog 70 #[.iface 91 (.pointer (some ⟨c, 0, none⟩)), .int .i64 0, .int .i64 n] w fun e w' => ∃ v, e = .returned (.bool v) ∧ But b w w' ∧ OwnL w' b m (dnL n 0 L) := by
  have HV := hide hv
  have H := hide h
  clear hv h
  go_enter Try.func70, Try.ntmps70
  go_wp2_with fail
  go_loopw [7] (fun i wr => ∃ (k : Nat) (M : NL), i = .int .i64 k ∧ (k < n ∨ k = 0) ∧ But b w wr ∧ OwnL wr b m M ∧ dnL n k M = dnL n 0 L) (fun i _ => n - (intOf i).toNat)
  case atStart => exact ⟨0, L, rfl, .inr rfl, But.refl b w, H.out, rfl⟩
  case round =>
    obtain ⟨k, M, rfl, hk, hb, hM, hup⟩ := hrel
    have HB := hide hb
    have HM := hide hM
    have HU := hide hup
    have hv : wr.cell? ⟨c, 0, none⟩ = some (.slice (some ⟨b, 0, none⟩) l cap) := (hb.cellN hc hcb).trans HV.out
    have hcr : c < wr.heap.size := Nat.lt_of_lt_of_le hc hb.size
    clear hb hM hup
    by_cases h1 : 2 * k + 1 < n
    · have h1' : 2 * (k : Int) + 1 < (n : Int) := by omega
      by_cases h2 : 2 * k + 2 < n
      · have h2' : 2 * (k : Int) + 1 + 1 < (n : Int) := by omega
        have ML := meth_Less c _ wr hv
        have LE := hide (gLess_any b m l cap M (2 * k + 2) (2 * k + 1) wr HM.out hl (by omega) (by omega))
        obtain ⟨v, hv2⟩ : ∃ v, lt2 (M (2 * k + 1)) (M (2 * k + 2)) = v := ⟨_, rfl⟩
        rw [hv2, show ((2 * k + 1 : Nat) : Int) = 2 * (k : Int) + 1 by omega, show ((2 * k + 2 : Nat) : Int) = 2 * (k : Int) + 1 + 1 by omega] at LE
        have HV2 := hide hv2
        clear hv2
        go_wp2_with fail
        refine LE.out.mono ?_
        rintro e w1 ⟨rfl, hb1⟩
        have hv1 : w1.cell? ⟨c, 0, none⟩ = some (.slice (some ⟨b, 0, none⟩) l cap) := (hb1.cell (p := ⟨c, 0, none⟩) hcr).trans hv
        have HM1 := hide (HM.out.below hb1)
        have HB1 := hide (HB.out.trans (But.ofBelow hb1))
        have hc1 : c < w1.heap.size := Nat.lt_of_lt_of_le hcr hb1.size
        clear hv ML LE HB HM hb1
        cases v
        · have hkid : kid n k M = 2 * k + 1 := by unfold kid; rw [if_neg (fun q => by rw [HV2.out] at q; exact Bool.noConfusion q.2)]
          have hQ : ((2 * k + 1 : Nat) : Int) = 2 * (k : Int) + 1 := by omega
          have ML2 := meth_Less c _ w1 hv1
          have LE2 := hide (gLess_any b m l cap M (2 * k + 1) k w1 HM1.out hl (by omega) (by omega))
          obtain ⟨u, hu⟩ : ∃ u, lt2 (M k) (M (2 * k + 1)) = u := ⟨_, rfl⟩
          rw [hu, hQ] at LE2
          have HU2 := hide hu
          clear hu
          go_wp2_with fail
          refine LE2.out.mono ?_
          rintro e w2 ⟨rfl, hb2⟩
          have hv3 : w2.cell? ⟨c, 0, none⟩ = some (.slice (some ⟨b, 0, none⟩) l cap) := (hb2.cell (p := ⟨c, 0, none⟩) hc1).trans hv1
          have HM2 := hide (HM1.out.below hb2)
          have HB2 := hide (HB1.out.trans (But.ofBelow hb2))
          clear hv1 ML2 LE2 hb2
          cases u
          · go_wp2_with fail
            go_ret
            exact ⟨_, rfl, HB2.out, by rw [← HU.out, dnL_no (by rw [hkid]; exact HU2.out)]; exact HM2.out⟩
          · have MS := meth_Swap c _ w2 hv3
            have SW := hide (gSwap_any b m l cap M k (2 * k + 1) w2 HM2.out hl (by omega) (by omega))
            rw [hQ] at SW
            go_wp2_with fail
            refine SW.out.mono ?_
            rintro e w3 ⟨rfl, hb3, hM3⟩
            have HM3 := hide hM3
            have HB3 := hide (HB2.out.trans hb3)
            clear hM3 hb3 SW MS hv3
            go_wp2_with fail
            go_roundw
            case rel => exact ⟨2 * k + 1, swp M k (2 * k + 1), by rw [hQ], .inl (by omega), HB3.out, HM3.out, by rw [← HU.out, dnL_yes h1 (by rw [hkid]; exact HU2.out), hkid]⟩
            case measure => simp [intOf]; omega
        · have hkid : kid n k M = 2 * k + 2 := by unfold kid; rw [if_pos ⟨h2, HV2.out⟩]
          have hQ : ((2 * k + 2 : Nat) : Int) = 2 * (k : Int) + 1 + 1 := by omega
          have ML2 := meth_Less c _ w1 hv1
          have LE2 := hide (gLess_any b m l cap M (2 * k + 2) k w1 HM1.out hl (by omega) (by omega))
          obtain ⟨u, hu⟩ : ∃ u, lt2 (M k) (M (2 * k + 2)) = u := ⟨_, rfl⟩
          rw [hu, hQ] at LE2
          have HU2 := hide hu
          clear hu
          go_wp2_with fail
          refine LE2.out.mono ?_
          rintro e w2 ⟨rfl, hb2⟩
          have hv3 : w2.cell? ⟨c, 0, none⟩ = some (.slice (some ⟨b, 0, none⟩) l cap) := (hb2.cell (p := ⟨c, 0, none⟩) hc1).trans hv1
          have HM2 := hide (HM1.out.below hb2)
          have HB2 := hide (HB1.out.trans (But.ofBelow hb2))
          clear hv1 ML2 LE2 hb2
          cases u
          · go_wp2_with fail
            go_ret
            exact ⟨_, rfl, HB2.out, by rw [← HU.out, dnL_no (by rw [hkid]; exact HU2.out)]; exact HM2.out⟩
          · have MS := meth_Swap c _ w2 hv3
            have SW := hide (gSwap_any b m l cap M k (2 * k + 2) w2 HM2.out hl (by omega) (by omega))
            rw [hQ] at SW
            go_wp2_with fail
            refine SW.out.mono ?_
            rintro e w3 ⟨rfl, hb3, hM3⟩
            have HM3 := hide hM3
            have HB3 := hide (HB2.out.trans hb3)
            clear hM3 hb3 SW MS hv3
            go_wp2_with fail
            go_roundw
            case rel => exact ⟨2 * k + 2, swp M k (2 * k + 2), by rw [hQ], .inl (by omega), HB3.out, HM3.out, by rw [← HU.out, dnL_yes h1 (by rw [hkid]; exact HU2.out), hkid]⟩
            case measure => simp [intOf]; omega
      · have h2' : (n : Int) ≤ 2 * (k : Int) + 1 + 1 := by omega
        have hkid : kid n k M = 2 * k + 1 := by unfold kid; rw [if_neg (fun q => h2 q.1)]
        have hQ : ((2 * k + 1 : Nat) : Int) = 2 * (k : Int) + 1 := by omega
        have ML2 := meth_Less c _ wr hv
        have LE2 := hide (gLess_any b m l cap M (2 * k + 1) k wr HM.out hl (by omega) (by omega))
        obtain ⟨u, hu⟩ : ∃ u, lt2 (M k) (M (2 * k + 1)) = u := ⟨_, rfl⟩
        rw [hu, hQ] at LE2
        have HU2 := hide hu
        clear hu
        go_wp2_with fail
        refine LE2.out.mono ?_
        rintro e w2 ⟨rfl, hb2⟩
        have hv3 : w2.cell? ⟨c, 0, none⟩ = some (.slice (some ⟨b, 0, none⟩) l cap) := (hb2.cell (p := ⟨c, 0, none⟩) hcr).trans hv
        have HM2 := hide (HM.out.below hb2)
        have HB2 := hide (HB.out.trans (But.ofBelow hb2))
        clear hv ML2 LE2 hb2
        cases u
        · go_wp2_with fail
          go_ret
          exact ⟨_, rfl, HB2.out, by rw [← HU.out, dnL_no (by rw [hkid]; exact HU2.out)]; exact HM2.out⟩
        · have MS := meth_Swap c _ w2 hv3
          have SW := hide (gSwap_any b m l cap M k (2 * k + 1) w2 HM2.out hl (by omega) (by omega))
          rw [hQ] at SW
          go_wp2_with fail
          refine SW.out.mono ?_
          rintro e w3 ⟨rfl, hb3, hM3⟩
          have HM3 := hide hM3
          have HB3 := hide (HB2.out.trans hb3)
          clear hM3 hb3 SW MS hv3
          go_wp2_with fail
          go_roundw
          case rel => exact ⟨2 * k + 1, swp M k (2 * k + 1), by rw [hQ], .inl (by omega), HB3.out, HM3.out, by rw [← HU.out, dnL_yes h1 (by rw [hkid]; exact HU2.out), hkid]⟩
          case measure => simp [intOf]; omega
    · have h1' : (n : Int) ≤ 2 * (k : Int) + 1 := by omega
      go_wp2_with fail
      go_ret
      exact ⟨_, rfl, HB.out, by rw [← HU.out, dnL_out h1]; exact HM.out⟩
end Go.Proofs.Ytjliecggfncelaa
