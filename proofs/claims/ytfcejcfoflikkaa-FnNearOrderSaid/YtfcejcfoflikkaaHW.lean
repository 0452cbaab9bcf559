/- The walk of FnNearOrder. -/
import Derived.Test.YtfcejcfoflikkaaHV
import Derived.Test.YtfcejcfoflikkaaDP
import Derived.Test.YtfcejcfoflikkaaHA
import Derived.Laws.StructEq
import Derived.Deep.RegionHeld3
import Derived.Deep.DeepCutAuto
namespace Go.Proofs.Ytfcejcfoflikkaa
open Go.RowKit
set_option linter.unusedSimpArgs false
set_option linter.unusedVariables false

theorem eqNr (a b c d : Int) (w : World) : (Op.equalIn 10000 25 (.agg #[.int .i64 a, .int .i64 b]) (.agg #[.int .i64 c, .int .i64 d])).run Try.prog w = .ok (a == c && b == d) w := by
  have u3 := Try.underlying2
  have k3 := Try.isAgg2
  have z3 := Try.sizeOf2
  have hS : Try.prog.underlying 25 = some (.struct (Try.prog.fieldsOf 25)) := by kernel_rfl
  rw [show (10000 : Nat) = 9999 + 1 from rfl, run_equalIn_agg w 9999 25 _ _ hS (by kernel_rfl)]
  simp only [Program.fieldsOf, Try.underlying25]
  go_simp
  by_cases h1 : a = c <;> by_cases h2 : b = d <;> simp [h1, h2]

theorem nless_irrefl (x y : Int) : nlessB x y x y = false := by unfold nlessB lessB; simp
theorem nless_total {x y u v : Int} (h1 : nearB x y = true) (h2 : nearB u v = true) (hne : ¬ (x = u ∧ y = v)) : (nlessB x y u v == nlessB u v x y) = false := by
  unfold nlessB
  rw [h1, h2]
  unfold lessB
  rw [beq_eq_false_iff_ne]
  simp only [Bool.and_self, Bool.true_and, ne_eq, decide_eq_decide]
  omega
theorem nless_trans {x y u v p q : Int} (h1 : nlessB x y u v = true) (h2 : nlessB u v p q = true) : nlessB x y p q = true := by
  unfold nlessB lessB at *
  simp only [Bool.and_eq_true, decide_eq_true_eq] at *
  exact ⟨⟨h1.1.1, h2.1.2⟩, by omega⟩

/-- The boxes of the three Nears. -/
structure T3 (w : World) (ba bb bc : Nat) (x y u v p q : Int) : Prop where
  a : Bx w ba (.int .i64 x) (.int .i64 y)
  b : Bx w bb (.int .i64 u) (.int .i64 v)
  c : Bx w bc (.int .i64 p) (.int .i64 q)
theorem T3.below {w w' : World} {ba bb bc : Nat} {x y u v p q : Int} (h : T3 w ba bb bc x y u v p q) (B : Below w.heap.size w w') : T3 w' ba bb bc x y u v p q := ⟨h.a.below B, h.b.below B, h.c.below B⟩
theorem T3.drew {w : World} {ba bb bc : Nat} {x y u v p q : Int} (h : T3 w ba bb bc x y u v p q) : T3 w.drew ba bb bc x y u v p q := ⟨h.a.drew, h.b.drew, h.c.drew⟩

set_option maxHeartbeats 16000000 in
set_option maxRecDepth 8000 in
theorem nearOrder_walk (a : Option Addr) (n cap : Nat) (zs : List Int) (a' : Option Addr) (n' cap' : Nat) (zs' : List Int) (w : World) (h : IsRow .u8 w a n cap zs) (h' : IsRow .u8 w a' n' cap' zs') :
    Calls Try.prog 3 #[.slice a n cap, .slice a' n' cap'] w fun e w' => e = .returned (.bool true) ∧ Below w.heap.size w w' := by
  have BG := hide (big_any a n cap w)
  have BG' := hide (big_any a' n' cap' w)
  by_cases hn : n ≤ 1048576
  · rw [decide_eq_false (show ¬ 1048576 < n by omega)] at BG
    by_cases hn' : n' ≤ 1048576
    · rw [decide_eq_false (show ¬ 1048576 < n' by omega)] at BG'
      have hcode := h.code hn
      have hcode' := h'.code hn'
      have DR := hide (drawNearLess_any a n cap w hcode)
      have DR' := hide (fun w1 (hb : Below w.heap.size w w1) => drawNearLess_any a' n' cap' w1 (hcode'.below hb))
      clear h h' hcode hcode'
      go_enter Try.func3, Try.ntmps3
      go_wp2_with fail
      refine BG.out.mono ?_
      rintro e w' ⟨rfl, hw⟩
      obtain rfl := hw.symm
      go_wp2_with fail
      refine BG'.out.mono ?_
      rintro e w' ⟨rfl, hw'⟩
      obtain rfl := hw'.symm
      clear BG BG' hw hw'
      go_wp2_with fail
      refine DR.out.mono ?_
      rintro e w1 ⟨x, y, u, v, rfl, hb1⟩
      have XA := (Bx.new w1 (.int .i64 x) (.int .i64 y) 25).alloc (.cells #[.int .i64 u, .int .i64 v] 25)
      have XB : Bx ((w1.alloc (.cells #[.int .i64 x, .int .i64 y] 25)).alloc (.cells #[.int .i64 u, .int .i64 v] 25)) (w1.heap.size + 1) (.int .i64 u) (.int .i64 v) := by
        have := Bx.new (w1.alloc (.cells #[.int .i64 x, .int .i64 y] 25)) (.int .i64 u) (.int .i64 v) 25
        rwa [World.size_alloc] at this
      have HXA := hide XA
      have HXB := hide XB
      clear DR XA XB
      go_wp2_with fail
      refine (DR'.out _ (by repeat' first | with_reducible exact Below.refl _ _ | with_reducible assumption | with_reducible refine below_drewN ?_ _ | with_reducible refine balloc ?_ _ | with_reducible refine Below.drew ?_ | with_reducible refine Below.setCell ?_ (by first | (simp; done) | (simp; omega) | omega) _ | with_reducible refine bstep ?_ (by assumption))).mono ?_
      rintro e w2 ⟨p, q, p', q', rfl, hb2⟩
      have T2 := hide (show T3 ((w2.alloc (.cells #[.int .i64 p, .int .i64 q] 25)).alloc (.cells #[.int .i64 p', .int .i64 q'] 25)) w1.heap.size (w1.heap.size + 1) w2.heap.size x y u v p q from
        ⟨((HXA.out.below hb2).alloc _).alloc _, ((HXB.out.below hb2).alloc _).alloc _, (Bx.new w2 _ _ _).alloc _⟩)
      have B2 : Below w.heap.size w ((w2.alloc (.cells #[.int .i64 p, .int .i64 q] 25)).alloc (.cells #[.int .i64 p', .int .i64 q'] 25)) := (by repeat' first | with_reducible exact Below.refl _ _ | with_reducible assumption | with_reducible refine below_drewN ?_ _ | with_reducible refine balloc ?_ _ | with_reducible refine Below.drew ?_ | with_reducible refine Below.setCell ?_ (by first | (simp; done) | (simp; omega) | omega) _ | with_reducible refine bstep ?_ (by assumption))
      clear DR' HXA HXB hb1 hb2
      have T2' := T2.out
      obtain ⟨⟨_, k0, k1, _, _⟩, ⟨_, k2, k3, _, _⟩, ⟨_, k4, k5, _, _⟩⟩ := T2'
      have IL := hide (iNearLess_any x y u v)
      have IR := hide (iNearLess_any u v x y)
      have IBC := hide (iNearLess_any u v p q)
      have IAC := hide (iNearLess_any x y p q)
      have SL := hide (sNearLess_any x y u v)
      have IA := hide (iNearOk_any x y)
      have SA := hide (sNearOk_any x y)
      have SB := hide (sNearOk_any u v)
      have hEq := fun w => eqNr x y u v w
      have hirr : x = u ∧ y = v → nlessB x y u v = false ∧ nlessB u v x y = false := by rintro ⟨rfl, rfl⟩; exact ⟨nless_irrefl _ _, nless_irrefl _ _⟩
      have htot : nearB x y = true → nearB u v = true → ¬ (x = u ∧ y = v) → (nlessB x y u v == nlessB u v x y) = false := nless_total
      have htr : nlessB x y u v = true → nlessB u v p q = true → nlessB x y p q = true := nless_trans
      have HF := hide (And.intro hirr (And.intro htot htr))
      clear hirr htot htr
      generalize nlessB x y u v = r1 at IL SL HF
      generalize nlessB u v x y = r2 at IR HF
      generalize nlessB u v p q = r3 at IBC HF
      generalize nlessB x y p q = r4 at IAC HF
      generalize nearB x y = na at IA SA HF
      generalize nearB u v = nb at SB HF
      have e1 : (r1 != r1) = false := by simp
      have e2 : (na != na) = false := by simp
      have e3 : (r1 == r1) = true := by simp
      have e4 : (na == na) = true := by simp
      go_wp2_with fail
      refine (IL.out _).mono ?_
      rintro e w3 ⟨rfl, hb3⟩
      have T := hide (T2.out.below hb3)
      have B3 := bstep B2 hb3
      clear k0 k1 k2 k3 k4 k5 hb3 T2 B2 IL
      have T' := T.out
      obtain ⟨⟨_, k0, k1, _, _⟩, ⟨_, k2, k3, _, _⟩, ⟨_, k4, k5, _, _⟩⟩ := T'
      go_wp2_with fail
      refine (IR.out _).mono ?_
      rintro e w4 ⟨rfl, hb4⟩
      have T := hide (T.out.below hb4)
      have B4 := bstep B3 hb4
      clear k0 k1 k2 k3 k4 k5 hb4 B3 IR
      generalize w1.heap.size = ba at T ⊢
      generalize ba + 1 = bb at T ⊢
      generalize w2.heap.size = bc at T ⊢
      go_upto_region 7 with fail
      cases na
      · skip
        refine wp_region_held_drew (S := fun wx => T3 wx ba bb bc x y u v p q) (by kernel_rfl) (T.out.drew) (fun hH0 => ?_)
        refine wpAnyH_take (i := 0) (oi := { dst := some 33, op := _, type := _, pos := _, after := _, guard := _ }) (v := ?_) rfl (by kernel_rfl) (by kernel_rfl) (by kernel_rfl) (fun _ _ _ h => h) (Or.inl ⟨by rfl, ?_⟩) (hH0) ?_
        rotate_left
        · (intro wx hSw; obtain ⟨⟨_, k0, k1, _, _⟩, ⟨_, k2, k3, _, _⟩, ⟨_, k4, k5, _, _⟩⟩ := hSw; go_simp <;> with_reducible rfl)
        simp only [Act.put, List.setIfInBounds_toArray, List.set_cons_zero, List.set_cons_succ]
        refine wpAnyH_take (i := 1) (oi := { dst := some 34, op := _, type := _, pos := _, after := _, guard := _ }) (v := ?_) rfl (by kernel_rfl) (by kernel_rfl) (by kernel_rfl) (fun _ _ _ h => h) (Or.inl ⟨by rfl, ?_⟩) (hH0) ?_
        rotate_left
        · (intro wx hSw; obtain ⟨⟨_, k0, k1, _, _⟩, ⟨_, k2, k3, _, _⟩, ⟨_, k4, k5, _, _⟩⟩ := hSw; go_simp <;> with_reducible rfl)
        simp only [Act.put, List.setIfInBounds_toArray, List.set_cons_zero, List.set_cons_succ]
        refine wpAnyH_take (i := 2) (oi := { dst := some 35, op := _, type := _, pos := _, after := _, guard := _ }) (v := ?_) rfl (by kernel_rfl) (by kernel_rfl) (by kernel_rfl) (fun _ _ _ h => h) (Or.inl ⟨by rfl, ?_⟩) (hH0) ?_
        rotate_left
        · (intro wx hSw; obtain ⟨⟨_, k0, k1, _, _⟩, ⟨_, k2, k3, _, _⟩, ⟨_, k4, k5, _, _⟩⟩ := hSw; go_simp <;> with_reducible rfl)
        simp only [Act.put, List.setIfInBounds_toArray, List.set_cons_zero, List.set_cons_succ]
        refine wpAnyH_ready (rs := [3]) (by kernel_rfl) (by simp) ?_
        refine AllReadyH.cons (o := { dst := some 36, op := _, type := _, pos := _, after := _, guard := _ }) rfl (fun K hK => ?_) AllReadyH.nil
        go_simp
        refine (SL.out _).mono ?_
        rintro e w_c36_1 ⟨rfl, hb_c36_1⟩
        dsimp only
        refine hK.out _ _ (T3.below hH0 hb_c36_1) (fun hH1 => ?_)
        clear hK K
        refine wpAnyH_take (i := 4) (oi := { dst := some 37, op := _, type := _, pos := _, after := _, guard := _ }) (v := ?_) rfl (by kernel_rfl) (by kernel_rfl) (by kernel_rfl) (fun _ _ _ h => h) (Or.inl ⟨by rfl, ?_⟩) (hH1) ?_
        rotate_left
        · (intro wx hSw; obtain ⟨⟨_, k0, k1, _, _⟩, ⟨_, k2, k3, _, _⟩, ⟨_, k4, k5, _, _⟩⟩ := hSw; go_simp <;> with_reducible rfl)
        simp only [Act.put, List.setIfInBounds_toArray, List.set_cons_zero, List.set_cons_succ]
        refine wpAnyH_take (i := 5) (oi := { dst := some 38, op := _, type := _, pos := _, after := _, guard := _ }) (v := ?_) rfl (by kernel_rfl) (by kernel_rfl) (by kernel_rfl) (fun _ _ _ h => h) (Or.inl ⟨by rfl, ?_⟩) (hH1) ?_
        rotate_left
        · (intro wx hSw; obtain ⟨⟨_, k0, k1, _, _⟩, ⟨_, k2, k3, _, _⟩, ⟨_, k4, k5, _, _⟩⟩ := hSw; go_simp <;> with_reducible rfl)
        simp only [Act.put, List.setIfInBounds_toArray, List.set_cons_zero, List.set_cons_succ]
        refine wpAnyH_take (i := 6) (oi := { dst := some 39, op := _, type := _, pos := _, after := _, guard := _ }) (v := ?_) rfl (by kernel_rfl) (by kernel_rfl) (by kernel_rfl) (fun _ _ _ h => h) (Or.inl ⟨by rfl, ?_⟩) (hH1) ?_
        rotate_left
        · (intro wx hSw; obtain ⟨⟨_, k0, k1, _, _⟩, ⟨_, k2, k3, _, _⟩, ⟨_, k4, k5, _, _⟩⟩ := hSw; go_simp <;> with_reducible rfl)
        simp only [Act.put, List.setIfInBounds_toArray, List.set_cons_zero, List.set_cons_succ]
        refine wpAnyH_take (i := 8) (oi := { dst := some 41, op := _, type := _, pos := _, after := _, guard := _ }) (v := ?_) rfl (by kernel_rfl) (by kernel_rfl) (by kernel_rfl) (fun _ _ _ h => h) (Or.inl ⟨by rfl, ?_⟩) (hH1) ?_
        rotate_left
        · (intro wx hSw; obtain ⟨⟨_, k0, k1, _, _⟩, ⟨_, k2, k3, _, _⟩, ⟨_, k4, k5, _, _⟩⟩ := hSw; go_simp <;> with_reducible rfl)
        simp only [Act.put, List.setIfInBounds_toArray, List.set_cons_zero, List.set_cons_succ]
        refine wpAnyH_ready (rs := [7]) (by kernel_rfl) (by simp) ?_
        refine AllReadyH.cons (o := { dst := some 40, op := _, type := _, pos := _, after := _, guard := _ }) rfl (fun K hK => ?_) AllReadyH.nil
        go_simp
        refine (IA.out _).mono ?_
        rintro e w_c40_2 ⟨rfl, hb_c40_2⟩
        dsimp only
        refine hK.out _ _ (T3.below hH1 hb_c40_2) (fun hH2 => ?_)
        clear hK K
        refine wpAnyH_ready (rs := [9]) (by kernel_rfl) (by simp) ?_
        refine AllReadyH.cons (o := { dst := some 42, op := _, type := _, pos := _, after := _, guard := _ }) rfl (fun K hK => ?_) AllReadyH.nil
        go_simp
        refine (SA.out _).mono ?_
        rintro e w_c42_3 ⟨rfl, hb_c42_3⟩
        dsimp only
        refine hK.out _ _ (T3.below hH2 hb_c42_3) (fun hH3 => ?_)
        clear hK K
        refine wpAnyH_take (i := 10) (oi := { dst := some 43, op := _, type := _, pos := _, after := _, guard := _ }) (v := ?_) rfl (by kernel_rfl) (by kernel_rfl) (by kernel_rfl) (fun _ _ _ h => h) (Or.inl ⟨by rfl, ?_⟩) (hH3) ?_
        rotate_left
        · (intro wx hSw; obtain ⟨⟨_, k0, k1, _, _⟩, ⟨_, k2, k3, _, _⟩, ⟨_, k4, k5, _, _⟩⟩ := hSw; go_simp <;> with_reducible rfl)
        simp only [Act.put, List.setIfInBounds_toArray, List.set_cons_zero, List.set_cons_succ]
        refine wpAnyH_take (i := 11) (oi := { dst := some 44, op := _, type := _, pos := _, after := _, guard := _ }) (v := ?_) rfl (by kernel_rfl) (by kernel_rfl) (by kernel_rfl) (fun _ _ _ h => h) (Or.inl ⟨by rfl, ?_⟩) (hH3) ?_
        rotate_left
        · (intro wx hSw; obtain ⟨⟨_, k0, k1, _, _⟩, ⟨_, k2, k3, _, _⟩, ⟨_, k4, k5, _, _⟩⟩ := hSw; go_simp <;> with_reducible rfl)
        simp only [Act.put, List.setIfInBounds_toArray, List.set_cons_zero, List.set_cons_succ]
        refine wpAnyH_take (i := 12) (oi := { dst := some 45, op := _, type := _, pos := _, after := _, guard := _ }) (v := ?_) rfl (by kernel_rfl) (by kernel_rfl) (by kernel_rfl) (fun _ _ _ h => h) (Or.inl ⟨by rfl, ?_⟩) (hH3) ?_
        rotate_left
        · (intro wx hSw; obtain ⟨⟨_, k0, k1, _, _⟩, ⟨_, k2, k3, _, _⟩, ⟨_, k4, k5, _, _⟩⟩ := hSw; go_simp <;> with_reducible rfl)
        simp only [Act.put, List.setIfInBounds_toArray, List.set_cons_zero, List.set_cons_succ]
        refine wpAnyH_take (i := 13) (oi := { dst := some 46, op := _, type := _, pos := _, after := _, guard := _ }) (v := ?_) rfl (by kernel_rfl) (by kernel_rfl) (by kernel_rfl) (fun _ _ _ h => h) (Or.inl ⟨by rfl, ?_⟩) (hH3) ?_
        rotate_left
        · (intro wx hSw; obtain ⟨⟨_, k0, k1, _, _⟩, ⟨_, k2, k3, _, _⟩, ⟨_, k4, k5, _, _⟩⟩ := hSw; go_simp <;> with_reducible rfl)
        simp only [Act.put, List.setIfInBounds_toArray, List.set_cons_zero, List.set_cons_succ]
        refine wpAnyH_ready (rs := [14]) (by kernel_rfl) (by simp) ?_
        refine AllReadyH.cons (o := { dst := some 47, op := _, type := _, pos := _, after := _, guard := _ }) rfl (fun K hK => ?_) AllReadyH.nil
        go_simp
        refine (SA.out _).mono ?_
        rintro e w_c47_4 ⟨rfl, hb_c47_4⟩
        dsimp only
        refine hK.out _ _ (T3.below hH3 hb_c47_4) (fun hH4 => ?_)
        clear hK K
        refine wpAnyH_take (i := 15) (oi := { dst := some 48, op := _, type := _, pos := _, after := _, guard := _ }) (v := ?_) rfl (by kernel_rfl) (by kernel_rfl) (by kernel_rfl) (fun _ _ _ h => h) (Or.inl ⟨by rfl, ?_⟩) (hH4) ?_
        rotate_left
        · (intro wx hSw; obtain ⟨⟨_, k0, k1, _, _⟩, ⟨_, k2, k3, _, _⟩, ⟨_, k4, k5, _, _⟩⟩ := hSw; go_simp <;> with_reducible rfl)
        simp only [Act.put, List.setIfInBounds_toArray, List.set_cons_zero, List.set_cons_succ]
        refine wpAnyH_take (i := 16) (oi := { dst := some 49, op := _, type := _, pos := _, after := _, guard := _ }) (v := ?_) rfl (by kernel_rfl) (by kernel_rfl) (by kernel_rfl) (fun _ _ _ h => h) (Or.inl ⟨by rfl, ?_⟩) (hH4) ?_
        rotate_left
        · (intro wx hSw; obtain ⟨⟨_, k0, k1, _, _⟩, ⟨_, k2, k3, _, _⟩, ⟨_, k4, k5, _, _⟩⟩ := hSw; go_simp <;> with_reducible rfl)
        simp only [Act.put, List.setIfInBounds_toArray, List.set_cons_zero, List.set_cons_succ]
        refine wpAnyH_take (i := 17) (oi := { dst := some 50, op := _, type := _, pos := _, after := _, guard := _ }) (v := ?_) rfl (by kernel_rfl) (by kernel_rfl) (by kernel_rfl) (fun _ _ _ h => h) (Or.inl ⟨by rfl, ?_⟩) (hH4) ?_
        rotate_left
        · (intro wx hSw; obtain ⟨⟨_, k0, k1, _, _⟩, ⟨_, k2, k3, _, _⟩, ⟨_, k4, k5, _, _⟩⟩ := hSw; go_simp <;> with_reducible rfl)
        simp only [Act.put, List.setIfInBounds_toArray, List.set_cons_zero, List.set_cons_succ]
        refine wpAnyH_take (i := 18) (oi := { dst := some 51, op := _, type := _, pos := _, after := _, guard := _ }) (v := _) rfl (by kernel_rfl) (by kernel_rfl) (by kernel_rfl) (fun _ _ _ h => h) (Or.inr ⟨by rfl, rfl⟩) (hH4) ?_
        simp only [Act.put, List.setIfInBounds_toArray, List.set_cons_zero, List.set_cons_succ]
        refine wpAnyH_take (i := 19) (oi := { dst := some 52, op := _, type := _, pos := _, after := _, guard := _ }) (v := _) rfl (by kernel_rfl) (by kernel_rfl) (by kernel_rfl) (fun _ _ _ h => h) (Or.inr ⟨by rfl, rfl⟩) (hH4) ?_
        simp only [Act.put, List.setIfInBounds_toArray, List.set_cons_zero, List.set_cons_succ]
        refine wpAnyH_take (i := 20) (oi := { dst := some 53, op := _, type := _, pos := _, after := _, guard := _ }) (v := _) rfl (by kernel_rfl) (by kernel_rfl) (by kernel_rfl) (fun _ _ _ h => h) (Or.inr ⟨by rfl, rfl⟩) (hH4) ?_
        simp only [Act.put, List.setIfInBounds_toArray, List.set_cons_zero, List.set_cons_succ]
        refine wpAnyH_take (i := 21) (oi := { dst := some 54, op := _, type := _, pos := _, after := _, guard := _ }) (v := ?_) rfl (by kernel_rfl) (by kernel_rfl) (by kernel_rfl) (fun _ _ _ h => h) (Or.inl ⟨by rfl, ?_⟩) (hH4) ?_
        rotate_left
        · (intro wx hSw; obtain ⟨⟨_, k0, k1, _, _⟩, ⟨_, k2, k3, _, _⟩, ⟨_, k4, k5, _, _⟩⟩ := hSw; go_simp <;> with_reducible rfl)
        simp only [Act.put, List.setIfInBounds_toArray, List.set_cons_zero, List.set_cons_succ]
        refine wpAnyH_done (by kernel_rfl) ?_ _
        -- behind it: go_wp2_with fail, then go_meet (a cut) or go_ret; the condition at the end: hH4
        have B5 := bstep (bstep (bstep (bstep (bstep B4 (Below.drew (Below.refl _ _))) hb_c36_1) hb_c40_2) hb_c42_3) hb_c47_4
        have T := hide hH4
        clear hH0 hH1 hH2 hH3 hH4 hb_c36_1 hb_c40_2 hb_c42_3 hb_c47_4
        go_upto_region 8 with fail
        refine wp_region_held_drew (S := fun wx => T3 wx ba bb bc x y u v p q) (by kernel_rfl) (T.out.drew) (fun hJ0 => ?_)
        refine wpAnyH_take (i := 0) (oi := { dst := some 55, op := _, type := _, pos := _, after := _, guard := _ }) (v := ?_) rfl (by kernel_rfl) (by kernel_rfl) (by kernel_rfl) (fun _ _ _ h => h) (Or.inl ⟨by rfl, ?_⟩) (hJ0) ?_
        rotate_left
        · (intro wx hSw; obtain ⟨⟨_, k0, k1, _, _⟩, ⟨_, k2, k3, _, _⟩, ⟨_, k4, k5, _, _⟩⟩ := hSw; go_simp <;> with_reducible rfl)
        simp only [Act.put, List.setIfInBounds_toArray, List.set_cons_zero, List.set_cons_succ]
        refine wpAnyH_take (i := 1) (oi := { dst := some 56, op := _, type := _, pos := _, after := _, guard := _ }) (v := ?_) rfl (by kernel_rfl) (by kernel_rfl) (by kernel_rfl) (fun _ _ _ h => h) (Or.inl ⟨by rfl, ?_⟩) (hJ0) ?_
        rotate_left
        · (intro wx hSw; obtain ⟨⟨_, k0, k1, _, _⟩, ⟨_, k2, k3, _, _⟩, ⟨_, k4, k5, _, _⟩⟩ := hSw; go_simp <;> with_reducible rfl)
        simp only [Act.put, List.setIfInBounds_toArray, List.set_cons_zero, List.set_cons_succ]
        refine wpAnyH_take (i := 2) (oi := { dst := some 57, op := _, type := _, pos := _, after := _, guard := _ }) (v := ?_) rfl (by kernel_rfl) (by kernel_rfl) (by kernel_rfl) (fun _ _ _ h => h) (Or.inl ⟨by rfl, ?_⟩) (hJ0) ?_
        rotate_left
        · (intro wx hSw; obtain ⟨⟨_, k0, k1, _, _⟩, ⟨_, k2, k3, _, _⟩, ⟨_, k4, k5, _, _⟩⟩ := hSw; go_simp <;> with_reducible rfl)
        simp only [Act.put, List.setIfInBounds_toArray, List.set_cons_zero, List.set_cons_succ]
        refine wpAnyH_ready (rs := [3]) (by kernel_rfl) (by simp) ?_
        refine AllReadyH.cons (o := { dst := some 58, op := _, type := _, pos := _, after := _, guard := _ }) rfl (fun K hK => ?_) AllReadyH.nil
        go_simp
        refine (SL.out _).mono ?_
        rintro e w_d58_1 ⟨rfl, hb_d58_1⟩
        dsimp only
        refine hK.out _ _ (T3.below hJ0 hb_d58_1) (fun hJ1 => ?_)
        clear hK K
        refine wpAnyH_take (i := 4) (oi := { dst := some 59, op := _, type := _, pos := _, after := _, guard := _ }) (v := ?_) rfl (by kernel_rfl) (by kernel_rfl) (by kernel_rfl) (fun _ _ _ h => h) (Or.inl ⟨by rfl, ?_⟩) (hJ1) ?_
        rotate_left
        · (intro wx hSw; obtain ⟨⟨_, k0, k1, _, _⟩, ⟨_, k2, k3, _, _⟩, ⟨_, k4, k5, _, _⟩⟩ := hSw; go_simp <;> with_reducible rfl)
        simp only [Act.put, List.setIfInBounds_toArray, List.set_cons_zero, List.set_cons_succ]
        refine wpAnyH_take (i := 5) (oi := { dst := some 60, op := _, type := _, pos := _, after := _, guard := _ }) (v := ?_) rfl (by kernel_rfl) (by kernel_rfl) (by kernel_rfl) (fun _ _ _ h => h) (Or.inl ⟨by rfl, ?_⟩) (hJ1) ?_
        rotate_left
        · (intro wx hSw; obtain ⟨⟨_, k0, k1, _, _⟩, ⟨_, k2, k3, _, _⟩, ⟨_, k4, k5, _, _⟩⟩ := hSw; go_simp <;> with_reducible rfl)
        simp only [Act.put, List.setIfInBounds_toArray, List.set_cons_zero, List.set_cons_succ]
        refine wpAnyH_take (i := 6) (oi := { dst := some 61, op := _, type := _, pos := _, after := _, guard := _ }) (v := ?_) rfl (by kernel_rfl) (by kernel_rfl) (by kernel_rfl) (fun _ _ _ h => h) (Or.inl ⟨by rfl, ?_⟩) (hJ1) ?_
        rotate_left
        · (intro wx hSw; obtain ⟨⟨_, k0, k1, _, _⟩, ⟨_, k2, k3, _, _⟩, ⟨_, k4, k5, _, _⟩⟩ := hSw; go_simp <;> with_reducible rfl)
        simp only [Act.put, List.setIfInBounds_toArray, List.set_cons_zero, List.set_cons_succ]
        refine wpAnyH_take (i := 8) (oi := { dst := some 63, op := _, type := _, pos := _, after := _, guard := _ }) (v := ?_) rfl (by kernel_rfl) (by kernel_rfl) (by kernel_rfl) (fun _ _ _ h => h) (Or.inl ⟨by rfl, ?_⟩) (hJ1) ?_
        rotate_left
        · (intro wx hSw; obtain ⟨⟨_, k0, k1, _, _⟩, ⟨_, k2, k3, _, _⟩, ⟨_, k4, k5, _, _⟩⟩ := hSw; go_simp <;> with_reducible rfl)
        simp only [Act.put, List.setIfInBounds_toArray, List.set_cons_zero, List.set_cons_succ]
        refine wpAnyH_ready (rs := [7]) (by kernel_rfl) (by simp) ?_
        refine AllReadyH.cons (o := { dst := some 62, op := _, type := _, pos := _, after := _, guard := _ }) rfl (fun K hK => ?_) AllReadyH.nil
        go_simp
        refine (IA.out _).mono ?_
        rintro e w_d62_2 ⟨rfl, hb_d62_2⟩
        dsimp only
        refine hK.out _ _ (T3.below hJ1 hb_d62_2) (fun hJ2 => ?_)
        clear hK K
        refine wpAnyH_ready (rs := [9]) (by kernel_rfl) (by simp) ?_
        refine AllReadyH.cons (o := { dst := some 64, op := _, type := _, pos := _, after := _, guard := _ }) rfl (fun K hK => ?_) AllReadyH.nil
        go_simp
        refine (SA.out _).mono ?_
        rintro e w_d64_3 ⟨rfl, hb_d64_3⟩
        dsimp only
        refine hK.out _ _ (T3.below hJ2 hb_d64_3) (fun hJ3 => ?_)
        clear hK K
        refine wpAnyH_take (i := 10) (oi := { dst := some 65, op := _, type := _, pos := _, after := _, guard := _ }) (v := ?_) rfl (by kernel_rfl) (by kernel_rfl) (by kernel_rfl) (fun _ _ _ h => h) (Or.inl ⟨by rfl, ?_⟩) (hJ3) ?_
        rotate_left
        · (intro wx hSw; obtain ⟨⟨_, k0, k1, _, _⟩, ⟨_, k2, k3, _, _⟩, ⟨_, k4, k5, _, _⟩⟩ := hSw; go_simp <;> with_reducible rfl)
        simp only [Act.put, List.setIfInBounds_toArray, List.set_cons_zero, List.set_cons_succ]
        refine wpAnyH_take (i := 11) (oi := { dst := some 66, op := _, type := _, pos := _, after := _, guard := _ }) (v := ?_) rfl (by kernel_rfl) (by kernel_rfl) (by kernel_rfl) (fun _ _ _ h => h) (Or.inl ⟨by rfl, ?_⟩) (hJ3) ?_
        rotate_left
        · (intro wx hSw; obtain ⟨⟨_, k0, k1, _, _⟩, ⟨_, k2, k3, _, _⟩, ⟨_, k4, k5, _, _⟩⟩ := hSw; go_simp <;> with_reducible rfl)
        simp only [Act.put, List.setIfInBounds_toArray, List.set_cons_zero, List.set_cons_succ]
        refine wpAnyH_take (i := 12) (oi := { dst := some 4, op := _, type := _, pos := _, after := _, guard := _ }) (v := ?_) rfl (by kernel_rfl) (by kernel_rfl) (by kernel_rfl) (fun _ _ _ h => h) (Or.inl ⟨by rfl, ?_⟩) (hJ3) ?_
        rotate_left
        · (intro wx hSw; obtain ⟨⟨_, k0, k1, _, _⟩, ⟨_, k2, k3, _, _⟩, ⟨_, k4, k5, _, _⟩⟩ := hSw; go_simp <;> with_reducible rfl)
        simp only [Act.put, List.setIfInBounds_toArray, List.set_cons_zero, List.set_cons_succ]
        refine wpAnyH_done (by kernel_rfl) ?_ _
        -- behind it: go_wp2_with fail, then go_meet (a cut) or go_ret; the condition at the end: hJ3
        have B6 := bstep (bstep (bstep (bstep B5 (Below.drew (Below.refl _ _))) hb_d58_1) hb_d62_2) hb_d64_3
        go_wp2_with fail
        go_ret
        exact ⟨rfl, B6⟩
      · skip
        refine wp_region_held_drew (S := fun wx => T3 wx ba bb bc x y u v p q) (by kernel_rfl) (T.out.drew) (fun hH0 => ?_)
        refine wpAnyH_take (i := 0) (oi := { dst := some 33, op := _, type := _, pos := _, after := _, guard := _ }) (v := ?_) rfl (by kernel_rfl) (by kernel_rfl) (by kernel_rfl) (fun _ _ _ h => h) (Or.inl ⟨by rfl, ?_⟩) (hH0) ?_
        rotate_left
        · (intro wx hSw; obtain ⟨⟨_, k0, k1, _, _⟩, ⟨_, k2, k3, _, _⟩, ⟨_, k4, k5, _, _⟩⟩ := hSw; go_simp <;> with_reducible rfl)
        simp only [Act.put, List.setIfInBounds_toArray, List.set_cons_zero, List.set_cons_succ]
        refine wpAnyH_take (i := 1) (oi := { dst := some 34, op := _, type := _, pos := _, after := _, guard := _ }) (v := ?_) rfl (by kernel_rfl) (by kernel_rfl) (by kernel_rfl) (fun _ _ _ h => h) (Or.inl ⟨by rfl, ?_⟩) (hH0) ?_
        rotate_left
        · (intro wx hSw; obtain ⟨⟨_, k0, k1, _, _⟩, ⟨_, k2, k3, _, _⟩, ⟨_, k4, k5, _, _⟩⟩ := hSw; go_simp <;> with_reducible rfl)
        simp only [Act.put, List.setIfInBounds_toArray, List.set_cons_zero, List.set_cons_succ]
        refine wpAnyH_take (i := 2) (oi := { dst := some 35, op := _, type := _, pos := _, after := _, guard := _ }) (v := ?_) rfl (by kernel_rfl) (by kernel_rfl) (by kernel_rfl) (fun _ _ _ h => h) (Or.inl ⟨by rfl, ?_⟩) (hH0) ?_
        rotate_left
        · (intro wx hSw; obtain ⟨⟨_, k0, k1, _, _⟩, ⟨_, k2, k3, _, _⟩, ⟨_, k4, k5, _, _⟩⟩ := hSw; go_simp <;> with_reducible rfl)
        simp only [Act.put, List.setIfInBounds_toArray, List.set_cons_zero, List.set_cons_succ]
        refine wpAnyH_ready (rs := [3]) (by kernel_rfl) (by simp) ?_
        refine AllReadyH.cons (o := { dst := some 36, op := _, type := _, pos := _, after := _, guard := _ }) rfl (fun K hK => ?_) AllReadyH.nil
        go_simp
        refine (SL.out _).mono ?_
        rintro e w_c36_1 ⟨rfl, hb_c36_1⟩
        dsimp only
        refine hK.out _ _ (T3.below hH0 hb_c36_1) (fun hH1 => ?_)
        clear hK K
        refine wpAnyH_take (i := 4) (oi := { dst := some 37, op := _, type := _, pos := _, after := _, guard := _ }) (v := ?_) rfl (by kernel_rfl) (by kernel_rfl) (by kernel_rfl) (fun _ _ _ h => h) (Or.inl ⟨by rfl, ?_⟩) (hH1) ?_
        rotate_left
        · (intro wx hSw; obtain ⟨⟨_, k0, k1, _, _⟩, ⟨_, k2, k3, _, _⟩, ⟨_, k4, k5, _, _⟩⟩ := hSw; go_simp <;> with_reducible rfl)
        simp only [Act.put, List.setIfInBounds_toArray, List.set_cons_zero, List.set_cons_succ]
        refine wpAnyH_take (i := 5) (oi := { dst := some 38, op := _, type := _, pos := _, after := _, guard := _ }) (v := ?_) rfl (by kernel_rfl) (by kernel_rfl) (by kernel_rfl) (fun _ _ _ h => h) (Or.inl ⟨by rfl, ?_⟩) (hH1) ?_
        rotate_left
        · (intro wx hSw; obtain ⟨⟨_, k0, k1, _, _⟩, ⟨_, k2, k3, _, _⟩, ⟨_, k4, k5, _, _⟩⟩ := hSw; go_simp <;> with_reducible rfl)
        simp only [Act.put, List.setIfInBounds_toArray, List.set_cons_zero, List.set_cons_succ]
        refine wpAnyH_take (i := 6) (oi := { dst := some 39, op := _, type := _, pos := _, after := _, guard := _ }) (v := ?_) rfl (by kernel_rfl) (by kernel_rfl) (by kernel_rfl) (fun _ _ _ h => h) (Or.inl ⟨by rfl, ?_⟩) (hH1) ?_
        rotate_left
        · (intro wx hSw; obtain ⟨⟨_, k0, k1, _, _⟩, ⟨_, k2, k3, _, _⟩, ⟨_, k4, k5, _, _⟩⟩ := hSw; go_simp <;> with_reducible rfl)
        simp only [Act.put, List.setIfInBounds_toArray, List.set_cons_zero, List.set_cons_succ]
        refine wpAnyH_take (i := 8) (oi := { dst := some 41, op := _, type := _, pos := _, after := _, guard := _ }) (v := ?_) rfl (by kernel_rfl) (by kernel_rfl) (by kernel_rfl) (fun _ _ _ h => h) (Or.inl ⟨by rfl, ?_⟩) (hH1) ?_
        rotate_left
        · (intro wx hSw; obtain ⟨⟨_, k0, k1, _, _⟩, ⟨_, k2, k3, _, _⟩, ⟨_, k4, k5, _, _⟩⟩ := hSw; go_simp <;> with_reducible rfl)
        simp only [Act.put, List.setIfInBounds_toArray, List.set_cons_zero, List.set_cons_succ]
        refine wpAnyH_ready (rs := [7]) (by kernel_rfl) (by simp) ?_
        refine AllReadyH.cons (o := { dst := some 40, op := _, type := _, pos := _, after := _, guard := _ }) rfl (fun K hK => ?_) AllReadyH.nil
        go_simp
        refine (IA.out _).mono ?_
        rintro e w_c40_2 ⟨rfl, hb_c40_2⟩
        dsimp only
        refine hK.out _ _ (T3.below hH1 hb_c40_2) (fun hH2 => ?_)
        clear hK K
        refine wpAnyH_ready (rs := [9]) (by kernel_rfl) (by simp) ?_
        refine AllReadyH.cons (o := { dst := some 42, op := _, type := _, pos := _, after := _, guard := _ }) rfl (fun K hK => ?_) AllReadyH.nil
        go_simp
        refine (SA.out _).mono ?_
        rintro e w_c42_3 ⟨rfl, hb_c42_3⟩
        dsimp only
        refine hK.out _ _ (T3.below hH2 hb_c42_3) (fun hH3 => ?_)
        clear hK K
        refine wpAnyH_take (i := 10) (oi := { dst := some 43, op := _, type := _, pos := _, after := _, guard := _ }) (v := ?_) rfl (by kernel_rfl) (by kernel_rfl) (by kernel_rfl) (fun _ _ _ h => h) (Or.inl ⟨by rfl, ?_⟩) (hH3) ?_
        rotate_left
        · (intro wx hSw; obtain ⟨⟨_, k0, k1, _, _⟩, ⟨_, k2, k3, _, _⟩, ⟨_, k4, k5, _, _⟩⟩ := hSw; go_simp <;> with_reducible rfl)
        simp only [Act.put, List.setIfInBounds_toArray, List.set_cons_zero, List.set_cons_succ]
        refine wpAnyH_take (i := 11) (oi := { dst := some 44, op := _, type := _, pos := _, after := _, guard := _ }) (v := ?_) rfl (by kernel_rfl) (by kernel_rfl) (by kernel_rfl) (fun _ _ _ h => h) (Or.inl ⟨by rfl, ?_⟩) (hH3) ?_
        rotate_left
        · (intro wx hSw; obtain ⟨⟨_, k0, k1, _, _⟩, ⟨_, k2, k3, _, _⟩, ⟨_, k4, k5, _, _⟩⟩ := hSw; go_simp <;> with_reducible rfl)
        simp only [Act.put, List.setIfInBounds_toArray, List.set_cons_zero, List.set_cons_succ]
        refine wpAnyH_take (i := 12) (oi := { dst := some 45, op := _, type := _, pos := _, after := _, guard := _ }) (v := ?_) rfl (by kernel_rfl) (by kernel_rfl) (by kernel_rfl) (fun _ _ _ h => h) (Or.inl ⟨by rfl, ?_⟩) (hH3) ?_
        rotate_left
        · (intro wx hSw; obtain ⟨⟨_, k0, k1, _, _⟩, ⟨_, k2, k3, _, _⟩, ⟨_, k4, k5, _, _⟩⟩ := hSw; go_simp <;> with_reducible rfl)
        simp only [Act.put, List.setIfInBounds_toArray, List.set_cons_zero, List.set_cons_succ]
        refine wpAnyH_take (i := 13) (oi := { dst := some 46, op := _, type := _, pos := _, after := _, guard := _ }) (v := ?_) rfl (by kernel_rfl) (by kernel_rfl) (by kernel_rfl) (fun _ _ _ h => h) (Or.inl ⟨by rfl, ?_⟩) (hH3) ?_
        rotate_left
        · (intro wx hSw; obtain ⟨⟨_, k0, k1, _, _⟩, ⟨_, k2, k3, _, _⟩, ⟨_, k4, k5, _, _⟩⟩ := hSw; go_simp <;> with_reducible rfl)
        simp only [Act.put, List.setIfInBounds_toArray, List.set_cons_zero, List.set_cons_succ]
        refine wpAnyH_ready (rs := [14]) (by kernel_rfl) (by simp) ?_
        refine AllReadyH.cons (o := { dst := some 47, op := _, type := _, pos := _, after := _, guard := _ }) rfl (fun K hK => ?_) AllReadyH.nil
        go_simp
        refine (SA.out _).mono ?_
        rintro e w_c47_4 ⟨rfl, hb_c47_4⟩
        dsimp only
        refine hK.out _ _ (T3.below hH3 hb_c47_4) (fun hH4 => ?_)
        clear hK K
        refine wpAnyH_take (i := 15) (oi := { dst := some 48, op := _, type := _, pos := _, after := _, guard := _ }) (v := ?_) rfl (by kernel_rfl) (by kernel_rfl) (by kernel_rfl) (fun _ _ _ h => h) (Or.inl ⟨by rfl, ?_⟩) (hH4) ?_
        rotate_left
        · (intro wx hSw; obtain ⟨⟨_, k0, k1, _, _⟩, ⟨_, k2, k3, _, _⟩, ⟨_, k4, k5, _, _⟩⟩ := hSw; go_simp <;> with_reducible rfl)
        simp only [Act.put, List.setIfInBounds_toArray, List.set_cons_zero, List.set_cons_succ]
        refine wpAnyH_take (i := 16) (oi := { dst := some 49, op := _, type := _, pos := _, after := _, guard := _ }) (v := ?_) rfl (by kernel_rfl) (by kernel_rfl) (by kernel_rfl) (fun _ _ _ h => h) (Or.inl ⟨by rfl, ?_⟩) (hH4) ?_
        rotate_left
        · (intro wx hSw; obtain ⟨⟨_, k0, k1, _, _⟩, ⟨_, k2, k3, _, _⟩, ⟨_, k4, k5, _, _⟩⟩ := hSw; go_simp <;> with_reducible rfl)
        simp only [Act.put, List.setIfInBounds_toArray, List.set_cons_zero, List.set_cons_succ]
        refine wpAnyH_take (i := 17) (oi := { dst := some 50, op := _, type := _, pos := _, after := _, guard := _ }) (v := ?_) rfl (by kernel_rfl) (by kernel_rfl) (by kernel_rfl) (fun _ _ _ h => h) (Or.inl ⟨by rfl, ?_⟩) (hH4) ?_
        rotate_left
        · (intro wx hSw; obtain ⟨⟨_, k0, k1, _, _⟩, ⟨_, k2, k3, _, _⟩, ⟨_, k4, k5, _, _⟩⟩ := hSw; go_simp <;> with_reducible rfl)
        simp only [Act.put, List.setIfInBounds_toArray, List.set_cons_zero, List.set_cons_succ]
        refine wpAnyH_take (i := 18) (oi := { dst := some 51, op := _, type := _, pos := _, after := _, guard := _ }) (v := ?_) rfl (by kernel_rfl) (by kernel_rfl) (by kernel_rfl) (fun _ _ _ h => h) (Or.inl ⟨by rfl, ?_⟩) (hH4) ?_
        rotate_left
        · (intro wx hSw; obtain ⟨⟨_, k0, k1, _, _⟩, ⟨_, k2, k3, _, _⟩, ⟨_, k4, k5, _, _⟩⟩ := hSw; go_simp <;> with_reducible rfl)
        simp only [Act.put, List.setIfInBounds_toArray, List.set_cons_zero, List.set_cons_succ]
        refine wpAnyH_ready (rs := [19]) (by kernel_rfl) (by simp) ?_
        refine AllReadyH.cons (o := { dst := some 52, op := _, type := _, pos := _, after := _, guard := _ }) rfl (fun K hK => ?_) AllReadyH.nil
        go_simp
        refine (SB.out _).mono ?_
        rintro e w_c52_5 ⟨rfl, hb_c52_5⟩
        dsimp only
        refine hK.out _ _ (T3.below hH4 hb_c52_5) (fun hH5 => ?_)
        clear hK K
        refine wpAnyH_take (i := 20) (oi := { dst := some 53, op := _, type := _, pos := _, after := _, guard := _ }) (v := ?_) rfl (by kernel_rfl) (by kernel_rfl) (by kernel_rfl) (fun _ _ _ h => h) (Or.inl ⟨by rfl, ?_⟩) (hH5) ?_
        rotate_left
        · (intro wx hSw; obtain ⟨⟨_, k0, k1, _, _⟩, ⟨_, k2, k3, _, _⟩, ⟨_, k4, k5, _, _⟩⟩ := hSw; go_simp <;> with_reducible rfl)
        simp only [Act.put, List.setIfInBounds_toArray, List.set_cons_zero, List.set_cons_succ]
        refine wpAnyH_take (i := 21) (oi := { dst := some 54, op := _, type := _, pos := _, after := _, guard := _ }) (v := ?_) rfl (by kernel_rfl) (by kernel_rfl) (by kernel_rfl) (fun _ _ _ h => h) (Or.inl ⟨by rfl, ?_⟩) (hH5) ?_
        rotate_left
        · (intro wx hSw; obtain ⟨⟨_, k0, k1, _, _⟩, ⟨_, k2, k3, _, _⟩, ⟨_, k4, k5, _, _⟩⟩ := hSw; go_simp <;> with_reducible rfl)
        simp only [Act.put, List.setIfInBounds_toArray, List.set_cons_zero, List.set_cons_succ]
        refine wpAnyH_done (by kernel_rfl) ?_ _
        -- behind it: go_wp2_with fail, then go_meet (a cut) or go_ret; the condition at the end: hH5
        have B5 := bstep (bstep (bstep (bstep (bstep (bstep B4 (Below.drew (Below.refl _ _))) hb_c36_1) hb_c40_2) hb_c42_3) hb_c47_4) hb_c52_5
        have T := hide hH5
        clear hH0 hH1 hH2 hH3 hH4 hH5 hb_c36_1 hb_c40_2 hb_c42_3 hb_c47_4 hb_c52_5
        cases nb
        · go_upto_region 8 with fail
          refine wp_region_held_drew (S := fun wx => T3 wx ba bb bc x y u v p q) (by kernel_rfl) (T.out.drew) (fun hJ0 => ?_)
          refine wpAnyH_take (i := 0) (oi := { dst := some 55, op := _, type := _, pos := _, after := _, guard := _ }) (v := ?_) rfl (by kernel_rfl) (by kernel_rfl) (by kernel_rfl) (fun _ _ _ h => h) (Or.inl ⟨by rfl, ?_⟩) (hJ0) ?_
          rotate_left
          · (intro wx hSw; obtain ⟨⟨_, k0, k1, _, _⟩, ⟨_, k2, k3, _, _⟩, ⟨_, k4, k5, _, _⟩⟩ := hSw; go_simp <;> with_reducible rfl)
          simp only [Act.put, List.setIfInBounds_toArray, List.set_cons_zero, List.set_cons_succ]
          refine wpAnyH_take (i := 1) (oi := { dst := some 56, op := _, type := _, pos := _, after := _, guard := _ }) (v := ?_) rfl (by kernel_rfl) (by kernel_rfl) (by kernel_rfl) (fun _ _ _ h => h) (Or.inl ⟨by rfl, ?_⟩) (hJ0) ?_
          rotate_left
          · (intro wx hSw; obtain ⟨⟨_, k0, k1, _, _⟩, ⟨_, k2, k3, _, _⟩, ⟨_, k4, k5, _, _⟩⟩ := hSw; go_simp <;> with_reducible rfl)
          simp only [Act.put, List.setIfInBounds_toArray, List.set_cons_zero, List.set_cons_succ]
          refine wpAnyH_take (i := 2) (oi := { dst := some 57, op := _, type := _, pos := _, after := _, guard := _ }) (v := ?_) rfl (by kernel_rfl) (by kernel_rfl) (by kernel_rfl) (fun _ _ _ h => h) (Or.inl ⟨by rfl, ?_⟩) (hJ0) ?_
          rotate_left
          · (intro wx hSw; obtain ⟨⟨_, k0, k1, _, _⟩, ⟨_, k2, k3, _, _⟩, ⟨_, k4, k5, _, _⟩⟩ := hSw; go_simp <;> with_reducible rfl)
          simp only [Act.put, List.setIfInBounds_toArray, List.set_cons_zero, List.set_cons_succ]
          refine wpAnyH_ready (rs := [3]) (by kernel_rfl) (by simp) ?_
          refine AllReadyH.cons (o := { dst := some 58, op := _, type := _, pos := _, after := _, guard := _ }) rfl (fun K hK => ?_) AllReadyH.nil
          go_simp
          refine (SL.out _).mono ?_
          rintro e w_d58_1 ⟨rfl, hb_d58_1⟩
          dsimp only
          refine hK.out _ _ (T3.below hJ0 hb_d58_1) (fun hJ1 => ?_)
          clear hK K
          refine wpAnyH_take (i := 4) (oi := { dst := some 59, op := _, type := _, pos := _, after := _, guard := _ }) (v := ?_) rfl (by kernel_rfl) (by kernel_rfl) (by kernel_rfl) (fun _ _ _ h => h) (Or.inl ⟨by rfl, ?_⟩) (hJ1) ?_
          rotate_left
          · (intro wx hSw; obtain ⟨⟨_, k0, k1, _, _⟩, ⟨_, k2, k3, _, _⟩, ⟨_, k4, k5, _, _⟩⟩ := hSw; go_simp <;> with_reducible rfl)
          simp only [Act.put, List.setIfInBounds_toArray, List.set_cons_zero, List.set_cons_succ]
          refine wpAnyH_take (i := 5) (oi := { dst := some 60, op := _, type := _, pos := _, after := _, guard := _ }) (v := ?_) rfl (by kernel_rfl) (by kernel_rfl) (by kernel_rfl) (fun _ _ _ h => h) (Or.inl ⟨by rfl, ?_⟩) (hJ1) ?_
          rotate_left
          · (intro wx hSw; obtain ⟨⟨_, k0, k1, _, _⟩, ⟨_, k2, k3, _, _⟩, ⟨_, k4, k5, _, _⟩⟩ := hSw; go_simp <;> with_reducible rfl)
          simp only [Act.put, List.setIfInBounds_toArray, List.set_cons_zero, List.set_cons_succ]
          refine wpAnyH_take (i := 6) (oi := { dst := some 61, op := _, type := _, pos := _, after := _, guard := _ }) (v := ?_) rfl (by kernel_rfl) (by kernel_rfl) (by kernel_rfl) (fun _ _ _ h => h) (Or.inl ⟨by rfl, ?_⟩) (hJ1) ?_
          rotate_left
          · (intro wx hSw; obtain ⟨⟨_, k0, k1, _, _⟩, ⟨_, k2, k3, _, _⟩, ⟨_, k4, k5, _, _⟩⟩ := hSw; go_simp <;> with_reducible rfl)
          simp only [Act.put, List.setIfInBounds_toArray, List.set_cons_zero, List.set_cons_succ]
          refine wpAnyH_take (i := 8) (oi := { dst := some 63, op := _, type := _, pos := _, after := _, guard := _ }) (v := ?_) rfl (by kernel_rfl) (by kernel_rfl) (by kernel_rfl) (fun _ _ _ h => h) (Or.inl ⟨by rfl, ?_⟩) (hJ1) ?_
          rotate_left
          · (intro wx hSw; obtain ⟨⟨_, k0, k1, _, _⟩, ⟨_, k2, k3, _, _⟩, ⟨_, k4, k5, _, _⟩⟩ := hSw; go_simp <;> with_reducible rfl)
          simp only [Act.put, List.setIfInBounds_toArray, List.set_cons_zero, List.set_cons_succ]
          refine wpAnyH_ready (rs := [7]) (by kernel_rfl) (by simp) ?_
          refine AllReadyH.cons (o := { dst := some 62, op := _, type := _, pos := _, after := _, guard := _ }) rfl (fun K hK => ?_) AllReadyH.nil
          go_simp
          refine (IA.out _).mono ?_
          rintro e w_d62_2 ⟨rfl, hb_d62_2⟩
          dsimp only
          refine hK.out _ _ (T3.below hJ1 hb_d62_2) (fun hJ2 => ?_)
          clear hK K
          refine wpAnyH_ready (rs := [9]) (by kernel_rfl) (by simp) ?_
          refine AllReadyH.cons (o := { dst := some 64, op := _, type := _, pos := _, after := _, guard := _ }) rfl (fun K hK => ?_) AllReadyH.nil
          go_simp
          refine (SA.out _).mono ?_
          rintro e w_d64_3 ⟨rfl, hb_d64_3⟩
          dsimp only
          refine hK.out _ _ (T3.below hJ2 hb_d64_3) (fun hJ3 => ?_)
          clear hK K
          refine wpAnyH_take (i := 10) (oi := { dst := some 65, op := _, type := _, pos := _, after := _, guard := _ }) (v := ?_) rfl (by kernel_rfl) (by kernel_rfl) (by kernel_rfl) (fun _ _ _ h => h) (Or.inl ⟨by rfl, ?_⟩) (hJ3) ?_
          rotate_left
          · (intro wx hSw; obtain ⟨⟨_, k0, k1, _, _⟩, ⟨_, k2, k3, _, _⟩, ⟨_, k4, k5, _, _⟩⟩ := hSw; go_simp <;> with_reducible rfl)
          simp only [Act.put, List.setIfInBounds_toArray, List.set_cons_zero, List.set_cons_succ]
          refine wpAnyH_take (i := 11) (oi := { dst := some 66, op := _, type := _, pos := _, after := _, guard := _ }) (v := ?_) rfl (by kernel_rfl) (by kernel_rfl) (by kernel_rfl) (fun _ _ _ h => h) (Or.inl ⟨by rfl, ?_⟩) (hJ3) ?_
          rotate_left
          · (intro wx hSw; obtain ⟨⟨_, k0, k1, _, _⟩, ⟨_, k2, k3, _, _⟩, ⟨_, k4, k5, _, _⟩⟩ := hSw; go_simp <;> with_reducible rfl)
          simp only [Act.put, List.setIfInBounds_toArray, List.set_cons_zero, List.set_cons_succ]
          refine wpAnyH_take (i := 12) (oi := { dst := some 4, op := _, type := _, pos := _, after := _, guard := _ }) (v := ?_) rfl (by kernel_rfl) (by kernel_rfl) (by kernel_rfl) (fun _ _ _ h => h) (Or.inl ⟨by rfl, ?_⟩) (hJ3) ?_
          rotate_left
          · (intro wx hSw; obtain ⟨⟨_, k0, k1, _, _⟩, ⟨_, k2, k3, _, _⟩, ⟨_, k4, k5, _, _⟩⟩ := hSw; go_simp <;> with_reducible rfl)
          simp only [Act.put, List.setIfInBounds_toArray, List.set_cons_zero, List.set_cons_succ]
          refine wpAnyH_done (by kernel_rfl) ?_ _
          -- behind it: go_wp2_with fail, then go_meet (a cut) or go_ret; the condition at the end: hJ3
          have B6 := bstep (bstep (bstep (bstep B5 (Below.drew (Below.refl _ _))) hb_d58_1) hb_d62_2) hb_d64_3
          go_wp2_with fail
          go_ret
          exact ⟨rfl, B6⟩
        · obtain ⟨hirr, htot, htr⟩ := HF.out
          have T' := T.out
          obtain ⟨⟨_, k0, k1, _, _⟩, ⟨_, k2, k3, _, _⟩, ⟨_, k4, k5, _, _⟩⟩ := T'
          have hD : (x = u ∧ y = v ∧ r1 = false ∧ r2 = false) ∨ (((x == u && y == v) = false) ∧ (r1 == r2) = false) := by
            by_cases hxy : x = u ∧ y = v
            · exact .inl ⟨hxy.1, hxy.2, hirr hxy⟩
            · refine .inr ⟨?_, htot rfl rfl hxy⟩
              by_cases h1 : x = u <;> by_cases h2 : y = v <;> simp [h1, h2]
              exact absurd ⟨h1, h2⟩ hxy
          have HTR := hide htr
          clear hirr htot htr HF SL IA SA SB
          rcases hD with ⟨rfl, rfl, rfl, rfl⟩ | ⟨hne, hrr⟩
          · simp only [beq_self_eq_true, Bool.and_self] at hEq
            go_wp2_with fail
            go_ret
            exact ⟨rfl, B5⟩
          · simp only [hne] at hEq
            cases r1
            · go_wp2_with fail
              go_ret
              exact ⟨rfl, B5⟩
            · go_wp2_with fail
              refine (IBC.out _).mono ?_
              rintro e w8 ⟨rfl, hb8⟩
              have T := hide (T.out.below hb8)
              have B8 := bstep B5 hb8
              clear k0 k1 k2 k3 k4 k5 hb8
              have T' := T.out
              obtain ⟨⟨_, k0, k1, _, _⟩, ⟨_, k2, k3, _, _⟩, ⟨_, k4, k5, _, _⟩⟩ := T'
              cases r3
              · go_wp2_with fail
                go_ret
                exact ⟨rfl, B8⟩
              · have hr4 : r4 = true := by first | exact HTR.out rfl rfl | simpa using HTR.out
                subst hr4
                go_wp2_with fail
                refine (IAC.out _).mono ?_
                rintro e w9 ⟨rfl, hb9⟩
                go_wp2_with fail
                go_ret
                exact ⟨rfl, bstep B8 hb9⟩
    · rw [decide_eq_true (show 1048576 < n' by omega)] at BG'
      clear h h'
      go_enter Try.func3, Try.ntmps3
      go_wp2_with fail
      refine BG.out.mono ?_
      rintro e w' ⟨rfl, hw⟩
      obtain rfl := hw.symm
      go_wp2_with fail
      refine BG'.out.mono ?_
      rintro e w' ⟨rfl, hw'⟩
      obtain rfl := hw'.symm
      go_wp2_with fail
      go_ret
      exact ⟨rfl, (by repeat' first | with_reducible exact Below.refl _ _ | with_reducible assumption | with_reducible refine below_drewN ?_ _ | with_reducible refine balloc ?_ _ | with_reducible refine Below.drew ?_ | with_reducible refine Below.setCell ?_ (by first | (simp; done) | (simp; omega) | omega) _ | with_reducible refine bstep ?_ (by assumption))⟩
  · rw [decide_eq_true (show 1048576 < n by omega)] at BG
    clear h h'
    go_enter Try.func3, Try.ntmps3
    go_wp2_with fail
    refine BG.out.mono ?_
    rintro e w' ⟨rfl, hw⟩
    obtain rfl := hw.symm
    go_wp2_with fail
    go_ret
    exact ⟨rfl, (by repeat' first | with_reducible exact Below.refl _ _ | with_reducible assumption | with_reducible refine below_drewN ?_ _ | with_reducible refine balloc ?_ _ | with_reducible refine Below.drew ?_ | with_reducible refine Below.setCell ?_ (by first | (simp; done) | (simp; omega) | omega) _ | with_reducible refine bstep ?_ (by assumption))⟩
end Go.Proofs.Ytfcejcfoflikkaa
