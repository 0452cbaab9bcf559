/- CmdText: its words; of the model. -/
import Derived.Test.YtggjcccdeaadbaaGreatDoorZ7
import Derived.Test.YtggjcccdeaadbaaGreatDoorZ21
import Derived.Test.YtggjcccdeaadbaaGreatDoorZ17
import Derived.Deep.RegionHeld3
import Derived.BigQuiet
namespace Go.Proofs.YtggjcccdeaadbaaGreatDoor
open Go.RowKit
set_option maxRecDepth 8000
set_option linter.unusedSimpArgs false
set_option linter.unusedVariables false

/-- A command's words. -/
def cmdW (k a b c : Int) (xs : List Int) : List (List UInt8) :=
  if k = 1 then [[100, 105, 109], Lib.itoa a] else
  if k = 2 then [[112, 117, 116], Lib.itoa a, Lib.itoa b, vecTB xs] else
  if k = 3 then [[100, 114, 111, 112], Lib.itoa a] else
  if k = 4 then [[98, 117, 105, 108, 100]] else
  if k = 5 then [[116, 105, 99, 107], Lib.itoa a] else
  if k = 6 then [[110, 101, 97, 114], Lib.itoa a, Lib.itoa b, Lib.itoa c, vecTB xs] else
  if k = 7 then [[119, 105, 116, 104, 105, 110], Lib.itoa a, Lib.itoa b, Lib.itoa c, vecTB xs] else
  []
def cmdT (k a b c : Int) (vn : Nat) (xs : List Int) : List UInt8 := if cmdB k a b c vn xs then Lib.join (cmdW k a b c xs) [32] else []

theorem join_snocC : ∀ (p : List (List UInt8)) (x : List UInt8), p ≠ [] → Lib.join (p ++ [x]) [32] = Lib.join p [32] ++ 32 :: x
  | [], x, h => absurd rfl h
  | [a], x, _ => by rw [List.singleton_append, join_two]; simp [Lib.join]
  | a :: b :: r, x, _ => by
    have ih := join_snocC (b :: r) x (by simp)
    rw [List.cons_append, List.cons_append, join_two, join_two, ← List.cons_append, ih]
    simp

theorem l1Dec_bsC (x : Int) (w : World) (h0 : -9223372036854775808 ≤ x) (h1 : x ≤ 9223372036854775807) :
    Calls Tryz.prog 30 #[.int .i64 x] w fun e w' => e = .returned (.string (bs (Lib.itoa x))) ∧ Below w.heap.size w w' := l1Dec_any x w h0 h1

theorem itoa_lenC {x : Int} (h0 : -9223372036854775808 ≤ x) (h1 : x ≤ 9223372036854775807) : (bs (Lib.itoa x)).size ≤ 21 := by
  rw [bs_size]
  rcases lt_or_geI x 0 with p | p
  · rw [itoa_min p, List.length_cons]
    have := dec_len20 (n := x.natAbs) (by omega)
    omega
  · rw [itoa_pos p]
    have := dec_len20 (n := x.toNat) (by omega)
    omega

theorem bytes_eqC {a b : ByteArray} (h : a.data.toList = b.data.toList) : a = b := by rw [← bs_of a, h, bs_of]

theorem fits_facts {p0 q0 p1 q1 p2 q2 : Int} {fv : Bool} {a b c : Int} {vn : Nat} {xs : List Int} (h : fitsB p0 q0 p1 q1 p2 q2 fv a b c vn xs = true) : (p0 ≤ a ∧ a ≤ q0) ∧ (p1 ≤ b ∧ b ≤ q1) ∧ (p2 ≤ c ∧ c ≤ q2) ∧ (fv = true → vecOkB xs = true) := by
  unfold fitsB at h
  simp only [Bool.and_eq_true, decide_eq_true_eq] at h
  refine ⟨h.1, h.2.1, h.2.2.1, fun e => ?_⟩
  have := h.2.2.2
  rwa [if_pos e] at this
def namesC : Array Value := #[.string ⟨#[100, 105, 109]⟩, .string ⟨#[112, 117, 116]⟩, .string ⟨#[100, 114, 111, 112]⟩, .string ⟨#[98, 117, 105, 108, 100]⟩, .string ⟨#[116, 105, 99, 107]⟩, .string ⟨#[110, 101, 97, 114]⟩, .string ⟨#[119, 105, 116, 104, 105, 110]⟩]

set_option maxHeartbeats 1000000 in
theorem names_any (w : World) : Calls Tryz.prog 26 #[] w fun e w' => e = .returned (.slice (some ⟨w.heap.size, 0, none⟩) 7 7) ∧ w' = w.alloc (.cells #[.string ⟨#[100, 105, 109]⟩, .string ⟨#[112, 117, 116]⟩, .string ⟨#[100, 114, 111, 112]⟩, .string ⟨#[98, 117, 105, 108, 100]⟩, .string ⟨#[116, 105, 99, 107]⟩, .string ⟨#[110, 101, 97, 114]⟩, .string ⟨#[119, 105, 116, 104, 105, 110]⟩] 9) := by
  go_enter Tryz.func26, Tryz.ntmps26
  go_wp2_with fail
  go_ret
  exact ⟨rfl, rfl⟩
/-- A command in its box. -/
structure CdB (w0 w : World) (F : Nat → Value) : Prop where
  box : w.rowIs w0.heap.size 26 5 F
  bel : Below w0.heap.size w0 w

theorem CdB.below {w0 w w' : World} {F : Nat → Value} (h : CdB w0 w F) (hb : Below w.heap.size w w') : CdB w0 w' F := ⟨row_belowC h.box hb, bstep h.bel hb⟩
structure CdQ (w0 w : World) (a0 a1 a2 a3 a4 : Value) : Prop where
  lt : w0.heap.size < w.heap.size
  c0 : w.cell? ⟨w0.heap.size, 0, none⟩ = some a0
  all : CdB w0 w (v5 a0 a1 a2 a3 a4)

theorem CdB.q {w0 w : World} {a0 a1 a2 a3 a4 : Value} (h : CdB w0 w (v5 a0 a1 a2 a3 a4)) : CdQ w0 w a0 a1 a2 a3 a4 := ⟨World.rowIs.lt h.box, (v5_facts h.box).2.1, h⟩

theorem CdQ.below {w0 w w' : World} {a0 a1 a2 a3 a4 : Value} (h : CdQ w0 w a0 a1 a2 a3 a4) (hb : Below w.heap.size w w') : CdQ w0 w' a0 a1 a2 a3 a4 := (h.all.below hb).q


set_option maxHeartbeats 8000000 in
set_option maxRecDepth 4000 in
theorem sCmdText1 (a b c : Int) (va : Option Addr) (vn vc : Nat) (xs : List Int) (w : World) (rv : Row w va vn xs) (hn : vn ≤ 1048576) :
    Calls Tryz.prog 10 #[.agg #[.int .i64 1, .int .i64 a, .int .i64 b, .int .i64 c, .slice va vn vc]] w fun e w' => e = .returned (.string (bs (cmdT 1 a b c vn xs))) ∧ Below w.heap.size w w' := by
  have F0 : Hid (CdB w (w.alloc (.cells #[.int .i64 1, .int .i64 a, .int .i64 b, .int .i64 c, .slice va vn vc] 26)) (v5 (.int .i64 1) (.int .i64 a) (.int .i64 b) (.int .i64 c) (.slice va vn vc))) := hide ⟨v5_new w _ _ _ _ _ _, balloc (Below.refl _ _) _⟩
  have SC := hide (fun w1 (s : Below w.heap.size w w1) => sCmdOk_any 1 a b c va vn vc xs w1 (rv.below s) hn)
  have VT := hide (fun w1 (s : Below w.heap.size w w1) => sVecText_any va vn vc xs w1 (rv.below s) hn)
  have US := hide (fun w1 => uses1 w1)
  clear rv
  unfold cmdT
  obtain ⟨_, y0, y1, y2, y3, y4, _⟩ := v5_facts F0.out.box
  cases hB : cmdB 1 a b c vn xs
  · rw [hB] at SC
    rw [if_neg (by decide), show bs [] = ⟨#[]⟩ from rfl]
    clear hB VT US
    go_enter Tryz.func10, Tryz.ntmps10
    go_wp2_with fail
    refine (SC.out _ F0.out.bel).mono ?_
    rintro e w1 ⟨rfl, hb1⟩
    have B1 := hide (bstep F0.out.bel hb1)
    clear hb1
    go_wp2_with fail
    go_ret
    exact ⟨rfl, B1.out⟩
  · have fa := fits_facts (show fitsB 1 8 0 0 0 0 false a b c vn xs = true from hB)
    rw [hB] at SC
    rw [if_pos rfl, show cmdW 1 a b c xs = [[100, 105, 109], Lib.itoa a] from rfl]
    obtain ⟨fa0, fa1, fa2, fa3⟩ := fa
    have D0 := hide (fun w1 => l1Dec_bsC a w1 (by omega) (by omega))
    have ds0 := itoa_lenC (x := a) (by omega) (by omega)
    obtain ⟨E0, hE0⟩ : ∃ E, bs (Lib.itoa a) = E := ⟨_, rfl⟩
    have EL0 : Hid (E0.data.toList = Lib.itoa a) := hide (by rw [← hE0, bs_list])
    rw [hE0] at D0 ds0
    clear hE0
    clear hB fa0 fa1 fa2 fa3
    go_enter Tryz.func10, Tryz.ntmps10
    go_wp2_with fail
    refine (SC.out _ F0.out.bel).mono ?_
    rintro e w1 ⟨rfl, hb1⟩
    have F1 := hide (F0.out.below hb1)
    clear hb1 F0 SC y0 y1 y2 y3 y4
    go_upto_region 3 with fail
    refine wp_region_held_drew (S := fun wx => CdQ w wx (.int .i64 1) (.int .i64 a) (.int .i64 b) (.int .i64 c) (.slice va vn vc)) (by kernel_rfl) ((F1.out.below (Below.drew (Below.refl _ _))).q) (fun hH0 => ?_)
    refine wpAnyH_take (i := 1) (oi := { dst := some 11, op := _, type := _, pos := _, after := _, guard := _ }) (v := ?_) rfl (by kernel_rfl) (by kernel_rfl) (by kernel_rfl) (fun _ _ _ h => h) (Or.inl ⟨by rfl, ?_⟩) (hH0) ?_
    rotate_left
    · (intro wx hSw; obtain ⟨lt, c0, _⟩ := hSw; go_simp <;> with_reducible rfl)
    simp only [Act.put, List.setIfInBounds_toArray, List.set_cons_zero, List.set_cons_succ]
    refine wpAnyH_take (i := 2) (oi := { dst := some 12, op := _, type := _, pos := _, after := _, guard := _ }) (v := ?_) rfl (by kernel_rfl) (by kernel_rfl) (by kernel_rfl) (fun _ _ _ h => h) (Or.inl ⟨by rfl, ?_⟩) (hH0) ?_
    rotate_left
    · (intro wx hSw; obtain ⟨lt, c0, _⟩ := hSw; go_simp <;> with_reducible rfl)
    simp only [Act.put, List.setIfInBounds_toArray, List.set_cons_zero, List.set_cons_succ]
    refine wpAnyH_take (i := 3) (oi := { dst := some 13, op := _, type := _, pos := _, after := _, guard := _ }) (v := ?_) rfl (by kernel_rfl) (by kernel_rfl) (by kernel_rfl) (fun _ _ _ h => h) (Or.inl ⟨by rfl, ?_⟩) (hH0) ?_
    rotate_left
    · (intro wx hSw; obtain ⟨lt, c0, _⟩ := hSw; go_simp <;> with_reducible rfl)
    simp only [Act.put, List.setIfInBounds_toArray, List.set_cons_zero, List.set_cons_succ]
    -- behind it: go_wp2_with fail, then go_meet (a cut) or go_ret; the condition at the end: hH0
    refine wpAnyH_ready (rs := [0]) (by kernel_rfl) (by simp) ?_
    refine AllReadyH.cons (o := { dst := some 10, op := _, type := _, pos := _, after := _, guard := _ }) rfl (fun K hK => ?_) AllReadyH.nil
    go_simp
    refine (names_any _).mono ?_
    rintro e w2 ⟨rfl, hw⟩
    have F2 : Hid (CdB w ((w1.alloc (.cells #[.string ⟨#[100, 105, 109]⟩, .string ⟨#[112, 117, 116]⟩, .string ⟨#[100, 114, 111, 112]⟩, .string ⟨#[98, 117, 105, 108, 100]⟩, .string ⟨#[116, 105, 99, 107]⟩, .string ⟨#[110, 101, 97, 114]⟩, .string ⟨#[119, 105, 116, 104, 105, 110]⟩] 9)).drew) _) := hide ((F1.out.below (Below.drew (Below.refl _ _))).below (balloc (Below.refl _ _) (.cells #[.string ⟨#[100, 105, 109]⟩, .string ⟨#[112, 117, 116]⟩, .string ⟨#[100, 114, 111, 112]⟩, .string ⟨#[98, 117, 105, 108, 100]⟩, .string ⟨#[116, 105, 99, 107]⟩, .string ⟨#[110, 101, 97, 114]⟩, .string ⟨#[119, 105, 116, 104, 105, 110]⟩] 9)))
    subst hw
    dsimp only
    refine hK.out _ _ F2.out.q (fun hH1 => ?_)
    clear hK K

    have F2q := F2.out.q
    refine wpAnyH_ready (rs := [4]) (by kernel_rfl) (by simp) ?_
    refine AllReadyH.cons (o := { dst := some 14, op := _, type := _, pos := _, after := _, guard := _ }) rfl (fun K hK => ?_) AllReadyH.nil
    go_simp
    refine hK.out _ _ F2q (fun hH2 => ?_)
    clear hK K
    refine wpAnyH_ready (rs := [5]) (by kernel_rfl) (by simp) ?_
    refine AllReadyH.cons (o := { dst := some 15, op := _, type := _, pos := _, after := _, guard := _ }) rfl (fun K hK => ?_) AllReadyH.nil
    go_simp
    refine hK.out _ _ F2q (fun hH3 => ?_)
    clear hK K
    refine wpAnyH_ready (rs := [6]) (by kernel_rfl) (by simp) ?_
    refine AllReadyH.cons (o := { dst := some 3, op := _, type := _, pos := _, after := _, guard := _ }) rfl (fun K hK => ?_) AllReadyH.nil
    go_simp
    refine hK.out _ _ F2q (fun hH4 => ?_)
    clear hK K
    refine wpAnyH_done (by kernel_rfl) ?_ _
    clear hH0 hH1 hH2 hH3 hH4 F2q F1
    obtain ⟨_, y0, y1, y2, y3, y4, _⟩ := v5_facts F2.out.box
    go_wp2_with fail
    refine (US.out _).mono ?_
    rintro e w3 ⟨rfl, hb3⟩
    have F3 := hide (F2.out.below hb3)
    clear hb3 F2 US y0 y1 y2 y3 y4
    go_wp2_with fail
    go_loopw [3, 6] (fun s i wr => ∃ (j : Nat) (S : ByteArray), j ≤ 1 ∧ i = .int .i64 j ∧ s = .string S ∧ S.size ≤ 10 + 22 * j ∧ Hid (S.data.toList = Lib.join (List.take (j + 1) [[100, 105, 109], Lib.itoa a]) [32]) ∧ Hid (CdB w wr (v5 (.int .i64 1) (.int .i64 a) (.int .i64 b) (.int .i64 c) (.slice va vn vc)))) (fun _ i _ => 1 - (intOf i).toNat)
    case atStart => exact ⟨0, ⟨#[100, 105, 109]⟩, by omega, rfl, rfl, by decide, hide (by simp [Lib.join]), F3⟩
    case round =>
      obtain ⟨j, S, hj, rfl, rfl, ssz, HS, HF⟩ := hrel
      clear F3
      obtain ⟨_, y0, y1, y2, y3, y4, _⟩ := v5_facts HF.out.box
      rcases (show j = 0 ∨ j = 1 from by omega) with rfl | rfl
      · have hs : S.data.toList = Lib.join [[100, 105, 109]] [32] := HS.out
        have HS' := hide hs
        clear hs HS
        go_wp2_with fail
        refine (D0.out _).mono ?_
        rintro e w4 ⟨rfl, hb4⟩
        have F4 := hide ((HF.out.below (balloc (Below.refl _ _) _)).below hb4)
        clear hb4 HF y0 y1 y2 y3 y4
        go_wp2_with fail
        go_roundw
        case rel =>
          refine ⟨1, _, by omega, by go_num, rfl, ?_, hide ?_, F4⟩
          · rw [ByteArray.size_append, ByteArray.size_append]; show S.size + 1 + E0.size ≤ 10 + 22 * 1; omega
          · rw [str_app, str_app, HS'.out, EL0.out]
            show _ = Lib.join [[100, 105, 109], Lib.itoa a] [32]
            rw [show ([[100, 105, 109], Lib.itoa a] : List (List UInt8)) = [[100, 105, 109]] ++ [Lib.itoa a] from rfl, join_snocC _ _ (by simp)]
            simp
        case measure => simp [intOf]
      · have hs : S.data.toList = Lib.join [[100, 105, 109], Lib.itoa a] [32] := HS.out
        have HS' := hide hs
        clear hs HS
        go_wp2_with fail
        go_ret
        exact ⟨ret_str (by rw [← bs_of S, HS'.out]), HF.out.bel⟩

set_option maxHeartbeats 8000000 in
set_option maxRecDepth 4000 in
theorem sCmdText2 (a b c : Int) (va : Option Addr) (vn vc : Nat) (xs : List Int) (w : World) (rv : Row w va vn xs) (hn : vn ≤ 1048576) :
    Calls Tryz.prog 10 #[.agg #[.int .i64 2, .int .i64 a, .int .i64 b, .int .i64 c, .slice va vn vc]] w fun e w' => e = .returned (.string (bs (cmdT 2 a b c vn xs))) ∧ Below w.heap.size w w' := by
  have F0 : Hid (CdB w (w.alloc (.cells #[.int .i64 2, .int .i64 a, .int .i64 b, .int .i64 c, .slice va vn vc] 26)) (v5 (.int .i64 2) (.int .i64 a) (.int .i64 b) (.int .i64 c) (.slice va vn vc))) := hide ⟨v5_new w _ _ _ _ _ _, balloc (Below.refl _ _) _⟩
  have SC := hide (fun w1 (s : Below w.heap.size w w1) => sCmdOk_any 2 a b c va vn vc xs w1 (rv.below s) hn)
  have VT := hide (fun w1 (s : Below w.heap.size w w1) => sVecText_any va vn vc xs w1 (rv.below s) hn)
  have US := hide (fun w1 => uses2 w1)
  clear rv
  unfold cmdT
  obtain ⟨_, y0, y1, y2, y3, y4, _⟩ := v5_facts F0.out.box
  cases hB : cmdB 2 a b c vn xs
  · rw [hB] at SC
    rw [if_neg (by decide), show bs [] = ⟨#[]⟩ from rfl]
    clear hB VT US
    go_enter Tryz.func10, Tryz.ntmps10
    go_wp2_with fail
    refine (SC.out _ F0.out.bel).mono ?_
    rintro e w1 ⟨rfl, hb1⟩
    have B1 := hide (bstep F0.out.bel hb1)
    clear hb1
    go_wp2_with fail
    go_ret
    exact ⟨rfl, B1.out⟩
  · have fa := fits_facts (show fitsB 1 9999 0 255 0 0 true a b c vn xs = true from hB)
    rw [hB] at SC
    rw [if_pos rfl, show cmdW 2 a b c xs = [[112, 117, 116], Lib.itoa a, Lib.itoa b, vecTB xs] from rfl]
    obtain ⟨fa0, fa1, fa2, fa3⟩ := fa
    have D0 := hide (fun w1 => l1Dec_bsC a w1 (by omega) (by omega))
    have ds0 := itoa_lenC (x := a) (by omega) (by omega)
    obtain ⟨E0, hE0⟩ : ∃ E, bs (Lib.itoa a) = E := ⟨_, rfl⟩
    have EL0 : Hid (E0.data.toList = Lib.itoa a) := hide (by rw [← hE0, bs_list])
    rw [hE0] at D0 ds0
    clear hE0
    have D1 := hide (fun w1 => l1Dec_bsC b w1 (by omega) (by omega))
    have ds1 := itoa_lenC (x := b) (by omega) (by omega)
    obtain ⟨E1, hE1⟩ : ∃ E, bs (Lib.itoa b) = E := ⟨_, rfl⟩
    have EL1 : Hid (E1.data.toList = Lib.itoa b) := hide (by rw [← hE1, bs_list])
    rw [hE1] at D1 ds1
    clear hE1
    have vl : (bs (vecTB xs)).size ≤ 176 := by
      rw [bs_size]
      unfold vecTB
      split
      · rename_i h
        obtain ⟨⟨n1, n8⟩, hm⟩ := vecOk_mem h
        have := vecT_len _ xs rfl hm
        omega
      · simp
    obtain ⟨V, hV⟩ : ∃ V, bs (vecTB xs) = V := ⟨_, rfl⟩
    have VL : Hid (V.data.toList = vecTB xs) := hide (by rw [← hV, bs_list])
    rw [hV] at VT vl
    clear hV
    clear hB fa0 fa1 fa2 fa3
    go_enter Tryz.func10, Tryz.ntmps10
    go_wp2_with fail
    refine (SC.out _ F0.out.bel).mono ?_
    rintro e w1 ⟨rfl, hb1⟩
    have F1 := hide (F0.out.below hb1)
    clear hb1 F0 SC y0 y1 y2 y3 y4
    go_upto_region 3 with fail
    refine wp_region_held_drew (S := fun wx => CdQ w wx (.int .i64 2) (.int .i64 a) (.int .i64 b) (.int .i64 c) (.slice va vn vc)) (by kernel_rfl) ((F1.out.below (Below.drew (Below.refl _ _))).q) (fun hH0 => ?_)
    refine wpAnyH_take (i := 1) (oi := { dst := some 11, op := _, type := _, pos := _, after := _, guard := _ }) (v := ?_) rfl (by kernel_rfl) (by kernel_rfl) (by kernel_rfl) (fun _ _ _ h => h) (Or.inl ⟨by rfl, ?_⟩) (hH0) ?_
    rotate_left
    · (intro wx hSw; obtain ⟨lt, c0, _⟩ := hSw; go_simp <;> with_reducible rfl)
    simp only [Act.put, List.setIfInBounds_toArray, List.set_cons_zero, List.set_cons_succ]
    refine wpAnyH_take (i := 2) (oi := { dst := some 12, op := _, type := _, pos := _, after := _, guard := _ }) (v := ?_) rfl (by kernel_rfl) (by kernel_rfl) (by kernel_rfl) (fun _ _ _ h => h) (Or.inl ⟨by rfl, ?_⟩) (hH0) ?_
    rotate_left
    · (intro wx hSw; obtain ⟨lt, c0, _⟩ := hSw; go_simp <;> with_reducible rfl)
    simp only [Act.put, List.setIfInBounds_toArray, List.set_cons_zero, List.set_cons_succ]
    refine wpAnyH_take (i := 3) (oi := { dst := some 13, op := _, type := _, pos := _, after := _, guard := _ }) (v := ?_) rfl (by kernel_rfl) (by kernel_rfl) (by kernel_rfl) (fun _ _ _ h => h) (Or.inl ⟨by rfl, ?_⟩) (hH0) ?_
    rotate_left
    · (intro wx hSw; obtain ⟨lt, c0, _⟩ := hSw; go_simp <;> with_reducible rfl)
    simp only [Act.put, List.setIfInBounds_toArray, List.set_cons_zero, List.set_cons_succ]
    -- behind it: go_wp2_with fail, then go_meet (a cut) or go_ret; the condition at the end: hH0
    refine wpAnyH_ready (rs := [0]) (by kernel_rfl) (by simp) ?_
    refine AllReadyH.cons (o := { dst := some 10, op := _, type := _, pos := _, after := _, guard := _ }) rfl (fun K hK => ?_) AllReadyH.nil
    go_simp
    refine (names_any _).mono ?_
    rintro e w2 ⟨rfl, hw⟩
    have F2 : Hid (CdB w ((w1.alloc (.cells #[.string ⟨#[100, 105, 109]⟩, .string ⟨#[112, 117, 116]⟩, .string ⟨#[100, 114, 111, 112]⟩, .string ⟨#[98, 117, 105, 108, 100]⟩, .string ⟨#[116, 105, 99, 107]⟩, .string ⟨#[110, 101, 97, 114]⟩, .string ⟨#[119, 105, 116, 104, 105, 110]⟩] 9)).drew) _) := hide ((F1.out.below (Below.drew (Below.refl _ _))).below (balloc (Below.refl _ _) (.cells #[.string ⟨#[100, 105, 109]⟩, .string ⟨#[112, 117, 116]⟩, .string ⟨#[100, 114, 111, 112]⟩, .string ⟨#[98, 117, 105, 108, 100]⟩, .string ⟨#[116, 105, 99, 107]⟩, .string ⟨#[110, 101, 97, 114]⟩, .string ⟨#[119, 105, 116, 104, 105, 110]⟩] 9)))
    subst hw
    dsimp only
    refine hK.out _ _ F2.out.q (fun hH1 => ?_)
    clear hK K

    have F2q := F2.out.q
    refine wpAnyH_ready (rs := [4]) (by kernel_rfl) (by simp) ?_
    refine AllReadyH.cons (o := { dst := some 14, op := _, type := _, pos := _, after := _, guard := _ }) rfl (fun K hK => ?_) AllReadyH.nil
    go_simp
    refine hK.out _ _ F2q (fun hH2 => ?_)
    clear hK K
    refine wpAnyH_ready (rs := [5]) (by kernel_rfl) (by simp) ?_
    refine AllReadyH.cons (o := { dst := some 15, op := _, type := _, pos := _, after := _, guard := _ }) rfl (fun K hK => ?_) AllReadyH.nil
    go_simp
    refine hK.out _ _ F2q (fun hH3 => ?_)
    clear hK K
    refine wpAnyH_ready (rs := [6]) (by kernel_rfl) (by simp) ?_
    refine AllReadyH.cons (o := { dst := some 3, op := _, type := _, pos := _, after := _, guard := _ }) rfl (fun K hK => ?_) AllReadyH.nil
    go_simp
    refine hK.out _ _ F2q (fun hH4 => ?_)
    clear hK K
    refine wpAnyH_done (by kernel_rfl) ?_ _
    clear hH0 hH1 hH2 hH3 hH4 F2q F1
    obtain ⟨_, y0, y1, y2, y3, y4, _⟩ := v5_facts F2.out.box
    go_wp2_with fail
    refine (US.out _).mono ?_
    rintro e w3 ⟨rfl, hb3⟩
    have F3 := hide (F2.out.below hb3)
    clear hb3 F2 US y0 y1 y2 y3 y4
    go_wp2_with fail
    go_loopw [3, 6] (fun s i wr => ∃ (j : Nat) (S : ByteArray), j ≤ 2 ∧ i = .int .i64 j ∧ s = .string S ∧ S.size ≤ 10 + 22 * j ∧ Hid (S.data.toList = Lib.join (List.take (j + 1) [[112, 117, 116], Lib.itoa a, Lib.itoa b, vecTB xs]) [32]) ∧ Hid (CdB w wr (v5 (.int .i64 2) (.int .i64 a) (.int .i64 b) (.int .i64 c) (.slice va vn vc)))) (fun _ i _ => 2 - (intOf i).toNat)
    case atStart => exact ⟨0, ⟨#[112, 117, 116]⟩, by omega, rfl, rfl, by decide, hide (by simp [Lib.join]), F3⟩
    case round =>
      obtain ⟨j, S, hj, rfl, rfl, ssz, HS, HF⟩ := hrel
      clear F3
      obtain ⟨_, y0, y1, y2, y3, y4, _⟩ := v5_facts HF.out.box
      rcases (show j = 0 ∨ j = 1 ∨ j = 2 from by omega) with rfl | rfl | rfl
      · have hs : S.data.toList = Lib.join [[112, 117, 116]] [32] := HS.out
        have HS' := hide hs
        clear hs HS
        go_wp2_with fail
        refine (D0.out _).mono ?_
        rintro e w4 ⟨rfl, hb4⟩
        have F4 := hide ((HF.out.below (balloc (Below.refl _ _) _)).below hb4)
        clear hb4 HF y0 y1 y2 y3 y4
        go_wp2_with fail
        go_roundw
        case rel =>
          refine ⟨1, _, by omega, by go_num, rfl, ?_, hide ?_, F4⟩
          · rw [ByteArray.size_append, ByteArray.size_append]; show S.size + 1 + E0.size ≤ 10 + 22 * 1; omega
          · rw [str_app, str_app, HS'.out, EL0.out]
            show _ = Lib.join [[112, 117, 116], Lib.itoa a] [32]
            rw [show ([[112, 117, 116], Lib.itoa a] : List (List UInt8)) = [[112, 117, 116]] ++ [Lib.itoa a] from rfl, join_snocC _ _ (by simp)]
            simp
        case measure => simp [intOf]
      · have hs : S.data.toList = Lib.join [[112, 117, 116], Lib.itoa a] [32] := HS.out
        have HS' := hide hs
        clear hs HS
        go_wp2_with fail
        refine (D1.out _).mono ?_
        rintro e w4 ⟨rfl, hb4⟩
        have F4 := hide ((HF.out.below (balloc (Below.refl _ _) _)).below hb4)
        clear hb4 HF y0 y1 y2 y3 y4
        go_wp2_with fail
        go_roundw
        case rel =>
          refine ⟨2, _, by omega, by go_num, rfl, ?_, hide ?_, F4⟩
          · rw [ByteArray.size_append, ByteArray.size_append]; show S.size + 1 + E1.size ≤ 10 + 22 * 2; omega
          · rw [str_app, str_app, HS'.out, EL1.out]
            show _ = Lib.join [[112, 117, 116], Lib.itoa a, Lib.itoa b] [32]
            rw [show ([[112, 117, 116], Lib.itoa a, Lib.itoa b] : List (List UInt8)) = [[112, 117, 116], Lib.itoa a] ++ [Lib.itoa b] from rfl, join_snocC _ _ (by simp)]
            simp
        case measure => simp [intOf]
      · have hs : S.data.toList = Lib.join [[112, 117, 116], Lib.itoa a, Lib.itoa b] [32] := HS.out
        have HS' := hide hs
        clear hs HS
        go_wp2_with fail
        refine (VT.out _ HF.out.bel).mono ?_
        rintro e w4 ⟨rfl, hb4⟩
        have B4 := hide (bstep HF.out.bel hb4)
        clear hb4 y0 y1 y2 y3 y4
        go_wp2_with fail
        go_ret
        refine ⟨ret_str ?_, B4.out⟩
        refine bytes_eqC ?_
        rw [str_app, str_app, HS'.out, VL.out, bs_list, show ([[112, 117, 116], Lib.itoa a, Lib.itoa b, vecTB xs] : List (List UInt8)) = [[112, 117, 116], Lib.itoa a, Lib.itoa b] ++ [vecTB xs] from rfl, join_snocC _ _ (by simp)]
        simp

set_option maxHeartbeats 8000000 in
set_option maxRecDepth 4000 in
theorem sCmdText3 (a b c : Int) (va : Option Addr) (vn vc : Nat) (xs : List Int) (w : World) (rv : Row w va vn xs) (hn : vn ≤ 1048576) :
    Calls Tryz.prog 10 #[.agg #[.int .i64 3, .int .i64 a, .int .i64 b, .int .i64 c, .slice va vn vc]] w fun e w' => e = .returned (.string (bs (cmdT 3 a b c vn xs))) ∧ Below w.heap.size w w' := by
  have F0 : Hid (CdB w (w.alloc (.cells #[.int .i64 3, .int .i64 a, .int .i64 b, .int .i64 c, .slice va vn vc] 26)) (v5 (.int .i64 3) (.int .i64 a) (.int .i64 b) (.int .i64 c) (.slice va vn vc))) := hide ⟨v5_new w _ _ _ _ _ _, balloc (Below.refl _ _) _⟩
  have SC := hide (fun w1 (s : Below w.heap.size w w1) => sCmdOk_any 3 a b c va vn vc xs w1 (rv.below s) hn)
  have VT := hide (fun w1 (s : Below w.heap.size w w1) => sVecText_any va vn vc xs w1 (rv.below s) hn)
  have US := hide (fun w1 => uses3 w1)
  clear rv
  unfold cmdT
  obtain ⟨_, y0, y1, y2, y3, y4, _⟩ := v5_facts F0.out.box
  cases hB : cmdB 3 a b c vn xs
  · rw [hB] at SC
    rw [if_neg (by decide), show bs [] = ⟨#[]⟩ from rfl]
    clear hB VT US
    go_enter Tryz.func10, Tryz.ntmps10
    go_wp2_with fail
    refine (SC.out _ F0.out.bel).mono ?_
    rintro e w1 ⟨rfl, hb1⟩
    have B1 := hide (bstep F0.out.bel hb1)
    clear hb1
    go_wp2_with fail
    go_ret
    exact ⟨rfl, B1.out⟩
  · have fa := fits_facts (show fitsB 1 9999 0 0 0 0 false a b c vn xs = true from hB)
    rw [hB] at SC
    rw [if_pos rfl, show cmdW 3 a b c xs = [[100, 114, 111, 112], Lib.itoa a] from rfl]
    obtain ⟨fa0, fa1, fa2, fa3⟩ := fa
    have D0 := hide (fun w1 => l1Dec_bsC a w1 (by omega) (by omega))
    have ds0 := itoa_lenC (x := a) (by omega) (by omega)
    obtain ⟨E0, hE0⟩ : ∃ E, bs (Lib.itoa a) = E := ⟨_, rfl⟩
    have EL0 : Hid (E0.data.toList = Lib.itoa a) := hide (by rw [← hE0, bs_list])
    rw [hE0] at D0 ds0
    clear hE0
    clear hB fa0 fa1 fa2 fa3
    go_enter Tryz.func10, Tryz.ntmps10
    go_wp2_with fail
    refine (SC.out _ F0.out.bel).mono ?_
    rintro e w1 ⟨rfl, hb1⟩
    have F1 := hide (F0.out.below hb1)
    clear hb1 F0 SC y0 y1 y2 y3 y4
    go_upto_region 3 with fail
    refine wp_region_held_drew (S := fun wx => CdQ w wx (.int .i64 3) (.int .i64 a) (.int .i64 b) (.int .i64 c) (.slice va vn vc)) (by kernel_rfl) ((F1.out.below (Below.drew (Below.refl _ _))).q) (fun hH0 => ?_)
    refine wpAnyH_take (i := 1) (oi := { dst := some 11, op := _, type := _, pos := _, after := _, guard := _ }) (v := ?_) rfl (by kernel_rfl) (by kernel_rfl) (by kernel_rfl) (fun _ _ _ h => h) (Or.inl ⟨by rfl, ?_⟩) (hH0) ?_
    rotate_left
    · (intro wx hSw; obtain ⟨lt, c0, _⟩ := hSw; go_simp <;> with_reducible rfl)
    simp only [Act.put, List.setIfInBounds_toArray, List.set_cons_zero, List.set_cons_succ]
    refine wpAnyH_take (i := 2) (oi := { dst := some 12, op := _, type := _, pos := _, after := _, guard := _ }) (v := ?_) rfl (by kernel_rfl) (by kernel_rfl) (by kernel_rfl) (fun _ _ _ h => h) (Or.inl ⟨by rfl, ?_⟩) (hH0) ?_
    rotate_left
    · (intro wx hSw; obtain ⟨lt, c0, _⟩ := hSw; go_simp <;> with_reducible rfl)
    simp only [Act.put, List.setIfInBounds_toArray, List.set_cons_zero, List.set_cons_succ]
    refine wpAnyH_take (i := 3) (oi := { dst := some 13, op := _, type := _, pos := _, after := _, guard := _ }) (v := ?_) rfl (by kernel_rfl) (by kernel_rfl) (by kernel_rfl) (fun _ _ _ h => h) (Or.inl ⟨by rfl, ?_⟩) (hH0) ?_
    rotate_left
    · (intro wx hSw; obtain ⟨lt, c0, _⟩ := hSw; go_simp <;> with_reducible rfl)
    simp only [Act.put, List.setIfInBounds_toArray, List.set_cons_zero, List.set_cons_succ]
    -- behind it: go_wp2_with fail, then go_meet (a cut) or go_ret; the condition at the end: hH0
    refine wpAnyH_ready (rs := [0]) (by kernel_rfl) (by simp) ?_
    refine AllReadyH.cons (o := { dst := some 10, op := _, type := _, pos := _, after := _, guard := _ }) rfl (fun K hK => ?_) AllReadyH.nil
    go_simp
    refine (names_any _).mono ?_
    rintro e w2 ⟨rfl, hw⟩
    have F2 : Hid (CdB w ((w1.alloc (.cells #[.string ⟨#[100, 105, 109]⟩, .string ⟨#[112, 117, 116]⟩, .string ⟨#[100, 114, 111, 112]⟩, .string ⟨#[98, 117, 105, 108, 100]⟩, .string ⟨#[116, 105, 99, 107]⟩, .string ⟨#[110, 101, 97, 114]⟩, .string ⟨#[119, 105, 116, 104, 105, 110]⟩] 9)).drew) _) := hide ((F1.out.below (Below.drew (Below.refl _ _))).below (balloc (Below.refl _ _) (.cells #[.string ⟨#[100, 105, 109]⟩, .string ⟨#[112, 117, 116]⟩, .string ⟨#[100, 114, 111, 112]⟩, .string ⟨#[98, 117, 105, 108, 100]⟩, .string ⟨#[116, 105, 99, 107]⟩, .string ⟨#[110, 101, 97, 114]⟩, .string ⟨#[119, 105, 116, 104, 105, 110]⟩] 9)))
    subst hw
    dsimp only
    refine hK.out _ _ F2.out.q (fun hH1 => ?_)
    clear hK K

    have F2q := F2.out.q
    refine wpAnyH_ready (rs := [4]) (by kernel_rfl) (by simp) ?_
    refine AllReadyH.cons (o := { dst := some 14, op := _, type := _, pos := _, after := _, guard := _ }) rfl (fun K hK => ?_) AllReadyH.nil
    go_simp
    refine hK.out _ _ F2q (fun hH2 => ?_)
    clear hK K
    refine wpAnyH_ready (rs := [5]) (by kernel_rfl) (by simp) ?_
    refine AllReadyH.cons (o := { dst := some 15, op := _, type := _, pos := _, after := _, guard := _ }) rfl (fun K hK => ?_) AllReadyH.nil
    go_simp
    refine hK.out _ _ F2q (fun hH3 => ?_)
    clear hK K
    refine wpAnyH_ready (rs := [6]) (by kernel_rfl) (by simp) ?_
    refine AllReadyH.cons (o := { dst := some 3, op := _, type := _, pos := _, after := _, guard := _ }) rfl (fun K hK => ?_) AllReadyH.nil
    go_simp
    refine hK.out _ _ F2q (fun hH4 => ?_)
    clear hK K
    refine wpAnyH_done (by kernel_rfl) ?_ _
    clear hH0 hH1 hH2 hH3 hH4 F2q F1
    obtain ⟨_, y0, y1, y2, y3, y4, _⟩ := v5_facts F2.out.box
    go_wp2_with fail
    refine (US.out _).mono ?_
    rintro e w3 ⟨rfl, hb3⟩
    have F3 := hide (F2.out.below hb3)
    clear hb3 F2 US y0 y1 y2 y3 y4
    go_wp2_with fail
    go_loopw [3, 6] (fun s i wr => ∃ (j : Nat) (S : ByteArray), j ≤ 1 ∧ i = .int .i64 j ∧ s = .string S ∧ S.size ≤ 10 + 22 * j ∧ Hid (S.data.toList = Lib.join (List.take (j + 1) [[100, 114, 111, 112], Lib.itoa a]) [32]) ∧ Hid (CdB w wr (v5 (.int .i64 3) (.int .i64 a) (.int .i64 b) (.int .i64 c) (.slice va vn vc)))) (fun _ i _ => 1 - (intOf i).toNat)
    case atStart => exact ⟨0, ⟨#[100, 114, 111, 112]⟩, by omega, rfl, rfl, by decide, hide (by simp [Lib.join]), F3⟩
    case round =>
      obtain ⟨j, S, hj, rfl, rfl, ssz, HS, HF⟩ := hrel
      clear F3
      obtain ⟨_, y0, y1, y2, y3, y4, _⟩ := v5_facts HF.out.box
      rcases (show j = 0 ∨ j = 1 from by omega) with rfl | rfl
      · have hs : S.data.toList = Lib.join [[100, 114, 111, 112]] [32] := HS.out
        have HS' := hide hs
        clear hs HS
        go_wp2_with fail
        refine (D0.out _).mono ?_
        rintro e w4 ⟨rfl, hb4⟩
        have F4 := hide ((HF.out.below (balloc (Below.refl _ _) _)).below hb4)
        clear hb4 HF y0 y1 y2 y3 y4
        go_wp2_with fail
        go_roundw
        case rel =>
          refine ⟨1, _, by omega, by go_num, rfl, ?_, hide ?_, F4⟩
          · rw [ByteArray.size_append, ByteArray.size_append]; show S.size + 1 + E0.size ≤ 10 + 22 * 1; omega
          · rw [str_app, str_app, HS'.out, EL0.out]
            show _ = Lib.join [[100, 114, 111, 112], Lib.itoa a] [32]
            rw [show ([[100, 114, 111, 112], Lib.itoa a] : List (List UInt8)) = [[100, 114, 111, 112]] ++ [Lib.itoa a] from rfl, join_snocC _ _ (by simp)]
            simp
        case measure => simp [intOf]
      · have hs : S.data.toList = Lib.join [[100, 114, 111, 112], Lib.itoa a] [32] := HS.out
        have HS' := hide hs
        clear hs HS
        go_wp2_with fail
        go_ret
        exact ⟨ret_str (by rw [← bs_of S, HS'.out]), HF.out.bel⟩

set_option maxHeartbeats 8000000 in
set_option maxRecDepth 4000 in
theorem sCmdText4 (a b c : Int) (va : Option Addr) (vn vc : Nat) (xs : List Int) (w : World) (rv : Row w va vn xs) (hn : vn ≤ 1048576) :
    Calls Tryz.prog 10 #[.agg #[.int .i64 4, .int .i64 a, .int .i64 b, .int .i64 c, .slice va vn vc]] w fun e w' => e = .returned (.string (bs (cmdT 4 a b c vn xs))) ∧ Below w.heap.size w w' := by
  have F0 : Hid (CdB w (w.alloc (.cells #[.int .i64 4, .int .i64 a, .int .i64 b, .int .i64 c, .slice va vn vc] 26)) (v5 (.int .i64 4) (.int .i64 a) (.int .i64 b) (.int .i64 c) (.slice va vn vc))) := hide ⟨v5_new w _ _ _ _ _ _, balloc (Below.refl _ _) _⟩
  have SC := hide (fun w1 (s : Below w.heap.size w w1) => sCmdOk_any 4 a b c va vn vc xs w1 (rv.below s) hn)
  have VT := hide (fun w1 (s : Below w.heap.size w w1) => sVecText_any va vn vc xs w1 (rv.below s) hn)
  have US := hide (fun w1 => uses4 w1)
  clear rv
  unfold cmdT
  obtain ⟨_, y0, y1, y2, y3, y4, _⟩ := v5_facts F0.out.box
  cases hB : cmdB 4 a b c vn xs
  · rw [hB] at SC
    rw [if_neg (by decide), show bs [] = ⟨#[]⟩ from rfl]
    clear hB VT US
    go_enter Tryz.func10, Tryz.ntmps10
    go_wp2_with fail
    refine (SC.out _ F0.out.bel).mono ?_
    rintro e w1 ⟨rfl, hb1⟩
    have B1 := hide (bstep F0.out.bel hb1)
    clear hb1
    go_wp2_with fail
    go_ret
    exact ⟨rfl, B1.out⟩
  · have fa := fits_facts (show fitsB 0 0 0 0 0 0 false a b c vn xs = true from hB)
    rw [hB] at SC
    rw [if_pos rfl, show cmdW 4 a b c xs = [[98, 117, 105, 108, 100]] from rfl]
    obtain ⟨fa0, fa1, fa2, fa3⟩ := fa
    clear hB fa0 fa1 fa2 fa3
    go_enter Tryz.func10, Tryz.ntmps10
    go_wp2_with fail
    refine (SC.out _ F0.out.bel).mono ?_
    rintro e w1 ⟨rfl, hb1⟩
    have F1 := hide (F0.out.below hb1)
    clear hb1 F0 SC y0 y1 y2 y3 y4
    go_upto_region 3 with fail
    refine wp_region_held_drew (S := fun wx => CdQ w wx (.int .i64 4) (.int .i64 a) (.int .i64 b) (.int .i64 c) (.slice va vn vc)) (by kernel_rfl) ((F1.out.below (Below.drew (Below.refl _ _))).q) (fun hH0 => ?_)
    refine wpAnyH_take (i := 1) (oi := { dst := some 11, op := _, type := _, pos := _, after := _, guard := _ }) (v := ?_) rfl (by kernel_rfl) (by kernel_rfl) (by kernel_rfl) (fun _ _ _ h => h) (Or.inl ⟨by rfl, ?_⟩) (hH0) ?_
    rotate_left
    · (intro wx hSw; obtain ⟨lt, c0, _⟩ := hSw; go_simp <;> with_reducible rfl)
    simp only [Act.put, List.setIfInBounds_toArray, List.set_cons_zero, List.set_cons_succ]
    refine wpAnyH_take (i := 2) (oi := { dst := some 12, op := _, type := _, pos := _, after := _, guard := _ }) (v := ?_) rfl (by kernel_rfl) (by kernel_rfl) (by kernel_rfl) (fun _ _ _ h => h) (Or.inl ⟨by rfl, ?_⟩) (hH0) ?_
    rotate_left
    · (intro wx hSw; obtain ⟨lt, c0, _⟩ := hSw; go_simp <;> with_reducible rfl)
    simp only [Act.put, List.setIfInBounds_toArray, List.set_cons_zero, List.set_cons_succ]
    refine wpAnyH_take (i := 3) (oi := { dst := some 13, op := _, type := _, pos := _, after := _, guard := _ }) (v := ?_) rfl (by kernel_rfl) (by kernel_rfl) (by kernel_rfl) (fun _ _ _ h => h) (Or.inl ⟨by rfl, ?_⟩) (hH0) ?_
    rotate_left
    · (intro wx hSw; obtain ⟨lt, c0, _⟩ := hSw; go_simp <;> with_reducible rfl)
    simp only [Act.put, List.setIfInBounds_toArray, List.set_cons_zero, List.set_cons_succ]
    -- behind it: go_wp2_with fail, then go_meet (a cut) or go_ret; the condition at the end: hH0
    refine wpAnyH_ready (rs := [0]) (by kernel_rfl) (by simp) ?_
    refine AllReadyH.cons (o := { dst := some 10, op := _, type := _, pos := _, after := _, guard := _ }) rfl (fun K hK => ?_) AllReadyH.nil
    go_simp
    refine (names_any _).mono ?_
    rintro e w2 ⟨rfl, hw⟩
    have F2 : Hid (CdB w ((w1.alloc (.cells #[.string ⟨#[100, 105, 109]⟩, .string ⟨#[112, 117, 116]⟩, .string ⟨#[100, 114, 111, 112]⟩, .string ⟨#[98, 117, 105, 108, 100]⟩, .string ⟨#[116, 105, 99, 107]⟩, .string ⟨#[110, 101, 97, 114]⟩, .string ⟨#[119, 105, 116, 104, 105, 110]⟩] 9)).drew) _) := hide ((F1.out.below (Below.drew (Below.refl _ _))).below (balloc (Below.refl _ _) (.cells #[.string ⟨#[100, 105, 109]⟩, .string ⟨#[112, 117, 116]⟩, .string ⟨#[100, 114, 111, 112]⟩, .string ⟨#[98, 117, 105, 108, 100]⟩, .string ⟨#[116, 105, 99, 107]⟩, .string ⟨#[110, 101, 97, 114]⟩, .string ⟨#[119, 105, 116, 104, 105, 110]⟩] 9)))
    subst hw
    dsimp only
    refine hK.out _ _ F2.out.q (fun hH1 => ?_)
    clear hK K

    have F2q := F2.out.q
    refine wpAnyH_ready (rs := [4]) (by kernel_rfl) (by simp) ?_
    refine AllReadyH.cons (o := { dst := some 14, op := _, type := _, pos := _, after := _, guard := _ }) rfl (fun K hK => ?_) AllReadyH.nil
    go_simp
    refine hK.out _ _ F2q (fun hH2 => ?_)
    clear hK K
    refine wpAnyH_ready (rs := [5]) (by kernel_rfl) (by simp) ?_
    refine AllReadyH.cons (o := { dst := some 15, op := _, type := _, pos := _, after := _, guard := _ }) rfl (fun K hK => ?_) AllReadyH.nil
    go_simp
    refine hK.out _ _ F2q (fun hH3 => ?_)
    clear hK K
    refine wpAnyH_ready (rs := [6]) (by kernel_rfl) (by simp) ?_
    refine AllReadyH.cons (o := { dst := some 3, op := _, type := _, pos := _, after := _, guard := _ }) rfl (fun K hK => ?_) AllReadyH.nil
    go_simp
    refine hK.out _ _ F2q (fun hH4 => ?_)
    clear hK K
    refine wpAnyH_done (by kernel_rfl) ?_ _
    clear hH0 hH1 hH2 hH3 hH4 F2q F1
    obtain ⟨_, y0, y1, y2, y3, y4, _⟩ := v5_facts F2.out.box
    go_wp2_with fail
    refine (US.out _).mono ?_
    rintro e w3 ⟨rfl, hb3⟩
    have F3 := hide (F2.out.below hb3)
    clear hb3 F2 US y0 y1 y2 y3 y4
    go_wp2_with fail
    go_loopw [3, 6] (fun s i wr => ∃ (j : Nat) (S : ByteArray), j ≤ 0 ∧ i = .int .i64 j ∧ s = .string S ∧ S.size ≤ 10 + 22 * j ∧ Hid (S.data.toList = Lib.join (List.take (j + 1) [[98, 117, 105, 108, 100]]) [32]) ∧ Hid (CdB w wr (v5 (.int .i64 4) (.int .i64 a) (.int .i64 b) (.int .i64 c) (.slice va vn vc)))) (fun _ i _ => 0 - (intOf i).toNat)
    case atStart => exact ⟨0, ⟨#[98, 117, 105, 108, 100]⟩, by omega, rfl, rfl, by decide, hide (by simp [Lib.join]), F3⟩
    case round =>
      obtain ⟨j, S, hj, rfl, rfl, ssz, HS, HF⟩ := hrel
      clear F3
      obtain ⟨_, y0, y1, y2, y3, y4, _⟩ := v5_facts HF.out.box
      rcases (show j = 0 from by omega) with rfl
      · have hs : S.data.toList = Lib.join [[98, 117, 105, 108, 100]] [32] := HS.out
        have HS' := hide hs
        clear hs HS
        go_wp2_with fail
        go_ret
        exact ⟨ret_str (by rw [← bs_of S, HS'.out]), HF.out.bel⟩

set_option maxHeartbeats 8000000 in
set_option maxRecDepth 4000 in
theorem sCmdText5 (a b c : Int) (va : Option Addr) (vn vc : Nat) (xs : List Int) (w : World) (rv : Row w va vn xs) (hn : vn ≤ 1048576) :
    Calls Tryz.prog 10 #[.agg #[.int .i64 5, .int .i64 a, .int .i64 b, .int .i64 c, .slice va vn vc]] w fun e w' => e = .returned (.string (bs (cmdT 5 a b c vn xs))) ∧ Below w.heap.size w w' := by
  have F0 : Hid (CdB w (w.alloc (.cells #[.int .i64 5, .int .i64 a, .int .i64 b, .int .i64 c, .slice va vn vc] 26)) (v5 (.int .i64 5) (.int .i64 a) (.int .i64 b) (.int .i64 c) (.slice va vn vc))) := hide ⟨v5_new w _ _ _ _ _ _, balloc (Below.refl _ _) _⟩
  have SC := hide (fun w1 (s : Below w.heap.size w w1) => sCmdOk_any 5 a b c va vn vc xs w1 (rv.below s) hn)
  have VT := hide (fun w1 (s : Below w.heap.size w w1) => sVecText_any va vn vc xs w1 (rv.below s) hn)
  have US := hide (fun w1 => uses5 w1)
  clear rv
  unfold cmdT
  obtain ⟨_, y0, y1, y2, y3, y4, _⟩ := v5_facts F0.out.box
  cases hB : cmdB 5 a b c vn xs
  · rw [hB] at SC
    rw [if_neg (by decide), show bs [] = ⟨#[]⟩ from rfl]
    clear hB VT US
    go_enter Tryz.func10, Tryz.ntmps10
    go_wp2_with fail
    refine (SC.out _ F0.out.bel).mono ?_
    rintro e w1 ⟨rfl, hb1⟩
    have B1 := hide (bstep F0.out.bel hb1)
    clear hb1
    go_wp2_with fail
    go_ret
    exact ⟨rfl, B1.out⟩
  · have fa := fits_facts (show fitsB 1 60 0 0 0 0 false a b c vn xs = true from hB)
    rw [hB] at SC
    rw [if_pos rfl, show cmdW 5 a b c xs = [[116, 105, 99, 107], Lib.itoa a] from rfl]
    obtain ⟨fa0, fa1, fa2, fa3⟩ := fa
    have D0 := hide (fun w1 => l1Dec_bsC a w1 (by omega) (by omega))
    have ds0 := itoa_lenC (x := a) (by omega) (by omega)
    obtain ⟨E0, hE0⟩ : ∃ E, bs (Lib.itoa a) = E := ⟨_, rfl⟩
    have EL0 : Hid (E0.data.toList = Lib.itoa a) := hide (by rw [← hE0, bs_list])
    rw [hE0] at D0 ds0
    clear hE0
    clear hB fa0 fa1 fa2 fa3
    go_enter Tryz.func10, Tryz.ntmps10
    go_wp2_with fail
    refine (SC.out _ F0.out.bel).mono ?_
    rintro e w1 ⟨rfl, hb1⟩
    have F1 := hide (F0.out.below hb1)
    clear hb1 F0 SC y0 y1 y2 y3 y4
    go_upto_region 3 with fail
    refine wp_region_held_drew (S := fun wx => CdQ w wx (.int .i64 5) (.int .i64 a) (.int .i64 b) (.int .i64 c) (.slice va vn vc)) (by kernel_rfl) ((F1.out.below (Below.drew (Below.refl _ _))).q) (fun hH0 => ?_)
    refine wpAnyH_take (i := 1) (oi := { dst := some 11, op := _, type := _, pos := _, after := _, guard := _ }) (v := ?_) rfl (by kernel_rfl) (by kernel_rfl) (by kernel_rfl) (fun _ _ _ h => h) (Or.inl ⟨by rfl, ?_⟩) (hH0) ?_
    rotate_left
    · (intro wx hSw; obtain ⟨lt, c0, _⟩ := hSw; go_simp <;> with_reducible rfl)
    simp only [Act.put, List.setIfInBounds_toArray, List.set_cons_zero, List.set_cons_succ]
    refine wpAnyH_take (i := 2) (oi := { dst := some 12, op := _, type := _, pos := _, after := _, guard := _ }) (v := ?_) rfl (by kernel_rfl) (by kernel_rfl) (by kernel_rfl) (fun _ _ _ h => h) (Or.inl ⟨by rfl, ?_⟩) (hH0) ?_
    rotate_left
    · (intro wx hSw; obtain ⟨lt, c0, _⟩ := hSw; go_simp <;> with_reducible rfl)
    simp only [Act.put, List.setIfInBounds_toArray, List.set_cons_zero, List.set_cons_succ]
    refine wpAnyH_take (i := 3) (oi := { dst := some 13, op := _, type := _, pos := _, after := _, guard := _ }) (v := ?_) rfl (by kernel_rfl) (by kernel_rfl) (by kernel_rfl) (fun _ _ _ h => h) (Or.inl ⟨by rfl, ?_⟩) (hH0) ?_
    rotate_left
    · (intro wx hSw; obtain ⟨lt, c0, _⟩ := hSw; go_simp <;> with_reducible rfl)
    simp only [Act.put, List.setIfInBounds_toArray, List.set_cons_zero, List.set_cons_succ]
    -- behind it: go_wp2_with fail, then go_meet (a cut) or go_ret; the condition at the end: hH0
    refine wpAnyH_ready (rs := [0]) (by kernel_rfl) (by simp) ?_
    refine AllReadyH.cons (o := { dst := some 10, op := _, type := _, pos := _, after := _, guard := _ }) rfl (fun K hK => ?_) AllReadyH.nil
    go_simp
    refine (names_any _).mono ?_
    rintro e w2 ⟨rfl, hw⟩
    have F2 : Hid (CdB w ((w1.alloc (.cells #[.string ⟨#[100, 105, 109]⟩, .string ⟨#[112, 117, 116]⟩, .string ⟨#[100, 114, 111, 112]⟩, .string ⟨#[98, 117, 105, 108, 100]⟩, .string ⟨#[116, 105, 99, 107]⟩, .string ⟨#[110, 101, 97, 114]⟩, .string ⟨#[119, 105, 116, 104, 105, 110]⟩] 9)).drew) _) := hide ((F1.out.below (Below.drew (Below.refl _ _))).below (balloc (Below.refl _ _) (.cells #[.string ⟨#[100, 105, 109]⟩, .string ⟨#[112, 117, 116]⟩, .string ⟨#[100, 114, 111, 112]⟩, .string ⟨#[98, 117, 105, 108, 100]⟩, .string ⟨#[116, 105, 99, 107]⟩, .string ⟨#[110, 101, 97, 114]⟩, .string ⟨#[119, 105, 116, 104, 105, 110]⟩] 9)))
    subst hw
    dsimp only
    refine hK.out _ _ F2.out.q (fun hH1 => ?_)
    clear hK K

    have F2q := F2.out.q
    refine wpAnyH_ready (rs := [4]) (by kernel_rfl) (by simp) ?_
    refine AllReadyH.cons (o := { dst := some 14, op := _, type := _, pos := _, after := _, guard := _ }) rfl (fun K hK => ?_) AllReadyH.nil
    go_simp
    refine hK.out _ _ F2q (fun hH2 => ?_)
    clear hK K
    refine wpAnyH_ready (rs := [5]) (by kernel_rfl) (by simp) ?_
    refine AllReadyH.cons (o := { dst := some 15, op := _, type := _, pos := _, after := _, guard := _ }) rfl (fun K hK => ?_) AllReadyH.nil
    go_simp
    refine hK.out _ _ F2q (fun hH3 => ?_)
    clear hK K
    refine wpAnyH_ready (rs := [6]) (by kernel_rfl) (by simp) ?_
    refine AllReadyH.cons (o := { dst := some 3, op := _, type := _, pos := _, after := _, guard := _ }) rfl (fun K hK => ?_) AllReadyH.nil
    go_simp
    refine hK.out _ _ F2q (fun hH4 => ?_)
    clear hK K
    refine wpAnyH_done (by kernel_rfl) ?_ _
    clear hH0 hH1 hH2 hH3 hH4 F2q F1
    obtain ⟨_, y0, y1, y2, y3, y4, _⟩ := v5_facts F2.out.box
    go_wp2_with fail
    refine (US.out _).mono ?_
    rintro e w3 ⟨rfl, hb3⟩
    have F3 := hide (F2.out.below hb3)
    clear hb3 F2 US y0 y1 y2 y3 y4
    go_wp2_with fail
    go_loopw [3, 6] (fun s i wr => ∃ (j : Nat) (S : ByteArray), j ≤ 1 ∧ i = .int .i64 j ∧ s = .string S ∧ S.size ≤ 10 + 22 * j ∧ Hid (S.data.toList = Lib.join (List.take (j + 1) [[116, 105, 99, 107], Lib.itoa a]) [32]) ∧ Hid (CdB w wr (v5 (.int .i64 5) (.int .i64 a) (.int .i64 b) (.int .i64 c) (.slice va vn vc)))) (fun _ i _ => 1 - (intOf i).toNat)
    case atStart => exact ⟨0, ⟨#[116, 105, 99, 107]⟩, by omega, rfl, rfl, by decide, hide (by simp [Lib.join]), F3⟩
    case round =>
      obtain ⟨j, S, hj, rfl, rfl, ssz, HS, HF⟩ := hrel
      clear F3
      obtain ⟨_, y0, y1, y2, y3, y4, _⟩ := v5_facts HF.out.box
      rcases (show j = 0 ∨ j = 1 from by omega) with rfl | rfl
      · have hs : S.data.toList = Lib.join [[116, 105, 99, 107]] [32] := HS.out
        have HS' := hide hs
        clear hs HS
        go_wp2_with fail
        refine (D0.out _).mono ?_
        rintro e w4 ⟨rfl, hb4⟩
        have F4 := hide ((HF.out.below (balloc (Below.refl _ _) _)).below hb4)
        clear hb4 HF y0 y1 y2 y3 y4
        go_wp2_with fail
        go_roundw
        case rel =>
          refine ⟨1, _, by omega, by go_num, rfl, ?_, hide ?_, F4⟩
          · rw [ByteArray.size_append, ByteArray.size_append]; show S.size + 1 + E0.size ≤ 10 + 22 * 1; omega
          · rw [str_app, str_app, HS'.out, EL0.out]
            show _ = Lib.join [[116, 105, 99, 107], Lib.itoa a] [32]
            rw [show ([[116, 105, 99, 107], Lib.itoa a] : List (List UInt8)) = [[116, 105, 99, 107]] ++ [Lib.itoa a] from rfl, join_snocC _ _ (by simp)]
            simp
        case measure => simp [intOf]
      · have hs : S.data.toList = Lib.join [[116, 105, 99, 107], Lib.itoa a] [32] := HS.out
        have HS' := hide hs
        clear hs HS
        go_wp2_with fail
        go_ret
        exact ⟨ret_str (by rw [← bs_of S, HS'.out]), HF.out.bel⟩

set_option maxHeartbeats 8000000 in
set_option maxRecDepth 4000 in
theorem sCmdText6 (a b c : Int) (va : Option Addr) (vn vc : Nat) (xs : List Int) (w : World) (rv : Row w va vn xs) (hn : vn ≤ 1048576) :
    Calls Tryz.prog 10 #[.agg #[.int .i64 6, .int .i64 a, .int .i64 b, .int .i64 c, .slice va vn vc]] w fun e w' => e = .returned (.string (bs (cmdT 6 a b c vn xs))) ∧ Below w.heap.size w w' := by
  have F0 : Hid (CdB w (w.alloc (.cells #[.int .i64 6, .int .i64 a, .int .i64 b, .int .i64 c, .slice va vn vc] 26)) (v5 (.int .i64 6) (.int .i64 a) (.int .i64 b) (.int .i64 c) (.slice va vn vc))) := hide ⟨v5_new w _ _ _ _ _ _, balloc (Below.refl _ _) _⟩
  have SC := hide (fun w1 (s : Below w.heap.size w w1) => sCmdOk_any 6 a b c va vn vc xs w1 (rv.below s) hn)
  have VT := hide (fun w1 (s : Below w.heap.size w w1) => sVecText_any va vn vc xs w1 (rv.below s) hn)
  have US := hide (fun w1 => uses6 w1)
  clear rv
  unfold cmdT
  obtain ⟨_, y0, y1, y2, y3, y4, _⟩ := v5_facts F0.out.box
  cases hB : cmdB 6 a b c vn xs
  · rw [hB] at SC
    rw [if_neg (by decide), show bs [] = ⟨#[]⟩ from rfl]
    clear hB VT US
    go_enter Tryz.func10, Tryz.ntmps10
    go_wp2_with fail
    refine (SC.out _ F0.out.bel).mono ?_
    rintro e w1 ⟨rfl, hb1⟩
    have B1 := hide (bstep F0.out.bel hb1)
    clear hb1
    go_wp2_with fail
    go_ret
    exact ⟨rfl, B1.out⟩
  · have fa := fits_facts (show fitsB 1 20 0 255 0 1000 true a b c vn xs = true from hB)
    rw [hB] at SC
    rw [if_pos rfl, show cmdW 6 a b c xs = [[110, 101, 97, 114], Lib.itoa a, Lib.itoa b, Lib.itoa c, vecTB xs] from rfl]
    obtain ⟨fa0, fa1, fa2, fa3⟩ := fa
    have D0 := hide (fun w1 => l1Dec_bsC a w1 (by omega) (by omega))
    have ds0 := itoa_lenC (x := a) (by omega) (by omega)
    obtain ⟨E0, hE0⟩ : ∃ E, bs (Lib.itoa a) = E := ⟨_, rfl⟩
    have EL0 : Hid (E0.data.toList = Lib.itoa a) := hide (by rw [← hE0, bs_list])
    rw [hE0] at D0 ds0
    clear hE0
    have D1 := hide (fun w1 => l1Dec_bsC b w1 (by omega) (by omega))
    have ds1 := itoa_lenC (x := b) (by omega) (by omega)
    obtain ⟨E1, hE1⟩ : ∃ E, bs (Lib.itoa b) = E := ⟨_, rfl⟩
    have EL1 : Hid (E1.data.toList = Lib.itoa b) := hide (by rw [← hE1, bs_list])
    rw [hE1] at D1 ds1
    clear hE1
    have D2 := hide (fun w1 => l1Dec_bsC c w1 (by omega) (by omega))
    have ds2 := itoa_lenC (x := c) (by omega) (by omega)
    obtain ⟨E2, hE2⟩ : ∃ E, bs (Lib.itoa c) = E := ⟨_, rfl⟩
    have EL2 : Hid (E2.data.toList = Lib.itoa c) := hide (by rw [← hE2, bs_list])
    rw [hE2] at D2 ds2
    clear hE2
    have vl : (bs (vecTB xs)).size ≤ 176 := by
      rw [bs_size]
      unfold vecTB
      split
      · rename_i h
        obtain ⟨⟨n1, n8⟩, hm⟩ := vecOk_mem h
        have := vecT_len _ xs rfl hm
        omega
      · simp
    obtain ⟨V, hV⟩ : ∃ V, bs (vecTB xs) = V := ⟨_, rfl⟩
    have VL : Hid (V.data.toList = vecTB xs) := hide (by rw [← hV, bs_list])
    rw [hV] at VT vl
    clear hV
    clear hB fa0 fa1 fa2 fa3
    go_enter Tryz.func10, Tryz.ntmps10
    go_wp2_with fail
    refine (SC.out _ F0.out.bel).mono ?_
    rintro e w1 ⟨rfl, hb1⟩
    have F1 := hide (F0.out.below hb1)
    clear hb1 F0 SC y0 y1 y2 y3 y4
    go_upto_region 3 with fail
    refine wp_region_held_drew (S := fun wx => CdQ w wx (.int .i64 6) (.int .i64 a) (.int .i64 b) (.int .i64 c) (.slice va vn vc)) (by kernel_rfl) ((F1.out.below (Below.drew (Below.refl _ _))).q) (fun hH0 => ?_)
    refine wpAnyH_take (i := 1) (oi := { dst := some 11, op := _, type := _, pos := _, after := _, guard := _ }) (v := ?_) rfl (by kernel_rfl) (by kernel_rfl) (by kernel_rfl) (fun _ _ _ h => h) (Or.inl ⟨by rfl, ?_⟩) (hH0) ?_
    rotate_left
    · (intro wx hSw; obtain ⟨lt, c0, _⟩ := hSw; go_simp <;> with_reducible rfl)
    simp only [Act.put, List.setIfInBounds_toArray, List.set_cons_zero, List.set_cons_succ]
    refine wpAnyH_take (i := 2) (oi := { dst := some 12, op := _, type := _, pos := _, after := _, guard := _ }) (v := ?_) rfl (by kernel_rfl) (by kernel_rfl) (by kernel_rfl) (fun _ _ _ h => h) (Or.inl ⟨by rfl, ?_⟩) (hH0) ?_
    rotate_left
    · (intro wx hSw; obtain ⟨lt, c0, _⟩ := hSw; go_simp <;> with_reducible rfl)
    simp only [Act.put, List.setIfInBounds_toArray, List.set_cons_zero, List.set_cons_succ]
    refine wpAnyH_take (i := 3) (oi := { dst := some 13, op := _, type := _, pos := _, after := _, guard := _ }) (v := ?_) rfl (by kernel_rfl) (by kernel_rfl) (by kernel_rfl) (fun _ _ _ h => h) (Or.inl ⟨by rfl, ?_⟩) (hH0) ?_
    rotate_left
    · (intro wx hSw; obtain ⟨lt, c0, _⟩ := hSw; go_simp <;> with_reducible rfl)
    simp only [Act.put, List.setIfInBounds_toArray, List.set_cons_zero, List.set_cons_succ]
    -- behind it: go_wp2_with fail, then go_meet (a cut) or go_ret; the condition at the end: hH0
    refine wpAnyH_ready (rs := [0]) (by kernel_rfl) (by simp) ?_
    refine AllReadyH.cons (o := { dst := some 10, op := _, type := _, pos := _, after := _, guard := _ }) rfl (fun K hK => ?_) AllReadyH.nil
    go_simp
    refine (names_any _).mono ?_
    rintro e w2 ⟨rfl, hw⟩
    have F2 : Hid (CdB w ((w1.alloc (.cells #[.string ⟨#[100, 105, 109]⟩, .string ⟨#[112, 117, 116]⟩, .string ⟨#[100, 114, 111, 112]⟩, .string ⟨#[98, 117, 105, 108, 100]⟩, .string ⟨#[116, 105, 99, 107]⟩, .string ⟨#[110, 101, 97, 114]⟩, .string ⟨#[119, 105, 116, 104, 105, 110]⟩] 9)).drew) _) := hide ((F1.out.below (Below.drew (Below.refl _ _))).below (balloc (Below.refl _ _) (.cells #[.string ⟨#[100, 105, 109]⟩, .string ⟨#[112, 117, 116]⟩, .string ⟨#[100, 114, 111, 112]⟩, .string ⟨#[98, 117, 105, 108, 100]⟩, .string ⟨#[116, 105, 99, 107]⟩, .string ⟨#[110, 101, 97, 114]⟩, .string ⟨#[119, 105, 116, 104, 105, 110]⟩] 9)))
    subst hw
    dsimp only
    refine hK.out _ _ F2.out.q (fun hH1 => ?_)
    clear hK K

    have F2q := F2.out.q
    refine wpAnyH_ready (rs := [4]) (by kernel_rfl) (by simp) ?_
    refine AllReadyH.cons (o := { dst := some 14, op := _, type := _, pos := _, after := _, guard := _ }) rfl (fun K hK => ?_) AllReadyH.nil
    go_simp
    refine hK.out _ _ F2q (fun hH2 => ?_)
    clear hK K
    refine wpAnyH_ready (rs := [5]) (by kernel_rfl) (by simp) ?_
    refine AllReadyH.cons (o := { dst := some 15, op := _, type := _, pos := _, after := _, guard := _ }) rfl (fun K hK => ?_) AllReadyH.nil
    go_simp
    refine hK.out _ _ F2q (fun hH3 => ?_)
    clear hK K
    refine wpAnyH_ready (rs := [6]) (by kernel_rfl) (by simp) ?_
    refine AllReadyH.cons (o := { dst := some 3, op := _, type := _, pos := _, after := _, guard := _ }) rfl (fun K hK => ?_) AllReadyH.nil
    go_simp
    refine hK.out _ _ F2q (fun hH4 => ?_)
    clear hK K
    refine wpAnyH_done (by kernel_rfl) ?_ _
    clear hH0 hH1 hH2 hH3 hH4 F2q F1
    obtain ⟨_, y0, y1, y2, y3, y4, _⟩ := v5_facts F2.out.box
    go_wp2_with fail
    refine (US.out _).mono ?_
    rintro e w3 ⟨rfl, hb3⟩
    have F3 := hide (F2.out.below hb3)
    clear hb3 F2 US y0 y1 y2 y3 y4
    go_wp2_with fail
    go_loopw [3, 6] (fun s i wr => ∃ (j : Nat) (S : ByteArray), j ≤ 3 ∧ i = .int .i64 j ∧ s = .string S ∧ S.size ≤ 10 + 22 * j ∧ Hid (S.data.toList = Lib.join (List.take (j + 1) [[110, 101, 97, 114], Lib.itoa a, Lib.itoa b, Lib.itoa c, vecTB xs]) [32]) ∧ Hid (CdB w wr (v5 (.int .i64 6) (.int .i64 a) (.int .i64 b) (.int .i64 c) (.slice va vn vc)))) (fun _ i _ => 3 - (intOf i).toNat)
    case atStart => exact ⟨0, ⟨#[110, 101, 97, 114]⟩, by omega, rfl, rfl, by decide, hide (by simp [Lib.join]), F3⟩
    case round =>
      obtain ⟨j, S, hj, rfl, rfl, ssz, HS, HF⟩ := hrel
      clear F3
      obtain ⟨_, y0, y1, y2, y3, y4, _⟩ := v5_facts HF.out.box
      rcases (show j = 0 ∨ j = 1 ∨ j = 2 ∨ j = 3 from by omega) with rfl | rfl | rfl | rfl
      · have hs : S.data.toList = Lib.join [[110, 101, 97, 114]] [32] := HS.out
        have HS' := hide hs
        clear hs HS
        go_wp2_with fail
        refine (D0.out _).mono ?_
        rintro e w4 ⟨rfl, hb4⟩
        have F4 := hide ((HF.out.below (balloc (Below.refl _ _) _)).below hb4)
        clear hb4 HF y0 y1 y2 y3 y4
        go_wp2_with fail
        go_roundw
        case rel =>
          refine ⟨1, _, by omega, by go_num, rfl, ?_, hide ?_, F4⟩
          · rw [ByteArray.size_append, ByteArray.size_append]; show S.size + 1 + E0.size ≤ 10 + 22 * 1; omega
          · rw [str_app, str_app, HS'.out, EL0.out]
            show _ = Lib.join [[110, 101, 97, 114], Lib.itoa a] [32]
            rw [show ([[110, 101, 97, 114], Lib.itoa a] : List (List UInt8)) = [[110, 101, 97, 114]] ++ [Lib.itoa a] from rfl, join_snocC _ _ (by simp)]
            simp
        case measure => simp [intOf]
      · have hs : S.data.toList = Lib.join [[110, 101, 97, 114], Lib.itoa a] [32] := HS.out
        have HS' := hide hs
        clear hs HS
        go_wp2_with fail
        refine (D1.out _).mono ?_
        rintro e w4 ⟨rfl, hb4⟩
        have F4 := hide ((HF.out.below (balloc (Below.refl _ _) _)).below hb4)
        clear hb4 HF y0 y1 y2 y3 y4
        go_wp2_with fail
        go_roundw
        case rel =>
          refine ⟨2, _, by omega, by go_num, rfl, ?_, hide ?_, F4⟩
          · rw [ByteArray.size_append, ByteArray.size_append]; show S.size + 1 + E1.size ≤ 10 + 22 * 2; omega
          · rw [str_app, str_app, HS'.out, EL1.out]
            show _ = Lib.join [[110, 101, 97, 114], Lib.itoa a, Lib.itoa b] [32]
            rw [show ([[110, 101, 97, 114], Lib.itoa a, Lib.itoa b] : List (List UInt8)) = [[110, 101, 97, 114], Lib.itoa a] ++ [Lib.itoa b] from rfl, join_snocC _ _ (by simp)]
            simp
        case measure => simp [intOf]
      · have hs : S.data.toList = Lib.join [[110, 101, 97, 114], Lib.itoa a, Lib.itoa b] [32] := HS.out
        have HS' := hide hs
        clear hs HS
        go_wp2_with fail
        refine (D2.out _).mono ?_
        rintro e w4 ⟨rfl, hb4⟩
        have F4 := hide ((HF.out.below (balloc (Below.refl _ _) _)).below hb4)
        clear hb4 HF y0 y1 y2 y3 y4
        go_wp2_with fail
        go_roundw
        case rel =>
          refine ⟨3, _, by omega, by go_num, rfl, ?_, hide ?_, F4⟩
          · rw [ByteArray.size_append, ByteArray.size_append]; show S.size + 1 + E2.size ≤ 10 + 22 * 3; omega
          · rw [str_app, str_app, HS'.out, EL2.out]
            show _ = Lib.join [[110, 101, 97, 114], Lib.itoa a, Lib.itoa b, Lib.itoa c] [32]
            rw [show ([[110, 101, 97, 114], Lib.itoa a, Lib.itoa b, Lib.itoa c] : List (List UInt8)) = [[110, 101, 97, 114], Lib.itoa a, Lib.itoa b] ++ [Lib.itoa c] from rfl, join_snocC _ _ (by simp)]
            simp
        case measure => simp [intOf]
      · have hs : S.data.toList = Lib.join [[110, 101, 97, 114], Lib.itoa a, Lib.itoa b, Lib.itoa c] [32] := HS.out
        have HS' := hide hs
        clear hs HS
        go_wp2_with fail
        refine (VT.out _ HF.out.bel).mono ?_
        rintro e w4 ⟨rfl, hb4⟩
        have B4 := hide (bstep HF.out.bel hb4)
        clear hb4 y0 y1 y2 y3 y4
        go_wp2_with fail
        go_ret
        refine ⟨ret_str ?_, B4.out⟩
        refine bytes_eqC ?_
        rw [str_app, str_app, HS'.out, VL.out, bs_list, show ([[110, 101, 97, 114], Lib.itoa a, Lib.itoa b, Lib.itoa c, vecTB xs] : List (List UInt8)) = [[110, 101, 97, 114], Lib.itoa a, Lib.itoa b, Lib.itoa c] ++ [vecTB xs] from rfl, join_snocC _ _ (by simp)]
        simp

set_option maxHeartbeats 8000000 in
set_option maxRecDepth 4000 in
theorem sCmdText7 (a b c : Int) (va : Option Addr) (vn vc : Nat) (xs : List Int) (w : World) (rv : Row w va vn xs) (hn : vn ≤ 1048576) :
    Calls Tryz.prog 10 #[.agg #[.int .i64 7, .int .i64 a, .int .i64 b, .int .i64 c, .slice va vn vc]] w fun e w' => e = .returned (.string (bs (cmdT 7 a b c vn xs))) ∧ Below w.heap.size w w' := by
  have F0 : Hid (CdB w (w.alloc (.cells #[.int .i64 7, .int .i64 a, .int .i64 b, .int .i64 c, .slice va vn vc] 26)) (v5 (.int .i64 7) (.int .i64 a) (.int .i64 b) (.int .i64 c) (.slice va vn vc))) := hide ⟨v5_new w _ _ _ _ _ _, balloc (Below.refl _ _) _⟩
  have SC := hide (fun w1 (s : Below w.heap.size w w1) => sCmdOk_any 7 a b c va vn vc xs w1 (rv.below s) hn)
  have VT := hide (fun w1 (s : Below w.heap.size w w1) => sVecText_any va vn vc xs w1 (rv.below s) hn)
  have US := hide (fun w1 => uses7 w1)
  clear rv
  unfold cmdT
  obtain ⟨_, y0, y1, y2, y3, y4, _⟩ := v5_facts F0.out.box
  cases hB : cmdB 7 a b c vn xs
  · rw [hB] at SC
    rw [if_neg (by decide), show bs [] = ⟨#[]⟩ from rfl]
    clear hB VT US
    go_enter Tryz.func10, Tryz.ntmps10
    go_wp2_with fail
    refine (SC.out _ F0.out.bel).mono ?_
    rintro e w1 ⟨rfl, hb1⟩
    have B1 := hide (bstep F0.out.bel hb1)
    clear hb1
    go_wp2_with fail
    go_ret
    exact ⟨rfl, B1.out⟩
  · have fa := fits_facts (show fitsB 0 1125899906842624 0 255 0 1000 true a b c vn xs = true from hB)
    rw [hB] at SC
    rw [if_pos rfl, show cmdW 7 a b c xs = [[119, 105, 116, 104, 105, 110], Lib.itoa a, Lib.itoa b, Lib.itoa c, vecTB xs] from rfl]
    obtain ⟨fa0, fa1, fa2, fa3⟩ := fa
    have D0 := hide (fun w1 => l1Dec_bsC a w1 (by omega) (by omega))
    have ds0 := itoa_lenC (x := a) (by omega) (by omega)
    obtain ⟨E0, hE0⟩ : ∃ E, bs (Lib.itoa a) = E := ⟨_, rfl⟩
    have EL0 : Hid (E0.data.toList = Lib.itoa a) := hide (by rw [← hE0, bs_list])
    rw [hE0] at D0 ds0
    clear hE0
    have D1 := hide (fun w1 => l1Dec_bsC b w1 (by omega) (by omega))
    have ds1 := itoa_lenC (x := b) (by omega) (by omega)
    obtain ⟨E1, hE1⟩ : ∃ E, bs (Lib.itoa b) = E := ⟨_, rfl⟩
    have EL1 : Hid (E1.data.toList = Lib.itoa b) := hide (by rw [← hE1, bs_list])
    rw [hE1] at D1 ds1
    clear hE1
    have D2 := hide (fun w1 => l1Dec_bsC c w1 (by omega) (by omega))
    have ds2 := itoa_lenC (x := c) (by omega) (by omega)
    obtain ⟨E2, hE2⟩ : ∃ E, bs (Lib.itoa c) = E := ⟨_, rfl⟩
    have EL2 : Hid (E2.data.toList = Lib.itoa c) := hide (by rw [← hE2, bs_list])
    rw [hE2] at D2 ds2
    clear hE2
    have vl : (bs (vecTB xs)).size ≤ 176 := by
      rw [bs_size]
      unfold vecTB
      split
      · rename_i h
        obtain ⟨⟨n1, n8⟩, hm⟩ := vecOk_mem h
        have := vecT_len _ xs rfl hm
        omega
      · simp
    obtain ⟨V, hV⟩ : ∃ V, bs (vecTB xs) = V := ⟨_, rfl⟩
    have VL : Hid (V.data.toList = vecTB xs) := hide (by rw [← hV, bs_list])
    rw [hV] at VT vl
    clear hV
    clear hB fa0 fa1 fa2 fa3
    go_enter Tryz.func10, Tryz.ntmps10
    go_wp2_with fail
    refine (SC.out _ F0.out.bel).mono ?_
    rintro e w1 ⟨rfl, hb1⟩
    have F1 := hide (F0.out.below hb1)
    clear hb1 F0 SC y0 y1 y2 y3 y4
    go_upto_region 3 with fail
    refine wp_region_held_drew (S := fun wx => CdQ w wx (.int .i64 7) (.int .i64 a) (.int .i64 b) (.int .i64 c) (.slice va vn vc)) (by kernel_rfl) ((F1.out.below (Below.drew (Below.refl _ _))).q) (fun hH0 => ?_)
    refine wpAnyH_take (i := 1) (oi := { dst := some 11, op := _, type := _, pos := _, after := _, guard := _ }) (v := ?_) rfl (by kernel_rfl) (by kernel_rfl) (by kernel_rfl) (fun _ _ _ h => h) (Or.inl ⟨by rfl, ?_⟩) (hH0) ?_
    rotate_left
    · (intro wx hSw; obtain ⟨lt, c0, _⟩ := hSw; go_simp <;> with_reducible rfl)
    simp only [Act.put, List.setIfInBounds_toArray, List.set_cons_zero, List.set_cons_succ]
    refine wpAnyH_take (i := 2) (oi := { dst := some 12, op := _, type := _, pos := _, after := _, guard := _ }) (v := ?_) rfl (by kernel_rfl) (by kernel_rfl) (by kernel_rfl) (fun _ _ _ h => h) (Or.inl ⟨by rfl, ?_⟩) (hH0) ?_
    rotate_left
    · (intro wx hSw; obtain ⟨lt, c0, _⟩ := hSw; go_simp <;> with_reducible rfl)
    simp only [Act.put, List.setIfInBounds_toArray, List.set_cons_zero, List.set_cons_succ]
    refine wpAnyH_take (i := 3) (oi := { dst := some 13, op := _, type := _, pos := _, after := _, guard := _ }) (v := ?_) rfl (by kernel_rfl) (by kernel_rfl) (by kernel_rfl) (fun _ _ _ h => h) (Or.inl ⟨by rfl, ?_⟩) (hH0) ?_
    rotate_left
    · (intro wx hSw; obtain ⟨lt, c0, _⟩ := hSw; go_simp <;> with_reducible rfl)
    simp only [Act.put, List.setIfInBounds_toArray, List.set_cons_zero, List.set_cons_succ]
    -- behind it: go_wp2_with fail, then go_meet (a cut) or go_ret; the condition at the end: hH0
    refine wpAnyH_ready (rs := [0]) (by kernel_rfl) (by simp) ?_
    refine AllReadyH.cons (o := { dst := some 10, op := _, type := _, pos := _, after := _, guard := _ }) rfl (fun K hK => ?_) AllReadyH.nil
    go_simp
    refine (names_any _).mono ?_
    rintro e w2 ⟨rfl, hw⟩
    have F2 : Hid (CdB w ((w1.alloc (.cells #[.string ⟨#[100, 105, 109]⟩, .string ⟨#[112, 117, 116]⟩, .string ⟨#[100, 114, 111, 112]⟩, .string ⟨#[98, 117, 105, 108, 100]⟩, .string ⟨#[116, 105, 99, 107]⟩, .string ⟨#[110, 101, 97, 114]⟩, .string ⟨#[119, 105, 116, 104, 105, 110]⟩] 9)).drew) _) := hide ((F1.out.below (Below.drew (Below.refl _ _))).below (balloc (Below.refl _ _) (.cells #[.string ⟨#[100, 105, 109]⟩, .string ⟨#[112, 117, 116]⟩, .string ⟨#[100, 114, 111, 112]⟩, .string ⟨#[98, 117, 105, 108, 100]⟩, .string ⟨#[116, 105, 99, 107]⟩, .string ⟨#[110, 101, 97, 114]⟩, .string ⟨#[119, 105, 116, 104, 105, 110]⟩] 9)))
    subst hw
    dsimp only
    refine hK.out _ _ F2.out.q (fun hH1 => ?_)
    clear hK K

    have F2q := F2.out.q
    refine wpAnyH_ready (rs := [4]) (by kernel_rfl) (by simp) ?_
    refine AllReadyH.cons (o := { dst := some 14, op := _, type := _, pos := _, after := _, guard := _ }) rfl (fun K hK => ?_) AllReadyH.nil
    go_simp
    refine hK.out _ _ F2q (fun hH2 => ?_)
    clear hK K
    refine wpAnyH_ready (rs := [5]) (by kernel_rfl) (by simp) ?_
    refine AllReadyH.cons (o := { dst := some 15, op := _, type := _, pos := _, after := _, guard := _ }) rfl (fun K hK => ?_) AllReadyH.nil
    go_simp
    refine hK.out _ _ F2q (fun hH3 => ?_)
    clear hK K
    refine wpAnyH_ready (rs := [6]) (by kernel_rfl) (by simp) ?_
    refine AllReadyH.cons (o := { dst := some 3, op := _, type := _, pos := _, after := _, guard := _ }) rfl (fun K hK => ?_) AllReadyH.nil
    go_simp
    refine hK.out _ _ F2q (fun hH4 => ?_)
    clear hK K
    refine wpAnyH_done (by kernel_rfl) ?_ _
    clear hH0 hH1 hH2 hH3 hH4 F2q F1
    obtain ⟨_, y0, y1, y2, y3, y4, _⟩ := v5_facts F2.out.box
    go_wp2_with fail
    refine (US.out _).mono ?_
    rintro e w3 ⟨rfl, hb3⟩
    have F3 := hide (F2.out.below hb3)
    clear hb3 F2 US y0 y1 y2 y3 y4
    go_wp2_with fail
    go_loopw [3, 6] (fun s i wr => ∃ (j : Nat) (S : ByteArray), j ≤ 3 ∧ i = .int .i64 j ∧ s = .string S ∧ S.size ≤ 10 + 22 * j ∧ Hid (S.data.toList = Lib.join (List.take (j + 1) [[119, 105, 116, 104, 105, 110], Lib.itoa a, Lib.itoa b, Lib.itoa c, vecTB xs]) [32]) ∧ Hid (CdB w wr (v5 (.int .i64 7) (.int .i64 a) (.int .i64 b) (.int .i64 c) (.slice va vn vc)))) (fun _ i _ => 3 - (intOf i).toNat)
    case atStart => exact ⟨0, ⟨#[119, 105, 116, 104, 105, 110]⟩, by omega, rfl, rfl, by decide, hide (by simp [Lib.join]), F3⟩
    case round =>
      obtain ⟨j, S, hj, rfl, rfl, ssz, HS, HF⟩ := hrel
      clear F3
      obtain ⟨_, y0, y1, y2, y3, y4, _⟩ := v5_facts HF.out.box
      rcases (show j = 0 ∨ j = 1 ∨ j = 2 ∨ j = 3 from by omega) with rfl | rfl | rfl | rfl
      · have hs : S.data.toList = Lib.join [[119, 105, 116, 104, 105, 110]] [32] := HS.out
        have HS' := hide hs
        clear hs HS
        go_wp2_with fail
        refine (D0.out _).mono ?_
        rintro e w4 ⟨rfl, hb4⟩
        have F4 := hide ((HF.out.below (balloc (Below.refl _ _) _)).below hb4)
        clear hb4 HF y0 y1 y2 y3 y4
        go_wp2_with fail
        go_roundw
        case rel =>
          refine ⟨1, _, by omega, by go_num, rfl, ?_, hide ?_, F4⟩
          · rw [ByteArray.size_append, ByteArray.size_append]; show S.size + 1 + E0.size ≤ 10 + 22 * 1; omega
          · rw [str_app, str_app, HS'.out, EL0.out]
            show _ = Lib.join [[119, 105, 116, 104, 105, 110], Lib.itoa a] [32]
            rw [show ([[119, 105, 116, 104, 105, 110], Lib.itoa a] : List (List UInt8)) = [[119, 105, 116, 104, 105, 110]] ++ [Lib.itoa a] from rfl, join_snocC _ _ (by simp)]
            simp
        case measure => simp [intOf]
      · have hs : S.data.toList = Lib.join [[119, 105, 116, 104, 105, 110], Lib.itoa a] [32] := HS.out
        have HS' := hide hs
        clear hs HS
        go_wp2_with fail
        refine (D1.out _).mono ?_
        rintro e w4 ⟨rfl, hb4⟩
        have F4 := hide ((HF.out.below (balloc (Below.refl _ _) _)).below hb4)
        clear hb4 HF y0 y1 y2 y3 y4
        go_wp2_with fail
        go_roundw
        case rel =>
          refine ⟨2, _, by omega, by go_num, rfl, ?_, hide ?_, F4⟩
          · rw [ByteArray.size_append, ByteArray.size_append]; show S.size + 1 + E1.size ≤ 10 + 22 * 2; omega
          · rw [str_app, str_app, HS'.out, EL1.out]
            show _ = Lib.join [[119, 105, 116, 104, 105, 110], Lib.itoa a, Lib.itoa b] [32]
            rw [show ([[119, 105, 116, 104, 105, 110], Lib.itoa a, Lib.itoa b] : List (List UInt8)) = [[119, 105, 116, 104, 105, 110], Lib.itoa a] ++ [Lib.itoa b] from rfl, join_snocC _ _ (by simp)]
            simp
        case measure => simp [intOf]
      · have hs : S.data.toList = Lib.join [[119, 105, 116, 104, 105, 110], Lib.itoa a, Lib.itoa b] [32] := HS.out
        have HS' := hide hs
        clear hs HS
        go_wp2_with fail
        refine (D2.out _).mono ?_
        rintro e w4 ⟨rfl, hb4⟩
        have F4 := hide ((HF.out.below (balloc (Below.refl _ _) _)).below hb4)
        clear hb4 HF y0 y1 y2 y3 y4
        go_wp2_with fail
        go_roundw
        case rel =>
          refine ⟨3, _, by omega, by go_num, rfl, ?_, hide ?_, F4⟩
          · rw [ByteArray.size_append, ByteArray.size_append]; show S.size + 1 + E2.size ≤ 10 + 22 * 3; omega
          · rw [str_app, str_app, HS'.out, EL2.out]
            show _ = Lib.join [[119, 105, 116, 104, 105, 110], Lib.itoa a, Lib.itoa b, Lib.itoa c] [32]
            rw [show ([[119, 105, 116, 104, 105, 110], Lib.itoa a, Lib.itoa b, Lib.itoa c] : List (List UInt8)) = [[119, 105, 116, 104, 105, 110], Lib.itoa a, Lib.itoa b] ++ [Lib.itoa c] from rfl, join_snocC _ _ (by simp)]
            simp
        case measure => simp [intOf]
      · have hs : S.data.toList = Lib.join [[119, 105, 116, 104, 105, 110], Lib.itoa a, Lib.itoa b, Lib.itoa c] [32] := HS.out
        have HS' := hide hs
        clear hs HS
        go_wp2_with fail
        refine (VT.out _ HF.out.bel).mono ?_
        rintro e w4 ⟨rfl, hb4⟩
        have B4 := hide (bstep HF.out.bel hb4)
        clear hb4 y0 y1 y2 y3 y4
        go_wp2_with fail
        go_ret
        refine ⟨ret_str ?_, B4.out⟩
        refine bytes_eqC ?_
        rw [str_app, str_app, HS'.out, VL.out, bs_list, show ([[119, 105, 116, 104, 105, 110], Lib.itoa a, Lib.itoa b, Lib.itoa c, vecTB xs] : List (List UInt8)) = [[119, 105, 116, 104, 105, 110], Lib.itoa a, Lib.itoa b, Lib.itoa c] ++ [vecTB xs] from rfl, join_snocC _ _ (by simp)]
        simp
end Go.Proofs.YtggjcccdeaadbaaGreatDoor

/- CmdText of the model, at all arguments. -/
namespace Go.Proofs.YtggjcccdeaadbaaGreatDoor
open Go.RowKit
set_option maxRecDepth 8000
set_option linter.unusedSimpArgs false
set_option linter.unusedVariables false

theorem cmdT_no {k : Int} (h : kindB k = false) (a b c : Int) (vn : Nat) (xs : List Int) : cmdT k a b c vn xs = [] := by
  unfold cmdT
  rw [cmdB_no h, if_neg (by decide)]

theorem sCmdText_any (k a b c : Int) (va : Option Addr) (vn vc : Nat) (xs : List Int) (w : World) (rv : Row w va vn xs) (hn : vn ≤ 1048576) :
    Calls Tryz.prog 10 #[.agg #[.int .i64 k, .int .i64 a, .int .i64 b, .int .i64 c, .slice va vn vc]] w fun e w' => e = .returned (.string (bs (cmdT k a b c vn xs))) ∧ Below w.heap.size w w' := by
  cases hk : kindB k
  · rw [cmdT_no hk]
    have F0 : Hid (CdB w (w.alloc (.cells #[.int .i64 k, .int .i64 a, .int .i64 b, .int .i64 c, .slice va vn vc] 26)) (v5 (.int .i64 k) (.int .i64 a) (.int .i64 b) (.int .i64 c) (.slice va vn vc))) := hide ⟨v5_new w _ _ _ _ _ _, balloc (Below.refl _ _) _⟩
    have SC := hide (fun w1 (s : Below w.heap.size w w1) => sCmdOk_any k a b c va vn vc xs w1 (rv.below s) hn)
    rw [cmdB_no hk] at SC
    rw [show bs [] = ⟨#[]⟩ from rfl]
    clear hk rv
    obtain ⟨_, y0, y1, y2, y3, y4, _⟩ := v5_facts F0.out.box
    go_enter Tryz.func10, Tryz.ntmps10
    go_wp2_with fail
    refine (SC.out _ F0.out.bel).mono ?_
    rintro e w1 ⟨rfl, hb1⟩
    have B1 := hide (bstep F0.out.bel hb1)
    clear hb1
    go_wp2_with fail
    go_ret
    exact ⟨rfl, B1.out⟩
  · have h' : 1 ≤ k ∧ k ≤ 7 := of_decide_eq_true hk
    rcases (show k = 1 ∨ k = 2 ∨ k = 3 ∨ k = 4 ∨ k = 5 ∨ k = 6 ∨ k = 7 from by omega) with rfl | rfl | rfl | rfl | rfl | rfl | rfl
    · exact sCmdText1 a b c va vn vc xs w rv hn
    · exact sCmdText2 a b c va vn vc xs w rv hn
    · exact sCmdText3 a b c va vn vc xs w rv hn
    · exact sCmdText4 a b c va vn vc xs w rv hn
    · exact sCmdText5 a b c va vn vc xs w rv hn
    · exact sCmdText6 a b c va vn vc xs w rv hn
    · exact sCmdText7 a b c va vn vc xs w rv hn
end Go.Proofs.YtggjcccdeaadbaaGreatDoor
