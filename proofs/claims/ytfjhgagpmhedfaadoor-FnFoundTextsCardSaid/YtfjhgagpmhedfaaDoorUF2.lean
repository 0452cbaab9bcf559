/- What is found, as a text; FoundText of the model. -/
import Derived.Test.YtfjhgagpmhedfaaDoorUF1
import Derived.Test.YtfjhgagpmhedfaaDoorSC4
import Derived.Test.YtfjhgagpmhedfaaDoorSN0
namespace Go.Proofs.YtfjhgagpmhedfaaDoor
open Go.RowKit
set_option maxRecDepth 8000
set_option linter.unusedSimpArgs false
set_option linter.unusedVariables false

def wordF (ex : Bool) : List UInt8 := if ex then [101, 120, 97, 99, 116] else [111, 112, 101, 110]
def hitsW (n : Nat) (H : HtL) : List (List UInt8) := (List.range n).map fun i => hitTB (H i).x (H i).y (H i).z
/-- The words. -/
def foundA (ex : Bool) (rd : Int) : List (List UInt8) := [wordF ex, Lib.itoa rd, [108, 101, 102, 116]]
def foundW (ex : Bool) (rd : Int) (L : List Int) (n : Nat) (H : HtL) : List (List UInt8) := (foundA ex rd ++ L.map Lib.itoa) ++ ([[104, 105, 116, 115]] ++ hitsW n H)
def foundT (ex : Bool) (rd : Int) (L : List Int) (n : Nat) (H : HtL) : List UInt8 := Lib.join (foundW ex rd L n H) [32]

theorem join_snoc : ∀ (p : List (List UInt8)) (x : List UInt8), p ≠ [] → Lib.join (p ++ [x]) [32] = Lib.join p [32] ++ 32 :: x
  | [], x, h => absurd rfl h
  | [a], x, _ => by rw [List.singleton_append, join_two]; simp [Lib.join]
  | a :: b :: r, x, _ => by
    have ih := join_snoc (b :: r) x (by simp)
    rw [List.cons_append, List.cons_append, join_two, join_two, ← List.cons_append, ih]
    simp

theorem hitsW_succ (n : Nat) (H : HtL) : hitsW (n + 1) H = hitsW n H ++ [hitTB (H n).x (H n).y (H n).z] := by
  unfold hitsW; rw [List.range_succ, List.map_append]; rfl

theorem foundW_succ (ex : Bool) (rd : Int) (L : List Int) (n : Nat) (H : HtL) : foundW ex rd L (n + 1) H = foundW ex rd L n H ++ [hitTB (H n).x (H n).y (H n).z] := by
  unfold foundW; rw [hitsW_succ]; simp

theorem foundW_zero (ex : Bool) (rd : Int) (L : List Int) (H : HtL) : foundW ex rd L 0 H = (foundA ex rd ++ L.map Lib.itoa) ++ [[104, 105, 116, 115]] := by
  unfold foundW hitsW; simp

theorem foundA_ne (ex : Bool) (rd : Int) (p : List (List UInt8)) : foundA ex rd ++ p ≠ [] := by unfold foundA; simp

theorem foundW_ne (ex : Bool) (rd : Int) (L : List Int) (n : Nat) (H : HtL) : foundW ex rd L n H ≠ [] := by unfold foundW; simp

theorem take_map (L : List Int) (k : Nat) (h : k < L.length) : (L.take (k + 1)).map Lib.itoa = (L.take k).map Lib.itoa ++ [Lib.itoa (nth L k)] := by
  rw [take_snocI L k h, List.map_append]; rfl

theorem hitT_len (x y z : Int) : (bs (hitTB x y z)).size ≤ 60 := by
  rw [bs_size]
  unfold hitTB
  cases h : hitB x y z
  · simp
  · obtain ⟨_, a1, a2, a3, a4, a5⟩ := hit_parts h
    have i1 := itoa17 (x := x) (by omega) (by omega)
    have i2 := itoa17 (x := y) (by omega) (by omega)
    have i3 := itoa17 (x := z) (by omega) (by omega)
    rw [if_pos rfl]
    unfold hitT
    split
    · simp; omega
    · simp; omega

/-- The box of what is found. -/
structure FdB (w0 w : World) (a b c d : Value) : Prop where
  box : w.rowIs w0.heap.size 30 4 (v4 a b c d)
  bel : Below w0.heap.size w0 w

theorem FdB.below {w0 w w' : World} {a b c d : Value} (h : FdB w0 w a b c d) (hb : Below w.heap.size w w') : FdB w0 w' a b c d := ⟨row_below h.box hb, bstep h.bel hb⟩

set_option maxHeartbeats 4000000 in
theorem sFoundText_any (ha : Option Addr) (hn hc : Nat) (H : HtL) (ex : Bool) (rd : Int) (la : Option Addr) (ln lc : Nat) (L : List Int) (w : World) (rh : HtR w ha hn H) (rl : Row w la ln L) (h1 : hn ≤ 1048576) (h2 : ln ≤ 1048576)
    (r0 : -9223372036854775808 ≤ rd) (r1 : rd ≤ 9223372036854775807) (hL : ∀ k, k < ln → -9223372036854775808 ≤ nth L k ∧ nth L k ≤ 9223372036854775807) :
    Calls Tryd.prog 6 #[.agg #[.slice ha hn hc, .bool ex, .int .i64 rd, .slice la ln lc]] w fun e w' => e = .returned (.string (bs (foundT ex rd L hn H))) ∧ Below w.heap.size w w' := by
  have F0 : Hid (FdB w (w.alloc (.cells #[.slice ha hn hc, .bool ex, .int .i64 rd, .slice la ln lc] 30)) (.slice ha hn hc) (.bool ex) (.int .i64 rd) (.slice la ln lc)) := hide ⟨v4_new w _ _ _ _ _, balloc (Below.refl _ _) _⟩
  have DR := hide (fun w1 => l1Dec_bs rd w1 r0 r1)
  have RH := hide rh
  have RL := hide rl
  have BL := hide hL
  have HLN := hide rl.len
  obtain ⟨D, hD⟩ : ∃ D, bs (Lib.itoa rd) = D := ⟨_, rfl⟩
  have ds : D.size ≤ 21 := by rw [← hD]; exact itoa_len21 r0 r1
  have DL : Hid (D.data.toList = Lib.itoa rd) := hide (by rw [← hD, bs_list])
  rw [hD] at DR
  clear rh rl hL hD r0 r1
  obtain ⟨_, p0, p1, p2, p3, _, _, _, _⟩ := v4_facts F0.out.box
  cases ex
  · go_enter Tryd.func6, Tryd.ntmps6
    go_wp2_with fail
    refine (DR.out _).mono ?_
    rintro e w1 ⟨rfl, hb1⟩
    have F1 := hide (F0.out.below hb1)
    clear p0 p1 p2 p3 hb1 F0 DR
    go_wp2_with fail
    go_loopw [3, 4] (fun s i wr => ∃ (k : Nat) (S : ByteArray), k ≤ ln ∧ i = .int .i64 k ∧ s = .string S ∧ S.size ≤ 64 * (k + 1) ∧ Hid (S.data.toList = Lib.join (foundA false rd ++ (L.take k).map Lib.itoa) [32]) ∧ Hid (FdB w wr (.slice ha hn hc) (.bool false) (.int .i64 rd) (.slice la ln lc))) (fun _ i _ => ln - (intOf i).toNat)
    case atStart => exact ⟨0, _, Nat.zero_le _, rfl, rfl, (by rw [ByteArray.size_append, ByteArray.size_append, ByteArray.size_append]; show 4 + 1 + D.size + 5 ≤ 64 * (0 + 1); omega), hide (by rw [str_app, str_app, str_app, DL.out]; simp [foundA, wordF, Lib.join_cons, Lib.joinTail]), F1⟩
    case round =>
      obtain ⟨k, S, hk, rfl, rfl, ssz, HS, HB⟩ := hrel
      clear F1
      have lb := HB.out.bel.size
      obtain ⟨_, p0, p1, p2, p3, _, _, _, _⟩ := v4_facts HB.out.box
      by_cases hlt : k < ln
      · rcases RL.out.lies with q | ⟨b, off, rfl, lt, hcell⟩
        · omega
        · have ck := (HB.out.bel.cell (p := ⟨b, off + k, none⟩) lt).trans (hcell k hlt)
          have lk : b < wr.heap.size := Nat.lt_of_lt_of_le lt lb
          have bk := BL.out k hlt
          have DE := hide (l1Dec_bs (nth L k) wr bk.1 bk.2)
          obtain ⟨E, hE⟩ : ∃ E, bs (Lib.itoa (nth L k)) = E := ⟨_, rfl⟩
          have es : E.size ≤ 21 := by rw [← hE]; exact itoa_len21 bk.1 bk.2
          have EL : Hid (E.data.toList = Lib.itoa (nth L k)) := hide (by rw [← hE, bs_list])
          rw [hE] at DE
          clear hE bk hcell
          go_wp2_with fail
          refine DE.out.mono ?_
          rintro e w3 ⟨rfl, hb3⟩
          have B3 := hide (HB.out.below hb3)
          clear hb3 ck p0 p1 p2 p3 DE
          go_wp2_with fail
          go_roundw
          case rel =>
            refine ⟨k + 1, _, by omega, by go_num, rfl, ?_, hide ?_, B3⟩
            · rw [ByteArray.size_append, ByteArray.size_append]; show S.size + 1 + E.size ≤ 64 * (k + 1 + 1); omega
            · rw [str_app, str_app, HS.out, EL.out, take_map L k (by rw [HLN.out]; exact hlt), ← List.append_assoc, join_snoc _ _ (foundA_ne _ _ _)]
              simp
          case measure => simp [intOf]; omega
      · obtain rfl : k = ln := by omega
        have HS' : Hid (S.data.toList = Lib.join (foundA false rd ++ L.map Lib.itoa) [32]) := hide (by rw [HS.out, ← HLN.out, List.take_length])
        clear hlt HS
        go_wp2_with fail
        go_loopw [3, 5] (fun s i wr => ∃ (j : Nat) (S' : ByteArray), j ≤ hn ∧ i = .int .i64 j ∧ s = .string S' ∧ S'.size ≤ 67108864 + 64 * (j + 2) ∧ Hid (S'.data.toList = Lib.join (foundW false rd L j H) [32]) ∧ Hid (FdB w wr (.slice ha hn hc) (.bool false) (.int .i64 rd) (.slice la k lc))) (fun _ i _ => hn - (intOf i).toNat)
        case atStart =>
          refine ⟨0, _, Nat.zero_le _, rfl, rfl, ?_, hide ?_, HB⟩
          · rw [ByteArray.size_append]; show S.size + 5 ≤ 67108864 + 64 * (0 + 2); omega
          · rw [str_app, HS'.out, foundW_zero, join_snoc _ _ (foundA_ne _ _ _)]
        case round =>
          obtain ⟨j, S', hj, rfl, rfl, ssz', HS2, HB2⟩ := hrel
          clear p0 p1 p2 p3 HB ssz HS' lb
          have lb := HB2.out.bel.size
          obtain ⟨_, p0, p1, p2, p3, _, _, _, _⟩ := v4_facts HB2.out.box
          by_cases hlt : j < hn
          · rcases RH.out.lies with q | ⟨b, off, rfl, lt, hcell⟩
            · omega
            · obtain ⟨c0, c1, c2⟩ := (hcell j hlt).below HB2.out.bel lt
              have lk : b < wr.heap.size := Nat.lt_of_lt_of_le lt lb
              have DE := hide (sHitText_any (H j).x (H j).y (H j).z wr)
              obtain ⟨E, hE⟩ : ∃ E, bs (hitTB (H j).x (H j).y (H j).z) = E := ⟨_, rfl⟩
              have es : E.size ≤ 60 := by rw [← hE]; exact hitT_len _ _ _
              have EL : Hid (E.data.toList = hitTB (H j).x (H j).y (H j).z) := hide (by rw [← hE, bs_list])
              rw [hE] at DE
              clear hE hcell
              go_wp2_with fail
              refine DE.out.mono ?_
              rintro e w3 ⟨rfl, hb3⟩
              have B3 := hide (HB2.out.below hb3)
              clear hb3 c0 c1 c2 p0 p1 p2 p3 DE
              go_wp2_with fail
              go_roundw
              case rel =>
                refine ⟨j + 1, _, by omega, by go_num, rfl, ?_, hide ?_, B3⟩
                · rw [ByteArray.size_append, ByteArray.size_append]; show S'.size + 1 + E.size ≤ 67108864 + 64 * (j + 1 + 2); omega
                · rw [str_app, str_app, HS2.out, EL.out, foundW_succ, join_snoc _ _ (foundW_ne _ _ _ _ _)]
                  simp
              case measure => simp [intOf]; omega
          · obtain rfl : j = hn := by omega
            go_wp2_with fail
            go_ret
            refine ⟨ret_str ?_, HB2.out.bel⟩
            unfold foundT
            exact bytes_eqH (by rw [HS2.out, bs_list])
  · go_enter Tryd.func6, Tryd.ntmps6
    go_wp2_with fail
    refine (DR.out _).mono ?_
    rintro e w1 ⟨rfl, hb1⟩
    have F1 := hide (F0.out.below hb1)
    clear p0 p1 p2 p3 hb1 F0 DR
    go_wp2_with fail
    go_loopw [3, 4] (fun s i wr => ∃ (k : Nat) (S : ByteArray), k ≤ ln ∧ i = .int .i64 k ∧ s = .string S ∧ S.size ≤ 64 * (k + 1) ∧ Hid (S.data.toList = Lib.join (foundA true rd ++ (L.take k).map Lib.itoa) [32]) ∧ Hid (FdB w wr (.slice ha hn hc) (.bool true) (.int .i64 rd) (.slice la ln lc))) (fun _ i _ => ln - (intOf i).toNat)
    case atStart => exact ⟨0, _, Nat.zero_le _, rfl, rfl, (by rw [ByteArray.size_append, ByteArray.size_append, ByteArray.size_append]; show 5 + 1 + D.size + 5 ≤ 64 * (0 + 1); omega), hide (by rw [str_app, str_app, str_app, DL.out]; simp [foundA, wordF, Lib.join_cons, Lib.joinTail]), F1⟩
    case round =>
      obtain ⟨k, S, hk, rfl, rfl, ssz, HS, HB⟩ := hrel
      clear F1
      have lb := HB.out.bel.size
      obtain ⟨_, p0, p1, p2, p3, _, _, _, _⟩ := v4_facts HB.out.box
      by_cases hlt : k < ln
      · rcases RL.out.lies with q | ⟨b, off, rfl, lt, hcell⟩
        · omega
        · have ck := (HB.out.bel.cell (p := ⟨b, off + k, none⟩) lt).trans (hcell k hlt)
          have lk : b < wr.heap.size := Nat.lt_of_lt_of_le lt lb
          have bk := BL.out k hlt
          have DE := hide (l1Dec_bs (nth L k) wr bk.1 bk.2)
          obtain ⟨E, hE⟩ : ∃ E, bs (Lib.itoa (nth L k)) = E := ⟨_, rfl⟩
          have es : E.size ≤ 21 := by rw [← hE]; exact itoa_len21 bk.1 bk.2
          have EL : Hid (E.data.toList = Lib.itoa (nth L k)) := hide (by rw [← hE, bs_list])
          rw [hE] at DE
          clear hE bk hcell
          go_wp2_with fail
          refine DE.out.mono ?_
          rintro e w3 ⟨rfl, hb3⟩
          have B3 := hide (HB.out.below hb3)
          clear hb3 ck p0 p1 p2 p3 DE
          go_wp2_with fail
          go_roundw
          case rel =>
            refine ⟨k + 1, _, by omega, by go_num, rfl, ?_, hide ?_, B3⟩
            · rw [ByteArray.size_append, ByteArray.size_append]; show S.size + 1 + E.size ≤ 64 * (k + 1 + 1); omega
            · rw [str_app, str_app, HS.out, EL.out, take_map L k (by rw [HLN.out]; exact hlt), ← List.append_assoc, join_snoc _ _ (foundA_ne _ _ _)]
              simp
          case measure => simp [intOf]; omega
      · obtain rfl : k = ln := by omega
        have HS' : Hid (S.data.toList = Lib.join (foundA true rd ++ L.map Lib.itoa) [32]) := hide (by rw [HS.out, ← HLN.out, List.take_length])
        clear hlt HS
        go_wp2_with fail
        go_loopw [3, 5] (fun s i wr => ∃ (j : Nat) (S' : ByteArray), j ≤ hn ∧ i = .int .i64 j ∧ s = .string S' ∧ S'.size ≤ 67108864 + 64 * (j + 2) ∧ Hid (S'.data.toList = Lib.join (foundW true rd L j H) [32]) ∧ Hid (FdB w wr (.slice ha hn hc) (.bool true) (.int .i64 rd) (.slice la k lc))) (fun _ i _ => hn - (intOf i).toNat)
        case atStart =>
          refine ⟨0, _, Nat.zero_le _, rfl, rfl, ?_, hide ?_, HB⟩
          · rw [ByteArray.size_append]; show S.size + 5 ≤ 67108864 + 64 * (0 + 2); omega
          · rw [str_app, HS'.out, foundW_zero, join_snoc _ _ (foundA_ne _ _ _)]
        case round =>
          obtain ⟨j, S', hj, rfl, rfl, ssz', HS2, HB2⟩ := hrel
          clear p0 p1 p2 p3 HB ssz HS' lb
          have lb := HB2.out.bel.size
          obtain ⟨_, p0, p1, p2, p3, _, _, _, _⟩ := v4_facts HB2.out.box
          by_cases hlt : j < hn
          · rcases RH.out.lies with q | ⟨b, off, rfl, lt, hcell⟩
            · omega
            · obtain ⟨c0, c1, c2⟩ := (hcell j hlt).below HB2.out.bel lt
              have lk : b < wr.heap.size := Nat.lt_of_lt_of_le lt lb
              have DE := hide (sHitText_any (H j).x (H j).y (H j).z wr)
              obtain ⟨E, hE⟩ : ∃ E, bs (hitTB (H j).x (H j).y (H j).z) = E := ⟨_, rfl⟩
              have es : E.size ≤ 60 := by rw [← hE]; exact hitT_len _ _ _
              have EL : Hid (E.data.toList = hitTB (H j).x (H j).y (H j).z) := hide (by rw [← hE, bs_list])
              rw [hE] at DE
              clear hE hcell
              go_wp2_with fail
              refine DE.out.mono ?_
              rintro e w3 ⟨rfl, hb3⟩
              have B3 := hide (HB2.out.below hb3)
              clear hb3 c0 c1 c2 p0 p1 p2 p3 DE
              go_wp2_with fail
              go_roundw
              case rel =>
                refine ⟨j + 1, _, by omega, by go_num, rfl, ?_, hide ?_, B3⟩
                · rw [ByteArray.size_append, ByteArray.size_append]; show S'.size + 1 + E.size ≤ 67108864 + 64 * (j + 1 + 2); omega
                · rw [str_app, str_app, HS2.out, EL.out, foundW_succ, join_snoc _ _ (foundW_ne _ _ _ _ _)]
                  simp
              case measure => simp [intOf]; omega
          · obtain rfl : j = hn := by omega
            go_wp2_with fail
            go_ret
            refine ⟨ret_str ?_, HB2.out.bel⟩
            unfold foundT
            exact bytes_eqH (by rw [HS2.out, bs_list])
end Go.Proofs.YtfjhgagpmhedfaaDoor
