/- The walk of the law FnCmds. -/
import Derived.Test.YtggjcccdeaadbaaGreatDoorZ34
import Derived.Test.YtggjcccdeaadbaaGreatDoorZ33
import Derived.Test.YtggjcccdeaadbaaGreatDoorZ27
import Derived.Test.YtggjcccdeaadbaaGreatDoorZ5
import Derived.Test.YtggjcccdeaadbaaGreatDoorZ29
import Derived.Test.YtggjcccdeaadbaaGreatDoorZ31
import Derived.Test.YtggjcccdeaadbaaGreatDoorZ16
import Derived.Test.YtggjcccdeaadbaaGreatDoorZ20
namespace Go.Proofs.YtggjcccdeaadbaaGreatDoor
open Go.RowKit
set_option maxRecDepth 8000
set_option linter.unusedSimpArgs false
set_option linter.unusedVariables false

/-- A command's text is read as that command. -/
theorem cmd_back (k a b c : Int) (n : Nat) (xs : List Int) (hn : xs.length = n) : rdCB (cmdT k a b c n xs) = cmdB k a b c n xs ∧ (cmdB k a b c n xs = true → readC (cmdT k a b c n xs) = ⟨k, a, b, c, xs⟩) := by
  subst hn
  cases h : cmdB k a b c xs.length xs
  · have e : cmdT k a b c xs.length xs = [] := by unfold cmdT; rw [h]; rfl
    rw [e]
    exact ⟨by decide, fun q => by cases q⟩
  · obtain ⟨hk, ha, hb, hc, hv⟩ := cmdB_facts h
    obtain ⟨w1, w2, w3⟩ := cmdW_words h
    obtain ⟨n6, n32, n3⟩ := nmW_facts hk
    have hT := cmdT_yes h
    have hl := cmdT_len h
    have hS : splitC 32 (cmdT k a b c xs.length xs) = cmdW k a b c xs := by rw [hT]; exact split_join 32 _ w3 w1
    rw [cmdW_eq hk] at hS w2
    have AI := all_itoa (xs := [a, b, c].take (cmN k)) (fun x hx => by rcases take3_mem hx with rfl | rfl | rfl <;> omega)
    have ln : (([a, b, c].take (cmN k)).map Lib.itoa).length = cmN k := by simp; omega
    have e := rdW_cons (k := k) (R := ([a, b, c].take (cmN k)).map Lib.itoa ++ (if vcK k then [vecTB xs] else [])) hk (by rw [List.length_cons] at w2; omega)
    rw [← hS, List.take_left' ln, AI.2] at e
    have hx : (if vcK k then readVL ((([a, b, c].take (cmN k)).map Lib.itoa ++ (if vcK k then [vecTB xs] else [])).getD (cmN k) []) else []) = xs := by
      cases q : vcK k
      · rcases kind_cases hk with rfl | rfl | rfl | rfl | rfl | rfl | rfl
        all_goals first | exact absurd q (by decide) | skip
        all_goals
          have h2 := h
          simp [cmdB, fitsB] at h2
          simp [h2]
      · have hv' := hv q
        rw [if_pos rfl, if_pos rfl, List.getD_eq_getElem?_getD, List.getElem?_append_right (by omega), ln]
        simp
        have := (read_back xs).2
        rw [hv', if_pos rfl] at this
        exact this
    rw [hx] at e
    have hnum : nth ([a, b, c].take (cmN k)) 0 = a ∧ nth ([a, b, c].take (cmN k)) 1 = b ∧ nth ([a, b, c].take (cmN k)) 2 = c := by
      rcases kind_cases hk with rfl | rfl | rfl | rfl | rfl | rfl | rfl
      all_goals
        have h2 := h
        simp [cmdB, fitsB] at h2
        simp [nth, cmN]
        try omega
    rw [hnum.1, hnum.2.1, hnum.2.2] at e
    have eC : rdC (cmdT k a b c xs.length xs) = ⟨k, a, b, c, xs⟩ := e
    have r : rdCB (cmdT k a b c xs.length xs) = true := by
      unfold rdCB
      rw [eC, decide_eq_true hl]
      have k0 : k ≠ 0 := by have h' : 1 ≤ k ∧ k ≤ 7 := of_decide_eq_true hk; omega
      simp only [cmT, Bool.and_eq_true, decide_eq_true_eq, Bool.true_and]
      exact ⟨k0, trivial⟩
    exact ⟨r, fun _ => by unfold readC; rw [r, if_pos rfl, eC]⟩

theorem readC_text {l : List UInt8} (h : rdCB l = true) : cmT (readC l) = l := by
  unfold readC
  rw [h, if_pos rfl]
  unfold rdCB at h
  simp only [Bool.and_eq_true, decide_eq_true_eq] at h
  exact h.2.2
/-- A command in its box, its vector where it leads. -/
structure CQ (w : World) (q : Nat) (k x y z : Int) (va : Option Addr) (m cap : Nat) (xs : List Int) : Prop where
  lt : q < w.heap.size
  c0 : w.cell? ⟨q, 0, none⟩ = some (.int .i64 k)
  c1 : w.cell? ⟨q, 1, none⟩ = some (.int .i64 x)
  c2 : w.cell? ⟨q, 2, none⟩ = some (.int .i64 y)
  c3 : w.cell? ⟨q, 3, none⟩ = some (.int .i64 z)
  c4 : w.cell? ⟨q, 4, none⟩ = some (.slice va m cap)
  row : Row w va m xs

theorem CQ.below {w w' : World} {q : Nat} {k x y z : Int} {va : Option Addr} {m cap : Nat} {xs : List Int} (h : CQ w q k x y z va m cap xs) (hb : Below w.heap.size w w') : CQ w' q k x y z va m cap xs :=
  have r : ∀ j, w'.cell? ⟨q, j, none⟩ = w.cell? ⟨q, j, none⟩ := fun j => hb.cell (p := ⟨q, j, none⟩) h.lt
  ⟨Nat.lt_of_lt_of_le h.lt hb.size, (r 0).trans h.c0, (r 1).trans h.c1, (r 2).trans h.c2, (r 3).trans h.c3, (r 4).trans h.c4, h.row.below hb⟩

theorem CQ.new (w : World) (k x y z : Int) (va : Option Addr) (m cap : Nat) (xs : List Int) (T : TypeId) (h : Row w va m xs) : CQ (w.alloc (.cells #[.int .i64 k, .int .i64 x, .int .i64 y, .int .i64 z, .slice va m cap] T)) w.heap.size k x y z va m cap xs :=
  ⟨by simp, by simp, by simp, by simp, by simp, by simp, h.below (balloc (Below.refl _ _) _)⟩

set_option maxHeartbeats 2000000 in
set_option maxRecDepth 4000 in
theorem sameCmd_self (k x y z : Int) (va va' : Option Addr) (m cap cap' : Nat) (xs : List Int) (w : World) (r : Row w va m xs) (r' : Row w va' m xs) (hm : m ≤ 1048576) :
    Calls Tryz.prog 11 #[.agg #[.int .i64 k, .int .i64 x, .int .i64 y, .int .i64 z, .slice va m cap], .agg #[.int .i64 k, .int .i64 x, .int .i64 y, .int .i64 z, .slice va' m cap']] w fun e w' => e = .returned (.bool true) ∧ Below w.heap.size w w' := by
  have SI := hide (fun w1 (s : Below w.heap.size w w1) => sameInts_any va va' m cap m cap' xs xs w1 (r.below s) (r'.below s) hm)
  have hbb : Below w.heap.size w ((w.alloc (.cells #[.int .i64 k, .int .i64 x, .int .i64 y, .int .i64 z, .slice va m cap] 26)).alloc (.cells #[.int .i64 k, .int .i64 x, .int .i64 y, .int .i64 z, .slice va' m cap'] 26)) := balloc (balloc (Below.refl _ _) _) _
  have HB := hide hbb
  clear r r' hbb
  go_enter Tryz.func11, Tryz.ntmps11
  go_wp2_with fail
  refine (SI.out _ HB.out).mono ?_
  rintro e w1 ⟨rfl, hw⟩
  go_wp2_with fail
  go_ret
  exact ⟨rfl, bstep HB.out hw⟩

set_option maxHeartbeats 16000000 in
set_option maxRecDepth 8000 in
theorem cmds_walk (a : Option Addr) (n cap : Nat) (zs : List Int) (w : World) (F : Forms w) (V : Vars w) (M : Mlen w) (h : IsRow .u8 w a n cap zs) :
    Calls Tryz.prog 3 #[.slice a n cap] w fun e w' => e = .returned (.bool true) ∧ Below w.heap.size w w' := by
  have BG := hide (big_any a n cap w)
  by_cases hn : n ≤ 1048576
  · rw [decide_eq_false (show ¬ 1048576 < n by omega)] at BG
    have HC := hide (h.code hn)
    have HF := hide F
    have HV := hide V
    have HM := hide M
    clear h V M F
    go_enter Tryz.func3, Tryz.ntmps3
    go_wp2_with fail
    refine BG.out.mono ?_
    rintro e w' ⟨rfl, hw⟩
    obtain rfl := hw.symm
    clear BG hw
    go_wp2_with fail
    refine (drawCmdText_any a n cap w HC.out).mono ?_
    rintro e w1 ⟨k, x, y, z, va, m, cp, f, rfl, hm, ho1, hb1⟩
    obtain ⟨va', cp', ev, hr1, _⟩ := row_of_owns ho1
    have ev' : va = va' ∧ cp = cp' := by simpa using ev
    obtain ⟨rfl, rfl⟩ := ev'
    obtain ⟨xs, hxs⟩ : ∃ xs, ints f m = xs := ⟨_, rfl⟩
    rw [hxs] at hr1
    have hl := hr1.len
    have C1 := hide (CQ.new w1 k x y z va m cp xs 26 hr1)
    have B1 := hide (bstep hb1 (balloc (Below.refl w1.heap.size w1) (.cells #[.int .i64 k, .int .i64 x, .int .i64 y, .int .i64 z, .slice va m cp] 26)))
    have IT := hide (fun w1 h F T => iCmdText_any k x y z va m cp xs w1 h (by omega) F T)
    have ST := hide (fun w1 h => sCmdText_any k x y z va m cp xs w1 h (by omega))
    have IO := hide (fun w1 h F => iCmdOk_any k x y z va m cp xs w1 h (by omega) F)
    have SO := hide (fun w1 h => sCmdOk_any k x y z va m cp xs w1 h (by omega))
    obtain ⟨rb, rt⟩ := cmd_back k x y z m xs hl
    have RB := hide rb
    have RT := hide rt
    have sl := cmdT_size k x y z m xs
    obtain ⟨S, hS⟩ : ∃ S, bs (cmdT k x y z m xs) = S := ⟨_, rfl⟩
    have SL : Hid (S.data.toList = cmdT k x y z m xs) := hide (by rw [← hS, bs_list])
    simp only [hS] at IT ST sl
    clear hS hb1 ho1 hr1 ev hxs rb rt hl
    obtain ⟨p, hp⟩ : ∃ p, w1.heap.size = p := ⟨_, rfl⟩
    obtain ⟨_, y0, y1, y2, y3, y4, _⟩ := C1.out
    go_wp2_with fail
    refine (IT.out _ C1.out.row (HF.out.below B1.out) (HV.out.below B1.out).tab).mono ?_
    rintro e w2 ⟨rfl, hb2⟩
    have C2 := hide (C1.out.below hb2)
    have B2 := hide (bstep B1.out hb2)
    rw [hp] at C2
    try simp only [hp]
    clear hb2 C1 B1 y0 y1 y2 y3 y4 hp
    go_wp2_with fail
    refine (drawReadCmd_any a n cap w2 (HC.out.below B2.out)).mono ?_
    rintro e w3 ⟨t, rfl, ht, hb3⟩
    have C3 := hide (C2.out.below hb3)
    have B3 := hide (bstep B2.out hb3)
    clear hb3 C2 B2
    have IR := hide (fun w1 F V M => iReadCmd_any t w1 (by omega) F V M)
    have SR := hide (fun w1 => sReadCmd_any t w1 (by omega))
    have TX := hide (fun h => readC_text (l := t.data.toList) h)
    obtain ⟨X, hX⟩ : ∃ X, readC t.data.toList = X := ⟨_, rfl⟩
    obtain ⟨b, hb⟩ : ∃ b, rdCB t.data.toList = b := ⟨_, rfl⟩
    unfold IRdC at IR
    unfold SRdC at SR
    simp only [hX, hb] at IR SR TX
    clear hX hb
    go_wp2_with fail
    refine (IR.out _ (HF.out.below B3.out) (HV.out.below B3.out) (HM.out.below B3.out)).mono ?_
    rintro e w4 ⟨a4, n4, c4, rfl, hm4, hn4, hb4⟩
    have nb4 := balloc (Below.refl w4.heap.size w4) (.cells #[.int .i64 X.k, .int .i64 X.a, .int .i64 X.b, .int .i64 X.c, .slice a4 n4 c4] 26)
    have C4 := hide ((C3.out.below hb4).below nb4)
    have B4 := hide (bstep (bstep B3.out hb4) nb4)
    have P4 := hide (CQ.new w4 X.k X.a X.b X.c a4 n4 c4 X.xs 26 hm4.row)
    have L4 := hide hm4.row.len
    clear hb4 nb4 hm4 C3 B3 IR
    go_wp2_with fail
    refine (SR.out _).mono ?_
    rintro e w5 ⟨a5, n5, c5, rfl, hr5, hn5, hb5⟩
    obtain rfl : n4 = n5 := by have := L4.out; have := hr5.len; omega
    have nb5 := balloc (Below.refl w5.heap.size w5) (.cells #[.int .i64 X.k, .int .i64 X.a, .int .i64 X.b, .int .i64 X.c, .slice a5 n4 c5] 26)
    have C5 := hide ((C4.out.below hb5).below nb5)
    have P5 := hide ((P4.out.below hb5).below nb5)
    have B5 := hide (bstep (bstep B4.out hb5) nb5)
    have Q5 := hide (CQ.new w5 X.k X.a X.b X.c a5 n4 c5 X.xs 26 hr5)
    clear hb5 nb5 hr5 C4 B4 P4 SR
    obtain ⟨_, y0, y1, y2, y3, y4, _⟩ := C5.out
    obtain ⟨_, d0, d1, d2, d3, d4, _⟩ := P5.out
    obtain ⟨_, e0, e1, e2, e3, e4, _⟩ := Q5.out
    have q1 : (S.toList == S.toList) = true := by simp
    have q2 : (b != b) = false := by cases b <;> rfl
    go_wp2_with fail
    refine (ST.out _ C5.out.row).mono ?_
    rintro e w6 ⟨rfl, hb6⟩
    have C6 := hide (C5.out.below hb6)
    have P6 := hide (P5.out.below hb6)
    have Q6 := hide (Q5.out.below hb6)
    have B6 := hide (bstep B5.out hb6)
    clear hb6 C5 P5 Q5 B5 y0 y1 y2 y3 y4 d0 d1 d2 d3 d4 e0 e1 e2 e3 e4
    obtain ⟨_, d0, d1, d2, d3, d4, _⟩ := P6.out
    obtain ⟨_, e0, e1, e2, e3, e4, _⟩ := Q6.out
    go_wp2_with fail
    refine (sameCmd_self X.k X.a X.b X.c a4 a5 n4 c4 c5 X.xs w6 P6.out.row Q6.out.row (by omega)).mono ?_
    rintro e w7 ⟨rfl, hb7⟩
    have C7 := hide (C6.out.below hb7)
    have P7 := hide (P6.out.below hb7)
    have B7 := hide (bstep B6.out hb7)
    clear hb7 C6 P6 Q6 B6 d0 d1 d2 d3 d4 e0 e1 e2 e3 e4
    cases b
    · clear P7 TX
      have IS := hide (fun w1 F V M => iReadCmd_any S w1 (by omega) F V M)
      unfold IRdC at IS
      simp only [SL.out, RB.out] at IS
      cases vo : cmdB k x y z m xs
      · rw [vo] at IS IO SO
        have rz : rdCB (cmdT k x y z m xs) = false := by rw [RB.out, vo]
        clear RT vo
        go_wp2_with fail
        refine (IS.out _ (HF.out.below B7.out) (HV.out.below B7.out) (HM.out.below B7.out)).mono ?_
        rintro e w9 ⟨a9, n9, c9, rfl, hm9, hn9, hb9⟩
        have nb9 := balloc (Below.refl w9.heap.size w9) (.cells #[.int .i64 (readC (cmdT k x y z m xs)).k, .int .i64 (readC (cmdT k x y z m xs)).a, .int .i64 (readC (cmdT k x y z m xs)).b, .int .i64 (readC (cmdT k x y z m xs)).c, .slice a9 n9 c9] 26)
        have C9 := hide ((C7.out.below hb9).below nb9)
        have B9 := hide (bstep (bstep B7.out hb9) nb9)
        clear hb9 nb9 hm9 C7 B7 IS
        obtain ⟨_, y0, y1, y2, y3, y4, _⟩ := C9.out
        go_wp2_with fail
        refine (SO.out _ C9.out.row).mono ?_
        rintro e w10 ⟨rfl, hb10⟩
        have C10 := hide (C9.out.below hb10)
        have B10 := hide (bstep B9.out hb10)
        clear hb10 C9 B9 y0 y1 y2 y3 y4
        obtain ⟨_, y0, y1, y2, y3, y4, _⟩ := C10.out
        go_wp2_with fail
        refine (IO.out _ C10.out.row (HF.out.below B10.out)).mono ?_
        rintro e w11 ⟨rfl, hb11⟩
        have B11 := hide (bstep B10.out hb11)
        clear hb11 C10 B10 y0 y1 y2 y3 y4
        go_wp2_with fail
        go_ret
        exact ⟨rfl, B11.out⟩
      · rw [vo] at IS IO SO
        have er := RT.out vo
        rw [er] at IS
        clear RT vo er
        go_wp2_with fail
        refine (IS.out _ (HF.out.below B7.out) (HV.out.below B7.out) (HM.out.below B7.out)).mono ?_
        rintro e w9 ⟨a9, n9, c9, rfl, hm9, hn9, hb9⟩
        obtain rfl : n9 = m := by have := hm9.len; have := C7.out.row.len; simp at *; omega
        have nb9 := balloc (Below.refl w9.heap.size w9) (.cells #[.int .i64 k, .int .i64 x, .int .i64 y, .int .i64 z, .slice a9 n9 c9] 26)
        have C9 := hide ((C7.out.below hb9).below nb9)
        have Y9 := hide (CQ.new w9 k x y z a9 n9 c9 xs 26 hm9.row)
        have B9 := hide (bstep (bstep B7.out hb9) nb9)
        clear hb9 nb9 hm9 C7 B7 IS
        obtain ⟨_, y0, y1, y2, y3, y4, _⟩ := C9.out
        go_wp2_with fail
        refine (SO.out _ C9.out.row).mono ?_
        rintro e w10 ⟨rfl, hb10⟩
        have C10 := hide (C9.out.below hb10)
        have Y10 := hide (Y9.out.below hb10)
        have B10 := hide (bstep B9.out hb10)
        clear hb10 C9 Y9 B9 y0 y1 y2 y3 y4
        obtain ⟨_, y0, y1, y2, y3, y4, _⟩ := C10.out
        go_wp2_with fail
        refine (IO.out _ C10.out.row (HF.out.below B10.out)).mono ?_
        rintro e w11 ⟨rfl, hb11⟩
        have C11 := hide (C10.out.below hb11)
        have Y11 := hide (Y10.out.below hb11)
        have B11 := hide (bstep B10.out hb11)
        clear hb11 C10 Y10 B10 y0 y1 y2 y3 y4
        obtain ⟨_, y0, y1, y2, y3, y4, _⟩ := C11.out
        obtain ⟨_, o0, o1, o2, o3, o4, _⟩ := Y11.out
        go_wp2_with fail
        refine (sameCmd_self k x y z a9 va n9 c9 cp xs w11 Y11.out.row C11.out.row (by omega)).mono ?_
        rintro e w12 ⟨rfl, hb12⟩
        have B12 := hide (bstep B11.out hb12)
        clear hb12
        go_wp2_with fail
        go_ret
        exact ⟨rfl, B12.out⟩
    · have q3 : ((bs (cmT X)).toList == t.toList) = true := sEq5 (by rw [bs_list]; exact TX.out rfl)
      have XT := hide (iCmdText_any X.k X.a X.b X.c a4 n4 c4 X.xs w7 P7.out.row (by omega) (HF.out.below B7.out) (HV.out.below B7.out).tab)
      have e4' := L4.out
      unfold cmT at q3
      rw [e4'] at q3
      obtain ⟨_, d0, d1, d2, d3, d4, _⟩ := P7.out
      clear e4'
      go_wp2_with fail
      refine XT.out.mono ?_
      rintro e w8 ⟨rfl, hb8⟩
      have B8 := hide (bstep B7.out hb8)
      have C8 := hide (C7.out.below hb8)
      clear hb8 d0 d1 d2 d3 d4 P7 B7 C7 XT
      have IS := hide (fun w1 F V M => iReadCmd_any S w1 (by omega) F V M)
      unfold IRdC at IS
      simp only [SL.out, RB.out] at IS
      cases vo : cmdB k x y z m xs
      · rw [vo] at IS IO SO
        have rz : rdCB (cmdT k x y z m xs) = false := by rw [RB.out, vo]
        clear RT vo
        go_wp2_with fail
        refine (IS.out _ (HF.out.below B8.out) (HV.out.below B8.out) (HM.out.below B8.out)).mono ?_
        rintro e w9 ⟨a9, n9, c9, rfl, hm9, hn9, hb9⟩
        have nb9 := balloc (Below.refl w9.heap.size w9) (.cells #[.int .i64 (readC (cmdT k x y z m xs)).k, .int .i64 (readC (cmdT k x y z m xs)).a, .int .i64 (readC (cmdT k x y z m xs)).b, .int .i64 (readC (cmdT k x y z m xs)).c, .slice a9 n9 c9] 26)
        have C9 := hide ((C8.out.below hb9).below nb9)
        have B9 := hide (bstep (bstep B8.out hb9) nb9)
        clear hb9 nb9 hm9 C8 B8 IS
        obtain ⟨_, y0, y1, y2, y3, y4, _⟩ := C9.out
        go_wp2_with fail
        refine (SO.out _ C9.out.row).mono ?_
        rintro e w10 ⟨rfl, hb10⟩
        have C10 := hide (C9.out.below hb10)
        have B10 := hide (bstep B9.out hb10)
        clear hb10 C9 B9 y0 y1 y2 y3 y4
        obtain ⟨_, y0, y1, y2, y3, y4, _⟩ := C10.out
        go_wp2_with fail
        refine (IO.out _ C10.out.row (HF.out.below B10.out)).mono ?_
        rintro e w11 ⟨rfl, hb11⟩
        have B11 := hide (bstep B10.out hb11)
        clear hb11 C10 B10 y0 y1 y2 y3 y4
        go_wp2_with fail
        go_ret
        exact ⟨rfl, B11.out⟩
      · rw [vo] at IS IO SO
        have er := RT.out vo
        rw [er] at IS
        clear RT vo er
        go_wp2_with fail
        refine (IS.out _ (HF.out.below B8.out) (HV.out.below B8.out) (HM.out.below B8.out)).mono ?_
        rintro e w9 ⟨a9, n9, c9, rfl, hm9, hn9, hb9⟩
        obtain rfl : n9 = m := by have := hm9.len; have := C8.out.row.len; simp at *; omega
        have nb9 := balloc (Below.refl w9.heap.size w9) (.cells #[.int .i64 k, .int .i64 x, .int .i64 y, .int .i64 z, .slice a9 n9 c9] 26)
        have C9 := hide ((C8.out.below hb9).below nb9)
        have Y9 := hide (CQ.new w9 k x y z a9 n9 c9 xs 26 hm9.row)
        have B9 := hide (bstep (bstep B8.out hb9) nb9)
        clear hb9 nb9 hm9 C8 B8 IS
        obtain ⟨_, y0, y1, y2, y3, y4, _⟩ := C9.out
        go_wp2_with fail
        refine (SO.out _ C9.out.row).mono ?_
        rintro e w10 ⟨rfl, hb10⟩
        have C10 := hide (C9.out.below hb10)
        have Y10 := hide (Y9.out.below hb10)
        have B10 := hide (bstep B9.out hb10)
        clear hb10 C9 Y9 B9 y0 y1 y2 y3 y4
        obtain ⟨_, y0, y1, y2, y3, y4, _⟩ := C10.out
        go_wp2_with fail
        refine (IO.out _ C10.out.row (HF.out.below B10.out)).mono ?_
        rintro e w11 ⟨rfl, hb11⟩
        have C11 := hide (C10.out.below hb11)
        have Y11 := hide (Y10.out.below hb11)
        have B11 := hide (bstep B10.out hb11)
        clear hb11 C10 Y10 B10 y0 y1 y2 y3 y4
        obtain ⟨_, y0, y1, y2, y3, y4, _⟩ := C11.out
        obtain ⟨_, o0, o1, o2, o3, o4, _⟩ := Y11.out
        go_wp2_with fail
        refine (sameCmd_self k x y z a9 va n9 c9 cp xs w11 Y11.out.row C11.out.row (by omega)).mono ?_
        rintro e w12 ⟨rfl, hb12⟩
        have B12 := hide (bstep B11.out hb12)
        clear hb12
        go_wp2_with fail
        go_ret
        exact ⟨rfl, B12.out⟩
  · rw [decide_eq_true (show 1048576 < n by omega)] at BG
    go_enter Tryz.func3, Tryz.ntmps3
    go_wp2_with fail
    refine BG.out.mono ?_
    rintro e w' ⟨rfl, rfl⟩
    go_wp2
    go_ret
    exact ⟨rfl, (by repeat' first | with_reducible exact Below.refl _ _ | with_reducible assumption | with_reducible refine below_drewN ?_ _ | with_reducible refine balloc ?_ _ | with_reducible refine Below.drew ?_ | with_reducible refine Below.setCell ?_ (by first | (simp; done) | (simp; omega) | omega) _ | with_reducible refine bstep ?_ (by assumption))⟩
end Go.Proofs.YtggjcccdeaadbaaGreatDoor
