/- CmdOk of the model: the walk. -/
import Derived.Test.YtlmiamohhmabhaaDoorXA3
namespace Go.Proofs.YtlmiamohhmabhaaDoor
open Go.RowKit
set_option maxRecDepth 8000
set_option linter.unusedSimpArgs false
set_option linter.unusedVariables false

set_option maxHeartbeats 8000000 in
set_option maxRecDepth 4000 in
theorem sCmdOk1 (a b c : Int) (va : Option Addr) (vn vc : Nat) (xs : List Int) (w : World) (rv : Row w va vn xs) (hn : vn ≤ 1048576) :
    Calls Tryd.prog 7 #[.agg #[.int .i64 1, .int .i64 a, .int .i64 b, .int .i64 c, .slice va vn vc]] w fun e w' => e = .returned (.bool (cmdB 1 a b c vn xs)) ∧ Below w.heap.size w w' := by
  have C0 := hide (v5_new w (.int .i64 1) (.int .i64 a) (.int .i64 b) (.int .i64 c) (.slice va vn vc) 27)
  have B0 : Hid (Below w.heap.size w (w.alloc (.cells #[.int .i64 1, .int .i64 a, .int .i64 b, .int .i64 c, .slice va vn vc] 27))) := hide (balloc (Below.refl _ _) _)
  have LK := hide (fun w1 => l1In_any 1 1 7 w1)
  rw [show inB 1 1 7 = true from by decide] at LK
  have NU := hide (fun w1 => nums1 a b c va vn vc w1)
  have US := hide (fun w1 => uses1 w1)
  have VO := hide (fun w1 (s : Below w.heap.size w w1) => sVecOk_any va vn vc xs w1 (rv.below s) hn)
  clear rv
  obtain ⟨_, y0, y1, y2, y3, y4, _⟩ := v5_facts C0.out
  have hE : cmdB 1 a b c vn xs = (inB a 1 8 && (inB b 0 0 && (inB c 0 0 && (if false then vecOkB xs else decide (vn = 0))))) := by
    rw [show cmdB 1 a b c vn xs = fitsB 1 8 0 0 0 0 false a b c vn xs from rfl]
    unfold fitsB
    rw [in_and, in_and, in_and]
  rw [hE]
  clear hE
  obtain ⟨e0, he0⟩ : ∃ e, inB a 1 8 = e := ⟨_, rfl⟩
  rw [he0] at NU ⊢
  obtain ⟨e1, he1⟩ : ∃ e, inB b 0 0 = e := ⟨_, rfl⟩
  rw [he1]
  obtain ⟨e2, he2⟩ : ∃ e, inB c 0 0 = e := ⟨_, rfl⟩
  rw [he2]
  have H0 := hide he0
  clear he0
  have H1 := hide he1
  clear he1
  have H2 := hide he2
  clear he2
  cases e0
  · skip
    go_enter Tryd.func7, Tryd.ntmps7
    go_wp2_with fail
    refine (LK.out _).mono ?_
    rintro e w1 ⟨rfl, hw⟩
    obtain rfl := hw.symm
    clear hw
    go_wp2_with fail
    refine (NU.out _).mono ?_
    rintro e w2 ⟨rfl, hb2⟩
    have C2 := hide (row_belowC C0.out hb2)
    have B2 := hide (bstep B0.out hb2)
    clear hb2 C0 B0 NU y0 y1 y2 y3 y4
    go_wp2_with fail
    go_ret
    exact ⟨by simp, B2.out⟩
  · skip
    cases e1
    · skip
      have z1 := in_some H1.out
      go_enter Tryd.func7, Tryd.ntmps7
      go_wp2_with fail
      refine (LK.out _).mono ?_
      rintro e w1 ⟨rfl, hw⟩
      obtain rfl := hw.symm
      clear hw
      go_wp2_with fail
      refine (NU.out _).mono ?_
      rintro e w2 ⟨rfl, hb2⟩
      have C2 := hide (row_belowC C0.out hb2)
      have B2 := hide (bstep B0.out hb2)
      clear hb2 C0 B0 NU y0 y1 y2 y3 y4
      obtain ⟨_, y0, y1, y2, y3, y4, _⟩ := v5_facts C2.out
      go_wp2_with fail
      refine (US.out _).mono ?_
      rintro e w3 ⟨rfl, hb3⟩
      have C3 := hide (row_belowC C2.out hb3)
      have B3 := hide (bstep B2.out hb3)
      clear hb3 C2 B2 US y0 y1 y2 y3 y4
      obtain ⟨_, y0, y1, y2, y3, y4, _⟩ := v5_facts C3.out
      go_wp2_with fail
      go_ret
      exact ⟨by simp, B3.out⟩
    · skip
      have z1 : (b != 0) = false := by rw [in_zero H1.out]; rfl
      cases e2
      · skip
        have z2 := in_some H2.out
        go_enter Tryd.func7, Tryd.ntmps7
        go_wp2_with fail
        refine (LK.out _).mono ?_
        rintro e w1 ⟨rfl, hw⟩
        obtain rfl := hw.symm
        clear hw
        go_wp2_with fail
        refine (NU.out _).mono ?_
        rintro e w2 ⟨rfl, hb2⟩
        have C2 := hide (row_belowC C0.out hb2)
        have B2 := hide (bstep B0.out hb2)
        clear hb2 C0 B0 NU y0 y1 y2 y3 y4
        obtain ⟨_, y0, y1, y2, y3, y4, _⟩ := v5_facts C2.out
        go_wp2_with fail
        refine (US.out _).mono ?_
        rintro e w3 ⟨rfl, hb3⟩
        have C3 := hide (row_belowC C2.out hb3)
        have B3 := hide (bstep B2.out hb3)
        clear hb3 C2 B2 US y0 y1 y2 y3 y4
        obtain ⟨_, y0, y1, y2, y3, y4, _⟩ := v5_facts C3.out
        go_wp2_with fail
        go_ret
        exact ⟨by simp, B3.out⟩
      · skip
        have z2 : (c != 0) = false := by rw [in_zero H2.out]; rfl
        go_enter Tryd.func7, Tryd.ntmps7
        go_wp2_with fail
        refine (LK.out _).mono ?_
        rintro e w1 ⟨rfl, hw⟩
        obtain rfl := hw.symm
        clear hw
        go_wp2_with fail
        refine (NU.out _).mono ?_
        rintro e w2 ⟨rfl, hb2⟩
        have C2 := hide (row_belowC C0.out hb2)
        have B2 := hide (bstep B0.out hb2)
        clear hb2 C0 B0 NU y0 y1 y2 y3 y4
        obtain ⟨_, y0, y1, y2, y3, y4, _⟩ := v5_facts C2.out
        go_wp2_with fail
        refine (US.out _).mono ?_
        rintro e w3 ⟨rfl, hb3⟩
        have C3 := hide (row_belowC C2.out hb3)
        have B3 := hide (bstep B2.out hb3)
        clear hb3 C2 B2 US y0 y1 y2 y3 y4
        obtain ⟨_, y0, y1, y2, y3, y4, _⟩ := v5_facts C3.out
        by_cases hv : vn = 0
        · have h1 : ((vn : Int) == 0) = true := by simp [hv]
          have HV := hide hv
          clear hv
          go_wp2_with fail
          go_ret
          exact ⟨by simp [HV.out], B3.out⟩
        · have h1 : ((vn : Int) == 0) = false := by simp [hv]
          have HV := hide hv
          clear hv
          go_wp2_with fail
          go_ret
          exact ⟨by simp [HV.out], B3.out⟩

set_option maxHeartbeats 8000000 in
set_option maxRecDepth 4000 in
theorem sCmdOk2 (a b c : Int) (va : Option Addr) (vn vc : Nat) (xs : List Int) (w : World) (rv : Row w va vn xs) (hn : vn ≤ 1048576) :
    Calls Tryd.prog 7 #[.agg #[.int .i64 2, .int .i64 a, .int .i64 b, .int .i64 c, .slice va vn vc]] w fun e w' => e = .returned (.bool (cmdB 2 a b c vn xs)) ∧ Below w.heap.size w w' := by
  have C0 := hide (v5_new w (.int .i64 2) (.int .i64 a) (.int .i64 b) (.int .i64 c) (.slice va vn vc) 27)
  have B0 : Hid (Below w.heap.size w (w.alloc (.cells #[.int .i64 2, .int .i64 a, .int .i64 b, .int .i64 c, .slice va vn vc] 27))) := hide (balloc (Below.refl _ _) _)
  have LK := hide (fun w1 => l1In_any 2 1 7 w1)
  rw [show inB 2 1 7 = true from by decide] at LK
  have NU := hide (fun w1 => nums2 a b c va vn vc w1)
  have US := hide (fun w1 => uses2 w1)
  have VO := hide (fun w1 (s : Below w.heap.size w w1) => sVecOk_any va vn vc xs w1 (rv.below s) hn)
  clear rv
  obtain ⟨_, y0, y1, y2, y3, y4, _⟩ := v5_facts C0.out
  have hE : cmdB 2 a b c vn xs = (inB a 1 9999 && (inB b 0 255 && (inB c 0 0 && (if true then vecOkB xs else decide (vn = 0))))) := by
    rw [show cmdB 2 a b c vn xs = fitsB 1 9999 0 255 0 0 true a b c vn xs from rfl]
    unfold fitsB
    rw [in_and, in_and, in_and]
  rw [hE]
  clear hE
  obtain ⟨e0, he0⟩ : ∃ e, inB a 1 9999 = e := ⟨_, rfl⟩
  rw [he0] at NU ⊢
  obtain ⟨e1, he1⟩ : ∃ e, inB b 0 255 = e := ⟨_, rfl⟩
  rw [he1] at NU ⊢
  obtain ⟨e2, he2⟩ : ∃ e, inB c 0 0 = e := ⟨_, rfl⟩
  rw [he2]
  have H0 := hide he0
  clear he0
  have H1 := hide he1
  clear he1
  have H2 := hide he2
  clear he2
  cases e0
  · skip
    go_enter Tryd.func7, Tryd.ntmps7
    go_wp2_with fail
    refine (LK.out _).mono ?_
    rintro e w1 ⟨rfl, hw⟩
    obtain rfl := hw.symm
    clear hw
    go_wp2_with fail
    refine (NU.out _).mono ?_
    rintro e w2 ⟨rfl, hb2⟩
    have C2 := hide (row_belowC C0.out hb2)
    have B2 := hide (bstep B0.out hb2)
    clear hb2 C0 B0 NU y0 y1 y2 y3 y4
    go_wp2_with fail
    go_ret
    exact ⟨by simp, B2.out⟩
  · skip
    cases e1
    · skip
      go_enter Tryd.func7, Tryd.ntmps7
      go_wp2_with fail
      refine (LK.out _).mono ?_
      rintro e w1 ⟨rfl, hw⟩
      obtain rfl := hw.symm
      clear hw
      go_wp2_with fail
      refine (NU.out _).mono ?_
      rintro e w2 ⟨rfl, hb2⟩
      have C2 := hide (row_belowC C0.out hb2)
      have B2 := hide (bstep B0.out hb2)
      clear hb2 C0 B0 NU y0 y1 y2 y3 y4
      go_wp2_with fail
      go_ret
      exact ⟨by simp, B2.out⟩
    · skip
      cases e2
      · skip
        have z2 := in_some H2.out
        go_enter Tryd.func7, Tryd.ntmps7
        go_wp2_with fail
        refine (LK.out _).mono ?_
        rintro e w1 ⟨rfl, hw⟩
        obtain rfl := hw.symm
        clear hw
        go_wp2_with fail
        refine (NU.out _).mono ?_
        rintro e w2 ⟨rfl, hb2⟩
        have C2 := hide (row_belowC C0.out hb2)
        have B2 := hide (bstep B0.out hb2)
        clear hb2 C0 B0 NU y0 y1 y2 y3 y4
        obtain ⟨_, y0, y1, y2, y3, y4, _⟩ := v5_facts C2.out
        go_wp2_with fail
        refine (US.out _).mono ?_
        rintro e w3 ⟨rfl, hb3⟩
        have C3 := hide (row_belowC C2.out hb3)
        have B3 := hide (bstep B2.out hb3)
        clear hb3 C2 B2 US y0 y1 y2 y3 y4
        obtain ⟨_, y0, y1, y2, y3, y4, _⟩ := v5_facts C3.out
        go_wp2_with fail
        go_ret
        exact ⟨by simp, B3.out⟩
      · skip
        have z2 : (c != 0) = false := by rw [in_zero H2.out]; rfl
        go_enter Tryd.func7, Tryd.ntmps7
        go_wp2_with fail
        refine (LK.out _).mono ?_
        rintro e w1 ⟨rfl, hw⟩
        obtain rfl := hw.symm
        clear hw
        go_wp2_with fail
        refine (NU.out _).mono ?_
        rintro e w2 ⟨rfl, hb2⟩
        have C2 := hide (row_belowC C0.out hb2)
        have B2 := hide (bstep B0.out hb2)
        clear hb2 C0 B0 NU y0 y1 y2 y3 y4
        obtain ⟨_, y0, y1, y2, y3, y4, _⟩ := v5_facts C2.out
        go_wp2_with fail
        refine (US.out _).mono ?_
        rintro e w3 ⟨rfl, hb3⟩
        have C3 := hide (row_belowC C2.out hb3)
        have B3 := hide (bstep B2.out hb3)
        clear hb3 C2 B2 US y0 y1 y2 y3 y4
        obtain ⟨_, y0, y1, y2, y3, y4, _⟩ := v5_facts C3.out
        go_wp2_with fail
        refine (VO.out _ B3.out).mono ?_
        rintro e w4 ⟨rfl, hw⟩
        obtain rfl := hw.symm
        clear hw
        obtain ⟨R, hR⟩ : ∃ R, vecOkB xs = R := ⟨_, rfl⟩
        rw [hR]
        have HR := hide hR
        clear hR
        cases R
        all_goals
          go_wp2_with fail
          go_ret
          exact ⟨by simp [HR.out], B3.out⟩

set_option maxHeartbeats 8000000 in
set_option maxRecDepth 4000 in
theorem sCmdOk3 (a b c : Int) (va : Option Addr) (vn vc : Nat) (xs : List Int) (w : World) (rv : Row w va vn xs) (hn : vn ≤ 1048576) :
    Calls Tryd.prog 7 #[.agg #[.int .i64 3, .int .i64 a, .int .i64 b, .int .i64 c, .slice va vn vc]] w fun e w' => e = .returned (.bool (cmdB 3 a b c vn xs)) ∧ Below w.heap.size w w' := by
  have C0 := hide (v5_new w (.int .i64 3) (.int .i64 a) (.int .i64 b) (.int .i64 c) (.slice va vn vc) 27)
  have B0 : Hid (Below w.heap.size w (w.alloc (.cells #[.int .i64 3, .int .i64 a, .int .i64 b, .int .i64 c, .slice va vn vc] 27))) := hide (balloc (Below.refl _ _) _)
  have LK := hide (fun w1 => l1In_any 3 1 7 w1)
  rw [show inB 3 1 7 = true from by decide] at LK
  have NU := hide (fun w1 => nums3 a b c va vn vc w1)
  have US := hide (fun w1 => uses3 w1)
  have VO := hide (fun w1 (s : Below w.heap.size w w1) => sVecOk_any va vn vc xs w1 (rv.below s) hn)
  clear rv
  obtain ⟨_, y0, y1, y2, y3, y4, _⟩ := v5_facts C0.out
  have hE : cmdB 3 a b c vn xs = (inB a 1 9999 && (inB b 0 0 && (inB c 0 0 && (if false then vecOkB xs else decide (vn = 0))))) := by
    rw [show cmdB 3 a b c vn xs = fitsB 1 9999 0 0 0 0 false a b c vn xs from rfl]
    unfold fitsB
    rw [in_and, in_and, in_and]
  rw [hE]
  clear hE
  obtain ⟨e0, he0⟩ : ∃ e, inB a 1 9999 = e := ⟨_, rfl⟩
  rw [he0] at NU ⊢
  obtain ⟨e1, he1⟩ : ∃ e, inB b 0 0 = e := ⟨_, rfl⟩
  rw [he1]
  obtain ⟨e2, he2⟩ : ∃ e, inB c 0 0 = e := ⟨_, rfl⟩
  rw [he2]
  have H0 := hide he0
  clear he0
  have H1 := hide he1
  clear he1
  have H2 := hide he2
  clear he2
  cases e0
  · skip
    go_enter Tryd.func7, Tryd.ntmps7
    go_wp2_with fail
    refine (LK.out _).mono ?_
    rintro e w1 ⟨rfl, hw⟩
    obtain rfl := hw.symm
    clear hw
    go_wp2_with fail
    refine (NU.out _).mono ?_
    rintro e w2 ⟨rfl, hb2⟩
    have C2 := hide (row_belowC C0.out hb2)
    have B2 := hide (bstep B0.out hb2)
    clear hb2 C0 B0 NU y0 y1 y2 y3 y4
    go_wp2_with fail
    go_ret
    exact ⟨by simp, B2.out⟩
  · skip
    cases e1
    · skip
      have z1 := in_some H1.out
      go_enter Tryd.func7, Tryd.ntmps7
      go_wp2_with fail
      refine (LK.out _).mono ?_
      rintro e w1 ⟨rfl, hw⟩
      obtain rfl := hw.symm
      clear hw
      go_wp2_with fail
      refine (NU.out _).mono ?_
      rintro e w2 ⟨rfl, hb2⟩
      have C2 := hide (row_belowC C0.out hb2)
      have B2 := hide (bstep B0.out hb2)
      clear hb2 C0 B0 NU y0 y1 y2 y3 y4
      obtain ⟨_, y0, y1, y2, y3, y4, _⟩ := v5_facts C2.out
      go_wp2_with fail
      refine (US.out _).mono ?_
      rintro e w3 ⟨rfl, hb3⟩
      have C3 := hide (row_belowC C2.out hb3)
      have B3 := hide (bstep B2.out hb3)
      clear hb3 C2 B2 US y0 y1 y2 y3 y4
      obtain ⟨_, y0, y1, y2, y3, y4, _⟩ := v5_facts C3.out
      go_wp2_with fail
      go_ret
      exact ⟨by simp, B3.out⟩
    · skip
      have z1 : (b != 0) = false := by rw [in_zero H1.out]; rfl
      cases e2
      · skip
        have z2 := in_some H2.out
        go_enter Tryd.func7, Tryd.ntmps7
        go_wp2_with fail
        refine (LK.out _).mono ?_
        rintro e w1 ⟨rfl, hw⟩
        obtain rfl := hw.symm
        clear hw
        go_wp2_with fail
        refine (NU.out _).mono ?_
        rintro e w2 ⟨rfl, hb2⟩
        have C2 := hide (row_belowC C0.out hb2)
        have B2 := hide (bstep B0.out hb2)
        clear hb2 C0 B0 NU y0 y1 y2 y3 y4
        obtain ⟨_, y0, y1, y2, y3, y4, _⟩ := v5_facts C2.out
        go_wp2_with fail
        refine (US.out _).mono ?_
        rintro e w3 ⟨rfl, hb3⟩
        have C3 := hide (row_belowC C2.out hb3)
        have B3 := hide (bstep B2.out hb3)
        clear hb3 C2 B2 US y0 y1 y2 y3 y4
        obtain ⟨_, y0, y1, y2, y3, y4, _⟩ := v5_facts C3.out
        go_wp2_with fail
        go_ret
        exact ⟨by simp, B3.out⟩
      · skip
        have z2 : (c != 0) = false := by rw [in_zero H2.out]; rfl
        go_enter Tryd.func7, Tryd.ntmps7
        go_wp2_with fail
        refine (LK.out _).mono ?_
        rintro e w1 ⟨rfl, hw⟩
        obtain rfl := hw.symm
        clear hw
        go_wp2_with fail
        refine (NU.out _).mono ?_
        rintro e w2 ⟨rfl, hb2⟩
        have C2 := hide (row_belowC C0.out hb2)
        have B2 := hide (bstep B0.out hb2)
        clear hb2 C0 B0 NU y0 y1 y2 y3 y4
        obtain ⟨_, y0, y1, y2, y3, y4, _⟩ := v5_facts C2.out
        go_wp2_with fail
        refine (US.out _).mono ?_
        rintro e w3 ⟨rfl, hb3⟩
        have C3 := hide (row_belowC C2.out hb3)
        have B3 := hide (bstep B2.out hb3)
        clear hb3 C2 B2 US y0 y1 y2 y3 y4
        obtain ⟨_, y0, y1, y2, y3, y4, _⟩ := v5_facts C3.out
        by_cases hv : vn = 0
        · have h1 : ((vn : Int) == 0) = true := by simp [hv]
          have HV := hide hv
          clear hv
          go_wp2_with fail
          go_ret
          exact ⟨by simp [HV.out], B3.out⟩
        · have h1 : ((vn : Int) == 0) = false := by simp [hv]
          have HV := hide hv
          clear hv
          go_wp2_with fail
          go_ret
          exact ⟨by simp [HV.out], B3.out⟩

set_option maxHeartbeats 8000000 in
set_option maxRecDepth 4000 in
theorem sCmdOk4 (a b c : Int) (va : Option Addr) (vn vc : Nat) (xs : List Int) (w : World) (rv : Row w va vn xs) (hn : vn ≤ 1048576) :
    Calls Tryd.prog 7 #[.agg #[.int .i64 4, .int .i64 a, .int .i64 b, .int .i64 c, .slice va vn vc]] w fun e w' => e = .returned (.bool (cmdB 4 a b c vn xs)) ∧ Below w.heap.size w w' := by
  have C0 := hide (v5_new w (.int .i64 4) (.int .i64 a) (.int .i64 b) (.int .i64 c) (.slice va vn vc) 27)
  have B0 : Hid (Below w.heap.size w (w.alloc (.cells #[.int .i64 4, .int .i64 a, .int .i64 b, .int .i64 c, .slice va vn vc] 27))) := hide (balloc (Below.refl _ _) _)
  have LK := hide (fun w1 => l1In_any 4 1 7 w1)
  rw [show inB 4 1 7 = true from by decide] at LK
  have NU := hide (fun w1 => nums4 a b c va vn vc w1)
  have US := hide (fun w1 => uses4 w1)
  have VO := hide (fun w1 (s : Below w.heap.size w w1) => sVecOk_any va vn vc xs w1 (rv.below s) hn)
  clear rv
  obtain ⟨_, y0, y1, y2, y3, y4, _⟩ := v5_facts C0.out
  have hE : cmdB 4 a b c vn xs = (inB a 0 0 && (inB b 0 0 && (inB c 0 0 && (if false then vecOkB xs else decide (vn = 0))))) := by
    rw [show cmdB 4 a b c vn xs = fitsB 0 0 0 0 0 0 false a b c vn xs from rfl]
    unfold fitsB
    rw [in_and, in_and, in_and]
  rw [hE]
  clear hE
  obtain ⟨e0, he0⟩ : ∃ e, inB a 0 0 = e := ⟨_, rfl⟩
  rw [he0]
  obtain ⟨e1, he1⟩ : ∃ e, inB b 0 0 = e := ⟨_, rfl⟩
  rw [he1]
  obtain ⟨e2, he2⟩ : ∃ e, inB c 0 0 = e := ⟨_, rfl⟩
  rw [he2]
  have H0 := hide he0
  clear he0
  have H1 := hide he1
  clear he1
  have H2 := hide he2
  clear he2
  cases e0
  · skip
    have z0 := in_some H0.out
    go_enter Tryd.func7, Tryd.ntmps7
    go_wp2_with fail
    refine (LK.out _).mono ?_
    rintro e w1 ⟨rfl, hw⟩
    obtain rfl := hw.symm
    clear hw
    go_wp2_with fail
    refine (NU.out _).mono ?_
    rintro e w2 ⟨rfl, hb2⟩
    have C2 := hide (row_belowC C0.out hb2)
    have B2 := hide (bstep B0.out hb2)
    clear hb2 C0 B0 NU y0 y1 y2 y3 y4
    obtain ⟨_, y0, y1, y2, y3, y4, _⟩ := v5_facts C2.out
    go_wp2_with fail
    refine (US.out _).mono ?_
    rintro e w3 ⟨rfl, hb3⟩
    have C3 := hide (row_belowC C2.out hb3)
    have B3 := hide (bstep B2.out hb3)
    clear hb3 C2 B2 US y0 y1 y2 y3 y4
    obtain ⟨_, y0, y1, y2, y3, y4, _⟩ := v5_facts C3.out
    go_wp2_with fail
    go_ret
    exact ⟨by simp, B3.out⟩
  · skip
    have z0 : (a != 0) = false := by rw [in_zero H0.out]; rfl
    cases e1
    · skip
      have z1 := in_some H1.out
      go_enter Tryd.func7, Tryd.ntmps7
      go_wp2_with fail
      refine (LK.out _).mono ?_
      rintro e w1 ⟨rfl, hw⟩
      obtain rfl := hw.symm
      clear hw
      go_wp2_with fail
      refine (NU.out _).mono ?_
      rintro e w2 ⟨rfl, hb2⟩
      have C2 := hide (row_belowC C0.out hb2)
      have B2 := hide (bstep B0.out hb2)
      clear hb2 C0 B0 NU y0 y1 y2 y3 y4
      obtain ⟨_, y0, y1, y2, y3, y4, _⟩ := v5_facts C2.out
      go_wp2_with fail
      refine (US.out _).mono ?_
      rintro e w3 ⟨rfl, hb3⟩
      have C3 := hide (row_belowC C2.out hb3)
      have B3 := hide (bstep B2.out hb3)
      clear hb3 C2 B2 US y0 y1 y2 y3 y4
      obtain ⟨_, y0, y1, y2, y3, y4, _⟩ := v5_facts C3.out
      go_wp2_with fail
      go_ret
      exact ⟨by simp, B3.out⟩
    · skip
      have z1 : (b != 0) = false := by rw [in_zero H1.out]; rfl
      cases e2
      · skip
        have z2 := in_some H2.out
        go_enter Tryd.func7, Tryd.ntmps7
        go_wp2_with fail
        refine (LK.out _).mono ?_
        rintro e w1 ⟨rfl, hw⟩
        obtain rfl := hw.symm
        clear hw
        go_wp2_with fail
        refine (NU.out _).mono ?_
        rintro e w2 ⟨rfl, hb2⟩
        have C2 := hide (row_belowC C0.out hb2)
        have B2 := hide (bstep B0.out hb2)
        clear hb2 C0 B0 NU y0 y1 y2 y3 y4
        obtain ⟨_, y0, y1, y2, y3, y4, _⟩ := v5_facts C2.out
        go_wp2_with fail
        refine (US.out _).mono ?_
        rintro e w3 ⟨rfl, hb3⟩
        have C3 := hide (row_belowC C2.out hb3)
        have B3 := hide (bstep B2.out hb3)
        clear hb3 C2 B2 US y0 y1 y2 y3 y4
        obtain ⟨_, y0, y1, y2, y3, y4, _⟩ := v5_facts C3.out
        go_wp2_with fail
        go_ret
        exact ⟨by simp, B3.out⟩
      · skip
        have z2 : (c != 0) = false := by rw [in_zero H2.out]; rfl
        go_enter Tryd.func7, Tryd.ntmps7
        go_wp2_with fail
        refine (LK.out _).mono ?_
        rintro e w1 ⟨rfl, hw⟩
        obtain rfl := hw.symm
        clear hw
        go_wp2_with fail
        refine (NU.out _).mono ?_
        rintro e w2 ⟨rfl, hb2⟩
        have C2 := hide (row_belowC C0.out hb2)
        have B2 := hide (bstep B0.out hb2)
        clear hb2 C0 B0 NU y0 y1 y2 y3 y4
        obtain ⟨_, y0, y1, y2, y3, y4, _⟩ := v5_facts C2.out
        go_wp2_with fail
        refine (US.out _).mono ?_
        rintro e w3 ⟨rfl, hb3⟩
        have C3 := hide (row_belowC C2.out hb3)
        have B3 := hide (bstep B2.out hb3)
        clear hb3 C2 B2 US y0 y1 y2 y3 y4
        obtain ⟨_, y0, y1, y2, y3, y4, _⟩ := v5_facts C3.out
        by_cases hv : vn = 0
        · have h1 : ((vn : Int) == 0) = true := by simp [hv]
          have HV := hide hv
          clear hv
          go_wp2_with fail
          go_ret
          exact ⟨by simp [HV.out], B3.out⟩
        · have h1 : ((vn : Int) == 0) = false := by simp [hv]
          have HV := hide hv
          clear hv
          go_wp2_with fail
          go_ret
          exact ⟨by simp [HV.out], B3.out⟩

set_option maxHeartbeats 8000000 in
set_option maxRecDepth 4000 in
theorem sCmdOk5 (a b c : Int) (va : Option Addr) (vn vc : Nat) (xs : List Int) (w : World) (rv : Row w va vn xs) (hn : vn ≤ 1048576) :
    Calls Tryd.prog 7 #[.agg #[.int .i64 5, .int .i64 a, .int .i64 b, .int .i64 c, .slice va vn vc]] w fun e w' => e = .returned (.bool (cmdB 5 a b c vn xs)) ∧ Below w.heap.size w w' := by
  have C0 := hide (v5_new w (.int .i64 5) (.int .i64 a) (.int .i64 b) (.int .i64 c) (.slice va vn vc) 27)
  have B0 : Hid (Below w.heap.size w (w.alloc (.cells #[.int .i64 5, .int .i64 a, .int .i64 b, .int .i64 c, .slice va vn vc] 27))) := hide (balloc (Below.refl _ _) _)
  have LK := hide (fun w1 => l1In_any 5 1 7 w1)
  rw [show inB 5 1 7 = true from by decide] at LK
  have NU := hide (fun w1 => nums5 a b c va vn vc w1)
  have US := hide (fun w1 => uses5 w1)
  have VO := hide (fun w1 (s : Below w.heap.size w w1) => sVecOk_any va vn vc xs w1 (rv.below s) hn)
  clear rv
  obtain ⟨_, y0, y1, y2, y3, y4, _⟩ := v5_facts C0.out
  have hE : cmdB 5 a b c vn xs = (inB a 1 60 && (inB b 0 0 && (inB c 0 0 && (if false then vecOkB xs else decide (vn = 0))))) := by
    rw [show cmdB 5 a b c vn xs = fitsB 1 60 0 0 0 0 false a b c vn xs from rfl]
    unfold fitsB
    rw [in_and, in_and, in_and]
  rw [hE]
  clear hE
  obtain ⟨e0, he0⟩ : ∃ e, inB a 1 60 = e := ⟨_, rfl⟩
  rw [he0] at NU ⊢
  obtain ⟨e1, he1⟩ : ∃ e, inB b 0 0 = e := ⟨_, rfl⟩
  rw [he1]
  obtain ⟨e2, he2⟩ : ∃ e, inB c 0 0 = e := ⟨_, rfl⟩
  rw [he2]
  have H0 := hide he0
  clear he0
  have H1 := hide he1
  clear he1
  have H2 := hide he2
  clear he2
  cases e0
  · skip
    go_enter Tryd.func7, Tryd.ntmps7
    go_wp2_with fail
    refine (LK.out _).mono ?_
    rintro e w1 ⟨rfl, hw⟩
    obtain rfl := hw.symm
    clear hw
    go_wp2_with fail
    refine (NU.out _).mono ?_
    rintro e w2 ⟨rfl, hb2⟩
    have C2 := hide (row_belowC C0.out hb2)
    have B2 := hide (bstep B0.out hb2)
    clear hb2 C0 B0 NU y0 y1 y2 y3 y4
    go_wp2_with fail
    go_ret
    exact ⟨by simp, B2.out⟩
  · skip
    cases e1
    · skip
      have z1 := in_some H1.out
      go_enter Tryd.func7, Tryd.ntmps7
      go_wp2_with fail
      refine (LK.out _).mono ?_
      rintro e w1 ⟨rfl, hw⟩
      obtain rfl := hw.symm
      clear hw
      go_wp2_with fail
      refine (NU.out _).mono ?_
      rintro e w2 ⟨rfl, hb2⟩
      have C2 := hide (row_belowC C0.out hb2)
      have B2 := hide (bstep B0.out hb2)
      clear hb2 C0 B0 NU y0 y1 y2 y3 y4
      obtain ⟨_, y0, y1, y2, y3, y4, _⟩ := v5_facts C2.out
      go_wp2_with fail
      refine (US.out _).mono ?_
      rintro e w3 ⟨rfl, hb3⟩
      have C3 := hide (row_belowC C2.out hb3)
      have B3 := hide (bstep B2.out hb3)
      clear hb3 C2 B2 US y0 y1 y2 y3 y4
      obtain ⟨_, y0, y1, y2, y3, y4, _⟩ := v5_facts C3.out
      go_wp2_with fail
      go_ret
      exact ⟨by simp, B3.out⟩
    · skip
      have z1 : (b != 0) = false := by rw [in_zero H1.out]; rfl
      cases e2
      · skip
        have z2 := in_some H2.out
        go_enter Tryd.func7, Tryd.ntmps7
        go_wp2_with fail
        refine (LK.out _).mono ?_
        rintro e w1 ⟨rfl, hw⟩
        obtain rfl := hw.symm
        clear hw
        go_wp2_with fail
        refine (NU.out _).mono ?_
        rintro e w2 ⟨rfl, hb2⟩
        have C2 := hide (row_belowC C0.out hb2)
        have B2 := hide (bstep B0.out hb2)
        clear hb2 C0 B0 NU y0 y1 y2 y3 y4
        obtain ⟨_, y0, y1, y2, y3, y4, _⟩ := v5_facts C2.out
        go_wp2_with fail
        refine (US.out _).mono ?_
        rintro e w3 ⟨rfl, hb3⟩
        have C3 := hide (row_belowC C2.out hb3)
        have B3 := hide (bstep B2.out hb3)
        clear hb3 C2 B2 US y0 y1 y2 y3 y4
        obtain ⟨_, y0, y1, y2, y3, y4, _⟩ := v5_facts C3.out
        go_wp2_with fail
        go_ret
        exact ⟨by simp, B3.out⟩
      · skip
        have z2 : (c != 0) = false := by rw [in_zero H2.out]; rfl
        go_enter Tryd.func7, Tryd.ntmps7
        go_wp2_with fail
        refine (LK.out _).mono ?_
        rintro e w1 ⟨rfl, hw⟩
        obtain rfl := hw.symm
        clear hw
        go_wp2_with fail
        refine (NU.out _).mono ?_
        rintro e w2 ⟨rfl, hb2⟩
        have C2 := hide (row_belowC C0.out hb2)
        have B2 := hide (bstep B0.out hb2)
        clear hb2 C0 B0 NU y0 y1 y2 y3 y4
        obtain ⟨_, y0, y1, y2, y3, y4, _⟩ := v5_facts C2.out
        go_wp2_with fail
        refine (US.out _).mono ?_
        rintro e w3 ⟨rfl, hb3⟩
        have C3 := hide (row_belowC C2.out hb3)
        have B3 := hide (bstep B2.out hb3)
        clear hb3 C2 B2 US y0 y1 y2 y3 y4
        obtain ⟨_, y0, y1, y2, y3, y4, _⟩ := v5_facts C3.out
        by_cases hv : vn = 0
        · have h1 : ((vn : Int) == 0) = true := by simp [hv]
          have HV := hide hv
          clear hv
          go_wp2_with fail
          go_ret
          exact ⟨by simp [HV.out], B3.out⟩
        · have h1 : ((vn : Int) == 0) = false := by simp [hv]
          have HV := hide hv
          clear hv
          go_wp2_with fail
          go_ret
          exact ⟨by simp [HV.out], B3.out⟩

set_option maxHeartbeats 8000000 in
set_option maxRecDepth 4000 in
theorem sCmdOk6 (a b c : Int) (va : Option Addr) (vn vc : Nat) (xs : List Int) (w : World) (rv : Row w va vn xs) (hn : vn ≤ 1048576) :
    Calls Tryd.prog 7 #[.agg #[.int .i64 6, .int .i64 a, .int .i64 b, .int .i64 c, .slice va vn vc]] w fun e w' => e = .returned (.bool (cmdB 6 a b c vn xs)) ∧ Below w.heap.size w w' := by
  have C0 := hide (v5_new w (.int .i64 6) (.int .i64 a) (.int .i64 b) (.int .i64 c) (.slice va vn vc) 27)
  have B0 : Hid (Below w.heap.size w (w.alloc (.cells #[.int .i64 6, .int .i64 a, .int .i64 b, .int .i64 c, .slice va vn vc] 27))) := hide (balloc (Below.refl _ _) _)
  have LK := hide (fun w1 => l1In_any 6 1 7 w1)
  rw [show inB 6 1 7 = true from by decide] at LK
  have NU := hide (fun w1 => nums6 a b c va vn vc w1)
  have US := hide (fun w1 => uses6 w1)
  have VO := hide (fun w1 (s : Below w.heap.size w w1) => sVecOk_any va vn vc xs w1 (rv.below s) hn)
  clear rv
  obtain ⟨_, y0, y1, y2, y3, y4, _⟩ := v5_facts C0.out
  have hE : cmdB 6 a b c vn xs = (inB a 1 20 && (inB b 0 255 && (inB c 0 1000 && (if true then vecOkB xs else decide (vn = 0))))) := by
    rw [show cmdB 6 a b c vn xs = fitsB 1 20 0 255 0 1000 true a b c vn xs from rfl]
    unfold fitsB
    rw [in_and, in_and, in_and]
  rw [hE]
  clear hE
  obtain ⟨e0, he0⟩ : ∃ e, inB a 1 20 = e := ⟨_, rfl⟩
  rw [he0] at NU ⊢
  obtain ⟨e1, he1⟩ : ∃ e, inB b 0 255 = e := ⟨_, rfl⟩
  rw [he1] at NU ⊢
  obtain ⟨e2, he2⟩ : ∃ e, inB c 0 1000 = e := ⟨_, rfl⟩
  rw [he2] at NU ⊢
  have H0 := hide he0
  clear he0
  have H1 := hide he1
  clear he1
  have H2 := hide he2
  clear he2
  cases e0
  · skip
    go_enter Tryd.func7, Tryd.ntmps7
    go_wp2_with fail
    refine (LK.out _).mono ?_
    rintro e w1 ⟨rfl, hw⟩
    obtain rfl := hw.symm
    clear hw
    go_wp2_with fail
    refine (NU.out _).mono ?_
    rintro e w2 ⟨rfl, hb2⟩
    have C2 := hide (row_belowC C0.out hb2)
    have B2 := hide (bstep B0.out hb2)
    clear hb2 C0 B0 NU y0 y1 y2 y3 y4
    go_wp2_with fail
    go_ret
    exact ⟨by simp, B2.out⟩
  · skip
    cases e1
    · skip
      go_enter Tryd.func7, Tryd.ntmps7
      go_wp2_with fail
      refine (LK.out _).mono ?_
      rintro e w1 ⟨rfl, hw⟩
      obtain rfl := hw.symm
      clear hw
      go_wp2_with fail
      refine (NU.out _).mono ?_
      rintro e w2 ⟨rfl, hb2⟩
      have C2 := hide (row_belowC C0.out hb2)
      have B2 := hide (bstep B0.out hb2)
      clear hb2 C0 B0 NU y0 y1 y2 y3 y4
      go_wp2_with fail
      go_ret
      exact ⟨by simp, B2.out⟩
    · skip
      cases e2
      · skip
        go_enter Tryd.func7, Tryd.ntmps7
        go_wp2_with fail
        refine (LK.out _).mono ?_
        rintro e w1 ⟨rfl, hw⟩
        obtain rfl := hw.symm
        clear hw
        go_wp2_with fail
        refine (NU.out _).mono ?_
        rintro e w2 ⟨rfl, hb2⟩
        have C2 := hide (row_belowC C0.out hb2)
        have B2 := hide (bstep B0.out hb2)
        clear hb2 C0 B0 NU y0 y1 y2 y3 y4
        go_wp2_with fail
        go_ret
        exact ⟨by simp, B2.out⟩
      · skip
        go_enter Tryd.func7, Tryd.ntmps7
        go_wp2_with fail
        refine (LK.out _).mono ?_
        rintro e w1 ⟨rfl, hw⟩
        obtain rfl := hw.symm
        clear hw
        go_wp2_with fail
        refine (NU.out _).mono ?_
        rintro e w2 ⟨rfl, hb2⟩
        have C2 := hide (row_belowC C0.out hb2)
        have B2 := hide (bstep B0.out hb2)
        clear hb2 C0 B0 NU y0 y1 y2 y3 y4
        obtain ⟨_, y0, y1, y2, y3, y4, _⟩ := v5_facts C2.out
        go_wp2_with fail
        refine (US.out _).mono ?_
        rintro e w3 ⟨rfl, hb3⟩
        have C3 := hide (row_belowC C2.out hb3)
        have B3 := hide (bstep B2.out hb3)
        clear hb3 C2 B2 US y0 y1 y2 y3 y4
        obtain ⟨_, y0, y1, y2, y3, y4, _⟩ := v5_facts C3.out
        go_wp2_with fail
        refine (VO.out _ B3.out).mono ?_
        rintro e w4 ⟨rfl, hw⟩
        obtain rfl := hw.symm
        clear hw
        obtain ⟨R, hR⟩ : ∃ R, vecOkB xs = R := ⟨_, rfl⟩
        rw [hR]
        have HR := hide hR
        clear hR
        cases R
        all_goals
          go_wp2_with fail
          go_ret
          exact ⟨by simp [HR.out], B3.out⟩

set_option maxHeartbeats 8000000 in
set_option maxRecDepth 4000 in
theorem sCmdOk7 (a b c : Int) (va : Option Addr) (vn vc : Nat) (xs : List Int) (w : World) (rv : Row w va vn xs) (hn : vn ≤ 1048576) :
    Calls Tryd.prog 7 #[.agg #[.int .i64 7, .int .i64 a, .int .i64 b, .int .i64 c, .slice va vn vc]] w fun e w' => e = .returned (.bool (cmdB 7 a b c vn xs)) ∧ Below w.heap.size w w' := by
  have C0 := hide (v5_new w (.int .i64 7) (.int .i64 a) (.int .i64 b) (.int .i64 c) (.slice va vn vc) 27)
  have B0 : Hid (Below w.heap.size w (w.alloc (.cells #[.int .i64 7, .int .i64 a, .int .i64 b, .int .i64 c, .slice va vn vc] 27))) := hide (balloc (Below.refl _ _) _)
  have LK := hide (fun w1 => l1In_any 7 1 7 w1)
  rw [show inB 7 1 7 = true from by decide] at LK
  have NU := hide (fun w1 => nums7 a b c va vn vc w1)
  have US := hide (fun w1 => uses7 w1)
  have VO := hide (fun w1 (s : Below w.heap.size w w1) => sVecOk_any va vn vc xs w1 (rv.below s) hn)
  clear rv
  obtain ⟨_, y0, y1, y2, y3, y4, _⟩ := v5_facts C0.out
  have hE : cmdB 7 a b c vn xs = (inB a 0 1125899906842624 && (inB b 0 255 && (inB c 0 1000 && (if true then vecOkB xs else decide (vn = 0))))) := by
    rw [show cmdB 7 a b c vn xs = fitsB 0 1125899906842624 0 255 0 1000 true a b c vn xs from rfl]
    unfold fitsB
    rw [in_and, in_and, in_and]
  rw [hE]
  clear hE
  obtain ⟨e0, he0⟩ : ∃ e, inB a 0 1125899906842624 = e := ⟨_, rfl⟩
  rw [he0] at NU ⊢
  obtain ⟨e1, he1⟩ : ∃ e, inB b 0 255 = e := ⟨_, rfl⟩
  rw [he1] at NU ⊢
  obtain ⟨e2, he2⟩ : ∃ e, inB c 0 1000 = e := ⟨_, rfl⟩
  rw [he2] at NU ⊢
  have H0 := hide he0
  clear he0
  have H1 := hide he1
  clear he1
  have H2 := hide he2
  clear he2
  cases e0
  · skip
    go_enter Tryd.func7, Tryd.ntmps7
    go_wp2_with fail
    refine (LK.out _).mono ?_
    rintro e w1 ⟨rfl, hw⟩
    obtain rfl := hw.symm
    clear hw
    go_wp2_with fail
    refine (NU.out _).mono ?_
    rintro e w2 ⟨rfl, hb2⟩
    have C2 := hide (row_belowC C0.out hb2)
    have B2 := hide (bstep B0.out hb2)
    clear hb2 C0 B0 NU y0 y1 y2 y3 y4
    go_wp2_with fail
    go_ret
    exact ⟨by simp, B2.out⟩
  · skip
    cases e1
    · skip
      go_enter Tryd.func7, Tryd.ntmps7
      go_wp2_with fail
      refine (LK.out _).mono ?_
      rintro e w1 ⟨rfl, hw⟩
      obtain rfl := hw.symm
      clear hw
      go_wp2_with fail
      refine (NU.out _).mono ?_
      rintro e w2 ⟨rfl, hb2⟩
      have C2 := hide (row_belowC C0.out hb2)
      have B2 := hide (bstep B0.out hb2)
      clear hb2 C0 B0 NU y0 y1 y2 y3 y4
      go_wp2_with fail
      go_ret
      exact ⟨by simp, B2.out⟩
    · skip
      cases e2
      · skip
        go_enter Tryd.func7, Tryd.ntmps7
        go_wp2_with fail
        refine (LK.out _).mono ?_
        rintro e w1 ⟨rfl, hw⟩
        obtain rfl := hw.symm
        clear hw
        go_wp2_with fail
        refine (NU.out _).mono ?_
        rintro e w2 ⟨rfl, hb2⟩
        have C2 := hide (row_belowC C0.out hb2)
        have B2 := hide (bstep B0.out hb2)
        clear hb2 C0 B0 NU y0 y1 y2 y3 y4
        go_wp2_with fail
        go_ret
        exact ⟨by simp, B2.out⟩
      · skip
        go_enter Tryd.func7, Tryd.ntmps7
        go_wp2_with fail
        refine (LK.out _).mono ?_
        rintro e w1 ⟨rfl, hw⟩
        obtain rfl := hw.symm
        clear hw
        go_wp2_with fail
        refine (NU.out _).mono ?_
        rintro e w2 ⟨rfl, hb2⟩
        have C2 := hide (row_belowC C0.out hb2)
        have B2 := hide (bstep B0.out hb2)
        clear hb2 C0 B0 NU y0 y1 y2 y3 y4
        obtain ⟨_, y0, y1, y2, y3, y4, _⟩ := v5_facts C2.out
        go_wp2_with fail
        refine (US.out _).mono ?_
        rintro e w3 ⟨rfl, hb3⟩
        have C3 := hide (row_belowC C2.out hb3)
        have B3 := hide (bstep B2.out hb3)
        clear hb3 C2 B2 US y0 y1 y2 y3 y4
        obtain ⟨_, y0, y1, y2, y3, y4, _⟩ := v5_facts C3.out
        go_wp2_with fail
        refine (VO.out _ B3.out).mono ?_
        rintro e w4 ⟨rfl, hw⟩
        obtain rfl := hw.symm
        clear hw
        obtain ⟨R, hR⟩ : ∃ R, vecOkB xs = R := ⟨_, rfl⟩
        rw [hR]
        have HR := hide hR
        clear hR
        cases R
        all_goals
          go_wp2_with fail
          go_ret
          exact ⟨by simp [HR.out], B3.out⟩

theorem sCmdOk_any (k a b c : Int) (va : Option Addr) (vn vc : Nat) (xs : List Int) (w : World) (rv : Row w va vn xs) (hn : vn ≤ 1048576) :
    Calls Tryd.prog 7 #[.agg #[.int .i64 k, .int .i64 a, .int .i64 b, .int .i64 c, .slice va vn vc]] w fun e w' => e = .returned (.bool (cmdB k a b c vn xs)) ∧ Below w.heap.size w w' := by
  cases hk : kindB k
  · rw [cmdB_no hk]
    have C0 := hide (v5_new w (.int .i64 k) (.int .i64 a) (.int .i64 b) (.int .i64 c) (.slice va vn vc) 27)
    have B0 : Hid (Below w.heap.size w (w.alloc (.cells #[.int .i64 k, .int .i64 a, .int .i64 b, .int .i64 c, .slice va vn vc] 27))) := hide (balloc (Below.refl _ _) _)
    have LK := hide (fun w1 => l1In_any k 1 7 w1)
    rw [show inB k 1 7 = false from hk] at LK
    clear hk rv
    obtain ⟨_, y0, y1, y2, y3, y4, _⟩ := v5_facts C0.out
    go_enter Tryd.func7, Tryd.ntmps7
    go_wp2_with fail
    refine (LK.out _).mono ?_
    rintro e w1 ⟨rfl, hw⟩
    obtain rfl := hw.symm
    clear hw
    go_wp2_with fail
    go_ret
    exact ⟨rfl, B0.out⟩
  · have h' : 1 ≤ k ∧ k ≤ 7 := of_decide_eq_true hk
    rcases (show k = 1 ∨ k = 2 ∨ k = 3 ∨ k = 4 ∨ k = 5 ∨ k = 6 ∨ k = 7 from by omega) with rfl | rfl | rfl | rfl | rfl | rfl | rfl
    · exact sCmdOk1 a b c va vn vc xs w rv hn
    · exact sCmdOk2 a b c va vn vc xs w rv hn
    · exact sCmdOk3 a b c va vn vc xs w rv hn
    · exact sCmdOk4 a b c va vn vc xs w rv hn
    · exact sCmdOk5 a b c va vn vc xs w rv hn
    · exact sCmdOk6 a b c va vn vc xs w rv hn
    · exact sCmdOk7 a b c va vn vc xs w rv hn
end Go.Proofs.YtlmiamohhmabhaaDoor
