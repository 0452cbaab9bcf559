/- The walk of the law FnHitTexts. -/
import Derived.Test.YtecheolhmohhjaaDoorTH1
import Derived.Test.YtecheolhmohhjaaDoorSH6
import Derived.Test.YtecheolhmohhjaaDoorDP
import Derived.Laws.StructEq
namespace Go.Proofs.YtecheolhmohhjaaDoor
open Go.RowKit
set_option maxRecDepth 8000
set_option linter.unusedSimpArgs false
set_option linter.unusedVariables false

theorem eqHt (a b c : Int) (w : World) : (Op.equalIn 10000 25 (.agg #[.int .i64 a, .int .i64 b, .int .i64 c]) (.agg #[.int .i64 a, .int .i64 b, .int .i64 c])).run Tryd.prog w = .ok true w := by
  have u3 := Tryd.underlying2
  have k3 := Tryd.isAgg2
  have z3 := Tryd.sizeOf2
  have hS : Tryd.prog.underlying 25 = some (.struct (Tryd.prog.fieldsOf 25)) := by kernel_rfl
  rw [show (10000 : Nat) = 9999 + 1 from rfl, run_equalIn_agg w 9999 25 _ _ hS (by kernel_rfl)]
  simp only [Program.fieldsOf, Tryd.underlying25]
  go_simp
/-- A hit's text is read as that hit. -/
theorem hit_read (x y z : Int) : rdHitB (hitTB x y z) = hitB x y z ∧ (hitB x y z = true → rdX (hitTB x y z) = x ∧ rdY (hitTB x y z) = y ∧ rdZ (hitTB x y z) = z ∧ hitTB x y z ≠ []) ∧ (hitB x y z = false → hitTB x y z = [] ∧ rdX (hitTB x y z) = 0 ∧ rdY (hitTB x y z) = 0 ∧ rdZ (hitTB x y z) = 0) := by
  cases h : hitB x y z
  · have e : hitTB x y z = [] := by unfold hitTB; rw [h]; rfl
    have r : rdHitB [] = false := by decide
    rw [e]
    refine ⟨r, fun q => (by cases q), fun _ => ⟨rfl, ?_, ?_, ?_⟩⟩
    · unfold rdX; rw [r]; rfl
    · unfold rdY; rw [r]; rfl
    · unfold rdZ; rw [r]; rfl
  · have e : hitTB x y z = hitT x y z := by unfold hitTB; rw [h, if_pos rfl]
    obtain ⟨b1, b2, b3, _, _⟩ := hit_back h
    have r : rdHitB (hitT x y z) = true := by rw [rdHit_iff, b1, b2, b3]; exact ⟨hitT_ne _ _ _, e⟩
    rw [e]
    refine ⟨r, fun _ => ⟨?_, ?_, ?_, hitT_ne _ _ _⟩, fun q => (by cases q)⟩
    · unfold rdX; rw [r, if_pos rfl, b1]
    · unfold rdY; rw [r, if_pos rfl, b2]
    · unfold rdZ; rw [r, if_pos rfl, b3]
/-- What is read, written again, is that text. -/
theorem rdHit_text {l : List UInt8} (h : rdHitB l = true) : hitTB (rdX l) (rdY l) (rdZ l) = l := by
  unfold rdX rdY rdZ
  rw [h, if_pos rfl, if_pos rfl, if_pos rfl]
  exact (rdHit_iff.1 h).2

set_option maxHeartbeats 8000000 in
set_option maxRecDepth 8000 in
theorem hitTexts_walk (a : Option Addr) (n cap : Nat) (zs : List Int) (w : World) (V : Vars w) (h : IsRow .u8 w a n cap zs) :
    Calls Tryd.prog 3 #[.slice a n cap] w fun e w' => e = .returned (.bool true) ∧ Below w.heap.size w w' := by
  have BG := hide (big_any a n cap w)
  by_cases hn : n ≤ 1048576
  · rw [decide_eq_false (show ¬ 1048576 < n by omega)] at BG
    have HC := hide (h.code hn)
    have HV := hide V
    clear h V
    go_enter Tryd.func3, Tryd.ntmps3
    go_wp2_with fail
    refine BG.out.mono ?_
    rintro e w' ⟨rfl, hw⟩
    obtain rfl := hw.symm
    clear BG hw
    go_wp2_with fail
    refine (drawHitText_any a n cap w HC.out).mono ?_
    rintro e w1 ⟨x, y, z, rfl, hb1⟩
    have X1 := hide (Box3.new w1 x y z 25)
    have B1 := hide (bstep hb1 (balloc (Below.refl w1.heap.size w1) (.cells #[.int .i64 x, .int .i64 y, .int .i64 z] 25)))
    have IT := hide (fun w1 T => iHitText_any x y z w1 T)
    have ST := hide (fun w1 => sHitText_any x y z w1)
    obtain ⟨rb, rt, rf⟩ := hit_read x y z
    have RB := hide rb
    have RT := hide rt
    have RF := hide rf
    have sl := hitTB_len x y z
    obtain ⟨S, hS⟩ : ∃ S, bs (hitTB x y z) = S := ⟨_, rfl⟩
    have SL : Hid (S.data.toList = hitTB x y z) := hide (by rw [← hS, bs_list])
    simp only [hS] at IT ST sl
    clear hb1 rb rt rf hS
    obtain ⟨_, c0, c1, c2⟩ := X1.out
    go_wp2_with fail
    refine (IT.out _ (HV.out.below B1.out).tab).mono ?_
    rintro e w2 ⟨rfl, hb2⟩
    have B2 := hide (bstep B1.out hb2)
    have X2 := hide (X1.out.below hb2)
    clear hb2 IT X1 c0 c1 c2
    go_wp2_with fail
    refine (drawReadHit_any a n cap w2 (HC.out.below B2.out)).mono ?_
    rintro e w3 ⟨t, rfl, ht, hb3⟩
    have B3 := hide (bstep B2.out hb3)
    have X3 := hide (X2.out.below hb3)
    have IR := hide (fun w1 V => iReadHit_any t w1 (by omega) V)
    have SR := hide (fun w1 => sReadHit_any t w1 (by omega))
    have TB := hide (fun h => rdHit_text (l := t.data.toList) h)
    obtain ⟨p, hp⟩ : ∃ p, rdX t.data.toList = p := ⟨_, rfl⟩
    obtain ⟨q, hq⟩ : ∃ p, rdY t.data.toList = p := ⟨_, rfl⟩
    obtain ⟨r, hr⟩ : ∃ p, rdZ t.data.toList = p := ⟨_, rfl⟩
    obtain ⟨b, hb⟩ : ∃ b, rdHitB t.data.toList = b := ⟨_, rfl⟩
    simp only [hp, hq, hr, hb] at IR SR TB
    clear hb3 hp hq hr hb X2
    go_wp2_with fail
    refine (IR.out w3 (HV.out.below B3.out)).mono ?_
    rintro e w4 ⟨rfl, hb4⟩
    have nb4 := balloc (Below.refl w4.heap.size w4) (.cells #[.int .i64 p, .int .i64 q, .int .i64 r] 25)
    have B4 := hide (bstep (bstep B3.out hb4) nb4)
    have X4 := hide ((X3.out.below hb4).below nb4)
    have P4 := hide (Box3.new w4 p q r 25)
    clear hb4 X3 nb4
    go_wp2_with fail
    refine (SR.out _).mono ?_
    rintro e w5 ⟨rfl, hb5⟩
    have nb5 := balloc (Below.refl w5.heap.size w5) (.cells #[.int .i64 p, .int .i64 q, .int .i64 r] 25)
    have B5 := hide (bstep (bstep B4.out hb5) nb5)
    have X5 := hide ((X4.out.below hb5).below nb5)
    have P5 := hide ((P4.out.below hb5).below nb5)
    have Q5 := hide (Box3.new w5 p q r 25)
    clear hb5 X4 P4 nb5
    have q1 : (S.toList == S.toList) = true := by simp
    have q2 : (b != b) = false := by cases b <;> rfl
    have hEq : ∀ w, (Op.equalIn 10000 25 (.agg #[.int .i64 p, .int .i64 q, .int .i64 r]) (.agg #[.int .i64 p, .int .i64 q, .int .i64 r])).run Tryd.prog w = .ok true w := eqHt p q r
    obtain ⟨_, c0, c1, c2⟩ := X5.out
    go_wp2_with fail
    refine (ST.out _).mono ?_
    rintro e w6 ⟨rfl, hb6⟩
    have B6 := hide (bstep B5.out hb6)
    have X6 := hide (X5.out.below hb6)
    have P6 := hide (P5.out.below hb6)
    have Q6 := hide (Q5.out.below hb6)
    clear hb6 X5 P5 Q5 c0 c1 c2
    obtain ⟨_, c0, c1, c2⟩ := X6.out
    obtain ⟨_, d0, d1, d2⟩ := P6.out
    obtain ⟨_, e0, e1, e2⟩ := Q6.out
    cases b
    · have hno := hide c0
      clear c0 c1 c2
      have IS := hide (iReadHit_any S w6 (by omega) (HV.out.below B6.out))
      rw [SL.out, RB.out] at IS
      cases vo : hitB x y z
      · obtain ⟨z1, g0, g1, g2⟩ := RF.out vo
        rw [vo, g0, g1, g2] at IS
        have zS : S.toList = [] := by rw [ByteArray.toList_eq, SL.out, z1]
        clear z1 g0 g1 g2 vo RT RF RB SL
        go_wp2_with fail
        refine IS.out.mono ?_
        rintro e w9 ⟨rfl, hb9⟩
        have nb9 := balloc (Below.refl w9.heap.size w9) (.cells #[.int .i64 0, .int .i64 0, .int .i64 0] 25)
        have B9 := hide (bstep (bstep B6.out hb9) nb9)
        clear hb9 nb9
        go_wp2_with fail
        go_ret
        exact ⟨rfl, B9.out⟩
      · obtain ⟨g0, g1, g2, z1⟩ := RT.out vo
        rw [vo, g0, g1, g2] at IS
        have zS : ¬ S.toList = [] := by rw [ByteArray.toList_eq, SL.out]; exact z1
        have zT : (S.toList == []) = false := by simpa using zS
        clear z1 g0 g1 g2 vo RT RF RB SL hEq
        have hEr : ∀ w, (Op.equalIn 10000 25 (.agg #[.int .i64 x, .int .i64 y, .int .i64 z]) (.agg #[.int .i64 x, .int .i64 y, .int .i64 z])).run Tryd.prog w = .ok true w := eqHt x y z
        go_wp2_with fail
        refine IS.out.mono ?_
        rintro e w9 ⟨rfl, hb9⟩
        have nb9 := balloc (Below.refl w9.heap.size w9) (.cells #[.int .i64 x, .int .i64 y, .int .i64 z] 25)
        have B9 := hide (bstep (bstep B6.out hb9) nb9)
        have X9 := hide ((X6.out.below hb9).below nb9)
        have Y9 := hide (Box3.new w9 x y z 25)
        clear hb9 nb9
        obtain ⟨_, m0, m1, m2⟩ := X9.out
        obtain ⟨_, o0, o1, o2⟩ := Y9.out
        go_wp2_with fail
        go_ret
        exact ⟨rfl, B9.out⟩
    · have q3 : ((bs (hitTB p q r)).toList == t.toList) = true := sEq (by rw [bs_list]; exact TB.out rfl)
      have XT := hide (iHitText_any p q r w6 (HV.out.below B6.out).tab)
      go_wp2_with fail
      refine XT.out.mono ?_
      rintro e w8 ⟨rfl, hb8⟩
      have B8 := hide (bstep B6.out hb8)
      have X8 := hide (X6.out.below hb8)
      clear hb8 c0 c1 c2 d0 d1 d2 e0 e1 e2 P6 Q6
      have IS := hide (iReadHit_any S w8 (by omega) (HV.out.below B8.out))
      rw [SL.out, RB.out] at IS
      cases vo : hitB x y z
      · obtain ⟨z1, g0, g1, g2⟩ := RF.out vo
        rw [vo, g0, g1, g2] at IS
        have zS : S.toList = [] := by rw [ByteArray.toList_eq, SL.out, z1]
        clear z1 g0 g1 g2 vo RT RF RB SL
        go_wp2_with fail
        refine IS.out.mono ?_
        rintro e w9 ⟨rfl, hb9⟩
        have nb9 := balloc (Below.refl w9.heap.size w9) (.cells #[.int .i64 0, .int .i64 0, .int .i64 0] 25)
        have B9 := hide (bstep (bstep B8.out hb9) nb9)
        clear hb9 nb9
        go_wp2_with fail
        go_ret
        exact ⟨rfl, B9.out⟩
      · obtain ⟨g0, g1, g2, z1⟩ := RT.out vo
        rw [vo, g0, g1, g2] at IS
        have zS : ¬ S.toList = [] := by rw [ByteArray.toList_eq, SL.out]; exact z1
        have zT : (S.toList == []) = false := by simpa using zS
        clear z1 g0 g1 g2 vo RT RF RB SL hEq
        have hEr : ∀ w, (Op.equalIn 10000 25 (.agg #[.int .i64 x, .int .i64 y, .int .i64 z]) (.agg #[.int .i64 x, .int .i64 y, .int .i64 z])).run Tryd.prog w = .ok true w := eqHt x y z
        go_wp2_with fail
        refine IS.out.mono ?_
        rintro e w9 ⟨rfl, hb9⟩
        have nb9 := balloc (Below.refl w9.heap.size w9) (.cells #[.int .i64 x, .int .i64 y, .int .i64 z] 25)
        have B9 := hide (bstep (bstep B8.out hb9) nb9)
        have X9 := hide ((X8.out.below hb9).below nb9)
        have Y9 := hide (Box3.new w9 x y z 25)
        clear hb9 nb9
        obtain ⟨_, m0, m1, m2⟩ := X9.out
        obtain ⟨_, o0, o1, o2⟩ := Y9.out
        go_wp2_with fail
        go_ret
        exact ⟨rfl, B9.out⟩
  · rw [decide_eq_true (show 1048576 < n by omega)] at BG
    go_enter Tryd.func3, Tryd.ntmps3
    go_wp2_with fail
    refine BG.out.mono ?_
    rintro e w' ⟨rfl, rfl⟩
    go_wp2
    go_ret
    exact ⟨rfl, (by repeat' first | with_reducible exact Below.refl _ _ | with_reducible assumption | with_reducible refine below_drewN ?_ _ | with_reducible refine balloc ?_ _ | with_reducible refine Below.drew ?_ | with_reducible refine Below.setCell ?_ (by first | (simp; done) | (simp; omega) | omega) _ | with_reducible refine bstep ?_ (by assumption))⟩
end Go.Proofs.YtecheolhmohhjaaDoor
