/- The walk of the law FnRowAlike. -/
import Derived.Test.YtoiaamcnmpdglaaZ28
import Derived.Test.YtoiaamcnmpdglaaZ29
import Derived.Test.YtoiaamcnmpdglaaZ23
import Derived.Test.YtoiaamcnmpdglaaZ27
import Derived.Test.YtoiaamcnmpdglaaZ26
import Derived.Test.YtoiaamcnmpdglaaZ17
import Derived.OpenShut
namespace Go.Proofs.Ytoiaamcnmpdglaa
open Go.RowKit
set_option maxRecDepth 8000
set_option linter.unusedSimpArgs false
set_option linter.unusedVariables false

theorem esc_zero {ok : Bool} {c : Nat → Int} {n : Nat} (h : escV ok c n = 0) : ok = true ∧ escN c n = 0 := by
  unfold escV at h
  cases ok
  · rw [if_neg (by decide)] at h; omega
  · rw [if_pos rfl] at h; exact ⟨rfl, by omega⟩

theorem box_of_nest {n : Nat} {F G F' G' : Nat → Int} (h : boxLeqB n F G n F' G' = true) : boxB n F G = true := by
  unfold boxLeqB alikeB at h
  simp only [Bool.and_eq_true] at h
  exact h.1.1.1

set_option maxHeartbeats 16000000 in
theorem rowAlike_walk (a : Option Addr) (n cap : Nat) (zs : List Int) (w : World) (h : IsRow .u8 w a n cap zs) :
    Calls Try.prog 5 #[.slice a n cap] w fun e w' => e = .returned (.bool true) ∧ Below w.heap.size w w' := by
  have BG := hide (big_any a n cap w)
  by_cases hn : n ≤ 1048576
  · rw [decide_eq_false (show ¬ 1048576 < n by omega)] at BG
    have HC := hide (h.code hn)
    have DR := hide (drawRowOk_any a n cap w HC.out)
    clear h
    go_enter Try.func5, Try.ntmps5
    go_wp2_with fail
    refine BG.out.mono ?_
    rintro e w' ⟨rfl, hw⟩
    obtain rfl := hw.symm
    clear BG hw
    go_wp2_with fail
    refine DR.out.mono ?_
    rintro e w1 ⟨ba, d, cp, F, G, a1, n1, k1, x1, a2, n2, k2, x2, a3, n3, k3, x3, rfl, hd, hp, _, _, _, r1, r2, r3, hb1, _, _, _, _⟩
    have ba1 : Below w1.heap.size w1 (w1.alloc (.cells #[.slice a1 n1 k1, .slice a2 n2 k2, .slice a3 n3 k3] 29)) := balloc (Below.refl _ _) _
    have P1 := hide (hp.below ba1)
    have V1 : Hid (RowV.is ⟨a1, a2, a3, n1, n2, n3, k1, k2, k3⟩ _ _ _ _) := hide (RowV.is.below (⟨r1, r2, r3⟩ : RowV.is ⟨a1, a2, a3, n1, n2, n3, k1, k2, k3⟩ w1 _ _ _) ba1)
    have X1 := hide (TriW.new w1 (.slice a1 n1 k1) (.slice a2 n2 k2) (.slice a3 n3 k3) 29 _ rfl)
    have B1 := hide (bstep hb1 ba1)
    have IE := hide (fun w1 hp hr => iEscapesOf_any ba d cp F G ⟨a1, a2, a3, n1, n2, n3, k1, k2, k3⟩ x1 x2 x3 w1 hp hr)
    have SE := hide (fun w1 hp hr => sEscapesOf_any ba d cp F G ⟨a1, a2, a3, n1, n2, n3, k1, k2, k3⟩ x1 x2 x3 w1 hp hr (by omega))
    obtain ⟨v, hv⟩ : ∃ v, escV (rowOkB d F G x1 x2 x3) (nth x3) d = v := ⟨_, rfl⟩
    simp only [hv] at IE SE
    unfold RowV.v at IE SE
    simp only at IE SE
    have FACT := hide hv
    have L1 := hide r1.len
    have L2 := hide r2.len
    have L3 := hide r3.len
    clear hp r1 r2 r3 hb1 ba1 hv DR
    obtain ⟨z, hz⟩ : ∃ z, w1.heap.size = z := ⟨_, rfl⟩
    rw [hz] at X1
    obtain ⟨W1, hW1⟩ : ∃ W, w1.alloc (.cells #[.slice a1 n1 k1, .slice a2 n2 k2, .slice a3 n3 k3] 29) = W := ⟨_, rfl⟩
    rw [hW1] at P1 V1 X1 B1
    obtain ⟨_, t0, t1, t2, _, _, _⟩ := X1.out
    have HZ := hide hz
    have HW1 := hide hW1
    clear hz hW1
    go_wp2_with fail
    rw [HZ.out, HW1.out]
    clear HZ HW1
    go_wp2_with fail
    refine (IE.out _ P1.out V1.out).mono ?_
    rintro e w2 ⟨rfl, hb2⟩
    have P2 := hide (P1.out.below hb2)
    have V2 := hide (V1.out.below hb2)
    have X2 := hide (X1.out.below hb2)
    have B2 := hide (bstep B1.out hb2)
    clear t0 t1 t2 hb2 P1 V1 X1 B1
    obtain ⟨_, t0, t1, t2, _, _, _⟩ := X2.out
    go_wp2_with fail
    refine (SE.out _ P2.out V2.out).mono ?_
    rintro e w3 ⟨rfl, hb3⟩
    have P3 := hide (P2.out.below hb3)
    have V3 := hide (V2.out.below hb3)
    have X3 := hide (X2.out.below hb3)
    have B3 := hide (bstep B2.out hb3)
    clear t0 t1 t2 hb3 P2 V2 X2 B2
    obtain ⟨_, t0, t1, t2, _, _, _⟩ := X3.out
    have u1 : (v != v) = false := by simp
    have u2 : (v == v) = true := by simp
    by_cases h0 : v = 0
    · subst h0
      obtain ⟨hok, hesc⟩ := esc_zero FACT.out
      obtain ⟨bb, l1, l2, l3, hpl⟩ := row_parts hok
      have d8 := boxB_num' bb
      have e1 := L1.out
      have e2 := L2.out
      have e3 := L3.out
      obtain rfl : n1 = d := by omega
      obtain rfl : n2 = n1 := by omega
      obtain rfl : n3 = n2 := by omega
      have IB := hide (fun w1 hp hr => iBoxOf_any ba n3 cp F G ⟨a1, a2, a3, n3, n3, n3, k1, k2, k3⟩ x1 x2 x3 3 w1 hp hr)
      simp only [hok, show tierB 3 = true from rfl, show tierL 3 x1 x2 x3 = x3 from rfl, Bool.true_and] at IB
      unfold RowV.v at IB
      simp only at IB
      have BB := hide (box_of_nest (row_nest hok).1)
      have AL := hide (fun xs hl hx => row_alike (xs := xs) hok hesc hl hx)
      clear hok hesc bb l1 l2 l3 hpl e1 e2 e3 L1 L2 L3 FACT IE SE
      go_wp2_with fail
      refine (IB.out _ P3.out V3.out).mono ?_
      rintro e w4 ⟨bx, bm, rfl, hbm, hbl, hb4⟩
      have hbm' : n3 = bm := by simpa using hbm.symm
      subst hbm'
      have PB : PRow w4 bx n3 (boxF F G 3 x3) (boxG F G 3 x3) := by
        rcases hbl with h0 | ⟨b5, e5, _, _, o5⟩
        · omega
        · rw [e5]; exact o5.prow
      have P4 := hide (P3.out.below hb4)
      have V4 := hide (V3.out.below hb4)
      have X4 := hide (X3.out.below hb4)
      have B4 := hide (bstep B3.out hb4)
      have IN := hide (inside_any bx n3 n3 _ _ a n cap w4 PB BB.out (HC.out.below B4.out))
      clear t0 t1 t2 hb4 P3 V3 X3 B3 hbm hbl PB
      obtain ⟨_, t0, t1, t2, _, _, _⟩ := X4.out
      go_wp2_with fail
      refine IN.out.mono ?_
      rintro e w5 ⟨ai, ci, ys, rfl, hrow, hin, hb5⟩
      have P5 := hide (P4.out.below hb5)
      have V5 := hide (V4.out.below hb5)
      have X5 := hide (X4.out.below hb5)
      have B5 := hide (bstep B4.out hb5)
      obtain ⟨f1, f2, f3, f4⟩ := AL.out ys hrow.len hin
      have IR := hide (iRowOf_any ba ai n3 cp n3 ci F G ys w5 P5.out hrow (by omega))
      rw [f1] at IR
      clear t0 t1 t2 hb5 P4 V4 X4 B4 IN hin
      obtain ⟨_, t0, t1, t2, _, _, _⟩ := X5.out
      have F2 := hide f2
      have F3 := hide f3
      have F4 := hide f4
      clear f1 f2 f3 f4 AL
      go_wp2_with fail
      refine IR.out.mono ?_
      rintro e w6 ⟨m, q1, q2, q3, j1, j2, j3, rfl, hm, h3, hb6⟩
      have hm' : n3 = m := by simpa using hm.symm
      subst hm'
      obtain ⟨y1, y2, y3⟩ := h3.rows
      have g2 := F2.out
      have g3 := F3.out
      have g4 := F4.out
      rw [g2] at y1
      rw [g3] at y2
      rw [g4] at y3
      have ba6 : Below w6.heap.size w6 (w6.alloc (.cells #[.slice q1 n3 j1, .slice q2 n3 j2, .slice q3 n3 j3] 29)) := balloc (Below.refl _ _) _
      have V6 := hide ((V5.out.below hb6).below ba6)
      have X6 := hide ((X5.out.below hb6).below ba6)
      have B6 := hide (bstep (bstep B5.out hb6) ba6)
      have Z6 := hide (TriW.new w6 (.slice q1 n3 j1) (.slice q2 n3 j2) (.slice q3 n3 j3) 29 _ rfl)
      have U6 : Hid (RowV.is ⟨q1, q2, q3, n3, n3, n3, j1, j2, j3⟩ _ _ _ _) := hide (RowV.is.below (⟨y1, y2, y3⟩ : RowV.is ⟨q1, q2, q3, n3, n3, n3, j1, j2, j3⟩ w6 _ _ _) ba6)
      have SM := hide (sameRow_self q1 q2 q3 a1 a2 a3 n3 j1 j2 j3 k1 k2 k3 x1 x2 x3 _ U6.out V6.out (by omega))
      clear t0 t1 t2 hb6 P5 V5 X5 B5 IR h3 y1 y2 y3 g2 g3 g4 F2 F3 F4 hm ba6
      obtain ⟨_, t0, t1, t2, _, _, _⟩ := X6.out
      obtain ⟨_, y0, y1, y2, _, _, _⟩ := Z6.out
      go_wp2_with fail
      refine SM.out.mono ?_
      rintro e w7 ⟨rfl, hb7⟩
      have B7 := hide (bstep B6.out hb7)
      clear t0 t1 t2 y0 y1 y2 hb7
      go_wp2_with fail
      go_ret
      exact ⟨rfl, B7.out⟩
    · have u3 : (v != 0) = true := by simpa using h0
      go_wp2_with fail
      refine (SE.out _ P3.out V3.out).mono ?_
      rintro e w4 ⟨rfl, hb4⟩
      have B4 := hide (bstep B3.out hb4)
      clear t0 t1 t2 hb4
      go_wp2_with fail
      go_ret
      exact ⟨rfl, B4.out⟩
  · rw [decide_eq_true (show 1048576 < n by omega)] at BG
    go_enter Try.func5, Try.ntmps5
    go_wp2_with fail
    refine BG.out.mono ?_
    rintro e w' ⟨rfl, rfl⟩
    go_wp2
    go_ret
    exact ⟨rfl, (by repeat' first | with_reducible exact Below.refl _ _ | with_reducible assumption | with_reducible refine below_drewN ?_ _ | with_reducible refine balloc ?_ _ | with_reducible refine Below.drew ?_ | with_reducible refine Below.setCell ?_ (by first | (simp; done) | (simp; omega) | omega) _ | with_reducible refine bstep ?_ (by assumption))⟩
end Go.Proofs.Ytoiaamcnmpdglaa
