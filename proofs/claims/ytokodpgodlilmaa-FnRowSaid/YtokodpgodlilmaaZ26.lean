/- The walk of the law FnRow. -/
import Derived.Test.YtokodpgodlilmaaZ24
import Derived.Test.YtokodpgodlilmaaZ22
import Derived.Test.YtokodpgodlilmaaZ21
import Derived.Test.YtokodpgodlilmaaZ25
import Derived.Test.YtokodpgodlilmaaZ16
import Derived.OpenShut
namespace Go.Proofs.Ytokodpgodlilmaa
open Go.RowKit
set_option maxRecDepth 8000
set_option linter.unusedSimpArgs false
set_option linter.unusedVariables false

set_option maxHeartbeats 16000000 in
theorem row_walk (a : Option Addr) (n cap : Nat) (zs : List Int) (w : World) (h : IsRow .u8 w a n cap zs) :
    Calls Try.prog 3 #[.slice a n cap] w fun e w' => e = .returned (.bool true) ∧ Below w.heap.size w w' := by
  have BG := hide (big_any a n cap w)
  by_cases hn : n ≤ 1048576
  · rw [decide_eq_false (show ¬ 1048576 < n by omega)] at BG
    have DR := hide (drawRowOf_any a n cap w (h.code hn))
    clear h
    go_enter Try.func3, Try.ntmps3
    go_wp2_with fail
    refine BG.out.mono ?_
    rintro e w' ⟨rfl, hw⟩
    obtain rfl := hw.symm
    clear BG hw
    go_wp2_with fail
    refine DR.out.mono ?_
    rintro e w1 ⟨b, off, d, cp, F, G, a2, n2, c2, xs, rfl, hd1, hd8, hp, hrt, hr, hn2, hb1⟩
    have IR := hide (fun w1 hp hr => iRowOf_any (some ⟨b, off, none⟩) a2 d cp n2 c2 F G xs w1 hp hr (by omega))
    have SR := hide (fun w1 hp hr => sRowOf_any (some ⟨b, off, none⟩) a2 d cp n2 c2 F G xs w1 hp hr (by omega) (by omega))
    obtain ⟨ok, hok⟩ : ∃ v, formB d F G n2 xs = v := ⟨_, rfl⟩
    simp only [hok] at IR SR
    have P1 := hide hp
    have R1 := hide hr
    have B1 := hide hb1
    have HL := hide hr.len
    have FACT : Hid (formB d F G n2 xs = ok) := hide hok
    clear hp hr hb1 hok DR hrt
    go_wp2_with fail
    refine (IR.out _ P1.out R1.out).mono ?_
    rintro e w2 ⟨m, q1, q2, q3, k1, k2, k3, rfl, hm, h3, hb2⟩
    obtain ⟨y1, y2, y3⟩ := h3.rows
    have ba2 : Below w2.heap.size w2 (w2.alloc (.cells #[.slice q1 m k1, .slice q2 m k2, .slice q3 m k3] 29)) := balloc (Below.refl _ _) _
    have P2 := hide ((P1.out.below hb2).below ba2)
    have R2 := hide ((R1.out.below hb2).below ba2)
    have B2 := hide (bstep (bstep B1.out hb2) ba2)
    have X2 := hide (TriW.new w2 (.slice q1 m k1) (.slice q2 m k2) (.slice q3 m k3) 29 _ rfl)
    have V2 : Hid (RowV.is ⟨q1, q2, q3, m, m, m, k1, k2, k3⟩ _ _ _ _) := hide (RowV.is.below (⟨y1, y2, y3⟩ : RowV.is ⟨q1, q2, q3, m, m, m, k1, k2, k3⟩ w2 _ _ _) ba2)
    have HM := hide hm
    have hmd : m ≤ 8 := by rw [hm]; split <;> omega
    clear h3 y1 y2 y3 hb2 ba2 P1 R1 B1 hm
    go_wp2_with fail
    refine (SR.out _ P2.out R2.out).mono ?_
    rintro e w3 ⟨v, rfl, s1, s2, s3, j1, j2, j3, rfl, z1, z2, z3, hb3⟩
    have em := HM.out.symm
    rw [em] at z1 z2 z3 ⊢
    have ba3 : Below w3.heap.size w3 (w3.alloc (.cells #[.slice s1 m j1, .slice s2 m j2, .slice s3 m j3] 29)) := balloc (Below.refl _ _) _
    have P3 := hide ((P2.out.below hb3).below ba3)
    have R3 := hide ((R2.out.below hb3).below ba3)
    have B3 := hide (bstep (bstep B2.out hb3) ba3)
    have X3 := hide ((X2.out.below hb3).below ba3)
    have V3 := hide ((V2.out.below hb3).below ba3)
    have Z3 := hide (TriW.new w3 (.slice s1 m j1) (.slice s2 m j2) (.slice s3 m j3) 29 _ rfl)
    have U3 : Hid (RowV.is ⟨s1, s2, s3, m, m, m, j1, j2, j3⟩ _ _ _ _) := hide (RowV.is.below (⟨z1, z2, z3⟩ : RowV.is ⟨s1, s2, s3, m, m, m, j1, j2, j3⟩ w3 _ _ _) ba3)
    clear hb3 ba3 P2 R2 B2 X2 V2 em z1 z2 z3 SR
    obtain ⟨z, hz⟩ : ∃ z, w2.heap.size = z := ⟨_, rfl⟩
    rw [hz] at X3
    rw [hz]
    clear hz
    have t1 : (ok != ok) = false := by cases ok <;> rfl
    have t2 : (ok == ok) = true := by cases ok <;> rfl
    have SM := hide (fun w1 hq hp => sameRow_self q1 q2 q3 s1 s2 s3 m k1 k2 k3 j1 j2 j3 (ints (vcode F G xs 1) m) (ints (vcode F G xs 2) m) (ints (vcode F G xs 3) m) w1 hq hp (by omega))
    obtain ⟨_, x0, x1, x2, _, _, _⟩ := X3.out
    obtain ⟨_, y0, y1, y2, _, _, _⟩ := Z3.out
    go_wp2_with fail
    refine (SM.out _ V3.out U3.out).mono ?_
    rintro e w4 ⟨rfl, hb4⟩
    have P4 := hide (P3.out.below hb4)
    have R4 := hide (R3.out.below hb4)
    have B4 := hide (bstep B3.out hb4)
    have X4 := hide (X3.out.below hb4)
    have V4 := hide (V3.out.below hb4)
    have Z4 := hide (Z3.out.below hb4)
    have U4 := hide (U3.out.below hb4)
    clear hb4 P3 R3 B3 X3 V3 Z3 U3 x0 x1 x2 y0 y1 y2
    cases ok
    · obtain ⟨_, x0, x1, x2, _, _, _⟩ := X4.out
      obtain ⟨_, y0, y1, y2, _, _, _⟩ := Z4.out
      go_wp2_with fail
      refine (SM.out _ V4.out U4.out).mono ?_
      rintro e w5 ⟨rfl, hb5⟩
      have B5 := hide (bstep B4.out hb5)
      clear hb5 x0 x1 x2 y0 y1 y2
      go_wp2_with fail
      go_ret
      exact ⟨rfl, B5.out⟩
    · have hmd : d = m := by have := HM.out; simpa using this.symm
      subst hmd
      have hnd : d = n2 := (form_parts FACT.out).2.2
      subst hnd
      have hxl := HL.out
      have hrow := row_right FACT.out hxl
      have HAS := hide (fun t (ht : tierB t = true) => box_has FACT.out hxl ht)
      have IB := hide (fun t w1 (ht : tierB t = true) hp hr => iBoxOf_any (some ⟨b, off, none⟩) d cp F G ⟨q1, q2, q3, d, d, d, k1, k2, k3⟩ (ints (vcode F G xs 1) d) (ints (vcode F G xs 2) d) (ints (vcode F G xs 3) d) t w1 hp hr)
      have IO := hide (fun w1 hp hr => iRowOk_any (some ⟨b, off, none⟩) d cp F G ⟨q1, q2, q3, d, d, d, k1, k2, k3⟩ (ints (vcode F G xs 1) d) (ints (vcode F G xs 2) d) (ints (vcode F G xs 3) d) w1 hp hr)
      simp only [hrow, Bool.true_and] at IB IO
      unfold RowV.v at IB IO
      simp only at IB IO
      clear FACT HM HL hrow hxl SM Z4 U4
      go_wp2_with fail
      go_loopw [9] (fun i wr => ∃ t : Nat, 1 ≤ t ∧ t ≤ 4 ∧ i = .int .i64 t ∧ Below w4.heap.size w4 wr) (fun i _ => 4 - (intOf i).toNat)
      case atStart => exact ⟨1, Nat.le_refl _, by omega, rfl, Below.refl _ _⟩
      case round =>
        obtain ⟨t, ht1, ht4, rfl, hbel⟩ := hrel
        have HB := hide hbel
        have P := hide (P4.out.below hbel)
        have R := hide (R4.out.below hbel)
        have X := hide (X4.out.below hbel)
        have V := hide (V4.out.below hbel)
        have BW := hide (bstep B4.out hbel)
        clear hbel
        obtain ⟨_, x0, x1, x2, _, _, _⟩ := X.out
        by_cases h3 : t ≤ 3
        · have h3' : (t : Int) ≤ 3 := by omega
          have htB : tierB (t : Int) = true := decide_eq_true (by omega)
          have IBt := hide (IB.out (t : Int) wr htB P.out V.out)
          rw [htB, tierL_code htB] at IBt
          have HT := hide (HAS.out (t : Int) htB)
          clear htB
          go_wp2_with fail
          refine IBt.out.mono ?_
          rintro e w5 ⟨ba, bm, rfl, hbm, hbl, hb5⟩
          have hbm' : d = bm := by simpa using hbm.symm
          subst hbm'
          have PB : PRow w5 ba d (boxF F G (t : Int) (ints (vcode F G xs (t : Int)) d)) (boxG F G (t : Int) (ints (vcode F G xs (t : Int)) d)) := by
            rcases hbl with h0 | ⟨b5, e5, _, _, o5⟩
            · omega
            · rw [e5]; exact o5.prow
          have BH := hide (iBoxHas_any ba a2 d d d c2 _ _ xs w5 PB (R.out.below hb5) (by omega))
          rw [HT.out] at BH
          have HB5 := hide (bstep HB.out hb5)
          clear hbm hbl PB hb5 x0 x1 x2 IBt HT P R X V BW HB
          go_wp2_with fail
          refine BH.out.mono ?_
          rintro e w6 ⟨rfl, hb6⟩
          have HB6 := hide (bstep HB5.out hb6)
          clear hb6 HB5 BH
          go_wp2_with fail
          go_roundw
          case rel => exact ⟨t + 1, by omega, by omega, by go_num, HB6.out⟩
          case measure => simp [intOf]; omega
        · have h3' : ¬ ((t : Int) ≤ 3) := by omega
          have IOt := hide (IO.out wr P.out V.out)
          go_wp2_with fail
          refine IOt.out.mono ?_
          rintro e w5 ⟨rfl, hb5⟩
          have B5 := hide (bstep BW.out hb5)
          clear hb5 x0 x1 x2
          go_wp2_with fail
          go_ret
          exact ⟨rfl, B5.out⟩
  · rw [decide_eq_true (show 1048576 < n by omega)] at BG
    go_enter Try.func3, Try.ntmps3
    go_wp2_with fail
    refine BG.out.mono ?_
    rintro e w' ⟨rfl, rfl⟩
    go_wp2
    go_ret
    exact ⟨rfl, (by repeat' first | with_reducible exact Below.refl _ _ | with_reducible assumption | with_reducible refine below_drewN ?_ _ | with_reducible refine balloc ?_ _ | with_reducible refine Below.drew ?_ | with_reducible refine Below.setCell ?_ (by first | (simp; done) | (simp; omega) | omega) _ | with_reducible refine bstep ?_ (by assumption))⟩
end Go.Proofs.Ytokodpgodlilmaa
