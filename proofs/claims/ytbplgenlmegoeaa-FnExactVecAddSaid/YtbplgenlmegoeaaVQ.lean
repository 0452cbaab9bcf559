/- The walk of the law FnExactVecAdd. -/
import Derived.Test.YtbplgenlmegoeaaVP
namespace Go.Proofs.Ytbplgenlmegoeaa
open Go.RowKit
set_option linter.unusedSimpArgs false
set_option linter.unusedVariables false

theorem addL_len (xs ys : List Int) : (addL xs ys).length ≤ 8 := by
  unfold addL
  cases h : addOkB xs ys
  · simp
  · simp only [if_true, ints_len]
    unfold addOkB at h
    simp only [Bool.and_eq_true] at h
    exact (vecOk_bd h.1.1.1 rfl).2.1

set_option maxHeartbeats 4000000 in
theorem exactVecAdd_walk (a : Option Addr) (n cap : Nat) (zs : List Int) (a' : Option Addr) (n' cap' : Nat) (zs' : List Int) (w : World) (h : IsRow .i64 w a n cap zs) (h' : IsRow .i64 w a' n' cap' zs') :
    Calls Try.prog 5 #[.slice a n cap, .slice a' n' cap'] w fun e w' => e = .returned (.bool true) ∧ Below w.heap.size w w' := by
  by_cases hn : n ≤ 1048576
  · by_cases hn' : n' ≤ 1048576
    · have hr := h.row
      have hr' := h'.row
      generalize zs.take n = xs at hr
      generalize zs'.take n' = ys at hr'
      clear h h'
      have hl := hr.len
      have hl' := hr'.len
      subst hl hl'
      have HR := hide hr
      have HR' := hide hr'
      clear hr hr'
      obtain ⟨m, hm⟩ : ∃ m, (addL xs ys).length = m := ⟨_, rfl⟩
      obtain ⟨ok, hok⟩ : ∃ ok, addOkB xs ys = ok := ⟨_, rfl⟩
      have hm8 := addL_len xs ys
      rw [hm] at hm8
      have SN := hide (fun a a' n cap n' cap' w h h' hn hn' => sVecAdd_any a a' n cap n' cap' xs ys w h h' hn hn')
      have IN := hide (fun a a' n cap n' cap' w h h' hn hn' => iVecAdd_any a a' n cap n' cap' xs ys w h h' hn hn')
      rw [hm, hok] at SN
      have hne : (ok != ok) = false := by cases ok <;> rfl
      have HOK := hide hok
      clear hok
      go_enter Try.func5, Try.ntmps5
      go_wp2_with fail
      refine (toInts_any a xs.length cap xs _ HR.out hn).mono ?_
      rintro e w1 ⟨g1, rfl, hg1, ho1, hb1⟩
      go_wp2_with fail
      refine (toInts_any a' ys.length cap' ys _ (HR'.out.below hb1) hn').mono ?_
      rintro e w2 ⟨g2, rfl, hg2, ho2, hb2⟩
      go_wp2_with fail
      refine (SN.out _ _ _ _ _ _ _ (ho1.below hb2).row ho2.row hn hn').mono ?_
      rintro e w3 ⟨a3, c3, rfl, hr3, hb3⟩
      have RA := hide (((HR.out.below hb1).below hb2).below hb3)
      have RB := hide (((HR'.out.below hb1).below hb2).below hb3)
      have B3 : Below w.heap.size w w3 := (by repeat' first | with_reducible exact Below.refl _ _ | with_reducible assumption | with_reducible refine below_drewN ?_ _ | with_reducible refine balloc ?_ _ | with_reducible refine Below.drew ?_ | with_reducible refine Below.setCell ?_ (by first | (simp; done) | (simp; omega) | omega) _ | with_reducible refine bstep ?_ (by assumption))
      have s3 := B3.size
      clear ho1 ho2 hb1 hb2 hb3
      go_wp2_with fail
      refine (toInts_any a xs.length cap xs _ RA.out hn).mono ?_
      rintro e w4 ⟨g4, rfl, hg4, ho4, hb4⟩
      go_wp2_with fail
      refine (toInts_any a' ys.length cap' ys _ (RB.out.below hb4) hn').mono ?_
      rintro e w5 ⟨g5, rfl, hg5, ho5, hb5⟩
      have lt4 : g4 < w4.heap.size := World.rowIs.lt ho4
      have lt5 : g5 < w5.heap.size := World.rowIs.lt ho5
      have s4 := hb4.size
      have s5 := hb5.size
      go_wp2_with fail
      refine (IN.out _ _ _ _ _ _ _ (ho4.below hb5).row ho5.row hn hn').mono ?_
      rintro e w6 ⟨v, rfl, hf, hb6⟩
      obtain ⟨a6, c6, rfl, hm6⟩ := hf.mine
      rw [hm] at hm6 ⊢
      rw [HOK.out]
      have hr6 := ((hr3.below hb4).below hb5).below hb6
      have o4 := (ho4.below hb5).below hb6
      have o5 := ho5.below hb6
      have RA6 := hide (((RA.out.below hb4).below hb5).below hb6)
      have RB6 := hide (((RB.out.below hb4).below hb5).below hb6)
      have B6 : Below w.heap.size w w6 := (by repeat' first | with_reducible exact Below.refl _ _ | with_reducible assumption | with_reducible refine below_drewN ?_ _ | with_reducible refine balloc ?_ _ | with_reducible refine Below.drew ?_ | with_reducible refine Below.setCell ?_ (by first | (simp; done) | (simp; omega) | omega) _ | with_reducible refine bstep ?_ (by assumption))
      have s6 := hb6.size
      clear hf ho4 ho5 hb4 hb5 hb6
      go_wp2_with fail
      refine (eqInts_any _ _ _ _ _ _ _ _ _ hm6.row hr6 (by omega)).mono ?_
      rintro e w7 ⟨rfl, hb7⟩
      rw [decide_eq_true rfl]
      go_wp2_with fail
      refine (toInts_any a xs.length cap xs _ (RA6.out.below hb7) hn).mono ?_
      rintro e w8 ⟨g8, rfl, hg8, ho8, hb8⟩
      have o4 := (o4.below hb7).below hb8
      have o5 := (o5.below hb7).below hb8
      go_wp2_with fail
      refine (eqInts_any _ _ _ _ _ _ _ _ _ o4.row ho8.row hn).mono ?_
      rintro e w9 ⟨rfl, hb9⟩
      rw [decide_eq_true rfl]
      have RA9 := hide (((RA6.out.below hb7).below hb8).below hb9)
      have RB9 := hide (((RB6.out.below hb7).below hb8).below hb9)
      have o4 := o4.below hb9
      have o5 := o5.below hb9
      have hr9 := ((hr6.below hb7).below hb8).below hb9
      have hm9 := ((hm6.below hb7).below hb8).below hb9
      have B9 : Below w.heap.size w w9 := (by repeat' first | with_reducible exact Below.refl _ _ | with_reducible assumption | with_reducible refine below_drewN ?_ _ | with_reducible refine balloc ?_ _ | with_reducible refine Below.drew ?_ | with_reducible refine Below.setCell ?_ (by first | (simp; done) | (simp; omega) | omega) _ | with_reducible refine bstep ?_ (by assumption))
      have s9 : w6.heap.size ≤ w9.heap.size := by have := hb7.size; have := hb8.size; have := hb9.size; omega
      clear hb7 hb8 hb9 ho8 hr6 hm6
      go_wp2_with fail
      refine (toInts_any a' ys.length cap' ys _ RB9.out hn').mono ?_
      rintro e w10 ⟨g10, rfl, hg10, ho10, hb10⟩
      go_wp2_with fail
      refine (eqInts_any _ _ _ _ _ _ _ _ _ (o5.below hb10).row ho10.row hn').mono ?_
      rintro e w11 ⟨rfl, hb11⟩
      rw [decide_eq_true rfl]
      have RA11 := hide ((RA9.out.below hb10).below hb11)
      have RB11 := hide ((RB9.out.below hb10).below hb11)
      have o4 := (o4.below hb10).below hb11
      have o5 := (o5.below hb10).below hb11
      have hr11 := (hr9.below hb10).below hb11
      have hm11 := (hm9.below hb10).below hb11
      have B11 : Below w.heap.size w w11 := (by repeat' first | with_reducible exact Below.refl _ _ | with_reducible assumption | with_reducible refine below_drewN ?_ _ | with_reducible refine balloc ?_ _ | with_reducible refine Below.drew ?_ | with_reducible refine Below.setCell ?_ (by first | (simp; done) | (simp; omega) | omega) _ | with_reducible refine bstep ?_ (by assumption))
      have s11 : w9.heap.size ≤ w11.heap.size := by have := hb10.size; have := hb11.size; omega
      clear hb10 hb11 ho10 hr9 hm9
      go_wp2_with fail
      refine (markInts_any g4 xs.length _ 1 xs _ o4 rfl hn (by omega) (by omega)).mono ?_
      rintro e w12 ⟨rfl, o4', bt12⟩
      have o5 := bt12.own o5 (by omega)
      have hr12 := hr3.butFrom hr11 bt12 (by omega)
      have hm12 := hm11.but bt12 (by omega)
      have RA12 := hide (HR.out.butFrom RA11.out bt12 (by omega))
      have RB12 := hide (HR'.out.butFrom RB11.out bt12 (by omega))
      have B12 : Below w.heap.size w w12 := B11.trans (bt12.below (by omega) (by omega))
      have s12 := bt12.size
      clear bt12 o4 o4' hr11 hm11
      go_wp2_with fail
      refine (markInts_any g5 ys.length _ _ ys _ o5 rfl hn' (by omega) (by omega)).mono ?_
      rintro e w13 ⟨rfl, o5', bt13⟩
      have hr13 := hr3.butFrom hr12 bt13 (by omega)
      have hm13 := hm12.but bt13 (by omega)
      have RA13 := hide (HR.out.butFrom RA12.out bt13 (by omega))
      have RB13 := hide (HR'.out.butFrom RB12.out bt13 (by omega))
      have B13 : Below w.heap.size w w13 := B12.trans (bt13.below (by omega) (by omega))
      have s13 := bt13.size
      clear bt13 o5 o5' hr12 hm12
      go_wp2_with fail
      refine (eqInts_any _ _ _ _ _ _ _ _ _ hm13.row hr13 (by omega)).mono ?_
      rintro e w14 ⟨rfl, hb14⟩
      rw [decide_eq_true rfl]
      have hr14 := hr13.below hb14
      have hm14 := hm13.below hb14
      have RA14 := hide (RA13.out.below hb14)
      have RB14 := hide (RB13.out.below hb14)
      have B14 : Below w.heap.size w w14 := (by repeat' first | with_reducible exact Below.refl _ _ | with_reducible assumption | with_reducible refine below_drewN ?_ _ | with_reducible refine balloc ?_ _ | with_reducible refine Below.drew ?_ | with_reducible refine Below.setCell ?_ (by first | (simp; done) | (simp; omega) | omega) _ | with_reducible refine bstep ?_ (by assumption))
      have s14 := hb14.size
      clear hb14 hr13 hm13
      go_wp2_with fail
      refine (markMine_any w5.heap.size m _ a6 1 _ _ hm14 (by omega) (by omega) (by omega) (by omega)).mono ?_
      rintro e w15 ⟨rfl, hm15, hb15⟩
      have hr15 := hr3.belowFrom hr14 hb15 (by omega)
      have RA15 := hide (HR.out.belowFrom RA14.out hb15 (by omega))
      have RB15 := hide (HR'.out.belowFrom RB14.out hb15 (by omega))
      have B15 : Below w.heap.size w w15 := B14.trans (hb15.mono (by omega))
      clear hb15 hr14 hm14
      go_wp2_with fail
      refine (heldMine_any w5.heap.size m _ a6 1 _ hm15 (by omega) (by omega) (by omega)).mono ?_
      rintro e w16 ⟨rfl, rfl⟩
      have hne2 : ((1 : Int) + (m : Int) != 1 + (m : Int)) = false := by simp
      go_wp2_with fail
      refine (toInts_any a xs.length cap xs _ RA15.out hn).mono ?_
      rintro e w17 ⟨g17, rfl, hg17, ho17, hb17⟩
      go_wp2_with fail
      refine (toInts_any a' ys.length cap' ys _ (RB15.out.below hb17) hn').mono ?_
      rintro e w18 ⟨g18, rfl, hg18, ho18, hb18⟩
      go_wp2_with fail
      refine (IN.out _ _ _ _ _ _ _ (ho17.below hb18).row ho18.row hn hn').mono ?_
      rintro e w19 ⟨v, rfl, hf, hb19⟩
      obtain ⟨a19, c19, rfl, hm19⟩ := hf.mine
      rw [hm] at hm19 ⊢
      rw [HOK.out]
      have hr19 := ((hr15.below hb17).below hb18).below hb19
      go_wp2_with fail
      refine (eqInts_any _ _ _ _ _ _ _ _ _ hm19.row hr19 (by omega)).mono ?_
      rintro e w20 ⟨rfl, hb20⟩
      rw [decide_eq_true rfl]
      have hm20 := (((hm15.below hb17).below hb18).below hb19).below hb20
      go_wp2_with fail
      refine (heldMine_any w5.heap.size m _ a6 1 _ hm20 (by omega) (by omega) (by omega)).mono ?_
      rintro e w21 ⟨rfl, rfl⟩
      go_wp2
      go_ret
      exact ⟨rfl, (by repeat' first | with_reducible exact Below.refl _ _ | with_reducible assumption | with_reducible refine below_drewN ?_ _ | with_reducible refine balloc ?_ _ | with_reducible refine Below.drew ?_ | with_reducible refine Below.setCell ?_ (by first | (simp; done) | (simp; omega) | omega) _ | with_reducible refine bstep ?_ (by assumption))⟩
    · have k1 : (n : Int) ≤ 1048576 := by omega
      have k2 : (1048576 : Int) < n' := by omega
      go_enter Try.func5, Try.ntmps5
      go_wp2
      go_ret
      exact ⟨rfl, (by repeat' first | with_reducible exact Below.refl _ _ | with_reducible assumption | with_reducible refine below_drewN ?_ _ | with_reducible refine balloc ?_ _ | with_reducible refine Below.drew ?_ | with_reducible refine Below.setCell ?_ (by first | (simp; done) | (simp; omega) | omega) _ | with_reducible refine bstep ?_ (by assumption))⟩
  · have k1 : (1048576 : Int) < n := by omega
    go_enter Try.func5, Try.ntmps5
    go_wp2
    go_ret
    exact ⟨rfl, (by repeat' first | with_reducible exact Below.refl _ _ | with_reducible assumption | with_reducible refine below_drewN ?_ _ | with_reducible refine balloc ?_ _ | with_reducible refine Below.drew ?_ | with_reducible refine Below.setCell ?_ (by first | (simp; done) | (simp; omega) | omega) _ | with_reducible refine bstep ?_ (by assumption))⟩
end Go.Proofs.Ytbplgenlmegoeaa
