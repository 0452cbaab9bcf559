/- The walk of the law FnRangeMeet. -/
import Derived.Test.YtnfonhebafhffaaDU
import Derived.Test.YtnfonhebafhffaaDP
import Derived.Laws.StructEq
import Derived.Deep.RegionHeld3
import Derived.Deep.DeepCutAuto
namespace Go.Proofs.Ytnfonhebafhffaa
open Go.RowKit
set_option linter.unusedSimpArgs false
set_option linter.unusedVariables false

theorem eqRg (a b c d : Int) (w : World) : (Op.equalIn 10000 25 (.agg #[.int .i64 a, .int .i64 b]) (.agg #[.int .i64 c, .int .i64 d])).run Try.prog w = .ok (a == c && b == d) w := by
  have u3 := Try.underlying2
  have k3 := Try.isAgg2
  have z3 := Try.sizeOf2
  have hS : Try.prog.underlying 25 = some (.struct (Try.prog.fieldsOf 25)) := by kernel_rfl
  rw [show (10000 : Nat) = 9999 + 1 from rfl, run_equalIn_agg w 9999 25 _ _ hS (by kernel_rfl)]
  simp only [Program.fieldsOf, Try.underlying25]
  go_simp
  by_cases h1 : a = c <;> by_cases h2 : b = d <;> simp [h1, h2]

theorem meet_has (al ah bl bh x : Int) : (hasB al ah x && hasB bl bh x) = (meetB al ah bl bh && hasB (max al bl) (min ah bh) x) := by
  simp only [hasB, meetB, rightB, inB, compB]
  rw [Bool.eq_iff_iff]
  simp only [Bool.and_eq_true, decide_eq_true_eq]
  omega

theorem Bx.drew {w : World} {b : Nat} {x y : Value} (h : Bx w b x y) : Bx w.drew b x y := ⟨h.lt, h.c0, h.c1, h.f0, h.f1⟩

set_option maxHeartbeats 4000000 in
theorem rangeMeet_walk (a : Option Addr) (n cap : Nat) (zs : List Int) (w : World) (h : IsRow .u8 w a n cap zs) :
    Calls Try.prog 4 #[.slice a n cap] w fun e w' => e = .returned (.bool true) ∧ Below w.heap.size w w' := by
  have BG := hide (big_any a n cap w)
  by_cases hn : n ≤ 1048576
  · rw [decide_eq_false (show ¬ 1048576 < n by omega)] at BG
    have hcode := h.code hn
    have DR := hide (drawRangeMeet_any a n cap w hcode)
    have DH := hide (fun w1 (hb : Below w.heap.size w w1) => drawRangeHas_any a n cap w1 (hcode.below hb))
    clear h hcode
    go_enter Try.func4, Try.ntmps4
    go_wp2_with fail
    refine BG.out.mono ?_
    rintro e w' ⟨rfl, hw⟩
    obtain rfl := hw.symm
    clear BG hw
    go_wp2_with fail
    refine DR.out.mono ?_
    rintro e w1 ⟨al, ah, bl, bh, rfl, hb1⟩
    have XA := hide ((Bx.new w1 (.int .i64 al) (.int .i64 ah) 25).alloc (.cells #[.int .i64 bl, .int .i64 bh] 25))
    have XB : Hid (Bx ((w1.alloc (.cells #[.int .i64 al, .int .i64 ah] 25)).alloc (.cells #[.int .i64 bl, .int .i64 bh] 25)) (w1.heap.size + 1) (.int .i64 bl) (.int .i64 bh)) := by
      have := Bx.new (w1.alloc (.cells #[.int .i64 al, .int .i64 ah] 25)) (.int .i64 bl) (.int .i64 bh) 25
      rw [World.size_alloc] at this
      exact this
    clear DR
    go_wp2_with fail
    refine (DH.out _ (by repeat' first | with_reducible exact Below.refl _ _ | with_reducible assumption | with_reducible refine below_drewN ?_ _ | with_reducible refine balloc ?_ _ | with_reducible refine Below.drew ?_ | with_reducible refine Below.setCell ?_ (by first | (simp; done) | (simp; omega) | omega) _ | with_reducible refine bstep ?_ (by assumption))).mono ?_
    rintro e w2 ⟨ul, uh, x, rfl, hb2⟩
    have XA := hide (XA.out.below hb2)
    have XB := hide (XB.out.below hb2)
    have Bw : Below w.heap.size w w2 := (by repeat' first | with_reducible exact Below.refl _ _ | with_reducible assumption | with_reducible refine below_drewN ?_ _ | with_reducible refine balloc ?_ _ | with_reducible refine Below.drew ?_ | with_reducible refine Below.setCell ?_ (by first | (simp; done) | (simp; omega) | omega) _ | with_reducible refine bstep ?_ (by assumption))
    clear DH hb1 hb2
    obtain ⟨m1, m2, mb, hm, hh⟩ : ∃ (m1 m2 : Int) (mb : Bool), Value.tuple #[if meetB al ah bl bh then .agg #[.int .i64 (max al bl), .int .i64 (min ah bh)] else .agg #[.int .i64 0, .int .i64 0], .bool (meetB al ah bl bh)] = .tuple #[.agg #[.int .i64 m1, .int .i64 m2], .bool mb] ∧ (hasB al ah x && hasB bl bh x) = (mb && hasB m1 m2 x) := by
      have q := meet_has al ah bl bh x
      cases hmb : meetB al ah bl bh
      · rw [hmb] at q
        exact ⟨0, 0, false, rfl, by rw [q]; rfl⟩
      · rw [hmb] at q
        exact ⟨_, _, true, rfl, q⟩
    have IM := iRangeMeet_any al ah bl bh
    have SM := sRangeMeet_any al ah bl bh
    rw [hm] at IM SM
    have KI := hide IM
    have KS := hide SM
    have IH := hide (fun w => iRangeHas_any al ah x w)
    have IHb := hide (fun w => iRangeHas_any bl bh x w)
    have IHm := hide (fun w => iRangeHas_any m1 m2 x w)
    have SH := hide (fun w => sRangeHas_any al ah x w)
    obtain ⟨pa, hpa⟩ : ∃ pa, hasB al ah x = pa := ⟨_, rfl⟩
    obtain ⟨pb, hpb⟩ : ∃ pb, hasB bl bh x = pb := ⟨_, rfl⟩
    obtain ⟨pm, hpm⟩ : ∃ pm, hasB m1 m2 x = pm := ⟨_, rfl⟩
    rw [hpa] at IH SH
    rw [hpb] at IHb
    rw [hpm] at IHm
    rw [hpa, hpb, hpm] at hh
    have HH := hide hh
    clear IM SM hm hpa hpb hpm hh
    obtain ⟨xa1, xa2, xa3, _, _⟩ := XA.out
    obtain ⟨xb1, xb2, xb3, _, _⟩ := XB.out
    have a1' : w1.heap.size < (w2.alloc (.cells #[.int .i64 ul, .int .i64 uh] 25)).heap.size := by simp; omega
    have XA := hide (XA.out.alloc (.cells #[.int .i64 ul, .int .i64 uh] 25))
    have XB := hide (XB.out.alloc (.cells #[.int .i64 ul, .int .i64 uh] 25))
    go_wp2_with fail
    refine (KI.out _).mono ?_
    rintro e w3 ⟨rfl, hb3⟩
    have XA := hide (XA.out.below hb3)
    have XB := hide (XB.out.below hb3)
    have Bw : Below w.heap.size w w3 := (by repeat' first | with_reducible exact Below.refl _ _ | with_reducible assumption | with_reducible refine below_drewN ?_ _ | with_reducible refine balloc ?_ _ | with_reducible refine Below.drew ?_ | with_reducible refine Below.setCell ?_ (by first | (simp; done) | (simp; omega) | omega) _ | with_reducible refine bstep ?_ (by assumption))
    clear xa1 xa2 xa3 xb1 xb2 xb3 hb3 a1'
    obtain ⟨xa1, xa2, xa3, _, _⟩ := XA.out
    obtain ⟨xb1, xb2, xb3, _, _⟩ := XB.out
    have XM := hide (Bx.new w3 (.int .i64 m1) (.int .i64 m2) 25)
    have XA := hide (XA.out.alloc (.cells #[.int .i64 m1, .int .i64 m2] 25))
    have XB := hide (XB.out.alloc (.cells #[.int .i64 m1, .int .i64 m2] 25))
    go_wp2_with fail
    refine (KS.out _).mono ?_
    rintro e w4 ⟨rfl, hb4⟩
    have XA := hide (XA.out.below hb4)
    have XB := hide (XB.out.below hb4)
    have XM := hide (XM.out.below hb4)
    have Bw : Below w.heap.size w w4 := (by repeat' first | with_reducible exact Below.refl _ _ | with_reducible assumption | with_reducible refine below_drewN ?_ _ | with_reducible refine balloc ?_ _ | with_reducible refine Below.drew ?_ | with_reducible refine Below.setCell ?_ (by first | (simp; done) | (simp; omega) | omega) _ | with_reducible refine bstep ?_ (by assumption))
    clear xa1 xa2 xa3 xb1 xb2 xb3 hb4
    have XW := hide (Bx.new w4 (.int .i64 m1) (.int .i64 m2) 25)
    have XA := hide (XA.out.alloc (.cells #[.int .i64 m1, .int .i64 m2] 25))
    have XB := hide (XB.out.alloc (.cells #[.int .i64 m1, .int .i64 m2] 25))
    have XM := hide (XM.out.alloc (.cells #[.int .i64 m1, .int .i64 m2] 25))
    have hEq : ∀ w, (Op.equalIn 10000 25 (.agg #[.int .i64 m1, .int .i64 m2]) (.agg #[.int .i64 m1, .int .i64 m2])).run Try.prog w = .ok true w := fun w => by rw [eqRg]; simp
    have hmm : (mb != mb) = false := by cases mb <;> rfl
    have hpp : (pa != pa) = false := by cases pa <;> rfl
    go_upto_region 7 with fail
    go_cut [51] (fun s wx => s = .bool false ∧ Bx wx w1.heap.size (.int .i64 al) (.int .i64 ah) ∧ Bx wx (w1.heap.size + 1) (.int .i64 bl) (.int .i64 bh) ∧ Bx wx w3.heap.size (.int .i64 m1) (.int .i64 m2) ∧ Below w.heap.size w wx)
    case first =>
      obtain ⟨xa1, xa2, xa3, _, _⟩ := XA.out
      obtain ⟨xm1, xm2, xm3, _, _⟩ := XM.out
      obtain ⟨xw1, xw2, xw3, _, _⟩ := XW.out
      have KB : Hid (∀ W W' : World, (Bx W w1.heap.size (.int .i64 al) (.int .i64 ah) ∧ Bx W (w1.heap.size + 1) (.int .i64 bl) (.int .i64 bh) ∧ Bx W w3.heap.size (.int .i64 m1) (.int .i64 m2) ∧ Bx W w4.heap.size (.int .i64 m1) (.int .i64 m2)) → Below W.heap.size W W' → (Bx W' w1.heap.size (.int .i64 al) (.int .i64 ah) ∧ Bx W' (w1.heap.size + 1) (.int .i64 bl) (.int .i64 bh) ∧ Bx W' w3.heap.size (.int .i64 m1) (.int .i64 m2) ∧ Bx W' w4.heap.size (.int .i64 m1) (.int .i64 m2))) := fun W W' h hb => ⟨h.1.below hb, h.2.1.below hb, h.2.2.1.below hb, h.2.2.2.below hb⟩
      have Z0 := hide (And.intro XA.out.drew (And.intro XB.out.drew (And.intro XM.out.drew XW.out.drew)))
      go_region_held3 (fun w' => w'.cell? ⟨w1.heap.size, 0, none⟩ = some (.int .i64 al) ∧ w'.cell? ⟨w1.heap.size, 1, none⟩ = some (.int .i64 ah) ∧ w'.cell? ⟨w3.heap.size, 0, none⟩ = some (.int .i64 m1) ∧ w'.cell? ⟨w3.heap.size, 1, none⟩ = some (.int .i64 m2) ∧ w'.cell? ⟨w4.heap.size, 0, none⟩ = some (.int .i64 m1) ∧ w'.cell? ⟨w4.heap.size, 1, none⟩ = some (.int .i64 m2)) (refine ⟨?_, ?_, ?_, ?_, ?_, ?_⟩ <;> first | with_reducible assumption | exact xa2 | exact xa3 | exact xm2 | exact xm3 | exact xw2 | exact xw3) (first | (go_at_call 18; refine (IH.out _).mono ?_; rintro e w5 ⟨rfl, hb5⟩; have z5 := hide (KB.out _ _ Z0.out hb5); obtain ⟨⟨ya1, ya2, ya3, ya4, ya5⟩, _, ⟨ym1, ym2, ym3, ym4, ym5⟩, ⟨yw1, yw2, yw3, yw4, yw5⟩⟩ := z5.out) | (go_at_call 19; refine (SH.out _).mono ?_; rintro e w6 ⟨rfl, hb6⟩; have z6 := hide (KB.out _ _ z5.out hb6); obtain ⟨⟨va1, va2, va3, va4, va5⟩, _, ⟨vm1, vm2, vm3, vm4, vm5⟩, ⟨vw1, vw2, vw3, vw4, vw5⟩⟩ := z6.out))
      all_goals
        go_wp2_with fail
        go_meet
        exact ⟨rfl, z6.out.1, z6.out.2.1, z6.out.2.2.1, (by repeat' first | with_reducible exact Below.refl _ _ | with_reducible assumption | with_reducible refine below_drewN ?_ _ | with_reducible refine balloc ?_ _ | with_reducible refine Below.drew ?_ | with_reducible refine Below.setCell ?_ (by first | (simp; done) | (simp; omega) | omega) _ | with_reducible refine bstep ?_ (by assumption))⟩
    case rest =>
      obtain ⟨rfl, xa, xb, xm, Bw⟩ := hcut
      clear XA XB XM XW
      have XA := hide xa
      have XB := hide xb
      have XM := hide xm
      obtain ⟨xa1, xa2, xa3, _, _⟩ := xa
      clear xb xm KI KS SH
      have heq : ((pa && pb) == (mb && pm)) = true := by rw [HH.out]; simp
      have HE := hide heq
      clear heq
      go_wp2_with fail
      refine (IH.out _).mono ?_
      rintro e w7 ⟨rfl, hb7⟩
      have XB := hide (XB.out.below hb7)
      have XM := hide (XM.out.below hb7)
      cases pa
      · cases mb
        · go_wp2_with fail
          go_ret
          exact ⟨rfl, (by repeat' first | with_reducible exact Below.refl _ _ | with_reducible assumption | with_reducible refine below_drewN ?_ _ | with_reducible refine balloc ?_ _ | with_reducible refine Below.drew ?_ | with_reducible refine Below.setCell ?_ (by first | (simp; done) | (simp; omega) | omega) _ | with_reducible refine bstep ?_ (by assumption))⟩
        · obtain ⟨xm1, xm2, xm3, _, _⟩ := XM.out
          have hpm : pm = false := by have := HE.out; cases pm <;> simp_all
          subst hpm
          go_wp2_with fail
          refine (IHm.out _).mono ?_
          rintro e w8 ⟨rfl, hb8⟩
          go_wp2_with fail
          go_ret
          exact ⟨rfl, (by repeat' first | with_reducible exact Below.refl _ _ | with_reducible assumption | with_reducible refine below_drewN ?_ _ | with_reducible refine balloc ?_ _ | with_reducible refine Below.drew ?_ | with_reducible refine Below.setCell ?_ (by first | (simp; done) | (simp; omega) | omega) _ | with_reducible refine bstep ?_ (by assumption))⟩
      · obtain ⟨xb1, xb2, xb3, _, _⟩ := XB.out
        go_wp2_with fail
        refine (IHb.out _).mono ?_
        rintro e w8 ⟨rfl, hb8⟩
        have XM := hide (XM.out.below hb8)
        cases mb
        · have hpb : pb = false := by have := HE.out; cases pb <;> simp_all
          subst hpb
          go_wp2_with fail
          go_ret
          exact ⟨rfl, (by repeat' first | with_reducible exact Below.refl _ _ | with_reducible assumption | with_reducible refine below_drewN ?_ _ | with_reducible refine balloc ?_ _ | with_reducible refine Below.drew ?_ | with_reducible refine Below.setCell ?_ (by first | (simp; done) | (simp; omega) | omega) _ | with_reducible refine bstep ?_ (by assumption))⟩
        · have hpb : pb = pm := by have := HE.out; cases pb <;> cases pm <;> simp_all
          subst hpb
          have hbb : (pb == pb) = true := by cases pb <;> rfl
          obtain ⟨xm1, xm2, xm3, _, _⟩ := XM.out
          go_wp2_with fail
          refine (IHm.out _).mono ?_
          rintro e w9 ⟨rfl, hb9⟩
          go_wp2_with fail
          go_ret
          exact ⟨rfl, (by repeat' first | with_reducible exact Below.refl _ _ | with_reducible assumption | with_reducible refine below_drewN ?_ _ | with_reducible refine balloc ?_ _ | with_reducible refine Below.drew ?_ | with_reducible refine Below.setCell ?_ (by first | (simp; done) | (simp; omega) | omega) _ | with_reducible refine bstep ?_ (by assumption))⟩
  · rw [decide_eq_true (show 1048576 < n by omega)] at BG
    go_enter Try.func4, Try.ntmps4
    go_wp2_with fail
    refine BG.out.mono ?_
    rintro e w' ⟨rfl, rfl⟩
    go_wp2
    go_ret
    exact ⟨rfl, (by repeat' first | with_reducible exact Below.refl _ _ | with_reducible assumption | with_reducible refine below_drewN ?_ _ | with_reducible refine balloc ?_ _ | with_reducible refine Below.drew ?_ | with_reducible refine Below.setCell ?_ (by first | (simp; done) | (simp; omega) | omega) _ | with_reducible refine bstep ?_ (by assumption))⟩
end Go.Proofs.Ytnfonhebafhffaa
