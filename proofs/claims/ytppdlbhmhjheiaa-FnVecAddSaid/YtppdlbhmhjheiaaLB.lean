/- The walk of the law FnVecAdd. -/
import Derived.Test.YtppdlbhmhjheiaaDE
import Derived.Test.YtppdlbhmhjheiaaDP
import Derived.Test.YtppdlbhmhjheiaaVT
import Derived.Test.YtppdlbhmhjheiaaVS
namespace Go.Proofs.Ytppdlbhmhjheiaa
open Go.RowKit
set_option linter.unusedSimpArgs false
set_option linter.unusedVariables false

theorem row_made (w : World) (n : Nat) : Row (w.alloc (.cells (madeCells #[.int .i64 0] n) 2)) (some ⟨w.heap.size, 0, none⟩) n (ints (fun _ => 0) n) := by
  have h := World.rowIs_made w (.int .i64 0) n 2
  refine ⟨ints_len _ n, .inr ⟨w.heap.size, 0, rfl, World.rowIs.lt h, fun i hi => ?_⟩⟩
  rw [nth_ints _ n i hi, Nat.zero_add]
  exact World.rowIs.cell h hi

set_option maxHeartbeats 4000000 in
theorem vecAdd_walk (a : Option Addr) (n cap : Nat) (zs : List Int) (w : World) (h : IsRow .u8 w a n cap zs) :
    Calls Try.prog 5 #[.slice a n cap] w fun e w' => e = .returned (.bool true) ∧ Below w.heap.size w w' := by
  have BG := hide (big_any a n cap w)
  by_cases hn : n ≤ 1048576
  · rw [decide_eq_false (show ¬ 1048576 < n by omega)] at BG
    have hcode := h.code hn
    have DR := hide (drawVecAdd_any a n cap w hcode)
    clear h hcode
    go_enter Try.func5, Try.ntmps5
    go_wp2_with fail
    refine BG.out.mono ?_
    rintro e w' ⟨rfl, hw⟩
    obtain rfl := hw.symm
    clear BG hw
    go_wp2_with fail
    refine DR.out.mono ?_
    rintro e w1 ⟨a1, n1, c1, xs, a2, n2, c2, ys, rfl, r1, r2, h1, h2, hb1⟩
    clear DR
    obtain ⟨L, hL⟩ : ∃ L, addL xs ys = L := ⟨_, rfl⟩
    obtain ⟨ok, hok⟩ : ∃ ok, addOkB xs ys = ok := ⟨_, rfl⟩
    have hL8 := addL_len8 xs ys
    have I := hide (fun w (r1 : Row w a1 n1 xs) (r2 : Row w a2 n2 ys) => iAdd_row a1 a2 n1 c1 n2 c2 xs ys w r1 r2 (by omega) (by omega))
    have S := hide (fun w (r1 : Row w a1 n1 xs) (r2 : Row w a2 n2 ys) => sAdd_row a1 a2 n1 c1 n2 c2 xs ys w r1 r2 (by omega) (by omega))
    have I' := hide (fun w (r1 : Row w a1 n1 xs) (r2 : Row w a2 n2 ys) => iAdd_row a2 a1 n2 c2 n1 c1 ys xs w r2 r1 (by omega) (by omega))
    rw [hL, hok] at I S
    rw [addL_comm ys xs, addOkB_comm ys xs, hL, hok] at I'
    rw [hL] at hL8
    have SM := hide (fun a c a' c' w (r : Row w a L.length L) (r' : Row w a' L.length L) => sameInts_any a a' L.length c L.length c' L L w r r' (by omega))
    rw [decide_eq_true (rfl : L = L)] at SM
    have hne : (ok != ok) = false := by cases ok <;> rfl
    have heq : (ok == ok) = true := by cases ok <;> rfl
    have V := hide (fun w (r1 : Row w a1 n1 xs) => sVecOk_any a1 n1 c1 xs w r1 (by omega))
    have R1 := hide r1
    have R2 := hide r2
    clear r1 r2 hL hok
    go_wp2_with fail
    refine (I.out _ R1.out R2.out).mono ?_
    rintro e w2 ⟨a3, c3, rfl, r3, hb2⟩
    have R1 := hide (R1.out.below hb2)
    have R2 := hide (R2.out.below hb2)
    go_wp2_with fail
    refine (S.out _ R1.out R2.out).mono ?_
    rintro e w3 ⟨a4, c4, rfl, r4, hb3⟩
    have R1 := hide (R1.out.below hb3)
    have R2 := hide (R2.out.below hb3)
    have R3 := hide (r3.below hb3)
    clear r3
    go_wp2_with fail
    refine (I'.out _ R1.out R2.out).mono ?_
    rintro e w4 ⟨a5, c5, rfl, r5, hb4⟩
    have R1 := hide (R1.out.below hb4)
    have R3 := hide (R3.out.below hb4)
    have R4 := hide (r4.below hb4)
    clear r4
    go_wp2_with fail
    refine (SM.out _ _ _ _ _ R3.out R4.out).mono ?_
    rintro e w5 ⟨rfl, hb5⟩
    have R1 := hide (R1.out.below hb5)
    have R3 := hide (R3.out.below hb5)
    have R4 := hide (R4.out.below hb5)
    have R5 := hide (r5.below hb5)
    clear r5
    go_wp2_with fail
    refine (SM.out _ _ _ _ _ R3.out R5.out).mono ?_
    rintro e w6 ⟨rfl, hb6⟩
    have R1 := hide (R1.out.below hb6)
    have R3 := hide (R3.out.below hb6)
    have R4 := hide (R4.out.below hb6)
    have R5 := hide (R5.out.below hb6)
    have B6 : Below w.heap.size w w6 := (by repeat' first | with_reducible exact Below.refl _ _ | with_reducible assumption | with_reducible refine below_drewN ?_ _ | with_reducible refine balloc ?_ _ | with_reducible refine Below.drew ?_ | with_reducible refine Below.setCell ?_ (by first | (simp; done) | (simp; omega) | omega) _ | with_reducible refine bstep ?_ (by assumption))
    clear hb1 hb2 hb3 hb4 hb5 hb6
    cases hv : vecOkB xs
    · rw [hv] at V
      go_wp2_with fail
      refine (V.out _ R1.out).mono ?_
      rintro e w' ⟨rfl, hw⟩
      obtain rfl := hw.symm
      go_wp2_with fail
      refine (SM.out _ _ _ _ _ R3.out R4.out).mono ?_
      rintro e w7 ⟨rfl, hb7⟩
      go_wp2_with fail
      refine (SM.out _ _ _ _ _ (R3.out.below hb7) (R5.out.below hb7)).mono ?_
      rintro e w8 ⟨rfl, hb8⟩
      go_wp2
      go_ret
      exact ⟨rfl, (by repeat' first | with_reducible exact Below.refl _ _ | with_reducible assumption | with_reducible refine below_drewN ?_ _ | with_reducible refine balloc ?_ _ | with_reducible refine Below.drew ?_ | with_reducible refine Below.setCell ?_ (by first | (simp; done) | (simp; omega) | omega) _ | with_reducible refine bstep ?_ (by assumption))⟩
    · rw [hv] at V
      obtain ⟨ao, ae⟩ := add_neg hv
      have nn := neg_neg hv
      obtain ⟨e1, nok⟩ := neg_ok hv
      have hl1 : xs.length = n1 := R1.out.len
      have nl : (negL xs).length = n1 := by rw [e1, ints_len, hl1]
      have NG := hide (fun w (r1 : Row w a1 n1 xs) => iNeg_row a1 n1 c1 xs w r1 (by omega))
      have NG2 := hide (fun a c w (r : Row w a n1 (negL xs)) => iNeg_row a n1 c (negL xs) w r (by omega))
      have AN := hide (fun a c w (r1 : Row w a1 n1 xs) (r : Row w a n1 (negL xs)) => iAdd_row a1 a n1 c1 n1 c xs (negL xs) w r1 r (by omega) (by omega))
      rw [ao, ae, hl1] at AN
      rw [nn] at NG2
      unfold SlicePost at NG NG2
      unfold SliceBPost at AN
      rw [nl] at NG
      rw [hl1] at NG2
      rw [ints_len] at AN
      have SZ := hide (fun a c a' c' w (r : Row w a n1 (ints (fun _ => 0) n1)) (r' : Row w a' n1 (ints (fun _ => 0) n1)) => sameInts_any a a' n1 c n1 c' _ _ w r r' (by omega))
      rw [decide_eq_true (rfl : ints (fun _ => 0) n1 = ints (fun _ => 0) n1)] at SZ
      have SX := hide (fun a c w (r : Row w a n1 xs) (r' : Row w a1 n1 xs) => sameInts_any a a1 n1 c n1 c1 xs xs w r r' (by omega))
      rw [decide_eq_true (rfl : xs = xs)] at SX
      have hmk := run_make_row' (P := Try.prog) 24 2 (.int .i64 0) 8 Try.underlying24 Try.infoI64 rfl .i64 .i64 n1 (by omega) (by omega)
      clear ao ae nn e1 nok hl1 nl hv I S I' SM R3 R4 R5
      go_wp2_with fail
      refine (V.out _ R1.out).mono ?_
      rintro e w' ⟨rfl, hw⟩
      obtain rfl := hw.symm
      go_wp2_with fail
      refine (NG.out _ R1.out).mono ?_
      rintro e w7 ⟨a7, c7, rfl, r7, hb7⟩
      have R1 := hide (R1.out.below hb7)
      go_wp2_with fail
      refine (AN.out _ _ _ R1.out r7).mono ?_
      rintro e w8 ⟨a8, c8, rfl, r8, hb8⟩
      have R1 := hide (R1.out.below hb8)
      have R8 := hide r8
      clear r7 r8
      go_wp2_with fail
      refine (SZ.out _ _ _ _ _ (R8.out.below (balloc (Below.refl _ _) _)) (row_made w8 n1)).mono ?_
      rintro e w9 ⟨rfl, hb9⟩
      have R1 := hide ((R1.out.below (balloc (Below.refl _ _) (.cells (madeCells #[.int .i64 0] n1) 2))).below hb9)
      go_wp2_with fail
      refine (NG.out _ R1.out).mono ?_
      rintro e w10 ⟨a10, c10, rfl, r10, hb10⟩
      have R1 := hide (R1.out.below hb10)
      go_wp2_with fail
      refine (NG2.out _ _ _ r10).mono ?_
      rintro e w11 ⟨a11, c11, rfl, r11, hb11⟩
      have R1 := hide (R1.out.below hb11)
      go_wp2_with fail
      refine (SX.out _ _ _ r11 R1.out).mono ?_
      rintro e w12 ⟨rfl, hb12⟩
      go_wp2
      go_ret
      exact ⟨rfl, (by repeat' first | with_reducible exact Below.refl _ _ | with_reducible assumption | with_reducible refine below_drewN ?_ _ | with_reducible refine balloc ?_ _ | with_reducible refine Below.drew ?_ | with_reducible refine Below.setCell ?_ (by first | (simp; done) | (simp; omega) | omega) _ | with_reducible refine bstep ?_ (by assumption))⟩
  · rw [decide_eq_true (show 1048576 < n by omega)] at BG
    go_enter Try.func5, Try.ntmps5
    go_wp2_with fail
    refine BG.out.mono ?_
    rintro e w' ⟨rfl, rfl⟩
    go_wp2
    go_ret
    exact ⟨rfl, (by repeat' first | with_reducible exact Below.refl _ _ | with_reducible assumption | with_reducible refine below_drewN ?_ _ | with_reducible refine balloc ?_ _ | with_reducible refine Below.drew ?_ | with_reducible refine Below.setCell ?_ (by first | (simp; done) | (simp; omega) | omega) _ | with_reducible refine bstep ?_ (by assumption))⟩
end Go.Proofs.Ytppdlbhmhjheiaa
