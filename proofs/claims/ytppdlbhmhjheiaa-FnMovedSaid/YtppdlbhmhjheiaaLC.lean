/- The walk of the law FnMoved. -/
import Derived.Test.YtppdlbhmhjheiaaDE
import Derived.Test.YtppdlbhmhjheiaaDP
import Derived.Test.YtppdlbhmhjheiaaVT
import Derived.Test.YtppdlbhmhjheiaaVS
import Derived.Test.YtppdlbhmhjheiaaVG
namespace Go.Proofs.Ytppdlbhmhjheiaa
open Go.RowKit
set_option linter.unusedSimpArgs false
set_option linter.unusedVariables false

theorem dsum_congr {xs ys xs' ys' : List Int} {n : Nat} (h : ∀ j, j < n → (nth xs j - nth ys j) * (nth xs j - nth ys j) = (nth xs' j - nth ys' j) * (nth xs' j - nth ys' j)) : ∀ k, k ≤ n → dsum xs ys k = dsum xs' ys' k
  | 0, _ => rfl
  | k + 1, hk => by simp only [dsum]; rw [dsum_congr h k (by omega), h k (by omega)]
theorem addOk_parts {xs ys : List Int} (h : addOkB xs ys = true) : vecOkB xs = true ∧ vecOkB ys = true ∧ xs.length = ys.length ∧ vecOkB (ints (sumF xs ys) xs.length) = true ∧ addL xs ys = ints (sumF xs ys) xs.length := by
  have h0 := h
  unfold addOkB at h
  simp only [Bool.and_eq_true, decide_eq_true_eq] at h
  exact ⟨h.1.1.1, h.1.1.2, h.1.2, h.2, by unfold addL; rw [h0, if_pos rfl]⟩
theorem distL_of {xs ys : List Int} {n : Nat} (hx : vecOkB xs = true) (hy : vecOkB ys = true) (lx : xs.length = n) (ly : ys.length = n) : distL xs ys = dsum xs ys n := by
  unfold distL pairB
  rw [hx, hy, lx, ly, decide_eq_true rfl]
  rfl
theorem dist_moved {xs ys cs : List Int} (h1 : addOkB xs cs = true) (h2 : addOkB ys cs = true) : distL (addL xs cs) (addL ys cs) = distL xs ys := by
  obtain ⟨x1, _, lx, ox, ex⟩ := addOk_parts h1
  obtain ⟨y1, _, ly, oy, ey⟩ := addOk_parts h2
  have ll : ys.length = xs.length := by omega
  rw [ll] at oy ey
  rw [ex, ey, distL_of ox oy (ints_len _ _) (ints_len _ _), distL_of x1 y1 rfl ll]
  refine dsum_congr (fun j hj => ?_) _ (Nat.le_refl _)
  rw [nth_ints _ _ j hj, nth_ints _ _ j hj]
  unfold sumF
  have : nth xs j + nth cs j - (nth ys j + nth cs j) = nth xs j - nth ys j := by omega
  rw [this]
theorem dist_turned {xs ys : List Int} (hx : vecOkB xs = true) (hy : vecOkB ys = true) (hl : ys.length = xs.length) : distL (negL xs) (negL ys) = distL xs ys := by
  obtain ⟨ex, ox⟩ := neg_ok hx
  obtain ⟨ey, oy⟩ := neg_ok hy
  rw [hl] at ey
  rw [ex] at ox ⊢
  rw [ey] at oy ⊢
  rw [distL_of ox oy (ints_len _ _) (ints_len _ _), distL_of hx hy rfl hl]
  refine dsum_congr (fun j hj => ?_) _ (Nat.le_refl _)
  rw [nth_ints _ _ j hj, nth_ints _ _ j hj]
  have : -nth xs j - -nth ys j = -(nth xs j - nth ys j) := by omega
  rw [this, Int.neg_mul_neg]

set_option maxHeartbeats 4000000 in
theorem moved_walk (a : Option Addr) (n cap : Nat) (zs : List Int) (a' : Option Addr) (n' cap' : Nat) (zs' : List Int) (w : World) (h : IsRow .u8 w a n cap zs) (h' : IsRow .u8 w a' n' cap' zs') :
    Calls Try.prog 4 #[.slice a n cap, .slice a' n' cap'] w fun e w' => e = .returned (.bool true) ∧ Below w.heap.size w w' := by
  have BG := hide (big_any a n cap w)
  have BG' := hide (big_any a' n' cap' w)
  by_cases hn : n ≤ 1048576
  · rw [decide_eq_false (show ¬ 1048576 < n by omega)] at BG
    by_cases hn' : n' ≤ 1048576
    · rw [decide_eq_false (show ¬ 1048576 < n' by omega)] at BG'
      have DR := hide (drawVecAdd_any a n cap w (h.code hn))
      have hcode' := h'.code hn'
      have DR' := hide (fun w1 (hb : Below w.heap.size w w1) => drawVecAdd_any a' n' cap' w1 (hcode'.below hb))
      clear h h' hcode'
      go_enter Try.func4, Try.ntmps4
      go_wp2_with fail
      refine BG.out.mono ?_
      rintro e w' ⟨rfl, hw⟩
      obtain rfl := hw.symm
      clear BG hw
      go_wp2_with fail
      refine BG'.out.mono ?_
      rintro e w' ⟨rfl, hw⟩
      obtain rfl := hw.symm
      clear BG' hw
      go_wp2_with fail
      refine DR.out.mono ?_
      rintro e w1 ⟨a1, n1, c1, xs, a2, n2, c2, cs, rfl, r1, r2, h1, h2, hb1⟩
      go_wp2_with fail
      refine (DR'.out _ hb1).mono ?_
      rintro e w2 ⟨a3, n3, c3, ys, a4, n4, c4, us, rfl, r3, r4, h3, h4, hb2⟩
      clear DR DR' r4
      obtain ⟨L, hL⟩ : ∃ L, addL xs cs = L := ⟨_, rfl⟩
      obtain ⟨M, hM⟩ : ∃ M, addL ys cs = M := ⟨_, rfl⟩
      obtain ⟨N, hN⟩ : ∃ N, negL xs = N := ⟨_, rfl⟩
      obtain ⟨N', hN'⟩ : ∃ N', negL ys = N' := ⟨_, rfl⟩
      obtain ⟨ok, hok⟩ : ∃ ok, addOkB xs cs = ok := ⟨_, rfl⟩
      obtain ⟨ok2, hok2⟩ : ∃ ok2, addOkB ys cs = ok2 := ⟨_, rfl⟩
      have L8 := addL_len8 xs cs
      have M8 := addL_len8 ys cs
      have N8 := negL_len8 xs
      have N8' := negL_len8 ys
      have I := hide (fun w (r1 : Row w a1 n1 xs) (r2 : Row w a2 n2 cs) => iAdd_row a1 a2 n1 c1 n2 c2 xs cs w r1 r2 (by omega) (by omega))
      have S := hide (fun w (r1 : Row w a1 n1 xs) (r2 : Row w a2 n2 cs) => sAdd_row a1 a2 n1 c1 n2 c2 xs cs w r1 r2 (by omega) (by omega))
      have J := hide (fun w (r1 : Row w a3 n3 ys) (r2 : Row w a2 n2 cs) => iAdd_row a3 a2 n3 c3 n2 c2 ys cs w r1 r2 (by omega) (by omega))
      have G := hide (fun w (r1 : Row w a1 n1 xs) => iNeg_row a1 n1 c1 xs w r1 (by omega))
      have G' := hide (fun w (r1 : Row w a3 n3 ys) => iNeg_row a3 n3 c3 ys w r1 (by omega))
      have GS := hide (fun w (r1 : Row w a1 n1 xs) => sNeg_row a1 n1 c1 xs w r1 (by omega))
      rw [hL, hok] at I S
      rw [hM, hok2] at J
      rw [hN] at G GS
      rw [hN'] at G'
      rw [hL] at L8
      rw [hM] at M8
      rw [hN] at N8
      rw [hN'] at N8'
      have SM := hide (fun a c a' c' w (r : Row w a L.length L) (r' : Row w a' L.length L) => sameInts_any a a' L.length c L.length c' L L w r r' (by omega))
      rw [decide_eq_true (rfl : L = L)] at SM
      have SN := hide (fun a c a' c' w (r : Row w a N.length N) (r' : Row w a' N.length N) => sameInts_any a a' N.length c N.length c' N N w r r' (by omega))
      rw [decide_eq_true (rfl : N = N)] at SN
      have hne : (ok != ok) = false := by cases ok <;> rfl
      have heq : (ok == ok) = true := by cases ok <;> rfl
      have R1 := hide (r1.below hb2)
      have R2 := hide (r2.below hb2)
      have R3 := hide r3
      have B2 : Below w.heap.size w w2 := (by repeat' first | with_reducible exact Below.refl _ _ | with_reducible assumption | with_reducible refine below_drewN ?_ _ | with_reducible refine balloc ?_ _ | with_reducible refine Below.drew ?_ | with_reducible refine Below.setCell ?_ (by first | (simp; done) | (simp; omega) | omega) _ | with_reducible refine bstep ?_ (by assumption))
      clear r1 r2 r3 hb1 hb2
      go_wp2_with fail
      refine (I.out _ R1.out R2.out).mono ?_
      rintro e w3 ⟨a5, c5, rfl, r5, hb3⟩
      have R1 := hide (R1.out.below hb3)
      have R2 := hide (R2.out.below hb3)
      have R3 := hide (R3.out.below hb3)
      go_wp2_with fail
      refine (S.out _ R1.out R2.out).mono ?_
      rintro e w4 ⟨a6, c6, rfl, r6, hb4⟩
      have R1 := hide (R1.out.below hb4)
      have R2 := hide (R2.out.below hb4)
      have R3 := hide (R3.out.below hb4)
      have R5 := hide (r5.below hb4)
      clear r5
      go_wp2_with fail
      refine (J.out _ R3.out R2.out).mono ?_
      rintro e w5 ⟨a7, c7, rfl, r7, hb5⟩
      have R1 := hide (R1.out.below hb5)
      have R3 := hide (R3.out.below hb5)
      have R5 := hide (R5.out.below hb5)
      have R6 := hide (r6.below hb5)
      clear r6
      go_wp2_with fail
      refine (G.out _ R1.out).mono ?_
      rintro e w6 ⟨a8, c8, rfl, r8, hb6⟩
      have R1 := hide (R1.out.below hb6)
      have R3 := hide (R3.out.below hb6)
      have R5 := hide (R5.out.below hb6)
      have R6 := hide (R6.out.below hb6)
      have R7 := hide (r7.below hb6)
      clear r7
      go_wp2_with fail
      refine (SM.out _ _ _ _ _ R5.out R6.out).mono ?_
      rintro e w7 ⟨rfl, hb7⟩
      have R1 := hide (R1.out.below hb7)
      have R3 := hide (R3.out.below hb7)
      have R5 := hide (R5.out.below hb7)
      have R6 := hide (R6.out.below hb7)
      have R7 := hide (R7.out.below hb7)
      have R8 := hide (r8.below hb7)
      clear r8
      go_wp2_with fail
      refine (GS.out _ R1.out).mono ?_
      rintro e w8 ⟨a9, c9, rfl, r9, hb8⟩
      have R8 := hide (R8.out.below hb8)
      go_wp2_with fail
      refine (SN.out _ _ _ _ _ R8.out r9).mono ?_
      rintro e w9 ⟨rfl, hb9⟩
      have R1 := hide ((R1.out.below hb8).below hb9)
      have R3 := hide ((R3.out.below hb8).below hb9)
      have R5 := hide ((R5.out.below hb8).below hb9)
      have R6 := hide ((R6.out.below hb8).below hb9)
      have R7 := hide ((R7.out.below hb8).below hb9)
      have R8 := hide (R8.out.below hb9)
      have B9 : Below w.heap.size w w9 := (by repeat' first | with_reducible exact Below.refl _ _ | with_reducible assumption | with_reducible refine below_drewN ?_ _ | with_reducible refine balloc ?_ _ | with_reducible refine Below.drew ?_ | with_reducible refine Below.setCell ?_ (by first | (simp; done) | (simp; omega) | omega) _ | with_reducible refine bstep ?_ (by assumption))
      clear r9 hb3 hb4 hb5 hb6 hb7 hb8 hb9
      by_cases hboth : ok = true ∧ ok2 = true
      · obtain ⟨k1, k2⟩ := hboth
        subst k1 k2
        have dm := dist_moved hok hok2
        obtain ⟨x1, _, lx, _, _⟩ := addOk_parts hok
        obtain ⟨y1, _, ly, _, _⟩ := addOk_parts hok2
        have dt := dist_turned x1 y1 (by omega)
        rw [hL, hM] at dm
        rw [hN, hN'] at dt
        obtain ⟨q, hq⟩ : ∃ q, distL xs ys = q := ⟨_, rfl⟩
        have D1 := hide (fun w (r : Row w a5 L.length L) (r' : Row w a7 M.length M) => iDistOf_any a5 a7 L.length c5 M.length c7 L M w r r' (by omega) (by omega))
        have D2 := hide (fun w (r : Row w a1 n1 xs) (r' : Row w a3 n3 ys) => iDistOf_any a1 a3 n1 c1 n3 c3 xs ys w r r' (by omega) (by omega))
        have D3 := hide (fun a c w (r : Row w a8 N.length N) (r' : Row w a N'.length N') => iDistOf_any a8 a N.length c8 N'.length c N N' w r r' (by omega) (by omega))
        rw [dm, hq] at D1
        rw [hq] at D2
        rw [dt, hq] at D3
        have hqe : (q == q) = true := by simp
        clear dm dt x1 y1 lx ly hq hok hok2 hL hM hN hN'
        go_wp2_with fail
        refine (D1.out _ R5.out R7.out).mono ?_
        rintro e w10 ⟨rfl, hb10⟩
        go_wp2_with fail
        refine (D2.out _ (R1.out.below hb10) (R3.out.below hb10)).mono ?_
        rintro e w11 ⟨rfl, hb11⟩
        go_wp2_with fail
        refine (G'.out _ ((R3.out.below hb10).below hb11)).mono ?_
        rintro e w12 ⟨a12, c12, rfl, r12, hb12⟩
        go_wp2_with fail
        refine (D3.out _ _ _ (((R8.out.below hb10).below hb11).below hb12) r12).mono ?_
        rintro e w13 ⟨rfl, hb13⟩
        go_wp2_with fail
        refine (D2.out _ ((((R1.out.below hb10).below hb11).below hb12).below hb13) ((((R3.out.below hb10).below hb11).below hb12).below hb13)).mono ?_
        rintro e w14 ⟨rfl, hb14⟩
        go_wp2
        go_ret
        exact ⟨rfl, (by repeat' first | with_reducible exact Below.refl _ _ | with_reducible assumption | with_reducible refine below_drewN ?_ _ | with_reducible refine balloc ?_ _ | with_reducible refine Below.drew ?_ | with_reducible refine Below.setCell ?_ (by first | (simp; done) | (simp; omega) | omega) _ | with_reducible refine bstep ?_ (by assumption))⟩
      · clear hok hok2 hL hM hN hN'
        cases ok
        · go_wp2_with fail
          refine (SM.out _ _ _ _ _ R5.out R6.out).mono ?_
          rintro e w10 ⟨rfl, hb10⟩
          go_wp2_with fail
          refine (GS.out _ (R1.out.below hb10)).mono ?_
          rintro e w11 ⟨a11, c11, rfl, r11, hb11⟩
          go_wp2_with fail
          refine (SN.out _ _ _ _ _ ((R8.out.below hb10).below hb11) r11).mono ?_
          rintro e w12 ⟨rfl, hb12⟩
          go_wp2
          go_ret
          exact ⟨rfl, (by repeat' first | with_reducible exact Below.refl _ _ | with_reducible assumption | with_reducible refine below_drewN ?_ _ | with_reducible refine balloc ?_ _ | with_reducible refine Below.drew ?_ | with_reducible refine Below.setCell ?_ (by first | (simp; done) | (simp; omega) | omega) _ | with_reducible refine bstep ?_ (by assumption))⟩
        · have hf : ok2 = false := by cases ok2 <;> simp_all
          subst hf
          go_wp2_with fail
          refine (SM.out _ _ _ _ _ R5.out R6.out).mono ?_
          rintro e w10 ⟨rfl, hb10⟩
          go_wp2_with fail
          refine (GS.out _ (R1.out.below hb10)).mono ?_
          rintro e w11 ⟨a11, c11, rfl, r11, hb11⟩
          go_wp2_with fail
          refine (SN.out _ _ _ _ _ ((R8.out.below hb10).below hb11) r11).mono ?_
          rintro e w12 ⟨rfl, hb12⟩
          go_wp2
          go_ret
          exact ⟨rfl, (by repeat' first | with_reducible exact Below.refl _ _ | with_reducible assumption | with_reducible refine below_drewN ?_ _ | with_reducible refine balloc ?_ _ | with_reducible refine Below.drew ?_ | with_reducible refine Below.setCell ?_ (by first | (simp; done) | (simp; omega) | omega) _ | with_reducible refine bstep ?_ (by assumption))⟩
    · rw [decide_eq_true (show 1048576 < n' by omega)] at BG'
      go_enter Try.func4, Try.ntmps4
      go_wp2_with fail
      refine BG.out.mono ?_
      rintro e w' ⟨rfl, hw⟩
      obtain rfl := hw.symm
      go_wp2_with fail
      refine BG'.out.mono ?_
      rintro e w' ⟨rfl, hw⟩
      obtain rfl := hw.symm
      go_wp2
      go_ret
      exact ⟨rfl, (by repeat' first | with_reducible exact Below.refl _ _ | with_reducible assumption | with_reducible refine below_drewN ?_ _ | with_reducible refine balloc ?_ _ | with_reducible refine Below.drew ?_ | with_reducible refine Below.setCell ?_ (by first | (simp; done) | (simp; omega) | omega) _ | with_reducible refine bstep ?_ (by assumption))⟩
  · rw [decide_eq_true (show 1048576 < n by omega)] at BG
    go_enter Try.func4, Try.ntmps4
    go_wp2_with fail
    refine BG.out.mono ?_
    rintro e w' ⟨rfl, hw⟩
    obtain rfl := hw.symm
    go_wp2
    go_ret
    exact ⟨rfl, (by repeat' first | with_reducible exact Below.refl _ _ | with_reducible assumption | with_reducible refine below_drewN ?_ _ | with_reducible refine balloc ?_ _ | with_reducible refine Below.drew ?_ | with_reducible refine Below.setCell ?_ (by first | (simp; done) | (simp; omega) | omega) _ | with_reducible refine bstep ?_ (by assumption))⟩
end Go.Proofs.Ytppdlbhmhjheiaa
