/- The walk of the law FnHeapOrder. -/
import Derived.Test.YtpkanhifaklpjaaRE0
import Derived.Test.YtpkanhifaklpjaaDP
import Derived.OpenShut
namespace Go.Proofs.Ytpkanhifaklpjaa
open Go.RowKit
set_option maxRecDepth 8000
set_option linter.unusedSimpArgs false
set_option linter.unusedVariables false

/-- Two boxes that are read. -/
structure X2 (w : World) (p q : Nat) (K1 : Int) (s1 : Value) (K2 : Int) (s2 : Value) : Prop where
  lp : p < w.heap.size
  c0 : w.cell? ⟨p, 0, none⟩ = some (.int .i64 K1)
  c1 : w.cell? ⟨p, 1, none⟩ = some s1
  lq : q < w.heap.size
  d0 : w.cell? ⟨q, 0, none⟩ = some (.int .i64 K2)
  d1 : w.cell? ⟨q, 1, none⟩ = some s2

theorem X2.below {w w' : World} {p q : Nat} {K1 : Int} {s1 : Value} {K2 : Int} {s2 : Value} (h : X2 w p q K1 s1 K2 s2) (hb : Below w.heap.size w w') : X2 w' p q K1 s1 K2 s2 :=
  ⟨Nat.lt_of_lt_of_le h.lp hb.size, (hb.cell (p := ⟨p, 0, none⟩) h.lp).trans h.c0, (hb.cell (p := ⟨p, 1, none⟩) h.lp).trans h.c1, Nat.lt_of_lt_of_le h.lq hb.size, (hb.cell (p := ⟨q, 0, none⟩) h.lq).trans h.d0, (hb.cell (p := ⟨q, 1, none⟩) h.lq).trans h.d1⟩

theorem X2.drew {w : World} {p q : Nat} {K1 : Int} {s1 : Value} {K2 : Int} {s2 : Value} (h : X2 w p q K1 s1 K2 s2) : X2 w.drew p q K1 s1 K2 s2 := h.below (Below.drew (Below.refl _ _))

/-- The same, and nothing old has turned. -/
structure X3 (W w : World) (p q : Nat) (K1 : Int) (s1 : Value) (K2 : Int) (s2 : Value) : Prop where
  x : X2 w p q K1 s1 K2 s2
  bel : Below W.heap.size W w

theorem X3.below {W w w' : World} {p q : Nat} {K1 : Int} {s1 : Value} {K2 : Int} {s2 : Value} (h : X3 W w p q K1 s1 K2 s2) (hb : Below w.heap.size w w') : X3 W w' p q K1 s1 K2 s2 := ⟨h.x.below hb, bstep h.bel hb⟩
/-- The world is one that nothing old of W has turned in. -/
def S3o (W w1 : World) : Prop := Below W.heap.size W w1

theorem order_all {K : Int} {m : Nat} {M : NL} {i d j t : Int} {K1 : Int} {n1 : Nat} {M1 : NL} {K2 : Int} {n2 : Nat} {M2 : NL}
    (hp1 : putB K m (fun i => (M i).1) (fun i => (M i).2) i d = true) (hK1 : putK K true = K1) (hn1 : putC K m true = n1) (hM1 : putL K m (fun i => (M i).1) (fun i => (M i).2) i d = M1)
    (hp2 : putB K1 n1 (fun i => (M1 i).1) (fun i => (M1 i).2) j t = true) (hK2 : putK K1 true = K2) (hn2 : putC K1 n1 true = n2) (hM2 : putL K1 n1 (fun i => (M1 i).1) (fun i => (M1 i).2) j t = M2) :
    putB K m (fun i => (M i).1) (fun i => (M i).2) j t = true ∧ (∀ P3, P3 = putL K m (fun i => (M i).1) (fun i => (M i).2) j t → putB K (putN K m) (fun i => (P3 i).1) (fun i => (P3 i).2) i d = true ∧ (heapB K (putN K (putN K m)) (fun e => (putL K (putN K m) (fun i => (P3 i).1) (fun i => (P3 i).2) i d e).1) (fun e => (putL K (putN K m) (fun i => (P3 i).1) (fun i => (P3 i).2) i d e).2) = true) ∧ ∀ e, e < n2 → isortL (putN K (putN K m)) (putL K (putN K m) (fun i => (P3 i).1) (fun i => (P3 i).2) i d) e = isortL n2 M2 e) ∧ heapB K n2 (fun e => (M2 e).1) (fun e => (M2 e).2) = true ∧ n2 = putN K (putN K m) ∧ K2 = K := by
  have e1 : K = K1 := hK1
  subst e1
  have e2 : K = K2 := hK2
  subst e2
  have e3 : putN K m = n1 := hn1
  have e4 : putN K n1 = n2 := hn2
  have h1 := hp1
  have h2 := hp2
  unfold putB at h1 h2
  simp only [Bool.and_eq_true] at h1 h2
  obtain ⟨k, rfl, k1, k20, mk, hh, hN⟩ := heap_parts h1.1
  have near1 : ∀ x : Int × Int, nearB x.1 x.2 = true → ∀ e, e < m + 1 → nearB (M.put m x e).1 (M.put m x e).2 = true := fun x hx e he => by
    by_cases q : e = m
    · subst q; rw [put_at]; exact hx
    · rw [put_off _ _ q]; exact hN e (by omega)
  have near2 : ∀ x y : Int × Int, nearB x.1 x.2 = true → nearB y.1 y.2 = true → ∀ e, e < m + 1 + 1 → nearB (((M.put m x).put (m + 1) y) e).1 (((M.put m x).put (m + 1) y) e).2 = true := fun x y hx hy e he => by
    by_cases q : e = m + 1
    · subst q; rw [put_at]; exact hy
    · rw [put_off _ _ q]; exact near1 x hx e (by omega)
  have keepA := put_keep (keep0 mk hh) (i, d)
  have keepB := put_keep (keep0 mk hh) (j, t)
  have keepAB := put_keep keepA (j, t)
  have keepBA := put_keep keepB (i, d)
  have okB := keepB.ok (near1 (j, t) h2.2) k1 k20
  have okAB := keepAB.ok (near2 (i, d) (j, t) h1.2 h2.2) k1 k20
  have okBA := keepBA.ok (near2 (j, t) (i, d) h2.2 h1.2) k1 k20
  obtain ⟨s1, s2⟩ := order_same keepAB keepBA
  subst e3 e4 hM1 hM2
  refine ⟨by unfold putB; rw [h1.1, h2.2]; rfl, fun P3 hP3 => ?_, okAB, s1 ▸ rfl, rfl⟩
  subst hP3
  exact ⟨by unfold putB; rw [okB, h1.2]; rfl, okBA, s2⟩

set_option maxHeartbeats 8000000 in
theorem heapOrder_walk (a : Option Addr) (n cap : Nat) (zs : List Int) (a' : Option Addr) (n' cap' : Nat) (zs' : List Int) (w : World) (h : IsRow .u8 w a n cap zs) (h' : IsRow .u8 w a' n' cap' zs') :
    Calls Try.prog 3 #[.slice a n cap, .slice a' n' cap'] w fun e w' => e = .returned (.bool true) ∧ Below w.heap.size w w' := by
  have BG := hide (big_any a n cap w)
  have BG' := hide (big_any a' n' cap' w)
  by_cases hn : n ≤ 1048576
  · rw [decide_eq_false (show ¬ 1048576 < n by omega)] at BG
    by_cases hn' : n' ≤ 1048576
    · rw [decide_eq_false (show ¬ 1048576 < n' by omega)] at BG'
      have DR := hide (drawHeapPut_any a n cap w (h.code hn))
      have hcode' := h'.code hn'
      have DR' := hide (fun w1 (hb : Below w.heap.size w w1) => drawHeapPut_any a' n' cap' w1 (hcode'.below hb))
      clear h h' hcode'
      go_enter Try.func3, Try.ntmps3
      go_wp2_with fail
      refine BG.out.mono ?_
      rintro e w' ⟨rfl, hw⟩
      obtain rfl := hw.symm
      clear BG hw
      go_wp2_with fail
      refine BG'.out.mono ?_
      rintro e w' ⟨rfl, hw⟩
      obtain rfl := hw.symm
      clear BG' hw
      go_wp2_with fail
      refine DR.out.mono ?_
      rintro e w1 ⟨K, ha, m, hc, M, i, d, rfl, hm, hp, hb1⟩
      have X1 := (Bx.new w1 (.int .i64 K) (.slice ha m hc) 26).alloc (.cells #[.int .i64 i, .int .i64 d] 28)
      have Y1 : Bx ((w1.alloc (.cells #[.int .i64 K, .slice ha m hc] 26)).alloc (.cells #[.int .i64 i, .int .i64 d] 28)) (w1.heap.size + 1) (.int .i64 i) (.int .i64 d) := by
        have := Bx.new (w1.alloc (.cells #[.int .i64 K, .slice ha m hc] 26)) (.int .i64 i) (.int .i64 d) 28
        rwa [World.size_alloc] at this
      have bw1 : Below w1.heap.size w1 ((w1.alloc (.cells #[.int .i64 K, .slice ha m hc] 26)).alloc (.cells #[.int .i64 i, .int .i64 d] 28)) := balloc (balloc (Below.refl _ _) _) _
      go_wp2_with fail
      refine (DR'.out _ (by repeat' first | with_reducible exact Below.refl _ _ | with_reducible assumption | with_reducible refine below_drewN ?_ _ | with_reducible refine balloc ?_ _ | with_reducible refine Below.drew ?_ | with_reducible refine Below.setCell ?_ (by first | (simp; done) | (simp; omega) | omega) _ | with_reducible refine bstep ?_ (by assumption))).mono ?_
      rintro e w2 ⟨K', ha', m', hc', M', j, t, rfl, _, _, hb2⟩
      have B2 := hide (bstep (bstep hb1 bw1) hb2)
      have X2h := hide (X1.below hb2)
      have Y2h := hide (Y1.below hb2)
      have P2 := hide ((hp.below bw1).below hb2)
      obtain ⟨z, hz⟩ : ∃ z, w1.heap.size = z := ⟨_, rfl⟩
      rw [hz] at X2h Y2h
      rw [hz]
      clear hp X1 Y1 bw1 hb1 hb2 DR DR' hz
      have bw2 : Below w2.heap.size w2 ((w2.alloc (.cells #[.int .i64 K', .slice ha' m' hc'] 26)).alloc (.cells #[.int .i64 j, .int .i64 t] 28)) := balloc (balloc (Below.refl _ _) _) _
      have Z2 : Hid (Bx ((w2.alloc (.cells #[.int .i64 K', .slice ha' m' hc'] 26)).alloc (.cells #[.int .i64 j, .int .i64 t] 28)) (w2.heap.size + 1) (.int .i64 j) (.int .i64 t)) := hide (by
        have := Bx.new (w2.alloc (.cells #[.int .i64 K', .slice ha' m' hc'] 26)) (.int .i64 j) (.int .i64 t) 28
        rwa [World.size_alloc] at this)
      have X := hide ((X2h.out.below bw2))
      have Y := hide ((Y2h.out.below bw2))
      have P := hide (P2.out.below bw2)
      have B := hide (bstep B2.out bw2)
      clear bw2 X2h Y2h P2 B2
      have IP1 := hide (fun w1 h => iPutU K ha m hc M i d w1 h)
      have SP1 := hide (fun w1 h => sPutU K ha m hc M i d w1 h)
      obtain ⟨p1, hp1⟩ : ∃ b, putB K m (fun i => (M i).1) (fun i => (M i).2) i d = b := ⟨_, rfl⟩
      obtain ⟨K1, hK1⟩ : ∃ b, putK K p1 = b := ⟨_, rfl⟩
      obtain ⟨n1, hn1⟩ : ∃ b, putC K m p1 = b := ⟨_, rfl⟩
      obtain ⟨M1, hM1⟩ : ∃ b, putL K m (fun i => (M i).1) (fun i => (M i).2) i d = b := ⟨_, rfl⟩
      simp only [hp1, hK1, hn1, hM1] at IP1 SP1
      have Hp1 := hide hp1
      clear hp1
      have HK1 := hide hK1
      clear hK1
      have Hn1 := hide hn1
      clear hn1
      have HM1 := hide hM1
      clear hM1
      obtain ⟨lbX, bX0, bX1, bXf0, bXf1⟩ := X.out
      obtain ⟨lbY, bY0, bY1, bYf0, bYf1⟩ := Y.out
      go_wp2_with fail
      refine (IP1.out _ P.out).mono ?_
      rintro e w3 ⟨a3, c3, rfl, r3, b3⟩
      clear lbX bX0 bX1 bXf0 bXf1
      clear lbY bY0 bY1 bYf0 bYf1
      have R := hide r3
      clear r3
      have bX_1 := hide (X.out.below b3)
      clear X
      have bY_1 := hide (Y.out.below b3)
      clear Y
      have bZ_1 := hide (Z2.out.below b3)
      clear Z2
      have P_1 := hide (P.out.below b3)
      clear P
      have B_1 := hide (bstep B.out b3)
      clear B
      clear b3
      have ba_bU : Below w3.heap.size w3 (w3.alloc (.cells #[.int .i64 K1, .slice a3 n1 c3] 26)) := balloc (Below.refl _ _) _
      have bX_2 := hide (bX_1.out.below ba_bU)
      clear bX_1
      have bY_2 := hide (bY_1.out.below ba_bU)
      clear bY_1
      have bZ_2 := hide (bZ_1.out.below ba_bU)
      clear bZ_1
      have P_2 := hide (P_1.out.below ba_bU)
      clear P_1
      have B_2 := hide (bstep B_1.out ba_bU)
      clear B_1
      have R_2 := hide (R.out.below ba_bU)
      clear R
      clear ba_bU
      have N_bU := hide (Bx.new w3 (.int .i64 K1) (.slice a3 n1 c3) 26)
      obtain ⟨lbX, bX0, bX1, bXf0, bXf1⟩ := bX_2.out
      obtain ⟨lbY, bY0, bY1, bYf0, bYf1⟩ := bY_2.out
      go_wp2_with fail
      refine (SP1.out _ P_2.out).mono ?_
      rintro e w4 ⟨a4, c4, rfl, r4, b4⟩
      clear lbX bX0 bX1 bXf0 bXf1
      clear lbY bY0 bY1 bYf0 bYf1
      clear r4
      have bX_3 := hide (bX_2.out.below b4)
      clear bX_2
      have bY_3 := hide (bY_2.out.below b4)
      clear bY_2
      have bZ_3 := hide (bZ_2.out.below b4)
      clear bZ_2
      have P_3 := hide (P_2.out.below b4)
      clear P_2
      have B_3 := hide (bstep B_2.out b4)
      clear B_2
      have R_3 := hide (R_2.out.below b4)
      clear R_2
      have bU_3 := hide (N_bU.out.below b4)
      clear N_bU
      clear b4
      have ba4 : Below w4.heap.size w4 (w4.alloc (.cells #[.int .i64 K1, .slice a4 n1 c4] 26)) := balloc (Below.refl _ _) _
      have bX_4 := hide (bX_3.out.below ba4)
      clear bX_3
      have bY_4 := hide (bY_3.out.below ba4)
      clear bY_3
      have bZ_4 := hide (bZ_3.out.below ba4)
      clear bZ_3
      have P_4 := hide (P_3.out.below ba4)
      clear P_3
      have B_4 := hide (bstep B_3.out ba4)
      clear B_3
      have R_4 := hide (R_3.out.below ba4)
      clear R_3
      have bU_4 := hide (bU_3.out.below ba4)
      clear bU_3
      clear ba4
      have IP2 := hide (fun w1 h => iPutU K1 a3 n1 c3 M1 j t w1 h)
      obtain ⟨p2, hp2⟩ : ∃ b, putB K1 n1 (fun i => (M1 i).1) (fun i => (M1 i).2) j t = b := ⟨_, rfl⟩
      obtain ⟨K2, hK2⟩ : ∃ b, putK K1 p2 = b := ⟨_, rfl⟩
      obtain ⟨n2, hn2⟩ : ∃ b, putC K1 n1 p2 = b := ⟨_, rfl⟩
      obtain ⟨M2, hM2⟩ : ∃ b, putL K1 n1 (fun i => (M1 i).1) (fun i => (M1 i).2) j t = b := ⟨_, rfl⟩
      simp only [hp2, hK2, hn2, hM2] at IP2
      have Hp2 := hide hp2
      clear hp2
      have HK2 := hide hK2
      clear hK2
      have Hn2 := hide hn2
      clear hn2
      have HM2 := hide hM2
      clear hM2
      obtain ⟨lbU, bU0, bU1, bUf0, bUf1⟩ := bU_4.out
      obtain ⟨lbZ, bZ0, bZ1, bZf0, bZf1⟩ := bZ_4.out
      go_wp2_with fail
      refine (IP2.out _ R_4.out).mono ?_
      rintro e w5 ⟨a5, c5, rfl, r5, b5⟩
      clear lbU bU0 bU1 bUf0 bUf1
      clear lbZ bZ0 bZ1 bZf0 bZf1
      have RY := hide r5
      clear r5
      have bX_5 := hide (bX_4.out.below b5)
      clear bX_4
      have bY_5 := hide (bY_4.out.below b5)
      clear bY_4
      have bZ_5 := hide (bZ_4.out.below b5)
      clear bZ_4
      have P_5 := hide (P_4.out.below b5)
      clear P_4
      have B_5 := hide (bstep B_4.out b5)
      clear B_4
      have R_5 := hide (R_4.out.below b5)
      clear R_4
      have bU_5 := hide (bU_4.out.below b5)
      clear bU_4
      clear b5
      have ba_bV : Below w5.heap.size w5 (w5.alloc (.cells #[.int .i64 K2, .slice a5 n2 c5] 26)) := balloc (Below.refl _ _) _
      have bX_6 := hide (bX_5.out.below ba_bV)
      clear bX_5
      have bY_6 := hide (bY_5.out.below ba_bV)
      clear bY_5
      have bZ_6 := hide (bZ_5.out.below ba_bV)
      clear bZ_5
      have P_6 := hide (P_5.out.below ba_bV)
      clear P_5
      have B_6 := hide (bstep B_5.out ba_bV)
      clear B_5
      have R_6 := hide (R_5.out.below ba_bV)
      clear R_5
      have bU_6 := hide (bU_5.out.below ba_bV)
      clear bU_5
      have RY_6 := hide (RY.out.below ba_bV)
      clear RY
      clear ba_bV
      have N_bV := hide (Bx.new w5 (.int .i64 K2) (.slice a5 n2 c5) 26)
      cases p1
      · go_wp2_with fail
        go_ret
        exact ⟨rfl, B_6.out⟩
      cases p2
      · go_wp2_with fail
        go_ret
        exact ⟨rfl, B_6.out⟩
      obtain ⟨f3, f4, f5, f6, f7⟩ : putB K m (fun i => (M i).1) (fun i => (M i).2) j t = true ∧ (∀ P3, P3 = putL K m (fun i => (M i).1) (fun i => (M i).2) j t → putB K (putN K m) (fun i => (P3 i).1) (fun i => (P3 i).2) i d = true ∧ (heapB K (putN K (putN K m)) (fun e => (putL K (putN K m) (fun i => (P3 i).1) (fun i => (P3 i).2) i d e).1) (fun e => (putL K (putN K m) (fun i => (P3 i).1) (fun i => (P3 i).2) i d e).2) = true) ∧ ∀ e, e < n2 → isortL (putN K (putN K m)) (putL K (putN K m) (fun i => (P3 i).1) (fun i => (P3 i).2) i d) e = isortL n2 M2 e) ∧ heapB K n2 (fun e => (M2 e).1) (fun e => (M2 e).2) = true ∧ n2 = putN K (putN K m) ∧ K2 = K := order_all Hp1.out HK1.out Hn1.out HM1.out Hp2.out HK2.out Hn2.out HM2.out
      obtain ⟨P3, hP3⟩ : ∃ P, putL K m (fun i => (M i).1) (fun i => (M i).2) j t = P := ⟨_, rfl⟩
      obtain ⟨f8, f9, f10⟩ := f4 P3 hP3.symm
      obtain ⟨n3, hn3⟩ : ∃ n, putN K m = n := ⟨_, rfl⟩
      obtain ⟨n4, hn4⟩ : ∃ n, putN K n3 = n := ⟨_, rfl⟩
      rw [hn3] at f8 f9 f10 f6
      obtain ⟨P4, hP4⟩ : ∃ P, putL K n3 (fun i => (P3 i).1) (fun i => (P3 i).2) i d = P := ⟨_, rfl⟩
      simp only [hP4] at f9 f10
      rw [hn4] at f9 f10 f6
      have IP3 := hide (fun w1 h => iPutU K ha m hc M j t w1 h)
      simp only [f3, putK, putC, if_true, hP3, hn3] at IP3
      have IP4 := hide (fun a5 c5 w1 h => iPutU K a5 n3 c5 P3 i d w1 h)
      simp only [f8, putK, putC, if_true, hP4, hn4] at IP4
      have SY := hide (fun w1 h => iSortU K a5 n2 c5 M2 w1 h)
      simp only [f5, sortN, if_true] at SY
      have SQ := hide (fun a6 c6 w1 h => iSortU K a6 n4 c6 P4 w1 h)
      simp only [f9, sortN, if_true] at SQ
      subst f6
      subst f7
      have F10 := hide f10
      have hn2l : n2 ≤ 1048576 := by have := (heap_parts f5); obtain ⟨k, _, _, k20, kn, _⟩ := this; omega
      clear f3 f4 f5 f8 f9 f10 hP3 hP4 hn3 hn4 IP1 SP1 IP2 Hp1 HK1 Hn1 HM1 Hp2 HK2 Hn2 HM2
      obtain ⟨lbX, bX0, bX1, bXf0, bXf1⟩ := bX_6.out
      obtain ⟨lbZ, bZ0, bZ1, bZf0, bZf1⟩ := bZ_6.out
      go_wp2_with fail
      refine (IP3.out _ P_6.out).mono ?_
      rintro e w6 ⟨a6, c6, rfl, r6, b6⟩
      clear lbX bX0 bX1 bXf0 bXf1
      clear lbZ bZ0 bZ1 bZf0 bZf1
      have RP := hide r6
      clear r6
      have bX_7 := hide (bX_6.out.below b6)
      clear bX_6
      have bY_7 := hide (bY_6.out.below b6)
      clear bY_6
      have bZ_7 := hide (bZ_6.out.below b6)
      clear bZ_6
      have P_7 := hide (P_6.out.below b6)
      clear P_6
      have B_7 := hide (bstep B_6.out b6)
      clear B_6
      have R_7 := hide (R_6.out.below b6)
      clear R_6
      have bU_7 := hide (bU_6.out.below b6)
      clear bU_6
      have RY_7 := hide (RY_6.out.below b6)
      clear RY_6
      have bV_7 := hide (N_bV.out.below b6)
      clear N_bV
      clear b6
      have ba_bP : Below w6.heap.size w6 (w6.alloc (.cells #[.int .i64 K2, .slice a6 n3 c6] 26)) := balloc (Below.refl _ _) _
      have bX_8 := hide (bX_7.out.below ba_bP)
      clear bX_7
      have bY_8 := hide (bY_7.out.below ba_bP)
      clear bY_7
      have bZ_8 := hide (bZ_7.out.below ba_bP)
      clear bZ_7
      have P_8 := hide (P_7.out.below ba_bP)
      clear P_7
      have B_8 := hide (bstep B_7.out ba_bP)
      clear B_7
      have R_8 := hide (R_7.out.below ba_bP)
      clear R_7
      have bU_8 := hide (bU_7.out.below ba_bP)
      clear bU_7
      have RY_8 := hide (RY_7.out.below ba_bP)
      clear RY_7
      have bV_8 := hide (bV_7.out.below ba_bP)
      clear bV_7
      have RP_8 := hide (RP.out.below ba_bP)
      clear RP
      clear ba_bP
      have N_bP := hide (Bx.new w6 (.int .i64 K2) (.slice a6 n3 c6) 26)
      obtain ⟨lbP, bP0, bP1, bPf0, bPf1⟩ := N_bP.out
      obtain ⟨lbY, bY0, bY1, bYf0, bYf1⟩ := bY_8.out
      go_wp2_with fail
      refine (IP4.out _ _ _ RP_8.out).mono ?_
      rintro e w7 ⟨a7, c7, rfl, r7, b7⟩
      clear lbP bP0 bP1 bPf0 bPf1
      clear lbY bY0 bY1 bYf0 bYf1
      have RQ := hide r7
      clear r7
      have bX_9 := hide (bX_8.out.below b7)
      clear bX_8
      have bY_9 := hide (bY_8.out.below b7)
      clear bY_8
      have bZ_9 := hide (bZ_8.out.below b7)
      clear bZ_8
      have P_9 := hide (P_8.out.below b7)
      clear P_8
      have B_9 := hide (bstep B_8.out b7)
      clear B_8
      have R_9 := hide (R_8.out.below b7)
      clear R_8
      have bU_9 := hide (bU_8.out.below b7)
      clear bU_8
      have RY_9 := hide (RY_8.out.below b7)
      clear RY_8
      have bV_9 := hide (bV_8.out.below b7)
      clear bV_8
      have RP_9 := hide (RP_8.out.below b7)
      clear RP_8
      have bP_9 := hide (N_bP.out.below b7)
      clear N_bP
      clear b7
      have ba_bQ : Below w7.heap.size w7 (w7.alloc (.cells #[.int .i64 K2, .slice a7 n2 c7] 26)) := balloc (Below.refl _ _) _
      have bX_10 := hide (bX_9.out.below ba_bQ)
      clear bX_9
      have bY_10 := hide (bY_9.out.below ba_bQ)
      clear bY_9
      have bZ_10 := hide (bZ_9.out.below ba_bQ)
      clear bZ_9
      have P_10 := hide (P_9.out.below ba_bQ)
      clear P_9
      have B_10 := hide (bstep B_9.out ba_bQ)
      clear B_9
      have R_10 := hide (R_9.out.below ba_bQ)
      clear R_9
      have bU_10 := hide (bU_9.out.below ba_bQ)
      clear bU_9
      have RY_10 := hide (RY_9.out.below ba_bQ)
      clear RY_9
      have bV_10 := hide (bV_9.out.below ba_bQ)
      clear bV_9
      have RP_10 := hide (RP_9.out.below ba_bQ)
      clear RP_9
      have bP_10 := hide (bP_9.out.below ba_bQ)
      clear bP_9
      have RQ_10 := hide (RQ.out.below ba_bQ)
      clear RQ
      clear ba_bQ
      have N_bQ := hide (Bx.new w7 (.int .i64 K2) (.slice a7 n2 c7) 26)
      clear bX_10
      clear bY_10
      clear bZ_10
      clear P_10
      clear R_10
      clear bU_10
      clear RP_10
      clear bP_10
      have T := hide (show X2 (w7.alloc (.cells #[.int .i64 K2, .slice a7 n2 c7] 26)) w5.heap.size w7.heap.size K2 (.slice a5 n2 c5) K2 (.slice a7 n2 c7) ∧ PRow (w7.alloc (.cells #[.int .i64 K2, .slice a7 n2 c7] 26)) a5 n2 (fun i => (M2 i).1) (fun i => (M2 i).2) ∧ PRow (w7.alloc (.cells #[.int .i64 K2, .slice a7 n2 c7] 26)) a7 n2 (fun i => (P4 i).1) (fun i => (P4 i).2) from ⟨⟨bV_10.out.lt, bV_10.out.c0, bV_10.out.c1, N_bQ.out.lt, N_bQ.out.c0, N_bQ.out.c1⟩, RY_10.out, RQ_10.out⟩)
      have SYH := hide (fun w1 (h : S3o (w7.alloc (.cells #[.int .i64 K2, .slice a7 n2 c7] 26)) w1) => SY.out w1 (T.out.2.1.below h))
      have SQH := hide (fun w1 (h : S3o (w7.alloc (.cells #[.int .i64 K2, .slice a7 n2 c7] 26)) w1) => SQ.out a7 c7 w1 (T.out.2.2.below h))
      have EQ := hide (fun a1 k1 a2 k2 w1 (h : PRow w1 a1 n2 (fun i => (isortL n2 M2 i).1) (fun i => (isortL n2 M2 i).2)) (h' : PRow w1 a2 n2 (fun i => (isortL n2 M2 i).1) (fun i => (isortL n2 M2 i).2)) => sameNears_self a1 a2 n2 k1 k2 _ w1 h h' hn2l)
      unfold S3o at SYH SQH
      have B9 := B_10
      clear B_10 RY_10 bV_10 RQ_10 N_bQ SY SQ IP3 IP4
      have T3 := hide (X3.below ⟨T.out.1, Below.refl _ _⟩ (Below.drew (Below.refl _ _)))
      go_upto_region 12 with fail
      refine wp_region_held_drew (S := fun wx => X3 (w7.alloc (.cells #[.int .i64 K2, .slice a7 n2 c7] 26)) wx w5.heap.size w7.heap.size K2 (.slice a5 n2 c5) K2 (.slice a7 n2 c7)) (by kernel_rfl) (T3.out) (fun hH0 => ?_)
      refine wpAnyH_take (i := 0) (oi := { dst := some 79, op := _, type := _, pos := _, after := _, guard := _ }) (v := ?_) rfl (by kernel_rfl) (by kernel_rfl) (by kernel_rfl) (fun _ _ _ h => h) (Or.inl ⟨by rfl, ?_⟩) (hH0) ?_
      rotate_left
      · (intro wx hSw; obtain ⟨⟨_, q0, q1, _, q2, q3⟩, _⟩ := hSw; go_simp <;> with_reducible rfl)
      simp only [Act.put, List.setIfInBounds_toArray, List.set_cons_zero, List.set_cons_succ]
      refine wpAnyH_take (i := 1) (oi := { dst := some 80, op := _, type := _, pos := _, after := _, guard := _ }) (v := ?_) rfl (by kernel_rfl) (by kernel_rfl) (by kernel_rfl) (fun _ _ _ h => h) (Or.inl ⟨by rfl, ?_⟩) (hH0) ?_
      rotate_left
      · (intro wx hSw; obtain ⟨⟨_, q0, q1, _, q2, q3⟩, _⟩ := hSw; go_simp <;> with_reducible rfl)
      simp only [Act.put, List.setIfInBounds_toArray, List.set_cons_zero, List.set_cons_succ]
      refine wpAnyH_take (i := 2) (oi := { dst := some 81, op := _, type := _, pos := _, after := _, guard := _ }) (v := ?_) rfl (by kernel_rfl) (by kernel_rfl) (by kernel_rfl) (fun _ _ _ h => h) (Or.inl ⟨by rfl, ?_⟩) (hH0) ?_
      rotate_left
      · (intro wx hSw; obtain ⟨⟨_, q0, q1, _, q2, q3⟩, _⟩ := hSw; go_simp <;> with_reducible rfl)
      simp only [Act.put, List.setIfInBounds_toArray, List.set_cons_zero, List.set_cons_succ]
      refine wpAnyH_take (i := 3) (oi := { dst := some 82, op := _, type := _, pos := _, after := _, guard := _ }) (v := ?_) rfl (by kernel_rfl) (by kernel_rfl) (by kernel_rfl) (fun _ _ _ h => h) (Or.inl ⟨by rfl, ?_⟩) (hH0) ?_
      rotate_left
      · (intro wx hSw; obtain ⟨⟨_, q0, q1, _, q2, q3⟩, _⟩ := hSw; go_simp <;> with_reducible rfl)
      simp only [Act.put, List.setIfInBounds_toArray, List.set_cons_zero, List.set_cons_succ]
      refine wpAnyH_take (i := 4) (oi := { dst := some 83, op := _, type := _, pos := _, after := _, guard := _ }) (v := ?_) rfl (by kernel_rfl) (by kernel_rfl) (by kernel_rfl) (fun _ _ _ h => h) (Or.inl ⟨by rfl, ?_⟩) (hH0) ?_
      rotate_left
      · (intro wx hSw; obtain ⟨⟨_, q0, q1, _, q2, q3⟩, _⟩ := hSw; go_simp <;> with_reducible rfl)
      simp only [Act.put, List.setIfInBounds_toArray, List.set_cons_zero, List.set_cons_succ]
      refine wpAnyH_take (i := 5) (oi := { dst := some 84, op := _, type := _, pos := _, after := _, guard := _ }) (v := ?_) rfl (by kernel_rfl) (by kernel_rfl) (by kernel_rfl) (fun _ _ _ h => h) (Or.inl ⟨by rfl, ?_⟩) (hH0) ?_
      rotate_left
      · (intro wx hSw; obtain ⟨⟨_, q0, q1, _, q2, q3⟩, _⟩ := hSw; go_simp <;> with_reducible rfl)
      simp only [Act.put, List.setIfInBounds_toArray, List.set_cons_zero, List.set_cons_succ]
      refine wpAnyH_take (i := 7) (oi := { dst := some 86, op := _, type := _, pos := _, after := _, guard := _ }) (v := ?_) rfl (by kernel_rfl) (by kernel_rfl) (by kernel_rfl) (fun _ _ _ h => h) (Or.inl ⟨by rfl, ?_⟩) (hH0) ?_
      rotate_left
      · (intro wx hSw; obtain ⟨⟨_, q0, q1, _, q2, q3⟩, _⟩ := hSw; go_simp <;> with_reducible rfl)
      simp only [Act.put, List.setIfInBounds_toArray, List.set_cons_zero, List.set_cons_succ]
      refine wpAnyH_ready (rs := [6]) (by kernel_rfl) (by simp) ?_
      refine AllReadyH.cons (o := { dst := some 85, op := _, type := _, pos := _, after := _, guard := _ }) rfl (fun K hK => ?_) AllReadyH.nil
      go_simp
      refine (SYH.out _ hH0.bel).mono ?_
      rintro e wa ⟨aa, ca, rfl, ra, ba⟩
      dsimp only
      refine hK.out _ _ (X3.below hH0 ba) (fun hH1 => ?_)
      clear hK K
      refine wpAnyH_ready (rs := [8]) (by kernel_rfl) (by simp) ?_
      refine AllReadyH.cons (o := { dst := some 87, op := _, type := _, pos := _, after := _, guard := _ }) rfl (fun K hK => ?_) AllReadyH.nil
      go_simp
      refine (SQH.out _ hH1.bel).mono ?_
      rintro e wb ⟨ab, cb, rfl, rb, bb⟩
      dsimp only
      refine hK.out _ _ (X3.below hH1 bb) (fun hH2 => ?_)
      clear hK K
      refine wpAnyH_ready (rs := [9]) (by kernel_rfl) (by simp) ?_
      refine AllReadyH.cons (o := { dst := some 88, op := _, type := _, pos := _, after := _, guard := _ }) rfl (fun K hK => ?_) AllReadyH.nil
      go_simp
      refine (EQ.out _ _ _ _ _ (ra.below bb) (rb.congrH F10.out)).mono ?_
      rintro e wd ⟨rfl, bd⟩
      dsimp only
      refine hK.out _ _ (X3.below hH2 bd) (fun hH3 => ?_)
      clear hK K
      refine wpAnyH_take (i := 10) (oi := { dst := some 89, op := _, type := _, pos := _, after := _, guard := _ }) (v := ?_) rfl (by kernel_rfl) (by kernel_rfl) (by kernel_rfl) (fun _ _ _ h => h) (Or.inl ⟨by rfl, ?_⟩) (hH3) ?_
      rotate_left
      · (intro wx hSw; obtain ⟨⟨_, q0, q1, _, q2, q3⟩, _⟩ := hSw; go_simp <;> with_reducible rfl)
      simp only [Act.put, List.setIfInBounds_toArray, List.set_cons_zero, List.set_cons_succ]
      refine wpAnyH_take (i := 11) (oi := { dst := some 4, op := _, type := _, pos := _, after := _, guard := _ }) (v := ?_) rfl (by kernel_rfl) (by kernel_rfl) (by kernel_rfl) (fun _ _ _ h => h) (Or.inl ⟨by rfl, ?_⟩) (hH3) ?_
      rotate_left
      · (intro wx hSw; obtain ⟨⟨_, q0, q1, _, q2, q3⟩, _⟩ := hSw; go_simp <;> with_reducible rfl)
      simp only [Act.put, List.setIfInBounds_toArray, List.set_cons_zero, List.set_cons_succ]
      refine wpAnyH_done (by kernel_rfl) ?_ _
      -- behind it: go_wp2_with fail, then go_meet (a cut) or go_ret; the condition at the end: hH3
      go_wp2_with fail
      go_ret
      exact ⟨rfl, bstep B9.out hH3.bel⟩
    · rw [decide_eq_true (show 1048576 < n' by omega)] at BG'
      go_enter Try.func3, Try.ntmps3
      go_wp2_with fail
      refine BG.out.mono ?_
      rintro e w' ⟨rfl, hw⟩
      obtain rfl := hw.symm
      go_wp2_with fail
      refine BG'.out.mono ?_
      rintro e w' ⟨rfl, rfl⟩
      go_wp2
      go_ret
      exact ⟨rfl, (by repeat' first | with_reducible exact Below.refl _ _ | with_reducible assumption | with_reducible refine below_drewN ?_ _ | with_reducible refine balloc ?_ _ | with_reducible refine Below.drew ?_ | with_reducible refine Below.setCell ?_ (by first | (simp; done) | (simp; omega) | omega) _ | with_reducible refine bstep ?_ (by assumption))⟩
  · rw [decide_eq_true (show 1048576 < n by omega)] at BG
    go_enter Try.func3, Try.ntmps3
    go_wp2_with fail
    refine BG.out.mono ?_
    rintro e w' ⟨rfl, rfl⟩
    go_wp2
    go_ret
    exact ⟨rfl, (by repeat' first | with_reducible exact Below.refl _ _ | with_reducible assumption | with_reducible refine below_drewN ?_ _ | with_reducible refine balloc ?_ _ | with_reducible refine Below.drew ?_ | with_reducible refine Below.setCell ?_ (by first | (simp; done) | (simp; omega) | omega) _ | with_reducible refine bstep ?_ (by assumption))⟩
end Go.Proofs.Ytpkanhifaklpjaa
