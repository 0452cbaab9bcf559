/- The walk of the law FnExactMerged. -/
import Derived.Test.YtidoajapaaoifaaMA5
import Derived.Test.YtidoajapaaoifaaNWP
import Derived.Test.YtidoajapaaoifaaHD
namespace Go.Proofs.Ytidoajapaaoifaa
open Go.RowKit
set_option linter.unusedSimpArgs false
set_option linter.unusedVariables false

theorem mrgM_20 {k : Int} {n1 n2 : Nat} {f1 g1 f2 g2 : Nat → Int} : mrgM k n1 n2 f1 g1 f2 g2 ≤ 20 := by
  unfold mrgM
  split
  · rename_i h
    unfold mrgB at h
    simp only [Bool.and_eq_true] at h
    have := of_decide_eq_true h.1.1.1
    exact Nat.le_trans (Nat.min_le_left _ _) (by omega)
  · exact Nat.zero_le _

set_option maxHeartbeats 32000000 in
set_option maxRecDepth 8000 in
theorem exactMerged_in (a1 : Option Addr) (n1 c1 : Nat) (f1 g1 : Nat → Int) (a2 : Option Addr) (n2 c2 : Nat) (f2 g2 : Nat → Int) (k : Int) (w : World) (h1 : PRow w a1 n1 f1 g1) (h2 : PRow w a2 n2 f2 g2) (hsz : n1 + n2 ≤ 1048576) :
    Calls Try.prog 3 #[.slice a1 n1 c1, .slice a2 n2 c2, .int .i64 k] w fun e w' => e = .returned (.bool true) ∧ Below w.heap.size w w' := by
  have hn1 : n1 ≤ 1048576 := by omega
  have hn2 : n2 ≤ 1048576 := by omega
  have SZ1 := hide (fun w1 => szNearS_any a1 n1 c1 1048576 w1 (by omega) (by omega) (by omega))
  simp only [if_neg (show ¬ (1048576 : Int) - (n1 : Int) < 0 by omega)] at SZ1
  have SZ2 := hide (fun w1 => szNearS_any a2 n2 c2 (1048576 - (n1 : Int)) w1 (by omega) (by omega) (by omega))
  simp only [if_neg (show ¬ (1048576 : Int) - (n1 : Int) - (n2 : Int) < 0 by omega)] at SZ2
  have z1 : ¬ (1048576 : Int) - (n1 : Int) < 0 := by omega
  have z2 : ¬ (1048576 : Int) - (n1 : Int) - (n2 : Int) < 0 := by omega
  have T1 := hide (fun w1 (hb : Below w.heap.size w w1) => toNearS_any a1 n1 c1 f1 g1 w1 (h1.below hb) hn1)
  have T2 := hide (fun w1 (hb : Below w.heap.size w w1) => toNearS_any a2 n2 c2 f2 g2 w1 (h2.below hb) hn2)
  have E1 := hide (fun a a' c c' w1 (h : PRow w1 a n1 f1 g1) (h' : PRow w1 a' n1 f1 g1) => eqNearS_self a a' n1 c c' f1 g1 w1 h h' hn1)
  have E2 := hide (fun a a' c c' w1 (h : PRow w1 a n2 f2 g2) (h' : PRow w1 a' n2 f2 g2) => eqNearS_self a a' n2 c c' f2 g2 w1 h h' hn2)
  have SF := hide (fun a a' c c' w1 (h : PRow w1 a n1 f1 g1) (h' : PRow w1 a' n2 f2 g2) => sMerged_any a a' n1 n2 c c' k f1 g1 f2 g2 w1 h h' hn1 hn2)
  have IF := hide (fun a a' c c' w1 (h : PRow w1 a n1 f1 g1) (h' : PRow w1 a' n2 f2 g2) => iMerged_any a a' n1 n2 c c' k f1 g1 f2 g2 w1 h h' hn1 hn2)
  have hml : mrgM k n1 n2 f1 g1 f2 g2 ≤ 1048576 := Nat.le_trans mrgM_20 (by omega)
  obtain ⟨m, hm⟩ : ∃ m, mrgM k n1 n2 f1 g1 f2 g2 = m := ⟨_, rfl⟩
  obtain ⟨M, hM⟩ : ∃ M, isortL (n1 + n2) (mrgA n1 f1 g1 f2 g2) = M := ⟨_, rfl⟩
  simp only [hm, hM] at SF IF hml
  have EQ := hide (fun a a1 c c1 B C B' C' w1 (h : NW w1 B C a m M) (h1 : NW w1 B' C' a1 m M) => eqNearS_self a a1 m c c1 _ _ w1 h.prow h1.prow hml)
  have MK1 := hide (fun B a cap w1 (h : Wr w1 a n1 (fun i => (f1 i, g1 i)) B) => markNearS_any a n1 cap B 1 _ w1 h hn1 (by omega) (by omega))
  have MK2 := hide (fun B a cap w1 (h : Wr w1 a n2 (fun i => (f2 i, g2 i)) B) => markNearS_any a n2 cap B (1 + 2 * (n1 : Int)) _ w1 h hn2 (by omega) (by omega))
  have MKM := hide (fun B a cap w1 (h : Wr w1 a m M B) => markNearS_any a m cap B 1 M w1 h hml (by omega) (by omega))
  have HLD := hide (fun B a cap w1 (h : Wr w1 a m (markL 1) B) => heldNearS_any a m cap B 1 w1 h hml (by omega) (by omega))
  have hk0 : ¬ (1 + 2 * (n1 : Int) + 2 * (n2 : Int)) < 0 := by omega
  have hoffM : ¬ ((1 : Int) + 2 * (m : Int)) < 0 := by omega
  obtain ⟨fM, hfM⟩ : ∃ f : Int, 1 + 2 * (m : Int) = f := ⟨_, rfl⟩
  simp only [hfM] at MKM HLD hoffM
  have hm1 : (fM != fM) = false := by simp
  clear h1 h2 hm hM hfM
  go_enter Try.func3, Try.ntmps3
  go_wp2_with fail
  refine (SZ1.out _).mono ?_
  rintro e w' ⟨rfl, hw'⟩
  have hw := hw'.symm
  subst hw
  go_wp2_with fail
  refine (SZ2.out _).mono ?_
  rintro e w' ⟨rfl, hw'⟩
  have hw := hw'.symm
  subst hw
  go_wp2_with fail
  refine (T1.out _ (Below.refl _ _)).mono ?_
  rintro e w1 ⟨x1, rfl, l1, o1, b1⟩
  go_wp2_with fail
  refine (T2.out _ b1).mono ?_
  rintro e w2 ⟨x2, rfl, l2, o2, b2⟩
  go_wp2_with fail
  refine (SF.out _ _ _ _ _ (o1.prow.below b2) o2.prow).mono ?_
  rintro e w3 ⟨a3, c3, rfl, h3, b3⟩
  have n3 := NW.of h3
  have bw3 := bstep (bstep b1 b2) b3
  have ew3 := bw3.size
  clear h3 o1 o2 b1 b2 b3 l1 l2
  go_wp2_with fail
  refine (T1.out _ bw3).mono ?_
  rintro e w4 ⟨x4, rfl, l4, o4, b4⟩
  have p4 := o4.nw l4
  go_wp2_with fail
  refine (T2.out _ (bstep bw3 b4)).mono ?_
  rintro e w5 ⟨x5, rfl, l5, o5, b5⟩
  have p5 := o5.nw l5
  have q4 := p4.below b5
  go_wp2_with fail
  refine (IF.out _ _ _ _ _ (o4.prow.below b5) o5.prow).mono ?_
  rintro e w6 ⟨a6, c6, rfl, h6, b6⟩
  have n6 := NW.of h6
  have bw6 := bstep (bstep (bstep bw3 b4) b5) b6
  have k3 := ((n3.below b4).below b5).below b6
  have k4 := q4.below b6
  have k5 := p5.below b6
  have e4 := b4.size
  have e5 := b5.size
  have e6 := b6.size
  clear h6 n3 p4 p5 q4 o4 o5 b4 b5 b6 bw3 l4 l5
  go_wp2_with fail
  refine (EQ.out _ _ _ _ _ _ _ _ _ n6 k3).mono ?_
  rintro e w7 ⟨rfl, b7⟩
  go_wp2_with fail
  refine (T1.out _ (bstep bw6 b7)).mono ?_
  rintro e w8 ⟨x8, rfl, l8, o8, b8⟩
  go_wp2_with fail
  refine (E1.out _ _ _ _ _ ((k4.below b7).below b8).prow o8.prow).mono ?_
  rintro e w9 ⟨rfl, b9⟩
  have bw9 := bstep (bstep (bstep bw6 b7) b8) b9
  go_wp2_with fail
  refine (T2.out _ bw9).mono ?_
  rintro e w10 ⟨x10, rfl, l10, o10, b10⟩
  go_wp2_with fail
  refine (E2.out _ _ _ _ _ ((((k5.below b7).below b8).below b9).below b10).prow o10.prow).mono ?_
  rintro e w11 ⟨rfl, b11⟩
  have m3 := ((((k3.below b7).below b8).below b9).below b10).below b11
  have m4 := ((((k4.below b7).below b8).below b9).below b10).below b11
  have m5 := ((((k5.below b7).below b8).below b9).below b10).below b11
  have m6 := ((((n6.below b7).below b8).below b9).below b10).below b11
  have bw11 := bstep (bstep bw9 b10) b11
  clear k3 k4 k5 n6 o8 o10 b7 b8 b9 b10 b11 bw6 bw9 l8 l10
  go_wp2_with fail
  refine (MK1.out _ _ _ _ m4.wr).mono ?_
  rintro e w12 ⟨rfl, _, t12⟩
  have f12 := t12.far m4
  have bw12 := Far.after bw11 f12 (by omega)
  have k3 := m3.far f12 (.inl (Nat.le_refl _))
  have k5 := m5.far f12 (.inr (Nat.le_refl _))
  have k6 := m6.far f12 (.inr (by omega))
  clear m3 m4 m5 m6 f12 t12 bw11
  go_wp2_with fail
  refine (MK2.out _ _ _ _ k5.wr).mono ?_
  rintro e w13 ⟨rfl, _, t13⟩
  have f13 := t13.far k5
  have bw13 := Far.after bw12 f13 (by omega)
  have m3 := k3.far f13 (.inl (by omega))
  have m6 := k6.far f13 (.inr (Nat.le_refl _))
  clear k3 k5 k6 f13 t13 bw12
  go_wp2_with fail
  refine (EQ.out _ _ _ _ _ _ _ _ _ m6 m3).mono ?_
  rintro e w14 ⟨rfl, b14⟩
  have bw14 := bstep bw13 b14
  have k3 := m3.below b14
  have k6 := m6.below b14
  clear m3 m6 b14 bw13
  go_wp2_with fail
  refine (MKM.out _ _ _ _ k6.wr).mono ?_
  rintro e w15 ⟨rfl, h15, t15⟩
  have f15 := t15.far k6
  have n15 := k6.turned h15
  have bw15 := Far.after bw14 f15 (by omega)
  have m3 := k3.far f15 (.inl (by omega))
  clear k3 k6 h15 t15 f15 bw14
  go_wp2_with fail
  refine (HLD.out _ _ _ _ n15.wr).mono ?_
  rintro e w16 ⟨rfl, hw16⟩
  subst hw16
  go_wp2_with fail
  refine (T1.out _ bw15).mono ?_
  rintro e w17 ⟨x17, rfl, l17, o17, b17⟩
  go_wp2_with fail
  refine (T2.out _ (bstep bw15 b17)).mono ?_
  rintro e w18 ⟨x18, rfl, l18, o18, b18⟩
  go_wp2_with fail
  refine (IF.out _ _ _ _ _ (o17.prow.below b18) o18.prow).mono ?_
  rintro e w19 ⟨a19, c19, rfl, h19, b19⟩
  go_wp2_with fail
  refine (EQ.out _ _ _ _ _ _ _ _ _ (NW.of h19) (((m3.below b17).below b18).below b19)).mono ?_
  rintro e w20 ⟨rfl, b20⟩
  go_wp2_with fail
  refine (HLD.out _ _ _ _ ((((n15.below b17).below b18).below b19).below b20).wr).mono ?_
  rintro e w21 ⟨rfl, hw21⟩
  subst hw21
  go_wp2_with fail
  go_ret
  exact ⟨rfl, bstep (bstep (bstep (bstep bw15 b17) b18) b19) b20⟩

set_option maxHeartbeats 1600000 in
theorem exactMerged_walk (a1 : Option Addr) (n1 c1 : Nat) (f1 g1 : Nat → Int) (a2 : Option Addr) (n2 c2 : Nat) (f2 g2 : Nat → Int) (k : Int) (w : World) (h1 : IsPairs w a1 n1 f1 g1) (h2 : IsPairs w a2 n2 f2 g2) (hwk : (Lit.int IntKind.i64 k).wf = true) :
    Calls Try.prog 3 #[.slice a1 n1 c1, .slice a2 n2 c2, .int .i64 k] w fun e w' => e = .returned (.bool true) ∧ Below w.heap.size w w' := by
  obtain ⟨r1, hl1⟩ := h1
  obtain ⟨r2, hl2⟩ := h2
  by_cases hsz : n1 + n2 ≤ 1048576
  · exact exactMerged_in a1 n1 c1 f1 g1 a2 n2 c2 f2 g2 k w r1 r2 hsz
  · have SZ1 := hide (fun w1 => szNearS_any a1 n1 c1 1048576 w1 (by omega) (by omega) hl1)
    clear r1 r2
    by_cases h1 : (1048576 : Int) - (n1 : Int) < 0
    · simp only [if_pos h1] at SZ1
      go_enter Try.func3, Try.ntmps3
      go_wp2_with fail
      refine (SZ1.out _).mono ?_
      rintro e w' ⟨rfl, rfl⟩
      go_wp2_with fail
      go_ret
      exact ⟨rfl, (by repeat' first | with_reducible exact Below.refl _ _ | with_reducible assumption | with_reducible refine below_drewN ?_ _ | with_reducible refine balloc ?_ _ | with_reducible refine Below.drew ?_ | with_reducible refine Below.setCell ?_ (by first | (simp; done) | (simp; omega) | omega) _ | with_reducible refine bstep ?_ (by assumption))⟩
    · simp only [if_neg h1] at SZ1
      have SZ2 := hide (fun w1 => szNearS_any a2 n2 c2 (1048576 - (n1 : Int)) w1 (by omega) (by omega) hl2)
      simp only [if_pos (show (1048576 : Int) - (n1 : Int) - (n2 : Int) < 0 by omega)] at SZ2
      go_enter Try.func3, Try.ntmps3
      go_wp2_with fail
      refine (SZ1.out _).mono ?_
      rintro e w' ⟨rfl, rfl⟩
      go_wp2_with fail
      refine (SZ2.out _).mono ?_
      rintro e w' ⟨rfl, rfl⟩
      go_wp2_with fail
      go_ret
      exact ⟨rfl, (by repeat' first | with_reducible exact Below.refl _ _ | with_reducible assumption | with_reducible refine below_drewN ?_ _ | with_reducible refine balloc ?_ _ | with_reducible refine Below.drew ?_ | with_reducible refine Below.setCell ?_ (by first | (simp; done) | (simp; omega) | omega) _ | with_reducible refine bstep ?_ (by assumption))⟩
end Go.Proofs.Ytidoajapaaoifaa
