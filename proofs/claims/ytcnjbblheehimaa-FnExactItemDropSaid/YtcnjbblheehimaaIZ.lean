/- The walk of the law FnExactItemDrop. -/
import Derived.Test.YtcnjbblheehimaaIY
import Derived.Test.YtcnjbblheehimaaIS
namespace Go.Proofs.Ytcnjbblheehimaa
open Go.RowKit
set_option linter.unusedSimpArgs false
set_option linter.unusedVariables false

theorem dropN_le {dim : Int} {n : Nat} {L : IL} {id : Int} : dropN dim n L id ≤ n ∧ sumV (fil (neB id) L n) (dropN dim n L id) ≤ sumV L n := by
  unfold dropN
  split
  · exact ⟨cntP_le _ _ _, sumV_fil _ _ _⟩
  · exact ⟨Nat.zero_le _, Nat.zero_le _⟩

set_option maxHeartbeats 8000000 in
set_option maxRecDepth 8000 in
theorem exactItemDrop_in (dim : Int) (a : Option Addr) (n cap : Nat) (L : IL) (id : Int) (w : World) (hr : IRow w a n L) (hsz : n + sumV L n ≤ 1048576)
    (SZ : Hid (Calls Try.prog 4 #[.slice a n cap, .int .i64 1048576] w fun e w' => e = .returned (.int .i64 (szN 1048576 (n + sumV L n))) ∧ Below w.heap.size w w')) :
    Calls Try.prog 3 #[.int .i64 dim, .slice a n cap, .int .i64 id] w fun e w' => e = .returned (.bool true) ∧ Below w.heap.size w w' := by
  rw [szN_yes hsz] at SZ
  have hn2 : n ≤ 1048576 := by omega
  have hs2 : sumV L n ≤ 1048576 := by omega
  have hv2 : ∀ i, i < n → (L i).vec.length ≤ 1048576 := fun i hi => by have := sumV_at L hi; omega
  have TO := hide (fun w1 (hb : Below w.heap.size w w1) => toItemS_anyN a n cap L w1 (hr.below hb) hn2 hv2)
  have EQS := hide (fun a a1 c c1 w1 (h : IRow w1 a n L) (h1 : IRow w1 a1 n L) => eqItemS_self a a1 n c c1 L w1 h h1 hn2 hv2)
  have SF := hide (fun a c w1 (h : IRow w1 a n L) => sItemDrop_any dim a n c L id w1 h hn2 hv2)
  have IF := hide (fun a w1 (h : IRow w1 a n L) => iItemDrop_any dim a n n L id w1 h (Nat.le_refl _) hn2 hv2)
  have MK := hide (fun B C a cap g V sv w1 (h : Its w1 B C a n L g V sv) => markItemS_any B C a n cap g 1 L V sv w1 h hn2 hs2 (by omega) (by omega))
  have hml : dropN dim n L id ≤ 1048576 := Nat.le_trans dropN_le.1 hn2
  have hms : sumV (fil (neB id) L n) (dropN dim n L id) ≤ 1048576 := Nat.le_trans dropN_le.2 hs2
  obtain ⟨m, hm⟩ : ∃ m, dropN dim n L id = m := ⟨_, rfl⟩
  obtain ⟨M, hM⟩ : ∃ M, fil (neB id) L n = M := ⟨_, rfl⟩
  obtain ⟨ok, hok⟩ : ∃ ok, dropB dim n L id = ok := ⟨_, rfl⟩
  simp only [hm, hM, hok] at SF IF hml hms
  have hne : (ok != ok) = false := by simp
  have hmv : ∀ i, i < m → (M i).vec.length ≤ 1048576 := fun i hi => by have := sumV_at M hi; omega
  have EQ := hide (fun a a1 c c1 w1 (h : IRow w1 a m M) (h1 : IRow w1 a1 m M) => eqItemS_self a a1 m c c1 M w1 h h1 hml hmv)
  have MKM := hide (fun B C a cap g V sv w1 (h : Its w1 B C a m M g V sv) => markItemS_any B C a m cap g 1 M V sv w1 h hml hms (by omega) (by omega))
  have HLD := hide (fun B C a cap g V sv w1 (h : Its w1 B C a m (mkI M 1) g V sv) => heldItemS_any B C a m cap g 1 M V sv w1 h hml hms (by omega) (by omega))
  have hoff : ¬ ((1 : Int) + offI L n) < 0 := by unfold offI; omega
  have hoffM : ¬ ((1 : Int) + offI M m) < 0 := by unfold offI; omega
  obtain ⟨f, hf⟩ : ∃ f : Int, 1 + offI L n = f := ⟨_, rfl⟩
  obtain ⟨fM, hfM⟩ : ∃ f : Int, 1 + offI M m = f := ⟨_, rfl⟩
  simp only [hf] at MK hoff
  simp only [hfM] at MKM HLD hoffM
  have hm1 : (fM != fM) = false := by simp
  obtain ⟨s, hs⟩ : ∃ s : Int, 1048576 - ((n + sumV L n : Nat) : Int) = s := ⟨_, rfl⟩
  have hs0 : ¬ s < 0 := by omega
  rw [hs] at SZ
  clear hr hv2 hm hM hok hs hsz hf hfM hmv hms hs2
  go_enter Try.func3, Try.ntmps3
  go_wp2_with fail
  refine SZ.out.mono ?_
  rintro e w1 ⟨rfl, b1⟩
  go_wp2_with fail
  refine (TO.out _ (by repeat' first | with_reducible exact Below.refl _ _ | with_reducible assumption | with_reducible refine below_drewN ?_ _ | with_reducible refine balloc ?_ _ | with_reducible refine Below.drew ?_ | with_reducible refine Below.setCell ?_ (by first | (simp; done) | (simp; omega) | omega) _ | with_reducible refine bstep ?_ (by assumption))).mono ?_
  rintro e w2 ⟨a2, g2, V2, s2, rfl, i2, b2⟩
  go_wp2_with fail
  refine (SF.out _ _ _ i2.irow).mono ?_
  rintro e w3 ⟨a3, c3, g3, V3, s3, rfl, i3, b3⟩
  go_wp2_with fail
  refine (TO.out _ (by repeat' first | with_reducible exact Below.refl _ _ | with_reducible assumption | with_reducible refine below_drewN ?_ _ | with_reducible refine balloc ?_ _ | with_reducible refine Below.drew ?_ | with_reducible refine Below.setCell ?_ (by first | (simp; done) | (simp; omega) | omega) _ | with_reducible refine bstep ?_ (by assumption))).mono ?_
  rintro e w4 ⟨a4, g4, V4, s4, rfl, i4, b4⟩
  go_wp2_with fail
  refine (IF.out _ _ i4.irow).mono ?_
  rintro e w5 ⟨a5, c5, g5, V5, s5, rfl, i5, b5⟩
  have j3 := (i3.below b4).below b5
  go_wp2_with fail
  refine (EQ.out _ _ _ _ _ i5.irow j3.irow).mono ?_
  rintro e w6 ⟨rfl, b6⟩
  go_wp2_with fail
  refine (TO.out _ (by repeat' first | with_reducible exact Below.refl _ _ | with_reducible assumption | with_reducible refine below_drewN ?_ _ | with_reducible refine balloc ?_ _ | with_reducible refine Below.drew ?_ | with_reducible refine Below.setCell ?_ (by first | (simp; done) | (simp; omega) | omega) _ | with_reducible refine bstep ?_ (by assumption))).mono ?_
  rintro e w7 ⟨a7, g7, V7, s7, rfl, i7, b7⟩
  have j4 := ((i4.below b5).below b6).below b7
  go_wp2_with fail
  refine (EQS.out _ _ _ _ _ j4.irow i7.irow).mono ?_
  rintro e w8 ⟨rfl, b8⟩
  go_wp2_with fail
  refine (MK.out _ _ _ _ _ _ _ _ (j4.below b8)).mono ?_
  rintro e w9 ⟨rfl, _, f9⟩
  have l2 := b2.size
  have l3 := b3.size
  have l4 := b4.size
  have l5 := b5.size
  have bw3 : Below w.heap.size w w3 := (by repeat' first | with_reducible exact Below.refl _ _ | with_reducible assumption | with_reducible refine below_drewN ?_ _ | with_reducible refine balloc ?_ _ | with_reducible refine Below.drew ?_ | with_reducible refine Below.setCell ?_ (by first | (simp; done) | (simp; omega) | omega) _ | with_reducible refine bstep ?_ (by assumption))
  have bw8 : Below w.heap.size w w8 := (by repeat' first | with_reducible exact Below.refl _ _ | with_reducible assumption | with_reducible refine below_drewN ?_ _ | with_reducible refine balloc ?_ _ | with_reducible refine Below.drew ?_ | with_reducible refine Below.setCell ?_ (by first | (simp; done) | (simp; omega) | omega) _ | with_reducible refine bstep ?_ (by assumption))
  have lw3 := bw3.size
  have bw9 : Below w.heap.size w w9 := Far.after bw8 f9 lw3
  have k5 := (((i5.below b6).below b7).below b8).far f9 (.inr (Nat.le_refl _))
  have k3 := (((j3.below b6).below b7).below b8).far f9 (.inl (Nat.le_refl _))
  clear i4 j4 i7 i2 i3 i5 j3 bw8 bw3 b8 f9
  go_wp2_with fail
  refine (EQ.out _ _ _ _ _ k5.irow k3.irow).mono ?_
  rintro e w10 ⟨rfl, b10⟩
  go_wp2_with fail
  refine (MKM.out _ _ _ _ _ _ _ _ (k5.below b10)).mono ?_
  rintro e w11 ⟨rfl, i11, f11⟩
  have bw11 : Below w.heap.size w w11 := Far.after (show Below w.heap.size w w10 from (by repeat' first | with_reducible exact Below.refl _ _ | with_reducible assumption | with_reducible refine below_drewN ?_ _ | with_reducible refine balloc ?_ _ | with_reducible refine Below.drew ?_ | with_reducible refine Below.setCell ?_ (by first | (simp; done) | (simp; omega) | omega) _ | with_reducible refine bstep ?_ (by assumption))) f11 (by omega)
  have j11 := (k3.below b10).far f11 (.inl l4)
  clear k5 k3 b10 f11 bw9
  go_wp2_with fail
  refine (HLD.out _ _ _ _ _ _ _ _ i11).mono ?_
  rintro e w12 ⟨rfl, rfl⟩
  go_wp2_with fail
  refine (TO.out _ (by repeat' first | with_reducible exact Below.refl _ _ | with_reducible assumption | with_reducible refine below_drewN ?_ _ | with_reducible refine balloc ?_ _ | with_reducible refine Below.drew ?_ | with_reducible refine Below.setCell ?_ (by first | (simp; done) | (simp; omega) | omega) _ | with_reducible refine bstep ?_ (by assumption))).mono ?_
  rintro e w13 ⟨a13, g13, V13, s13, rfl, i13, b13⟩
  go_wp2_with fail
  refine (IF.out _ _ i13.irow).mono ?_
  rintro e w14 ⟨a14, c14, g14, V14, s14, rfl, i14, b14⟩
  go_wp2_with fail
  refine (EQ.out _ _ _ _ _ i14.irow ((j11.below b13).below b14).irow).mono ?_
  rintro e w15 ⟨rfl, b15⟩
  go_wp2_with fail
  refine (HLD.out _ _ _ _ _ _ _ _ (((i11.below b13).below b14).below b15)).mono ?_
  rintro e w16 ⟨rfl, rfl⟩
  go_wp2_with fail
  go_ret
  exact ⟨rfl, (by repeat' first | with_reducible exact Below.refl _ _ | with_reducible assumption | with_reducible refine below_drewN ?_ _ | with_reducible refine balloc ?_ _ | with_reducible refine Below.drew ?_ | with_reducible refine Below.setCell ?_ (by first | (simp; done) | (simp; omega) | omega) _ | with_reducible refine bstep ?_ (by assumption))⟩

set_option maxHeartbeats 800000 in
theorem exactItemDrop_walk (dim : Int) (a : Option Addr) (n cap : Nat) (L : IL) (id : Int) (w : World) (hwd : (Lit.int IntKind.i64 dim).wf = true) (h : IsItems w a n L) (hwf : (Lit.int IntKind.i64 id).wf = true) :
    Calls Try.prog 3 #[.int .i64 dim, .slice a n cap, .int .i64 id] w fun e w' => e = .returned (.bool true) ∧ Below w.heap.size w w' := by
  obtain ⟨hr, hn, hv⟩ := h
  have SZ := hide (szItemS_any a n cap L w hr hn hv)
  by_cases hsz : n + sumV L n ≤ 1048576
  · exact exactItemDrop_in dim a n cap L id w hr hsz SZ
  · rw [szN_no (by omega)] at SZ
    clear hr hv
    go_enter Try.func3, Try.ntmps3
    go_wp2_with fail
    refine SZ.out.mono ?_
    rintro e w1 ⟨rfl, b1⟩
    go_wp2_with fail
    go_ret
    exact ⟨rfl, (by repeat' first | with_reducible exact Below.refl _ _ | with_reducible assumption | with_reducible refine below_drewN ?_ _ | with_reducible refine balloc ?_ _ | with_reducible refine Below.drew ?_ | with_reducible refine Below.setCell ?_ (by first | (simp; done) | (simp; omega) | omega) _ | with_reducible refine bstep ?_ (by assumption))⟩
end Go.Proofs.Ytcnjbblheehimaa
