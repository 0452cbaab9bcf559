/- The walk of the law FnExactItemFind. -/
import Derived.Test.YtfheaijebadnoaaIM
import Derived.Test.YtfheaijebadnoaaIN
import Derived.Test.YtfheaijebadnoaaIC
import Derived.Test.YtfheaijebadnoaaIO
namespace Go.Proofs.Ytfheaijebadnoaa
open Go.RowKit
set_option linter.unusedSimpArgs false
set_option linter.unusedVariables false

theorem szN_no {n : Nat} (h : 1048576 < n) : szN 1048576 n = -1 := by unfold szN; rw [if_pos (by omega)]
theorem szN_yes {n : Nat} (h : n ≤ 1048576) : szN 1048576 n = 1048576 - (n : Int) := by unfold szN; rw [if_neg (by omega)]

/-- A box of three cells, where blocks from B to ahead of C alone may have turned. -/
theorem Tri.far {w w' : World} {B C b : Nat} {x y z : Value} (h : Tri w b x y z) (hf : Far B C w w') (hb : b < B ∨ C ≤ b) : Tri w' b x y z := by
  have e := hf.block b h.lt hb
  obtain ⟨h0, h1, h2, h3, h4, h5, h6⟩ := h
  refine ⟨Nat.lt_of_lt_of_le h0 hf.size, ?_, ?_, ?_, ?_, ?_, ?_⟩ <;> simp only [World.cell?, World.frozen?, e] at * <;> assumption
theorem Far.row {w w' : World} {B C : Nat} (hf : Far B C w w') (hB : w.heap.size ≤ B) : Below w.heap.size w w' := hf.below hB (Nat.le_refl _)

theorem VSl.at {w : World} {B C : Nat} {a : Option Addr} {n c : Nat} {xs : List Int} {b : Nat} (h : VSl w B C (.slice a n c) xs b) : Row w a n xs := by
  obtain ⟨a', c', e, hr⟩ := h.row
  cases e
  exact hr
theorem Far.after {B C : Nat} {w x y : World} (h : Below w.heap.size w x) (hf : Far B C x y) (hB : w.heap.size ≤ B) : Below w.heap.size w y := h.trans (hf.below hB h.size)

set_option maxHeartbeats 8000000 in
set_option maxRecDepth 8000 in
theorem exactItemFind_in (a : Option Addr) (n cap : Nat) (L : IL) (id : Int) (w : World) (hr : IRow w a n L) (hsz : n + sumV L n ≤ 1048576)
    (SZ : Hid (Calls Try.prog 5 #[.slice a n cap, .int .i64 1048576] w fun e w' => e = .returned (.int .i64 (szN 1048576 (n + sumV L n))) ∧ Below w.heap.size w w')) :
    Calls Try.prog 4 #[.slice a n cap, .int .i64 id] w fun e w' => e = .returned (.bool true) ∧ Below w.heap.size w w' := by
  rw [szN_yes hsz] at SZ
  have hn2 : n ≤ 1048576 := by omega
  have hs2 : sumV L n ≤ 1048576 := by omega
  have hv2 : ∀ i, i < n → (L i).vec.length ≤ 1048576 := fun i hi => by have := sumV_at L hi; omega
  have TO := hide (fun w1 (hb : Below w.heap.size w w1) => toItemS_any a n cap L w1 (hr.below hb) hn2 hv2)
  have EQS := hide (fun a a1 c c1 w1 (h : IRow w1 a n L) (h1 : IRow w1 a1 n L) => eqItemS_self a a1 n c c1 L w1 h h1 hn2 hv2)
  have SF := hide (fun a c w1 (h : IRow w1 a n L) => sItemFind_any a n c L id w1 h hn2 hv2)
  have IF := hide (fun a c w1 (h : IRow w1 a n L) => iItemFind_any a n c L id w1 h hn2 hv2)
  have MK := hide (fun B C a cap g V sv w1 (h : Its w1 B C a n L g V sv) => markItemS_any B C a n cap g 1 L V sv w1 h hn2 hs2 (by omega) (by omega))
  have hxl : (findX n L id).1.vec.length ≤ 1048576 := findX_len hv2
  obtain ⟨x, hx⟩ : ∃ x, (findX n L id).1 = x := ⟨_, rfl⟩
  obtain ⟨ok, hok⟩ : ∃ ok, (findX n L id).2 = ok := ⟨_, rfl⟩
  simp only [hx, hok] at SF IF hxl
  have EQ := hide (fun a a' n n' c c' w1 (h : Row w1 a n x.vec) (h' : Row w1 a' n' x.vec) => eqItem_self x a a' n n' c c' w1 h h' (by rw [← h.len]; exact hxl))
  have hoff : ¬ ((1 : Int) + offI L n) < 0 := by unfold offI; omega
  obtain ⟨f, hf⟩ : ∃ f : Int, 1 + offI L n = f := ⟨_, rfl⟩
  simp only [hf] at MK hoff
  obtain ⟨s, hs⟩ : ∃ s : Int, 1048576 - ((n + sumV L n : Nat) : Int) = s := ⟨_, rfl⟩
  have hs0 : ¬ s < 0 := by omega
  rw [hs] at SZ
  have hne : (ok != ok) = false := by simp
  have hm0 : ¬ ((1 : Int) + (x.vec.length : Int)) < 0 := by omega
  have hm1 : (((1 : Int) + (x.vec.length : Int)) != (1 + (x.vec.length : Int))) = false := by simp
  clear hr hv2 hx hok hs hsz hf
  go_enter Try.func4, Try.ntmps4
  go_wp2_with fail
  refine SZ.out.mono ?_
  rintro e w1 ⟨rfl, b1⟩
  go_wp2_with fail
  refine (TO.out _ (by repeat' first | with_reducible exact Below.refl _ _ | with_reducible assumption | with_reducible refine below_drewN ?_ _ | with_reducible refine balloc ?_ _ | with_reducible refine Below.drew ?_ | with_reducible refine Below.setCell ?_ (by first | (simp; done) | (simp; omega) | omega) _ | with_reducible refine bstep ?_ (by assumption))).mono ?_
  rintro e w2 ⟨a2, c2, g2, V2, s2, rfl, i2, b2⟩
  go_wp2_with fail
  refine (SF.out _ _ _ i2.irow).mono ?_
  rintro e w3 ⟨v3, g3, rfl, h3, b3⟩
  have HV3 := hide h3
  obtain ⟨a3, c3, rfl, _⟩ := h3
  go_wp2_with fail
  refine (TO.out _ (by repeat' first | with_reducible exact Below.refl _ _ | with_reducible assumption | with_reducible refine below_drewN ?_ _ | with_reducible refine balloc ?_ _ | with_reducible refine Below.drew ?_ | with_reducible refine Below.setCell ?_ (by first | (simp; done) | (simp; omega) | omega) _ | with_reducible refine bstep ?_ (by assumption))).mono ?_
  rintro e w4 ⟨a4, c4, g4, V4, s4, rfl, i4, b4⟩
  have T3 := hide ((Tri.new w3 (.int .i64 x.id) (.int .i64 x.tags) (.slice a3 x.vec.length c3) 31).below b4)
  go_wp2_with fail
  refine (IF.out _ _ _ i4.irow).mono ?_
  rintro e w5 ⟨v5, g5, rfl, h5, b5⟩
  have HV5 := hide h5
  obtain ⟨a5, c5, rfl, _⟩ := h5
  have l3 := b4.size
  have l5 := b5.size
  simp only [World.size_alloc] at l3
  have T5 := hide (Tri.new w5 (.int .i64 x.id) (.int .i64 x.tags) (.slice a5 x.vec.length c5) 31)
  have T3b := hide ((T3.out.below b5).alloc (.cells #[.int .i64 x.id, .int .i64 x.tags, .slice a5 x.vec.length c5] 31))
  have R5 := hide (HV5.out.below (balloc (Below.refl _ _) (.cells #[.int .i64 x.id, .int .i64 x.tags, .slice a5 x.vec.length c5] 31)))
  have R3 := hide ((((HV3.out.below (balloc (Below.refl _ _) (.cells #[.int .i64 x.id, .int .i64 x.tags, .slice a3 x.vec.length c3] 31))).below b4).below b5).below (balloc (Below.refl _ _) (.cells #[.int .i64 x.id, .int .i64 x.tags, .slice a5 x.vec.length c5] 31)))
  obtain ⟨_, q1, q2, q3, _, _, _⟩ := T3.out.below b5
  go_wp2_with fail
  refine (EQ.out _ _ _ _ _ _ _ R5.out.at R3.out.at).mono ?_
  rintro e w6 ⟨rfl, b6⟩
  have l6 := b6.size
  simp only [World.size_alloc] at l6
  clear q1 q2 q3
  go_wp2_with fail
  refine (TO.out _ (by repeat' first | with_reducible exact Below.refl _ _ | with_reducible assumption | with_reducible refine below_drewN ?_ _ | with_reducible refine balloc ?_ _ | with_reducible refine Below.drew ?_ | with_reducible refine Below.setCell ?_ (by first | (simp; done) | (simp; omega) | omega) _ | with_reducible refine bstep ?_ (by assumption))).mono ?_
  rintro e w7 ⟨a7, c7, g7, V7, s7, rfl, i7, b7⟩
  have i4d := (((i4.below b5).below (balloc (Below.refl _ _) (.cells #[.int .i64 x.id, .int .i64 x.tags, .slice a5 x.vec.length c5] 31))).below b6).below b7
  go_wp2_with fail
  refine (EQS.out _ _ _ _ _ i4d.irow i7.irow).mono ?_
  rintro e w8 ⟨rfl, b8⟩
  go_wp2_with fail
  refine (MK.out _ _ _ _ _ _ _ _ (i4d.below b8)).mono ?_
  rintro e w9 ⟨rfl, _, f9⟩
  have bw8 : Below w.heap.size w w8 := (by repeat' first | with_reducible exact Below.refl _ _ | with_reducible assumption | with_reducible refine below_drewN ?_ _ | with_reducible refine balloc ?_ _ | with_reducible refine Below.drew ?_ | with_reducible refine Below.setCell ?_ (by first | (simp; done) | (simp; omega) | omega) _ | with_reducible refine bstep ?_ (by assumption))
  have bw9 : Below w.heap.size w w9 := Far.after bw8 f9 (by have : Below w.heap.size w w3 := (by repeat' first | with_reducible exact Below.refl _ _ | with_reducible assumption | with_reducible refine below_drewN ?_ _ | with_reducible refine balloc ?_ _ | with_reducible refine Below.drew ?_ | with_reducible refine Below.setCell ?_ (by first | (simp; done) | (simp; omega) | omega) _ | with_reducible refine bstep ?_ (by assumption)); have := this.size; simp; omega)
  have l9 := f9.size
  have l8 := b8.size
  have l7 := b7.size
  have T5c := hide ((((T5.out.below b6).below b7).below b8).far f9 (.inr (by omega)))
  have T3c := hide ((((T3b.out.below b6).below b7).below b8).far f9 (.inl (by simp)))
  have R5c := hide ((((R5.out.below b6).below b7).below b8).far f9 (.inr (Nat.le_refl _)))
  have R3c := hide ((((R3.out.below b6).below b7).below b8).far f9 (.inl (by simp)))
  clear i4 i4d i7 i2
  obtain ⟨_, q1, q2, q3, _, _, _⟩ := T5c.out
  obtain ⟨_, p1, p2, p3, _, _, _⟩ := T3c.out
  go_wp2_with fail
  refine (EQ.out _ _ _ _ _ _ _ R5c.out.at R3c.out.at).mono ?_
  rintro e w10 ⟨rfl, b10⟩
  clear q1 q2 q3 p1 p2 p3
  obtain ⟨_, q1, q2, q3, _, _, _⟩ := T5c.out.below b10
  go_wp2_with fail
  refine (markItem_any x.id x.tags 1 _ (R5c.out.below b10) hxl (by omega) (by omega)).mono ?_
  rintro e w11 ⟨rfl, m11, f11⟩
  have bw11 : Below w.heap.size w w11 := Far.after (show Below w.heap.size w w10 from (by repeat' first | with_reducible exact Below.refl _ _ | with_reducible assumption | with_reducible refine below_drewN ?_ _ | with_reducible refine balloc ?_ _ | with_reducible refine Below.drew ?_ | with_reducible refine Below.setCell ?_ (by first | (simp; done) | (simp; omega) | omega) _ | with_reducible refine bstep ?_ (by assumption))) f11 (by have : Below w.heap.size w w4 := (by repeat' first | with_reducible exact Below.refl _ _ | with_reducible assumption | with_reducible refine below_drewN ?_ _ | with_reducible refine balloc ?_ _ | with_reducible refine Below.drew ?_ | with_reducible refine Below.setCell ?_ (by first | (simp; done) | (simp; omega) | omega) _ | with_reducible refine bstep ?_ (by assumption)); exact this.size)
  have l10 := b10.size
  have l11 := f11.size
  have T5d := hide ((T5c.out.below b10).far f11 (.inr (Nat.le_refl _)))
  have T3d := hide ((T3c.out.below b10).far f11 (.inl (by omega)))
  have R3d := hide ((R3c.out.below b10).far f11 (.inl (by omega)))
  have M11 := hide m11
  clear q1 q2 q3 m11
  obtain ⟨_, q1, q2, q3, _, _, _⟩ := T5d.out
  go_wp2_with fail
  refine (heldItem_any x.id x.tags 1 _ M11.out hxl (by omega) (by omega)).mono ?_
  rintro e w12 ⟨rfl, b12⟩
  clear q1 q2 q3
  go_wp2_with fail
  refine (TO.out _ (by repeat' first | with_reducible exact Below.refl _ _ | with_reducible assumption | with_reducible refine below_drewN ?_ _ | with_reducible refine balloc ?_ _ | with_reducible refine Below.drew ?_ | with_reducible refine Below.setCell ?_ (by first | (simp; done) | (simp; omega) | omega) _ | with_reducible refine bstep ?_ (by assumption))).mono ?_
  rintro e w13 ⟨a13, c13, g13, V13, s13, rfl, i13, b13⟩
  go_wp2_with fail
  refine (IF.out _ _ _ i13.irow).mono ?_
  rintro e w14 ⟨v14, g14, rfl, h14, b14⟩
  have HV14 := hide h14
  obtain ⟨a14, c14, rfl, _⟩ := h14
  have hb15 : Below w14.heap.size w14 (w14.alloc (.cells #[.int .i64 x.id, .int .i64 x.tags, .slice a14 x.vec.length c14] 31)) := balloc (Below.refl _ _) _
  have l12 := b12.size
  have l13 := b13.size
  have l14 := b14.size
  obtain ⟨_, p1, p2, p3, _, _, _⟩ := ((T3d.out.below b12).below b13).below b14
  go_wp2_with fail
  refine (EQ.out _ _ _ _ _ _ _ (HV14.out.below hb15).at ((((R3d.out.below b12).below b13).below b14).below hb15).at).mono ?_
  rintro e w15 ⟨rfl, b15⟩
  clear p1 p2 p3
  obtain ⟨_, q1, q2, q3, _, _, _⟩ := ((((T5d.out.below b12).below b13).below b14).below hb15).below b15
  go_wp2_with fail
  refine (heldItem_any x.id x.tags 1 _ (((((M11.out.below b12).below b13).below b14).below hb15).below b15) hxl (by omega) (by omega)).mono ?_
  rintro e w16 ⟨rfl, b16⟩
  go_wp2_with fail
  go_ret
  exact ⟨rfl, (by repeat' first | with_reducible exact Below.refl _ _ | with_reducible assumption | with_reducible refine below_drewN ?_ _ | with_reducible refine balloc ?_ _ | with_reducible refine Below.drew ?_ | with_reducible refine Below.setCell ?_ (by first | (simp; done) | (simp; omega) | omega) _ | with_reducible refine bstep ?_ (by assumption))⟩

set_option maxHeartbeats 800000 in
theorem exactItemFind_walk (a : Option Addr) (n cap : Nat) (L : IL) (id : Int) (w : World) (h : IsItems w a n L) (hwf : (Lit.int IntKind.i64 id).wf = true) :
    Calls Try.prog 4 #[.slice a n cap, .int .i64 id] w fun e w' => e = .returned (.bool true) ∧ Below w.heap.size w w' := by
  obtain ⟨hr, hn, hv⟩ := h
  have SZ := hide (szItemS_any a n cap L w hr hn hv)
  by_cases hsz : n + sumV L n ≤ 1048576
  · exact exactItemFind_in a n cap L id w hr hsz SZ
  · rw [szN_no (by omega)] at SZ
    clear hr hv
    go_enter Try.func4, Try.ntmps4
    go_wp2_with fail
    refine SZ.out.mono ?_
    rintro e w1 ⟨rfl, b1⟩
    go_wp2_with fail
    go_ret
    exact ⟨rfl, (by repeat' first | with_reducible exact Below.refl _ _ | with_reducible assumption | with_reducible refine below_drewN ?_ _ | with_reducible refine balloc ?_ _ | with_reducible refine Below.drew ?_ | with_reducible refine Below.setCell ?_ (by first | (simp; done) | (simp; omega) | omega) _ | with_reducible refine bstep ?_ (by assumption))⟩
end Go.Proofs.Ytfheaijebadnoaa
