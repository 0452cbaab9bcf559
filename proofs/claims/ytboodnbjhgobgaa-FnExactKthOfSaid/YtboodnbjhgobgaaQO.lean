/- The walk of the law FnExactNearest. -/
import Derived.Test.YtboodnbjhgobgaaQN
import Derived.Test.YtboodnbjhgobgaaHD
import Derived.Test.YtboodnbjhgobgaaIS
namespace Go.Proofs.Ytboodnbjhgobgaa
open Go.RowKit
set_option linter.unusedSimpArgs false
set_option linter.unusedVariables false

/-- A slice of Nears that may be written, between blocks B and C. -/
def NW (w : World) (B C : Nat) (a : Option Addr) (l : Nat) (L : NL) : Prop := l = 0 ∨ ∃ b, a = some ⟨b, 0, none⟩ ∧ B ≤ b ∧ b < C ∧ RowL w b l L
theorem NW.of {w : World} {a : Option Addr} {l : Nat} {L : NL} {B : Nat} (h : Wr w a l L B) : NW w B w.heap.size a l L := by
  rcases h with h0 | ⟨b, e, hB, hr⟩
  · exact .inl h0
  · exact .inr ⟨b, e, hB, hr.lt, hr⟩
theorem NW.wr {w : World} {a : Option Addr} {l : Nat} {L : NL} {B C : Nat} (h : NW w B C a l L) : Wr w a l L B := by
  rcases h with h0 | ⟨b, e, hB, _, hr⟩
  · exact .inl h0
  · exact .inr ⟨b, e, hB, hr⟩
theorem NW.below {w w' : World} {a : Option Addr} {l : Nat} {L : NL} {B C : Nat} (h : NW w B C a l L) (hb : Below w.heap.size w w') : NW w' B C a l L := by
  rcases h with h0 | ⟨b, e, hB, hC, hr⟩
  · exact .inl h0
  · exact .inr ⟨b, e, hB, hC, hr.below hb⟩
theorem NW.far {w w' : World} {a : Option Addr} {l : Nat} {L : NL} {B C B' C' : Nat} (h : NW w B C a l L) (hf : Far B' C' w w') (hd : C ≤ B' ∨ C' ≤ B) : NW w' B C a l L := by
  rcases h with h0 | ⟨b, e, hB, hC, hr⟩
  · exact .inl h0
  · exact .inr ⟨b, e, hB, hC, hr.block (hf.block b hr.lt (by omega))⟩
theorem NW.prow {w : World} {a : Option Addr} {l : Nat} {L : NL} {B C : Nat} (h : NW w B C a l L) : PRow w a l (fun i => (L i).1) (fun i => (L i).2) := h.wr.prow
theorem Turn.far {w w' : World} {a : Option Addr} {l : Nat} {L : NL} {B C : Nat} (t : Turn a l B w w') (h : NW w B C a l L) : Far B C w w' := by
  rcases t with t | ⟨h0, b, e, hb, hbut⟩
  · exact Far.ofBelow t
  · rcases h with h1 | ⟨b', e', hB, hC, hr⟩
    · exact absurd h1 h0
    · rw [e] at e'
      cases e'
      exact Far.ofBut hbut hB hC
theorem NW.turned {w w' : World} {a : Option Addr} {l : Nat} {L M : NL} {B C : Nat} (h : NW w B C a l L) (k : Wr w' a l M B) : NW w' B C a l M := by
  rcases h with h0 | ⟨b, e, hB, hC, hr⟩
  · exact .inl h0
  · rcases k with h1 | ⟨b', e', _, hr'⟩
    · exact .inl h1
    · rw [e] at e'
      cases e'
      exact .inr ⟨b, e, hB, hC, hr'⟩
theorem Own.vsl {w : World} {B g : Nat} {xs : List Int} (h : Own w g xs) (hB : B ≤ g) : VSl w B w.heap.size (.slice (some ⟨g, 0, none⟩) xs.length xs.length) xs g := ⟨_, _, rfl, .inr ⟨rfl, hB, World.rowIs.lt h, h.arr⟩⟩

theorem nearM_le {dim : Int} {n : Nat} {L : IL} {qs : List Int} {k mask : Int} : nearM dim n L qs k mask ≤ n := by
  unfold nearM
  split
  · exact Nat.le_trans (Nat.min_le_right _ _) (cntP_le _ _ _)
  · exact Nat.zero_le _
theorem nearM_20 {dim : Int} {n : Nat} {L : IL} {qs : List Int} {k mask : Int} : nearM dim n L qs k mask ≤ 20 := by
  unfold nearM
  split
  · rename_i h
    rw [Bool.and_eq_true] at h
    have := of_decide_eq_true h.2
    exact Nat.le_trans (Nat.min_le_left _ _) (by omega)
  · exact Nat.zero_le _

set_option maxHeartbeats 32000000 in
set_option maxRecDepth 8000 in
theorem exactNearest_in (dim : Int) (a : Option Addr) (n cap : Nat) (L : IL) (qa : Option Addr) (qn qc : Nat) (qs : List Int) (r mask : Int) (w : World) (hr : IRow w a n L) (hsz : n + sumV L n ≤ 1048576) (rq : Row w qa qn qs) (hqn : qn ≤ 1048576)
    (SZ : Hid (Calls Try.prog 5 #[.slice a n cap, .int .i64 1048576] w fun e w' => e = .returned (.int .i64 (szN 1048576 (n + sumV L n))) ∧ Below w.heap.size w w')) :
    Calls Try.prog 3 #[.int .i64 dim, .slice a n cap, .slice qa qn qc, .int .i64 r, .int .i64 mask] w fun e w' => e = .returned (.bool true) ∧ Below w.heap.size w w' := by
  rw [szN_yes hsz] at SZ
  have hn2 : n ≤ 1048576 := by omega
  have hs2 : sumV L n ≤ 1048576 := by omega
  have hv2 : ∀ i, i < n → (L i).vec.length ≤ 1048576 := fun i hi => by have := sumV_at L hi; omega
  have hql := rq.len
  subst hql
  have TO := hide (fun w1 (hb : Below w.heap.size w w1) => toItemS_anyN a n cap L w1 (hr.below hb) hn2 hv2)
  have TQ := hide (fun w1 (hb : Below w.heap.size w w1) => toInts_any qa qs.length qc qs w1 (rq.below hb) hqn)
  have EQS := hide (fun a a1 c c1 w1 (h : IRow w1 a n L) (h1 : IRow w1 a1 n L) => eqItemS_self a a1 n c c1 L w1 h h1 hn2 hv2)
  have EQQ := hide (fun a a1 c c1 w1 (h : Row w1 a qs.length qs) (h1 : Row w1 a1 qs.length qs) => eqInts_any a a1 qs.length c qs.length c1 qs qs w1 h h1 hqn)
  rw [show decide (qs = qs) = true from by simp] at EQQ
  have SF := hide (fun a c qa qc w1 (h : IRow w1 a n L) (h1 : Row w1 qa qs.length qs) => sNearest_any dim a n c L qa qs.length qc qs r mask w1 h hn2 hv2 h1 hqn)
  have IF := hide (fun a c qa qc w1 (h : IRow w1 a n L) (h1 : Row w1 qa qs.length qs) => iNearest_any dim a n c L qa qs.length qc qs r mask w1 h hn2 hv2 h1 hqn)
  have MK := hide (fun B C a cap g V sv w1 (h : Its w1 B C a n L g V sv) => markItemS_any B C a n cap g 1 L V sv w1 h hn2 hs2 (by omega) (by omega))
  have hml : nearM dim n L qs r mask ≤ 1048576 := Nat.le_trans nearM_le hn2
  obtain ⟨m, hm⟩ : ∃ m, nearM dim n L qs r mask = m := ⟨_, rfl⟩
  obtain ⟨M, hM⟩ : ∃ M, nearA n L qs mask = M := ⟨_, rfl⟩
  simp only [hm, hM] at SF IF hml
  have EQ := hide (fun a a1 c c1 B C B' C' w1 (h : NW w1 B C a m M) (h1 : NW w1 B' C' a1 m M) => eqNearS_self a a1 m c c1 _ _ w1 h.prow h1.prow hml)
  have MKM := hide (fun B a cap w1 (h : Wr w1 a m M B) => markNearS_any a m cap B 1 M w1 h hml (by omega) (by omega))
  have HLD := hide (fun B a cap w1 (h : Wr w1 a m (markL 1) B) => heldNearS_any a m cap B 1 w1 h hml (by omega) (by omega))
  have hoff : 0 ≤ (1 : Int) + offI L n ∧ (1 : Int) + offI L n ≤ 100000000 := by unfold offI; omega
  have hoffM : ¬ ((1 : Int) + 2 * (m : Int)) < 0 := by omega
  obtain ⟨f, hf⟩ : ∃ f : Int, 1 + offI L n = f := ⟨_, rfl⟩
  obtain ⟨fM, hfM⟩ : ∃ f : Int, 1 + 2 * (m : Int) = f := ⟨_, rfl⟩
  simp only [hf] at MK hoff
  simp only [hfM] at MKM HLD hoffM
  have hm1 : (fM != fM) = false := by simp
  have hmk : ¬ (f + (qs.length : Int)) < 0 := by omega
  have MKQ := hide (fun (B C : Nat) (v : Value) (b : Nat) w1 (h : VSl w1 B C v qs b) => markV_any f w1 h hqn hoff.1 hoff.2)
  obtain ⟨s, hs⟩ : ∃ s : Int, 1048576 - ((n + sumV L n : Nat) : Int) = s := ⟨_, rfl⟩
  have hs0 : ¬ s < 0 := by omega
  rw [hs] at SZ
  clear hr hv2 hm hM hs hsz hf hfM hs2 rq
  go_enter Try.func3, Try.ntmps3
  go_wp2_with fail
  refine SZ.out.mono ?_
  rintro e w1 ⟨rfl, b1⟩
  go_wp2_with fail
  refine (TO.out _ b1).mono ?_
  rintro e w2 ⟨a2, g2, V2, s2, rfl, i2, b2⟩
  go_wp2_with fail
  refine (TQ.out _ (bstep b1 b2)).mono ?_
  rintro e w3 ⟨g3, rfl, l3, o3, b3⟩
  go_wp2_with fail
  refine (SF.out _ _ _ _ _ (i2.irow.below b3) o3.row).mono ?_
  rintro e w4 ⟨a4, c4, rfl, h4, b4⟩
  have n4 := NW.of h4
  have bw4 := bstep (bstep (bstep b1 b2) b3) b4
  clear h4 i2 o3
  go_wp2_with fail
  refine (TO.out _ bw4).mono ?_
  rintro e w5 ⟨a5, g5, V5, s5, rfl, i5, b5⟩
  go_wp2_with fail
  refine (TQ.out _ (bstep bw4 b5)).mono ?_
  rintro e w6 ⟨g6, rfl, l6, o6, b6⟩
  have v6 := o6.vsl l6
  go_wp2_with fail
  refine (IF.out _ _ _ _ _ (i5.irow.below b6) o6.row).mono ?_
  rintro e w7 ⟨a7, c7, rfl, h7, b7⟩
  have n7 := NW.of h7
  have bw7 := bstep (bstep (bstep bw4 b5) b6) b7
  have k4 := ((n4.below b5).below b6).below b7
  have k5 := (i5.below b6).below b7
  have k6 := v6.below b7
  have e4 := b4.size
  have e5 := b5.size
  have e6 := b6.size
  have e7 := b7.size
  have ew4 := bw4.size
  clear h7 n4 i5 v6 o6 b1 b2 b3 b4 b5 b6 b7 bw4
  go_wp2_with fail
  refine (EQ.out _ _ _ _ _ _ _ _ _ n7 k4).mono ?_
  rintro e w8 ⟨rfl, b8⟩
  go_wp2_with fail
  refine (TO.out _ (bstep bw7 b8)).mono ?_
  rintro e w9 ⟨a9, g9, V9, s9, rfl, i9, b9⟩
  go_wp2_with fail
  refine (EQS.out _ _ _ _ _ ((k5.below b8).below b9).irow i9.irow).mono ?_
  rintro e w10 ⟨rfl, b10⟩
  have bw10 := bstep (bstep (bstep bw7 b8) b9) b10
  go_wp2_with fail
  refine (TQ.out _ bw10).mono ?_
  rintro e w11 ⟨g11, rfl, l11, o11, b11⟩
  go_wp2_with fail
  refine (EQQ.out _ _ _ _ _ ((((k6.below b8).below b9).below b10).below b11).at o11.row).mono ?_
  rintro e w12 ⟨rfl, b12⟩
  have m4 := ((((k4.below b8).below b9).below b10).below b11).below b12
  have m5 := ((((k5.below b8).below b9).below b10).below b11).below b12
  have m6 := ((((k6.below b8).below b9).below b10).below b11).below b12
  have m7 := ((((n7.below b8).below b9).below b10).below b11).below b12
  have bw12 := bstep (bstep bw10 b11) b12
  clear k4 k5 k6 n7 i9 o11 b8 b9 b10 b11 b12 bw7 bw10
  go_wp2_with fail
  refine (MK.out _ _ _ _ _ _ _ _ m5).mono ?_
  rintro e w13 ⟨rfl, _, f13⟩
  have bw13 := Far.after bw12 f13 (by omega)
  have k4 := m4.far f13 (.inl (Nat.le_refl _))
  have k6 := m6.far f13 (.inr (Nat.le_refl _))
  have k7 := m7.far f13 (.inr (by omega))
  clear m4 m5 m6 m7 f13 bw12
  go_wp2_with fail
  refine (MKQ.out _ _ _ _ _ k6).mono ?_
  rintro e w14 ⟨rfl, h14, f14, z14⟩
  have ff14 : Far w5.heap.size w6.heap.size w13 w14 := by
    by_cases h0 : qs.length = 0
    · rw [z14 h0]; exact Far.refl _ _ _
    · have := h14.lt (by rw [marks_len]; exact h0)
      exact Far.ofBut f14 this.1 this.2.1
  have bw14 := Far.after bw13 ff14 (by omega)
  have m4 := k4.far ff14 (.inl (by omega))
  have m7 := k7.far ff14 (.inr (Nat.le_refl _))
  clear k4 k6 k7 h14 f14 z14 ff14 bw13
  go_wp2_with fail
  refine (EQ.out _ _ _ _ _ _ _ _ _ m7 m4).mono ?_
  rintro e w15 ⟨rfl, b15⟩
  have bw15 := bstep bw14 b15
  have k4 := m4.below b15
  have k7 := m7.below b15
  clear m4 m7 b15 bw14
  go_wp2_with fail
  refine (MKM.out _ _ _ _ k7.wr).mono ?_
  rintro e w16 ⟨rfl, h16, t16⟩
  have f16 := t16.far k7
  have n16 := k7.turned h16
  have bw16 := Far.after bw15 f16 (by omega)
  have m4 := k4.far f16 (.inl (by omega))
  clear k4 k7 h16 t16 f16 bw15
  go_wp2_with fail
  refine (HLD.out _ _ _ _ n16.wr).mono ?_
  rintro e w17 ⟨rfl, hw17⟩
  subst hw17
  go_wp2_with fail
  refine (TO.out _ bw16).mono ?_
  rintro e w18 ⟨a18, g18, V18, s18, rfl, i18, b18⟩
  go_wp2_with fail
  refine (TQ.out _ (bstep bw16 b18)).mono ?_
  rintro e w19 ⟨g19, rfl, l19, o19, b19⟩
  go_wp2_with fail
  refine (IF.out _ _ _ _ _ (i18.irow.below b19) o19.row).mono ?_
  rintro e w20 ⟨a20, c20, rfl, h20, b20⟩
  go_wp2_with fail
  refine (EQ.out _ _ _ _ _ _ _ _ _ (NW.of h20) (((m4.below b18).below b19).below b20)).mono ?_
  rintro e w21 ⟨rfl, b21⟩
  go_wp2_with fail
  refine (HLD.out _ _ _ _ ((((n16.below b18).below b19).below b20).below b21).wr).mono ?_
  rintro e w22 ⟨rfl, hw22⟩
  subst hw22
  go_wp2_with fail
  go_ret
  exact ⟨rfl, bstep (bstep (bstep (bstep bw16 b18) b19) b20) b21⟩

set_option maxHeartbeats 1600000 in
theorem exactNearest_walk (dim : Int) (a : Option Addr) (n cap : Nat) (L : IL) (qa : Option Addr) (qn qc : Nat) (zs : List Int) (r mask : Int) (w : World) (hwd : (Lit.int IntKind.i64 dim).wf = true) (h : IsItems w a n L) (hq : IsRow .i64 w qa qn qc zs) (hwr : (Lit.int IntKind.i64 r).wf = true) (hwm : (Lit.int IntKind.i64 mask).wf = true) :
    Calls Try.prog 3 #[.int .i64 dim, .slice a n cap, .slice qa qn qc, .int .i64 r, .int .i64 mask] w fun e w' => e = .returned (.bool true) ∧ Below w.heap.size w w' := by
  obtain ⟨hr, hn, hv⟩ := h
  have rq := hq.row
  by_cases hqn : qn ≤ 1048576
  · have SZ := hide (szItemS_any a n cap L w hr hn hv)
    by_cases hsz : n + sumV L n ≤ 1048576
    · exact exactNearest_in dim a n cap L qa qn qc _ r mask w hr hsz rq hqn SZ
    · rw [szN_no (by omega)] at SZ
      clear hr hv rq hq
      go_enter Try.func3, Try.ntmps3
      go_wp2_with fail
      refine SZ.out.mono ?_
      rintro e w1 ⟨rfl, b1⟩
      go_wp2_with fail
      go_ret
      exact ⟨rfl, (by repeat' first | with_reducible exact Below.refl _ _ | with_reducible assumption | with_reducible refine below_drewN ?_ _ | with_reducible refine balloc ?_ _ | with_reducible refine Below.drew ?_ | with_reducible refine Below.setCell ?_ (by first | (simp; done) | (simp; omega) | omega) _ | with_reducible refine bstep ?_ (by assumption))⟩
  · have hq' : (1048576 : Int) < (qn : Int) := by omega
    clear hr hv rq hq
    go_enter Try.func3, Try.ntmps3
    go_wp2_with fail
    go_ret
    exact ⟨rfl, (by repeat' first | with_reducible exact Below.refl _ _ | with_reducible assumption | with_reducible refine below_drewN ?_ _ | with_reducible refine balloc ?_ _ | with_reducible refine Below.drew ?_ | with_reducible refine Below.setCell ?_ (by first | (simp; done) | (simp; omega) | omega) _ | with_reducible refine bstep ?_ (by assumption))⟩
end Go.Proofs.Ytboodnbjhgobgaa
