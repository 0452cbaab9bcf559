/- The walk of the law FnExactKthOf. -/
import Derived.Test.YtboodnbjhgobgaaQO
namespace Go.Proofs.Ytboodnbjhgobgaa
open Go.RowKit
set_option linter.unusedSimpArgs false
set_option linter.unusedVariables false

set_option maxHeartbeats 8000000 in
set_option maxRecDepth 8000 in
theorem exactKthOf_in (dim : Int) (a : Option Addr) (n cap : Nat) (L : IL) (qa : Option Addr) (qn qc : Nat) (qs : List Int) (k mask : Int) (w : World) (hr : IRow w a n L) (hsz : n + sumV L n ≤ 1048576) (rq : Row w qa qn qs) (hqn : qn ≤ 1048576)
    (SZ : Hid (Calls Try.prog 5 #[.slice a n cap, .int .i64 1048576] w fun e w' => e = .returned (.int .i64 (szN 1048576 (n + sumV L n))) ∧ Below w.heap.size w w')) :
    Calls Try.prog 4 #[.int .i64 dim, .slice a n cap, .slice qa qn qc, .int .i64 k, .int .i64 mask] w fun e w' => e = .returned (.bool true) ∧ Below w.heap.size w w' := by
  rw [szN_yes hsz] at SZ
  have hn2 : n ≤ 1048576 := by omega
  have hv2 : ∀ i, i < n → (L i).vec.length ≤ 1048576 := fun i hi => by have := sumV_at L hi; omega
  have hql := rq.len
  subst hql
  have TO := hide (fun w1 (hb : Below w.heap.size w w1) => toItemS_anyN a n cap L w1 (hr.below hb) hn2 hv2)
  have TQ := hide (fun w1 (hb : Below w.heap.size w w1) => toInts_any qa qs.length qc qs w1 (rq.below hb) hqn)
  have EQS := hide (fun a a1 c c1 w1 (h : IRow w1 a n L) (h1 : IRow w1 a1 n L) => eqItemS_self a a1 n c c1 L w1 h h1 hn2 hv2)
  have EQQ := hide (fun a a1 c c1 w1 (h : Row w1 a qs.length qs) (h1 : Row w1 a1 qs.length qs) => eqInts_any a a1 qs.length c qs.length c1 qs qs w1 h h1 hqn)
  rw [show decide (qs = qs) = true from by simp] at EQQ
  have SF := hide (fun a c qa qc w1 (h : IRow w1 a n L) (h1 : Row w1 qa qs.length qs) => sKthOf_any dim (.slice a n c) (.slice qa qs.length qc) k mask _ _ w1 (Nat.le_trans nearM_20 (by omega)) (hide (sNearest_any dim a n c L qa qs.length qc qs k mask w1 h hn2 hv2 h1 hqn)))
  have IF := hide (fun a c qa qc w1 (h : IRow w1 a n L) (h1 : Row w1 qa qs.length qs) => iKthOf_any dim (.slice a n c) (.slice qa qs.length qc) k mask _ _ w1 (Nat.le_trans nearM_20 (by omega)) (hide (iNearest_any dim a n c L qa qs.length qc qs k mask w1 h hn2 hv2 h1 hqn)))
  obtain ⟨u, hu⟩ : ∃ u, kthV (nearM dim n L qs k mask) (nearA n L qs mask) = u := ⟨_, rfl⟩
  simp only [hu] at SF IF
  have hne : (u != u) = false := by simp
  obtain ⟨s, hs⟩ : ∃ s : Int, 1048576 - ((n + sumV L n : Nat) : Int) = s := ⟨_, rfl⟩
  have hs0 : ¬ s < 0 := by omega
  rw [hs] at SZ
  clear hr hv2 hu hs hsz rq
  go_enter Try.func4, Try.ntmps4
  go_wp2_with fail
  refine SZ.out.mono ?_
  rintro e w1 ⟨rfl, b1⟩
  go_wp2_with fail
  refine (TO.out _ b1).mono ?_
  rintro e w2 ⟨a2, g2, V2, s2, rfl, i2, b2⟩
  go_wp2_with fail
  refine (TQ.out _ (bstep b1 b2)).mono ?_
  rintro e w3 ⟨g3, rfl, l3, o3, b3⟩
  go_wp2_with fail
  refine (SF.out _ _ _ _ _ (i2.irow.below b3) o3.row).mono ?_
  rintro e w4 ⟨rfl, b4⟩
  have bw4 := bstep (bstep (bstep b1 b2) b3) b4
  go_wp2_with fail
  refine (TO.out _ bw4).mono ?_
  rintro e w5 ⟨a5, g5, V5, s5, rfl, i5, b5⟩
  go_wp2_with fail
  refine (TQ.out _ (bstep bw4 b5)).mono ?_
  rintro e w6 ⟨g6, rfl, l6, o6, b6⟩
  go_wp2_with fail
  refine (IF.out _ _ _ _ _ (i5.irow.below b6) o6.row).mono ?_
  rintro e w7 ⟨rfl, b7⟩
  have bw7 := bstep (bstep (bstep bw4 b5) b6) b7
  go_wp2_with fail
  refine (TO.out _ bw7).mono ?_
  rintro e w8 ⟨a8, g8, V8, s8, rfl, i8, b8⟩
  go_wp2_with fail
  refine (EQS.out _ _ _ _ _ (((i5.irow.below b6).below b7).below b8) i8.irow).mono ?_
  rintro e w9 ⟨rfl, b9⟩
  have bw9 := bstep (bstep bw7 b8) b9
  go_wp2_with fail
  refine (TQ.out _ bw9).mono ?_
  rintro e w10 ⟨g10, rfl, l10, o10, b10⟩
  go_wp2_with fail
  refine (EQQ.out _ _ _ _ _ ((((o6.below b7).below b8).below b9).below b10).row o10.row).mono ?_
  rintro e w11 ⟨rfl, b11⟩
  go_wp2_with fail
  go_ret
  exact ⟨rfl, bstep (bstep bw9 b10) b11⟩

set_option maxHeartbeats 1600000 in
theorem exactKthOf_walk (dim : Int) (a : Option Addr) (n cap : Nat) (L : IL) (qa : Option Addr) (qn qc : Nat) (zs : List Int) (k mask : Int) (w : World) (hwd : (Lit.int IntKind.i64 dim).wf = true) (h : IsItems w a n L) (hq : IsRow .i64 w qa qn qc zs) (hwr : (Lit.int IntKind.i64 k).wf = true) (hwm : (Lit.int IntKind.i64 mask).wf = true) :
    Calls Try.prog 4 #[.int .i64 dim, .slice a n cap, .slice qa qn qc, .int .i64 k, .int .i64 mask] w fun e w' => e = .returned (.bool true) ∧ Below w.heap.size w w' := by
  obtain ⟨hr, hn, hv⟩ := h
  have rq := hq.row
  by_cases hqn : qn ≤ 1048576
  · have SZ := hide (szItemS_any a n cap L w hr hn hv)
    by_cases hsz : n + sumV L n ≤ 1048576
    · exact exactKthOf_in dim a n cap L qa qn qc _ k mask w hr hsz rq hqn SZ
    · rw [szN_no (by omega)] at SZ
      clear hr hv rq hq
      go_enter Try.func4, Try.ntmps4
      go_wp2_with fail
      refine SZ.out.mono ?_
      rintro e w1 ⟨rfl, b1⟩
      go_wp2_with fail
      go_ret
      exact ⟨rfl, (by repeat' first | with_reducible exact Below.refl _ _ | with_reducible assumption | with_reducible refine below_drewN ?_ _ | with_reducible refine balloc ?_ _ | with_reducible refine Below.drew ?_ | with_reducible refine Below.setCell ?_ (by first | (simp; done) | (simp; omega) | omega) _ | with_reducible refine bstep ?_ (by assumption))⟩
  · have hq' : (1048576 : Int) < (qn : Int) := by omega
    clear hr hv rq hq
    go_enter Try.func4, Try.ntmps4
    go_wp2_with fail
    go_ret
    exact ⟨rfl, (by repeat' first | with_reducible exact Below.refl _ _ | with_reducible assumption | with_reducible refine below_drewN ?_ _ | with_reducible refine balloc ?_ _ | with_reducible refine Below.drew ?_ | with_reducible refine Below.setCell ?_ (by first | (simp; done) | (simp; omega) | omega) _ | with_reducible refine bstep ?_ (by assumption))⟩
end Go.Proofs.Ytboodnbjhgobgaa
