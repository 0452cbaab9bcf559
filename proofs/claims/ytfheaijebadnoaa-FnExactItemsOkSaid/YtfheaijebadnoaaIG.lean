/- The walk of the law FnExactItemsOk. -/
import Derived.Test.YtfheaijebadnoaaIF
import Derived.Test.YtfheaijebadnoaaIO
namespace Go.Proofs.Ytfheaijebadnoaa
open Go.RowKit
set_option linter.unusedSimpArgs false
set_option linter.unusedVariables false

theorem szN_no {n : Nat} (h : 1048576 < n) : szN 1048576 n = -1 := by unfold szN; rw [if_pos (by omega)]
theorem szN_yes {n : Nat} (h : n ≤ 1048576) : szN 1048576 n = 1048576 - (n : Int) := by unfold szN; rw [if_neg (by omega)]

set_option maxHeartbeats 2000000 in
theorem exactItemsOk_walk (dim : Int) (a : Option Addr) (n cap : Nat) (L : IL) (w : World) (hwf : (Lit.int IntKind.i64 dim).wf = true) (h : IsItems w a n L) :
    Calls Try.prog 3 #[.int .i64 dim, .slice a n cap] w fun e w' => e = .returned (.bool true) ∧ Below w.heap.size w w' := by
  obtain ⟨hr, hn, hv⟩ := h
  have SZ := hide (szItemS_any a n cap L w hr hn hv)
  by_cases hsz : n + sumV L n ≤ 1048576
  · rw [szN_yes hsz] at SZ
    have hn2 : n ≤ 1048576 := by omega
    have hv2 : ∀ i, i < n → (L i).vec.length ≤ 1048576 := fun i hi => by have := sumV_at L hi; omega
    have TO := hide (fun w1 (hb : Below w.heap.size w w1) => toItemS_any a n cap L w1 (hr.below hb) hn2 hv2)
    have SO := hide (fun a c w1 (h : IRow w1 a n L) => sItemsOk_any dim a n c L w1 h hn2 hv2)
    have IOK := hide (fun a c w1 (h : IRow w1 a n L) => iItemsOk_any dim a n c L w1 h hn2 hv2)
    have EQ := hide (fun a a1 c c1 w1 (h : IRow w1 a n L) (h1 : IRow w1 a1 n L) => eqItemS_self a a1 n c c1 L w1 h h1 hn2 hv2)
    obtain ⟨u, hu⟩ : ∃ u, itemsB dim n L = u := ⟨_, rfl⟩
    simp only [hu] at SO IOK
    obtain ⟨s, hs⟩ : ∃ s : Int, 1048576 - ((n + sumV L n : Nat) : Int) = s := ⟨_, rfl⟩
    have hs0 : ¬ s < 0 := by omega
    rw [hs] at SZ
    have hne : (u != u) = false := by simp
    clear hr hv hv2 hu hs hsz
    go_enter Try.func3, Try.ntmps3
    go_wp2_with fail
    refine SZ.out.mono ?_
    rintro e w1 ⟨rfl, b1⟩
    go_wp2_with fail
    refine (TO.out _ (by repeat' first | with_reducible exact Below.refl _ _ | with_reducible assumption | with_reducible refine below_drewN ?_ _ | with_reducible refine balloc ?_ _ | with_reducible refine Below.drew ?_ | with_reducible refine Below.setCell ?_ (by first | (simp; done) | (simp; omega) | omega) _ | with_reducible refine bstep ?_ (by assumption))).mono ?_
    rintro e w2 ⟨a2, c2, g2, V2, s2, rfl, i2, b2⟩
    go_wp2_with fail
    refine (SO.out _ _ _ i2.irow).mono ?_
    rintro e w3 ⟨rfl, b3⟩
    go_wp2_with fail
    refine (TO.out _ (by repeat' first | with_reducible exact Below.refl _ _ | with_reducible assumption | with_reducible refine below_drewN ?_ _ | with_reducible refine balloc ?_ _ | with_reducible refine Below.drew ?_ | with_reducible refine Below.setCell ?_ (by first | (simp; done) | (simp; omega) | omega) _ | with_reducible refine bstep ?_ (by assumption))).mono ?_
    rintro e w4 ⟨a4, c4, g4, V4, s4, rfl, i4, b4⟩
    go_wp2_with fail
    refine (IOK.out _ _ _ i4.irow).mono ?_
    rintro e w5 ⟨rfl, b5⟩
    go_wp2_with fail
    refine (TO.out _ (by repeat' first | with_reducible exact Below.refl _ _ | with_reducible assumption | with_reducible refine below_drewN ?_ _ | with_reducible refine balloc ?_ _ | with_reducible refine Below.drew ?_ | with_reducible refine Below.setCell ?_ (by first | (simp; done) | (simp; omega) | omega) _ | with_reducible refine bstep ?_ (by assumption))).mono ?_
    rintro e w6 ⟨a6, c6, g6, V6, s6, rfl, i6, b6⟩
    go_wp2_with fail
    refine (EQ.out _ _ _ _ _ ((i4.irow.below b5).below b6) i6.irow).mono ?_
    rintro e w7 ⟨rfl, b7⟩
    go_wp2_with fail
    go_ret
    exact ⟨rfl, (by repeat' first | with_reducible exact Below.refl _ _ | with_reducible assumption | with_reducible refine below_drewN ?_ _ | with_reducible refine balloc ?_ _ | with_reducible refine Below.drew ?_ | with_reducible refine Below.setCell ?_ (by first | (simp; done) | (simp; omega) | omega) _ | with_reducible refine bstep ?_ (by assumption))⟩
  · rw [szN_no (by omega)] at SZ
    clear hr hv
    go_enter Try.func3, Try.ntmps3
    go_wp2_with fail
    refine SZ.out.mono ?_
    rintro e w1 ⟨rfl, b1⟩
    go_wp2_with fail
    go_ret
    exact ⟨rfl, (by repeat' first | with_reducible exact Below.refl _ _ | with_reducible assumption | with_reducible refine below_drewN ?_ _ | with_reducible refine balloc ?_ _ | with_reducible refine Below.drew ?_ | with_reducible refine Below.setCell ?_ (by first | (simp; done) | (simp; omega) | omega) _ | with_reducible refine bstep ?_ (by assumption))⟩
end Go.Proofs.Ytfheaijebadnoaa
