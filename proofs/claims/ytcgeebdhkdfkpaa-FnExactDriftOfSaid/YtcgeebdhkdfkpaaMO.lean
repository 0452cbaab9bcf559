/- The walk of the law FnExactDriftOf. -/
import Derived.Test.YtcgeebdhkdfkpaaMK1
import Derived.Test.YtcgeebdhkdfkpaaMN
import Derived.Test.YtcgeebdhkdfkpaaBB
import Derived.Test.YtcgeebdhkdfkpaaBC
import Derived.OpenShut
namespace Go.Proofs.Ytcgeebdhkdfkpaa
open Go.RowKit
set_option maxRecDepth 8000
set_option linter.unusedSimpArgs false
set_option linter.unusedVariables false

/-- What is there in the law: both arguments, both copies. -/
structure DS (W w : World) (a : Option Addr) (n : Nat) (f g : Nat → Int) (la : Option Addr) (m : Nat) (xss : List (List Int)) : Prop where
  bel : Below W.heap.size W w
  p : PRow w a n f g
  m : Mat w la m xss

theorem DS.below {W w w' : World} {a : Option Addr} {n : Nat} {f g : Nat → Int} {la : Option Addr} {m : Nat} {xss : List (List Int)} (h : DS W w a n f g la m xss) (hb : Below w.heap.size w w') : DS W w' a n f g la m xss := ⟨bstep h.bel hb, h.p.below hb, h.m.below hb⟩

set_option maxHeartbeats 8000000 in
theorem exactDriftOf_walk (a : Option Addr) (n cap : Nat) (f g : Nat → Int) (la : Option Addr) (m lc : Nat) (xss : List (List Int)) (w : World) (h : IsPairs w a n f g) (hM : LMat w la m xss) :
    Calls Try.prog 3 #[.slice a n cap, .slice la m lc] w fun e w' => e = .returned (.bool true) ∧ Below w.heap.size w w' := by
  obtain ⟨hp, hn63⟩ := h
  have SZ1 := hide (szRangeS_any a n cap 1048576 w (by omega) (by omega) hn63)
  by_cases hn : (1048576 : Int) - (n : Int) < 0
  · rw [if_pos hn] at SZ1
    clear hp hM
    go_enter Try.func3, Try.ntmps3
    go_wp2_with fail
    refine SZ1.out.mono ?_
    rintro e w1 ⟨rfl, hw⟩
    obtain rfl := hw.symm
    clear hw
    go_wp2_with fail
    go_ret
    exact ⟨rfl, (by repeat' first | with_reducible exact Below.refl _ _ | with_reducible assumption | with_reducible refine below_drewN ?_ _ | with_reducible refine balloc ?_ _ | with_reducible refine Below.drew ?_ | with_reducible refine Below.setCell ?_ (by first | (simp; done) | (simp; omega) | omega) _ | with_reducible refine bstep ?_ (by assumption))⟩
  · rw [if_neg hn] at SZ1
    obtain ⟨l1, hl1⟩ : ∃ l, (1048576 : Int) - (n : Int) = l := ⟨_, rfl⟩
    rw [hl1] at SZ1 hn
    have hnS : n ≤ 1048576 := by omega
    have hl1b : l1 ≤ 1048576 := by omega
    have SZ2 := hide (szRows_any la m lc xss l1 w hM (by omega) hl1b)
    have HP := hide hp
    have HM := hide hM
    clear hp hM hl1
    go_enter Try.func3, Try.ntmps3
    go_wp2_with fail
    refine SZ1.out.mono ?_
    rintro e w1 ⟨rfl, hw⟩
    obtain rfl := hw.symm
    clear hw
    go_wp2_with fail
    refine SZ2.out.mono ?_
    rintro e w1 ⟨⟨v, rfl, hv1, hv2⟩, hw⟩
    obtain rfl := hw.symm
    clear hw SZ1 SZ2
    by_cases hv : v < 0
    · go_wp2_with fail
      go_ret
      exact ⟨rfl, (by repeat' first | with_reducible exact Below.refl _ _ | with_reducible assumption | with_reducible refine below_drewN ?_ _ | with_reducible refine balloc ?_ _ | with_reducible refine Below.drew ?_ | with_reducible refine Below.setCell ?_ (by first | (simp; done) | (simp; omega) | omega) _ | with_reducible refine bstep ?_ (by assumption))⟩
    · have hbd : (m : Int) ≤ l1 ∧ ∀ i, i < m → ((row xss i).length : Int) ≤ l1 := by
        rcases hv2 with q | q
        · exact absurd q hv
        · exact q
      have hmS : m ≤ 1048576 := by omega
      have hrS : ∀ i, i < m → (row xss i).length ≤ 1048576 := fun i hi => by have := hbd.2 i hi; omega
      have hlen := HM.out.len
      have S0 : Hid (DS w w a n f g la m xss) := hide ⟨Below.refl _ _, HP.out, HM.out.mat hrS⟩
      have TR := hide (fun w1 (q : DS w w1 a n f g la m xss) => toRangeS_any a n cap f g w1 q.p hnS)
      have TM := hide (fun w1 (q : DS w w1 a n f g la m xss) => toRows_any la m lc xss w1 q.m hmS)
      have SD := hide (fun b1 k1 b2 k2 w1 (p : PRow w1 (some ⟨b1, 0, none⟩) n f g) (q : Mat w1 (some ⟨b2, 0, none⟩) m xss) => sDriftOf_any (some ⟨b1, 0, none⟩) n k1 f g (some ⟨b2, 0, none⟩) m k2 xss w1 p q hmS hnS)
      have ID := hide (fun b1 k1 b2 k2 w1 (p : PRow w1 (some ⟨b1, 0, none⟩) n f g) (q : Mat w1 (some ⟨b2, 0, none⟩) m xss) => iDriftOf_any (some ⟨b1, 0, none⟩) n k1 f g (some ⟨b2, 0, none⟩) m k2 xss w1 p q hmS)
      have EQ1 := hide (fun b1 k1 b2 k2 w1 (p : PRow w1 (some ⟨b1, 0, none⟩) n f g) (q : PRow w1 (some ⟨b2, 0, none⟩) n f g) => eqRangeS_self (some ⟨b1, 0, none⟩) (some ⟨b2, 0, none⟩) n k1 k2 f g w1 p q hnS)
      have EQ2 := hide (fun b1 k1 b2 k2 w1 (p : Mat w1 (some ⟨b1, 0, none⟩) m xss) (q : Mat w1 (some ⟨b2, 0, none⟩) m xss) => eqRows_self (some ⟨b1, 0, none⟩) (some ⟨b2, 0, none⟩) m k1 k2 xss w1 p q hmS)
      obtain ⟨d, hd⟩ : ∃ d, drV n f g xss = d := ⟨_, rfl⟩
      simp only [hd] at SD ID
      have HRS := hide hrS
      have HLN := hide hlen
      clear HP HM hbd hv2 hrS hlen hd
      have tne : (d != d) = false := by simp
      go_wp2_with fail
      refine (TR.out _ S0.out).mono ?_
      rintro e w1 ⟨b1, rfl, _, o1, h1⟩
      have S1 := hide (S0.out.below h1)
      have P1 := hide o1.prow
      clear o1 h1 S0
      go_wp2_with fail
      refine (TM.out _ S1.out).mono ?_
      rintro e w2 ⟨b2, V2, rfl, o2, h2⟩
      have S2 := hide (S1.out.below h2)
      have P2 := hide (P1.out.below h2)
      have M2 := hide (o2.mat HLN.out HRS.out)
      clear o2 h2 S1 P1
      go_wp2_with fail
      refine (SD.out _ _ _ _ _ P2.out M2.out).mono ?_
      rintro e w3 ⟨rfl, h3⟩
      have S3 := hide (S2.out.below h3)
      clear h3 S2 P2 M2
      go_wp2_with fail
      refine (TR.out _ S3.out).mono ?_
      rintro e w4 ⟨b4, rfl, _, o4, h4⟩
      have S4 := hide (S3.out.below h4)
      have P4 := hide o4.prow
      clear o4 h4 S3
      go_wp2_with fail
      refine (TM.out _ S4.out).mono ?_
      rintro e w5 ⟨b5, V5, rfl, o5, h5⟩
      have S5 := hide (S4.out.below h5)
      have P5 := hide (P4.out.below h5)
      have M5 := hide (o5.mat HLN.out HRS.out)
      clear o5 h5 S4 P4
      go_wp2_with fail
      refine (ID.out _ _ _ _ _ P5.out M5.out).mono ?_
      rintro e w6 ⟨rfl, h6⟩
      have S6 := hide (S5.out.below h6)
      have P6 := hide (P5.out.below h6)
      have M6 := hide (M5.out.below h6)
      clear h6 S5 P5 M5
      go_wp2_with fail
      refine (TR.out _ S6.out).mono ?_
      rintro e w7 ⟨b7, rfl, _, o7, h7⟩
      have S7 := hide (S6.out.below h7)
      have P7 := hide (P6.out.below h7)
      have M7 := hide (M6.out.below h7)
      have Q7 := hide o7.prow
      clear o7 h7 S6 P6 M6
      go_wp2_with fail
      refine (EQ1.out _ _ _ _ _ P7.out Q7.out).mono ?_
      rintro e w8 ⟨rfl, h8⟩
      have S8 := hide (S7.out.below h8)
      have M8 := hide (M7.out.below h8)
      clear h8 S7 P7 M7 Q7
      go_wp2_with fail
      refine (TM.out _ S8.out).mono ?_
      rintro e w9 ⟨b9, V9, rfl, o9, h9⟩
      have S9 := hide (S8.out.below h9)
      have M9 := hide (M8.out.below h9)
      have N9 := hide (o9.mat HLN.out HRS.out)
      clear o9 h9 S8 M8
      go_wp2_with fail
      refine (EQ2.out _ _ _ _ _ M9.out N9.out).mono ?_
      rintro e w10 ⟨rfl, h10⟩
      have S10 := hide (S9.out.below h10)
      clear h10 S9 M9 N9
      go_wp2_with fail
      go_ret
      exact ⟨rfl, S10.out.bel⟩
end Go.Proofs.Ytcgeebdhkdfkpaa
