/- The walk of the law FnExactRangesOf. -/
import Derived.Test.YtcllnmaemiepfaaMP
namespace Go.Proofs.Ytcllnmaemiepfaa
open Go.RowKit
set_option maxRecDepth 8000
set_option linter.unusedSimpArgs false
set_option linter.unusedVariables false

theorem sRangesQ (a : Option Addr) (m cap : Nat) (xss : List (List Int)) (w : World) (h : Mat w a m xss) (hm : m ≤ 1048576) (OUT : ¬ (1 ≤ m ∧ m ≤ 60) → Calls Try.prog 5 #[.slice a m cap] w fun e w' => e = .returned (.tuple #[.slice none 0 0, .bool false]) ∧ Below w.heap.size w w') :
    Calls Try.prog 5 #[.slice a m cap] w fun e w' => ∃ a' c', e = .returned (.tuple #[.slice a' (if rngB xss then (row xss 0).length else 0) c', .bool (rngB xss)]) ∧ PRow w' a' (if rngB xss then (row xss 0).length else 0) (fun p => loF xss p xss.length) (fun p => hiF xss p xss.length) ∧ Below w.heap.size w w' := by
  by_cases hm60 : 1 ≤ m ∧ m ≤ 60
  · rcases h.lies with h0 | ⟨b, off, rfl, hb, hc⟩
    · omega
    · cases ha : alikeB xss
      · refine (sRangesOf_no b off m cap xss w h.len hm60.1 hm60.2 hb hc ha).mono fun e w' q => ?_
        rw [show rngB xss = false by rw [rng_of (by rw [h.len]; exact hm60.1) (by rw [h.len]; exact hm60.2), ha]]
        exact ⟨none, 0, q.1, ⟨.inl rfl⟩, q.2⟩
      · refine (sRangesOf_yes b off m cap xss w h.len hm60.1 hm60.2 hb hc ha).mono fun e w' q => ?_
        obtain ⟨v, he, ho, hb'⟩ := q
        obtain ⟨a', c', rfl, hp, _⟩ := prow_of_owns ho
        rw [show rngB xss = true by rw [rng_of (by rw [h.len]; exact hm60.1) (by rw [h.len]; exact hm60.2), ha]]
        exact ⟨a', c', he, hp, hb'⟩
  · have h0 : rngB xss = false := by
      have := h.len
      by_cases h1 : 1 ≤ xss.length
      · exact rng_many (by omega)
      · exact rng_few h1
    rw [h0]
    exact (OUT hm60).mono fun e w' q => ⟨none, 0, q.1, ⟨.inl rfl⟩, q.2⟩

set_option maxHeartbeats 1600000 in
theorem sRangesOf_outQ (a : Option Addr) (m cap : Nat) (w : World) (hm : ¬ (1 ≤ m ∧ m ≤ 60)) :
    Calls Try.prog 5 #[.slice a m cap] w fun e w' => e = .returned (.tuple #[.slice none 0 0, .bool false]) ∧ Below w.heap.size w w' := by
  have IN := hide (fun w1 => l1In_any (m : Int) 1 60 w1)
  rw [show inB (m : Int) 1 60 = false from by unfold inB; simp; omega] at IN
  go_enter Try.func5, Try.ntmps5
  go_wp2_with fail
  refine (IN.out _).mono ?_
  rintro e w1 ⟨rfl, hb1⟩
  obtain rfl := hb1.symm
  clear hb1 IN
  go_wp2_with fail
  refine bodyPost_ret (v := .tuple #[.slice none 0 0, .bool false]) ?_ rfl ⟨rfl, (by repeat' first | with_reducible exact Below.refl _ _ | with_reducible assumption | with_reducible refine below_drewN ?_ _ | with_reducible refine balloc ?_ _ | with_reducible refine Below.drew ?_ | with_reducible refine Below.setCell ?_ (by first | (simp; done) | (simp; omega) | omega) _ | with_reducible refine bstep ?_ (by assumption))⟩
  simp [results, Try.results5, go_sem]

theorem prow_lowQ {X : Nat} {w w' : World} {a : Option Addr} {n : Nat} {f g : Nat → Int} (h : PRow w a n f g) (hb : Below X w w') (hq : ∀ b off, a = some ⟨b, off, none⟩ → n = 0 ∨ b < X) : PRow w' a n f g := by
  rcases h.lies with h0 | ⟨b, off, e, lt, hc⟩
  · exact ⟨.inl h0⟩
  · rcases hq b off e with h0 | hX
    · exact ⟨.inl h0⟩
    · have hk := hb.block b hX
      exact ⟨.inr ⟨b, off, e, Nat.lt_of_lt_of_le lt hb.size, fun i hi => ⟨(World.cell?_of_block (a := ⟨b, off + i * 2, none⟩) hk).trans (hc i hi).1, (World.cell?_of_block (a := ⟨b, off + i * 2 + 1, none⟩) hk).trans (hc i hi).2⟩⟩⟩

set_option maxHeartbeats 16000000 in
theorem exactRangesOf_walk (la : Option Addr) (m lc : Nat) (xss : List (List Int)) (w : World) (hM : LMat w la m xss) :
    Calls Try.prog 3 #[.slice la m lc] w fun e w' => e = .returned (.bool true) ∧ Below w.heap.size w w' := by
  have SZ := hide (szRows2_any la m lc xss 1048576 w hM (by omega) (by omega))
  have HM := hide hM
  clear hM
  go_enter Try.func3, Try.ntmps3
  go_wp2_with fail
  refine SZ.out.mono ?_
  rintro e w1 ⟨⟨v, rfl, hv1, hv2⟩, hw⟩
  obtain rfl := hw.symm
  clear hw SZ
  by_cases hv : v < 0
  · go_wp2_with fail
    go_ret
    exact ⟨rfl, (by repeat' first | with_reducible exact Below.refl _ _ | with_reducible assumption | with_reducible refine below_drewN ?_ _ | with_reducible refine balloc ?_ _ | with_reducible refine Below.drew ?_ | with_reducible refine Below.setCell ?_ (by first | (simp; done) | (simp; omega) | omega) _ | with_reducible refine bstep ?_ (by assumption))⟩
  · have hbd : (m : Int) + (sumLen xss m : Int) ≤ 1048576 := by
      rcases hv2 with q | q
      · exact absurd q hv
      · exact q
    have hmS : m ≤ 1048576 := by omega
    have hrS : ∀ i, i < m → (row xss i).length ≤ 1048576 := fun i hi => by have := len_sum xss m i hi; omega
    have HRS := hide hrS
    have HLN := hide HM.out.len
    have M0 := hide (HM.out.mat hrS)
    have hr0 : (if rngB xss = true then (row xss 0).length else 0) ≤ 8 := by
      split
      · rename_i h0
        unfold rngB at h0
        simp only [Bool.and_eq_true, decide_eq_true_eq] at h0
        exact (vecOk_len (alike_at h0.2 (k := 0) (by omega)).1).2
      · omega
    have TM := hide (fun w1 (q : Mat w1 la m xss) => toRows_any la m lc xss w1 q hmS)
    have SQ := hide (fun g1 k1 w1 (q : Mat w1 (some ⟨g1, 0, none⟩) m xss) => sRangesQ (some ⟨g1, 0, none⟩) m k1 xss w1 q hmS (sRangesOf_outQ (some ⟨g1, 0, none⟩) m k1 w1))
    have IQ := hide (fun g1 k1 w1 (q : Mat w1 (some ⟨g1, 0, none⟩) m xss) => iRangesQ (some ⟨g1, 0, none⟩) m k1 xss w1 q hmS)
    obtain ⟨N, hN⟩ : ∃ N, (if rngB xss = true then (row xss 0).length else 0) = N := ⟨_, rfl⟩
    obtain ⟨ok, hok⟩ : ∃ b, rngB xss = b := ⟨_, rfl⟩
    rw [hN] at hr0
    simp only [hN] at SQ IQ
    simp only [hok] at SQ IQ
    obtain ⟨F, hF⟩ : ∃ F, (fun p => loF xss p xss.length) = F := ⟨_, rfl⟩
    obtain ⟨G, hG⟩ : ∃ G, (fun p => hiF xss p xss.length) = G := ⟨_, rfl⟩
    simp only [hF, hG] at SQ IQ
    have EQ := hide (fun a1 k1 a2 k2 w1 (p : PRow w1 a1 N F G) (q : PRow w1 a2 N F G) => eqRangeS_self a1 a2 N k1 k2 F G w1 p q (by omega))
    have EM := hide (fun b1 k1 b2 k2 w1 (p : Mat w1 (some ⟨b1, 0, none⟩) m xss) (q : Mat w1 (some ⟨b2, 0, none⟩) m xss) => eqRows_self (some ⟨b1, 0, none⟩) (some ⟨b2, 0, none⟩) m k1 k2 xss w1 p q hmS)
    have MK := hide (fun g1 k1 B1 V w1 (q : OwnM w1 B1 g1 m m V xss) => markRows_own g1 m k1 B1 1 V xss w1 q hmS (by omega) (by omega) (by omega))
    have t1 : (ok != ok) = false := by cases ok <;> rfl
    have hs0 : ¬ ((1 : Int) + (sumLen xss m : Int) < 0) := by omega
    obtain ⟨sl, hsl⟩ : ∃ s : Int, (1 : Int) + (sumLen xss m : Int) = s := ⟨_, rfl⟩
    rw [hsl] at hs0
    simp only [hsl] at MK
    clear HM hv2 hbd hrS hN hok hF hG hsl
    have B0 : Hid (Below w.heap.size w w) := hide (Below.refl _ _)
    go_wp2_with fail
    refine (TM.out _ M0.out).mono ?_
    rintro e w1 ⟨g1, V1, rfl, o1, h1⟩
    have B1 := hide (bstep B0.out h1)
    have M1 := hide (M0.out.below h1)
    have X1 := hide (o1.mat HLN.out HRS.out)
    clear o1 h1 B0
    go_wp2_with fail
    refine (SQ.out _ _ _ X1.out).mono ?_
    rintro e w2 ⟨wa, wc, rfl, pw, h2⟩
    have B2 := hide (bstep B1.out h2)
    have M2 := hide (M1.out.below h2)
    have W2 := hide pw
    clear pw h2 B1 M1 X1
    go_wp2_with fail
    refine (TM.out _ M2.out).mono ?_
    rintro e w3 ⟨g3, V3, rfl, o3, h3⟩
    have B3 := hide (bstep B2.out h3)
    have M3 := hide (M2.out.below h3)
    have W3 := hide (W2.out.below h3)
    have X3 := hide o3
    have wlt : ∀ b off, wa = some ⟨b, off, none⟩ → N = 0 ∨ b < w2.heap.size := fun b off e => by
      rcases W2.out.lies with q | ⟨b', off', e', lt, _⟩
      · exact .inl q
      · rw [e'] at e; cases e; exact .inr lt
    have WLT := hide wlt
    have s2 := B2.out.size
    have s3 := B3.out.size
    have s23 := h3.size
    clear o3 h3 B2 M2 W2 wlt
    go_wp2_with fail
    refine (IQ.out _ _ _ (X3.out.mat HLN.out HRS.out)).mono ?_
    rintro e w4 ⟨ga, gc, rfl, r4, h4⟩
    have B4 := hide (bstep B3.out h4)
    have M4 := hide (M3.out.below h4)
    have W4 := hide (W3.out.below h4)
    have X4 := hide (X3.out.below h4)
    have R4 := hide r4
    have VL := hide (fun i (hi : i < m) => World.rowIs.lt (X3.out.each i hi).1)
    clear r4 h4 B3 M3 W3 X3
    go_wp2_with fail
    refine (EQ.out _ _ _ _ _ R4.out.prow W4.out).mono ?_
    rintro e w5 ⟨rfl, h5⟩
    have B5 := hide (bstep B4.out h5)
    have M5 := hide (M4.out.below h5)
    have W5 := hide (W4.out.below h5)
    have X5 := hide (X4.out.below h5)
    have R5 := hide (R4.out.below h5)
    clear h5 B4 M4 W4 X4 R4
    go_wp2_with fail
    refine (TM.out _ M5.out).mono ?_
    rintro e w6 ⟨g6, V6, rfl, o6, h6⟩
    have B6 := hide (bstep B5.out h6)
    have M6 := hide (M5.out.below h6)
    have W6 := hide (W5.out.below h6)
    have X6 := hide (X5.out.below h6)
    have R6 := hide (R5.out.below h6)
    have Y6 := hide (o6.mat HLN.out HRS.out)
    clear o6 h6 B5 M5 W5 X5 R5
    go_wp2_with fail
    refine (EM.out _ _ _ _ _ (X6.out.mat HLN.out HRS.out) Y6.out).mono ?_
    rintro e w7 ⟨rfl, h7⟩
    have B7 := hide (bstep B6.out h7)
    have M7 := hide (M6.out.below h7)
    have W7 := hide (W6.out.below h7)
    have X7 := hide (X6.out.below h7)
    have R7 := hide (R6.out.below h7)
    clear h7 B6 M6 W6 X6 R6 Y6
    go_wp2_with fail
    refine (MK.out _ _ _ _ _ X7.out).mono ?_
    rintro e w8 ⟨rfl, f8⟩
    have hgB := X7.out.low
    have hVB : ∀ i, i < m → w.heap.size ≤ V3 i ∧ w2.heap.size ≤ V3 i := fun i hi => by have := (X7.out.each i hi).2; omega
    have B8 := hide (f8.below B7.out B7.out.size (fun i hi => (hVB i hi).1))
    have M8 := hide (M0.out.below B8.out)
    have W8 : Hid (PRow w8 wa N F G) := hide (by
      by_cases hN0 : N = 0
      · exact ⟨.inl hN0⟩
      · exact prow_farV W7.out f8 (fun b off e i hi => by
          have := (hVB i hi).2
          rcases WLT.out b off e with q | q <;> omega))
    have R8 := hide (R7.out.farV f8 (fun i hi => VL.out i hi))
    clear f8 hgB hVB B7 M7 W7 X7 R7
    go_wp2_with fail
    refine (EQ.out _ _ _ _ _ R8.out.prow W8.out).mono ?_
    rintro e w9 ⟨rfl, h9⟩
    have B9 := hide (bstep B8.out h9)
    have W9 := hide (W8.out.below h9)
    have R9 := hide (R8.out.below h9)
    clear h9 B8 M8 W8 R8
    have MQ1 := hide (markQ ga N gc w3.heap.size 1 F G w9 R9.out (by omega) (by omega) (by omega))
    have HQ := hide (fun w1 (q : R2 w1 ga N (mlo 1) (mhi 1) w3.heap.size) => heldQ ga N gc w3.heap.size 1 w1 q (by omega) (by omega) (by omega))
    obtain ⟨mq, hmq⟩ : ∃ q : Int, 1 + 2 * (N : Int) = q := ⟨_, rfl⟩
    have hmq0 : ¬ mq < 0 := by omega
    have tmq : (mq != mq) = false := by simp
    rw [hmq] at MQ1
    simp only [hmq] at HQ
    clear hmq
    go_wp2_with fail
    refine MQ1.out.mono ?_
    rintro e w10 ⟨rfl, r10, h10⟩
    have B10 := hide (B9.out.trans (h10.mono s3))
    have W10 := hide (prow_lowQ W9.out h10 (fun b off e => by rcases WLT.out b off e with q | q; exact .inl q; exact .inr (by omega)))
    have R10 := hide r10
    have M10 := hide (M0.out.below B10.out)
    clear r10 h10 B9 W9 R9 MQ1
    go_wp2_with fail
    refine (HQ.out _ R10.out).mono ?_
    rintro e w11 ⟨rfl, hw11⟩
    obtain rfl := hw11.symm
    clear hw11
    go_wp2_with fail
    refine (TM.out _ M10.out).mono ?_
    rintro e w12 ⟨g12, V12, rfl, o12, h12⟩
    have B12 := hide (bstep B10.out h12)
    have W12 := hide (W10.out.below h12)
    have R12 := hide (R10.out.below h12)
    have X12 := hide (o12.mat HLN.out HRS.out)
    clear o12 h12 B10 W10 R10 M10
    go_wp2_with fail
    refine (IQ.out _ _ _ X12.out).mono ?_
    rintro e w13 ⟨ha, hc, rfl, r13, h13⟩
    have B13 := hide (bstep B12.out h13)
    have W13 := hide (W12.out.below h13)
    have R13 := hide (R12.out.below h13)
    have P13 := hide r13.prow
    clear r13 h13 B12 W12 R12 X12
    go_wp2_with fail
    refine (EQ.out _ _ _ _ _ P13.out W13.out).mono ?_
    rintro e w14 ⟨rfl, h14⟩
    have B14 := hide (bstep B13.out h14)
    have R14 := hide (R13.out.below h14)
    clear h14 B13 W13 R13 P13
    go_wp2_with fail
    refine (HQ.out _ R14.out).mono ?_
    rintro e w15 ⟨rfl, hw15⟩
    obtain rfl := hw15.symm
    clear hw15
    go_wp2_with fail
    go_ret
    exact ⟨rfl, B14.out⟩
end Go.Proofs.Ytcllnmaemiepfaa
