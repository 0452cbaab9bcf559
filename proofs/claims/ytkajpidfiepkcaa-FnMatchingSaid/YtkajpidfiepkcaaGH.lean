/- Masks and picked items, plain; the walk of the law FnMaskMore. -/
import Derived.Test.YtkajpidfiepkcaaGE
import Derived.Test.YtkajpidfiepkcaaGF
import Derived.Test.YtkajpidfiepkcaaIR
import Derived.Test.YtkajpidfiepkcaaDP
import Derived.OpenShut
namespace Go.Proofs.Ytkajpidfiepkcaa
open Go.RowKit
set_option linter.unusedSimpArgs false
set_option linter.unusedVariables false

theorem wrap_bv (v : BitVec 64) : IntKind.i64.wrap (v.toNat : Int) = v.toInt := by
  rw [IntKind.wrap_i64, BitVec.toInt_eq_toNat_cond]
  have := v.isLt
  split <;> omega
theorem bits_and (x y : Int) : bits .and .i64 x y = (BitVec.ofInt 64 x &&& BitVec.ofInt 64 y).toInt := wrap_bv _
theorem bits_or (x y : Int) : bits .or .i64 x y = (BitVec.ofInt 64 x ||| BitVec.ofInt 64 y).toInt := wrap_bv _
theorem small_bv {x : Int} (h0 : 0 ≤ x) (h1 : x ≤ 255) : x = (BitVec.ofInt 64 x).toInt := by
  rw [BitVec.toInt_ofInt]
  exact (Int.bmod_eq_of_le (by omega) (by omega)).symm
theorem mtB_iff {mask : Int} (hm : mask = (BitVec.ofInt 64 mask).toInt) (x : It) : mtB mask x = true ↔ BitVec.ofInt 64 x.tags &&& BitVec.ofInt 64 mask = BitVec.ofInt 64 mask := by
  unfold mtB
  rw [bits_and, beq_iff_eq]
  constructor
  · intro h
    exact BitVec.toInt_inj.1 (h.trans hm)
  · intro h
    rw [h]; exact hm.symm
theorem mtB_or {m o : Int} (hm : m = (BitVec.ofInt 64 m).toInt) (ho : o = (BitVec.ofInt 64 o).toInt) (x : It) : mtB (bits .or .i64 m o) x = (mtB m x && mtB o x) := by
  have hb : bits .or .i64 m o = (BitVec.ofInt 64 (bits .or .i64 m o)).toInt := by rw [bits_or, BitVec.ofInt_toInt]
  have e : (mtB (bits .or .i64 m o) x = true) ↔ (mtB m x = true ∧ mtB o x = true) := by
    rw [mtB_iff hb, mtB_iff hm, mtB_iff ho, bits_or, BitVec.ofInt_toInt]
    constructor
    · intro h
      constructor
      · apply BitVec.eq_of_getLsbD_eq
        intro i hi
        have := congrArg (fun v => v.getLsbD i) h
        simp only [BitVec.getLsbD_and, BitVec.getLsbD_or] at this ⊢
        revert this
        cases (BitVec.ofInt 64 x.tags).getLsbD i <;> cases (BitVec.ofInt 64 m).getLsbD i <;> cases (BitVec.ofInt 64 o).getLsbD i <;> simp
      · apply BitVec.eq_of_getLsbD_eq
        intro i hi
        have := congrArg (fun v => v.getLsbD i) h
        simp only [BitVec.getLsbD_and, BitVec.getLsbD_or] at this ⊢
        revert this
        cases (BitVec.ofInt 64 x.tags).getLsbD i <;> cases (BitVec.ofInt 64 m).getLsbD i <;> cases (BitVec.ofInt 64 o).getLsbD i <;> simp
    · rintro ⟨h1, h2⟩
      apply BitVec.eq_of_getLsbD_eq
      intro i hi
      have k1 := congrArg (fun v => v.getLsbD i) h1
      have k2 := congrArg (fun v => v.getLsbD i) h2
      simp only [BitVec.getLsbD_and, BitVec.getLsbD_or] at k1 k2 ⊢
      revert k1 k2
      cases (BitVec.ofInt 64 x.tags).getLsbD i <;> cases (BitVec.ofInt 64 m).getLsbD i <;> cases (BitVec.ofInt 64 o).getLsbD i <;> simp
  rw [Bool.eq_iff_iff, Bool.and_eq_true]
  exact e
theorem mtB_zero (x : It) : mtB 0 x = true := by
  rw [mtB_iff (by decide)]
  simp

theorem cntP_congr {q : It → Bool} {M N : IL} : ∀ k, (∀ i, i < k → M i = N i) → cntP q M k = cntP q N k
  | 0, _ => rfl
  | k + 1, h => by simp only [cntP]; rw [cntP_congr k (fun i hi => h i (by omega)), h k (by omega)]
theorem fil_congr {q : It → Bool} {M N : IL} : ∀ k, (∀ i, i < k → M i = N i) → fil q M k = fil q N k
  | 0, _ => rfl
  | k + 1, h => by simp only [fil]; rw [fil_congr k (fun i hi => h i (by omega)), cntP_congr k (fun i hi => h i (by omega)), h k (by omega)]
/-- Those that are p and q, out of those that are p. -/
theorem fil_fil (p q : It → Bool) (L : IL) : ∀ n, cntP (fun x => p x && q x) L n = cntP q (fil p L n) (cntP p L n) ∧ fil (fun x => p x && q x) L n = fil q (fil p L n) (cntP p L n)
  | 0 => ⟨rfl, rfl⟩
  | n + 1 => by
    obtain ⟨i1, i2⟩ := fil_fil p q L n
    cases hp : p (L n)
    · rw [cntP_no hp, fil_no hp, cntP_no (show (fun x => p x && q x) (L n) = false by simp [hp]), fil_no (show (fun x => p x && q x) (L n) = false by simp [hp])]
      exact ⟨i1, i2⟩
    · rw [cntP_yes hp, fil_yes hp]
      have e1 : cntP q ((fil p L n).put (cntP p L n) (L n)) (cntP p L n) = cntP q (fil p L n) (cntP p L n) := cntP_congr _ fun i hi => IL.put_off _ _ (by omega)
      have e2 : fil q ((fil p L n).put (cntP p L n) (L n)) (cntP p L n) = fil q (fil p L n) (cntP p L n) := fil_congr _ fun i hi => IL.put_off _ _ (by omega)
      cases hq : q (L n)
      · have hq' : q ((fil p L n).put (cntP p L n) (L n) (cntP p L n)) = false := by rw [IL.put_at]; exact hq
        rw [cntP_no hq', fil_no hq', e1, e2, cntP_no (show (fun x => p x && q x) (L n) = false by simp [hp, hq]), fil_no (show (fun x => p x && q x) (L n) = false by simp [hp, hq])]
        exact ⟨i1, i2⟩
      · have hq' : q ((fil p L n).put (cntP p L n) (L n) (cntP p L n)) = true := by rw [IL.put_at]; exact hq
        rw [cntP_yes hq', fil_yes hq', e1, e2, cntP_yes (show (fun x => p x && q x) (L n) = true by simp [hp, hq]), fil_yes (show (fun x => p x && q x) (L n) = true by simp [hp, hq]), i1, i2, IL.put_at]
        exact ⟨rfl, rfl⟩
theorem fil_len {p : It → Bool} {L : IL} {n b : Nat} (h : ∀ i, i < n → (L i).vec.length ≤ b) : ∀ i, i < cntP p L n → (fil p L n i).vec.length ≤ b := by
  intro i hi
  obtain ⟨j, hj, e⟩ := fil_mem p L n i hi
  rw [e]; exact h j hj

set_option maxHeartbeats 4000000 in
set_option maxRecDepth 4000 in
theorem maskMore_walk (a : Option Addr) (n cap : Nat) (zs : List Int) (a' : Option Addr) (n' cap' : Nat) (zs' : List Int) (w : World) (h : IsRow .u8 w a n cap zs) (h' : IsRow .u8 w a' n' cap' zs') :
    Calls Try.prog 5 #[.slice a n cap, .slice a' n' cap'] w fun e w' => e = .returned (.bool true) ∧ Below w.heap.size w w' := by
  have BG := hide (big_any a n cap w)
  have BG' := hide (big_any a' n' cap' w)
  by_cases hn : n ≤ 1048576
  · rw [decide_eq_false (show ¬ 1048576 < n by omega)] at BG
    by_cases hn' : n' ≤ 1048576
    · rw [decide_eq_false (show ¬ 1048576 < n' by omega)] at BG'
      have DR := hide (drawMatching_any a n cap w (h.code hn))
      have DR' := hide (fun w1 (hb : Below w.heap.size w w1) => drawMatching_any a' n' cap' w1 ((h'.code hn').below hb))
      clear h h'
      go_enter Try.func5, Try.ntmps5
      go_wp2_with fail
      refine BG.out.mono ?_
      rintro e w' ⟨rfl, hw⟩
      obtain rfl := hw.symm
      clear BG hw
      go_wp2_with fail
      refine BG'.out.mono ?_
      rintro e w' ⟨rfl, hw⟩
      obtain rfl := hw.symm
      clear BG' hw
      go_wp2_with fail
      refine DR.out.mono ?_
      rintro e w1 ⟨g, m, cp, L, m1, rfl, hni, m1a, m1b⟩
      have HN := hide hni
      have B1 := hide hni.low
      clear hni DR
      go_wp2_with fail
      refine (DR'.out _ B1.out).mono ?_
      rintro e w2 ⟨g', m', cp', L', m2, rfl, hni', m2a, m2b⟩
      have hb2 := hni'.low
      have I2 := hide (HN.out.hi.below hb2)
      have B2 := hide (bstep B1.out hb2)
      have hm := HN.out.few
      have hv : ∀ i, i < m → (L i).vec.length ≤ 1048576 := fun i hi => Nat.le_trans (HN.out.len i hi) (by omega)
      clear hni' hb2 DR' B1
      obtain ⟨mo, hmo⟩ : ∃ mo, bits .or .i64 m1 m2 = mo := ⟨_, rfl⟩
      have hor : mtB mo = fun x => mtB m1 x && mtB m2 x := funext fun x => by rw [← hmo]; exact mtB_or (small_bv m1a m1b) (small_bv m2a m2b) x
      have ff := fil_fil (mtB m1) (mtB m2) L m
      rw [← hor] at ff
      have MO := hide (fun w1 (h : IRow w1 (some ⟨g, 0, none⟩) m L) => iMatching_any (some ⟨g, 0, none⟩) m cp L mo w1 h (by omega) hv)
      have SO := hide (fun w1 (h : IRow w1 (some ⟨g, 0, none⟩) m L) => sMatching_any (some ⟨g, 0, none⟩) m cp L mo w1 h (by omega) hv)
      have M1 := hide (fun w1 (h : IRow w1 (some ⟨g, 0, none⟩) m L) => iMatching_any (some ⟨g, 0, none⟩) m cp L m1 w1 h (by omega) hv)
      have c1 := cntP_le (mtB m1) L m
      have M2 := hide (fun g1 c1 w1 (h : IRow w1 (some ⟨g1, 0, none⟩) (cntP (mtB m1) L m) (fil (mtB m1) L m)) => iMatching_any (some ⟨g1, 0, none⟩) (cntP (mtB m1) L m) c1 (fil (mtB m1) L m) m2 w1 h (by omega) (fil_len hv))
      have co := cntP_le (mtB mo) L m
      have SM := hide (fun g1 k1 g2 k2 w1 (h : IRow w1 (some ⟨g1, 0, none⟩) (cntP (mtB mo) L m) (fil (mtB mo) L m)) (h' : IRow w1 (some ⟨g2, 0, none⟩) (cntP (mtB mo) L m) (fil (mtB mo) L m)) => sameItems_self (some ⟨g1, 0, none⟩) (some ⟨g2, 0, none⟩) (cntP (mtB mo) L m) k1 k2 (fil (mtB mo) L m) w1 h h' (by omega) (fil_len hv))
      rw [hor] at co
      unfold PickR at M2
      rw [← ff.1, ← ff.2] at M2
      clear ff hor hv co c1
      obtain ⟨k, hk⟩ : ∃ k, cntP (mtB mo) L m = k := ⟨_, rfl⟩
      obtain ⟨M, hM⟩ : ∃ M, fil (mtB mo) L m = M := ⟨_, rfl⟩
      obtain ⟨k1, hk1⟩ : ∃ k1, cntP (mtB m1) L m = k1 := ⟨_, rfl⟩
      obtain ⟨N1, hN1⟩ : ∃ N1, fil (mtB m1) L m = N1 := ⟨_, rfl⟩
      unfold PickR at MO SO M1
      simp only [hk, hM, hk1, hN1] at MO SO M1 M2 SM
      clear hk hM hk1 hN1
      go_wp2_with fail
      refine (MO.out _ I2.out.irow).mono ?_
      rintro e w3 ⟨g3, c3, V3, s3, rfl, i3, b3⟩
      have I3 := hide (I2.out.below b3)
      have O3 := hide i3
      have B3 := hide (bstep B2.out b3)
      clear i3 b3 I2 B2
      go_wp2_with fail
      refine (SO.out _ I3.out.irow).mono ?_
      rintro e w4 ⟨g4, c4, V4, s4, rfl, i4, b4⟩
      have I4 := hide (I3.out.below b4)
      have O4 := hide (O3.out.below b4)
      have B4 := hide (bstep B3.out b4)
      clear I3 O3 B3 b4
      go_wp2_with fail
      refine (SM.out _ _ _ _ _ O4.out.its.irow i4.its.irow).mono ?_
      rintro e w5 ⟨rfl, b5⟩
      have I5 := hide (I4.out.below b5)
      have O5 := hide (O4.out.below b5)
      have B5 := hide (bstep B4.out b5)
      clear I4 O4 B4 b5 i4
      go_wp2_with fail
      refine (M1.out _ I5.out.irow).mono ?_
      rintro e w6 ⟨g6, c6, V6, s6, rfl, i6, b6⟩
      have O6 := hide (O5.out.below b6)
      have B6 := hide (bstep B5.out b6)
      clear I5 O5 B5 b6
      go_wp2_with fail
      refine (M2.out _ _ _ i6.its.irow).mono ?_
      rintro e w7 ⟨g7, c7, V7, s7, rfl, i7, b7⟩
      have O7 := hide (O6.out.below b7)
      have B7 := hide (bstep B6.out b7)
      clear O6 B6 b7 i6
      go_wp2_with fail
      refine (SM.out _ _ _ _ _ O7.out.its.irow i7.its.irow).mono ?_
      rintro e w8 ⟨rfl, b8⟩
      have B8 := hide (bstep B7.out b8)
      clear O7 B7 b8 i7
      go_wp2_with fail
      go_ret
      exact ⟨rfl, B8.out⟩
    · rw [decide_eq_true (show 1048576 < n' by omega)] at BG'
      go_enter Try.func5, Try.ntmps5
      go_wp2_with fail
      refine BG.out.mono ?_
      rintro e w' ⟨rfl, hw⟩
      obtain rfl := hw.symm
      clear BG hw
      go_wp2_with fail
      refine BG'.out.mono ?_
      rintro e w' ⟨rfl, rfl⟩
      go_wp2
      go_ret
      exact ⟨rfl, (by repeat' first | with_reducible exact Below.refl _ _ | with_reducible assumption | with_reducible refine below_drewN ?_ _ | with_reducible refine balloc ?_ _ | with_reducible refine Below.drew ?_ | with_reducible refine Below.setCell ?_ (by first | (simp; done) | (simp; omega) | omega) _ | with_reducible refine bstep ?_ (by assumption))⟩
  · rw [decide_eq_true (show 1048576 < n by omega)] at BG
    go_enter Try.func5, Try.ntmps5
    go_wp2_with fail
    refine BG.out.mono ?_
    rintro e w' ⟨rfl, rfl⟩
    go_wp2
    go_ret
    exact ⟨rfl, (by repeat' first | with_reducible exact Below.refl _ _ | with_reducible assumption | with_reducible refine below_drewN ?_ _ | with_reducible refine balloc ?_ _ | with_reducible refine Below.drew ?_ | with_reducible refine Below.setCell ?_ (by first | (simp; done) | (simp; omega) | omega) _ | with_reducible refine bstep ?_ (by assumption))⟩
end Go.Proofs.Ytkajpidfiepkcaa
