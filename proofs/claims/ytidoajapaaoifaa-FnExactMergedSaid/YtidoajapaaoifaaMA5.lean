/- Merged of the model. -/
import Derived.Test.YtidoajapaaoifaaMA4
import Derived.BigQuiet
import Derived.Deep.QuietTactic
namespace Go.Proofs.Ytidoajapaaoifaa
open Go.RowKit
set_option linter.unusedSimpArgs false
set_option linter.unusedVariables false

theorem RC.newN (w : World) (A : NL) : RC (w.alloc (.cells #[] 33)) w.heap.size w.heap.size 0 0 A :=
  ⟨Nat.le_refl _, #[], Go.Deep.blk_alloc_new _ _, Nat.le_refl _, Nat.zero_le _, rfl, fun i hi => absurd hi (by omega)⟩

set_option maxHeartbeats 800000 in
theorem sMerged_few (a1 a2 : Option Addr) (n1 n2 c1 c2 : Nat) (k : Int) (A : NL) (w : World) (hn1 : n1 ≤ 1048576) (hn2 : n2 ≤ 1048576) (hno : (inB k 1 20 && decide (n1 ≤ 20) && decide (n2 ≤ 20)) = false) :
    Calls Try.prog 5 #[.slice a1 n1 c1, .slice a2 n2 c2, .int .i64 k] w fun e w' => OutM w 0 A e w' := by
  have KO := hide (fun w1 => l1In_any k 1 20 w1)
  cases h0 : inB k 1 20
  · rw [h0] at KO
    go_enter Try.func5, Try.ntmps5
    go_wp2_with fail
    refine (KO.out _).mono ?_
    rintro e w' ⟨rfl, rfl⟩
    go_wp2_with fail
    go_ret
    exact outM_nil rfl (Below.refl _ _)
  · rw [h0] at KO hno
    by_cases h1 : n1 ≤ 20
    · have h2 : ¬ n2 ≤ 20 := by
        intro h2
        rw [decide_eq_true h1, decide_eq_true h2] at hno
        cases hno
      have h1' : ¬ (20 : Int) < (n1 : Int) := by omega
      have h2' : (20 : Int) < (n2 : Int) := by omega
      clear hno
      go_enter Try.func5, Try.ntmps5
      go_wp2_with fail
      refine (KO.out _).mono ?_
      rintro e w' ⟨rfl, rfl⟩
      go_wp2_with fail
      go_ret
      exact outM_nil rfl (Below.refl _ _)
    · have h1' : (20 : Int) < (n1 : Int) := by omega
      clear hno
      go_enter Try.func5, Try.ntmps5
      go_wp2_with fail
      refine (KO.out _).mono ?_
      rintro e w' ⟨rfl, rfl⟩
      go_wp2_with fail
      go_ret
      exact outM_nil rfl (Below.refl _ _)

set_option maxHeartbeats 16000000 in
set_option maxRecDepth 8000 in
theorem sMerged_some (a1 a2 : Option Addr) (n1 n2 c1 c2 : Nat) (K : Nat) (f1 g1 f2 g2 : Nat → Int) (w : World) (h1 : PRow w a1 n1 f1 g1) (h2 : PRow w a2 n2 f2 g2) (hk1 : 1 ≤ K) (hk20 : K ≤ 20) (hn1 : n1 ≤ 20) (hn2 : n2 ≤ 20) :
    Calls Try.prog 5 #[.slice a1 n1 c1, .slice a2 n2 c2, .int .i64 K] w fun e w' => OutM w (if apB (mrgA n1 f1 g1 f2 g2) (n1 + n2) then min K (n1 + n2) else 0) (isortL (n1 + n2) (mrgA n1 f1 g1 f2 g2)) e w' := by
  have KO := hide (fun w1 => l1In_any (K : Int) 1 20 w1)
  rw [show inB (K : Int) 1 20 = true from decide_eq_true (by omega)] at KO
  have h1' : ¬ (20 : Int) < (n1 : Int) := by omega
  have h2' : ¬ (20 : Int) < (n2 : Int) := by omega
  obtain ⟨w1, hw1⟩ : ∃ w1, w.alloc (.cells #[] 33) = w1 := ⟨_, rfl⟩
  have b1 : Below w.heap.size w w1 := hw1 ▸ balloc (Below.refl _ _) _
  have rc1 : RC w1 w.heap.size w.heap.size 0 0 (fun _ => (0, 0)) := hw1 ▸ RC.newN w _
  obtain ⟨g3, c3, w3, hr3, hrc3, b3⟩ := app_part rc1 b1.size a1 n1 c1 f1 g1 (h1.below b1) (by omega)
  have bw3 : Below w.heap.size w w3 := b1.trans b3
  obtain ⟨g4, c4, w4, hr4, hrc4, b4⟩ := app_part hrc3 bw3.size a2 n2 c2 f2 g2 (h2.below bw3) (by omega)
  have bw4 : Below w.heap.size w w4 := bw3.trans b4
  simp only [Nat.zero_add] at hr3 hr4 hrc4
  rw [show joinL n1 (joinL 0 (fun _ => (0, 0)) f1 g1) f2 g2 = mrgA n1 f1 g1 f2 g2 from rfl] at hrc4
  generalize mrgA n1 f1 g1 f2 g2 = A at *
  obtain ⟨N, hN⟩ : ∃ N, n1 + n2 = N := ⟨_, rfl⟩
  rw [hN] at hrc4 hr4 ⊢
  have hN40 : N ≤ 40 := by omega
  obtain ⟨m, hm⟩ : ∃ m, (if apB A N then min K N else 0) = m := ⟨_, rfl⟩
  rw [hm]
  have HM := hide hm
  have HR4 := hide hrc4.rowl
  have HB4 := hide bw4
  clear h1 h2 hrc3 hrc4 b1 b3 b4 bw3 bw4 rc1 hN hm
  go_enter Try.func5, Try.ntmps5
  go_wp2_with fail
  refine (KO.out _).mono ?_
  rintro e w' ⟨rfl, hw'⟩
  have hw := hw'.symm
  subst hw
  go_wp2_with (at_builtin; first | refine wpList_append_run2 rfl _ _ 24 24 rfl _ _ rfl rfl _ _ hr3 ?_ | refine wpList_append_run2 rfl _ _ 24 24 rfl _ _ rfl rfl _ _ hr4 ?_)
  clear hw1 hr3 hr4
  go_loopw [8] (fun i wr => ∃ j : Nat, j ≤ N ∧ i = .int .i64 j ∧ (∀ t, t < j → apAt A t = true) ∧ RowL wr g4 N A ∧ Below w.heap.size w wr) (fun i _ => N - (intOf i).toNat)
  case atStart => exact ⟨0, Nat.zero_le _, rfl, fun t ht => absurd ht (by omega), HR4.out, HB4.out⟩
  case round =>
    obtain ⟨j, hj, rfl, hpre, hra, hbel⟩ := hrel
    have HP := hide hpre
    have HA := hide hra
    have HB := hide hbel
    by_cases hlt : j < N
    · have hlt' : (j : Int) < (N : Int) := by omega
      have c0 := hra.c0 hlt
      have c1 := hra.c1 hlt
      have NOK := hide (sNearOk_any (A j).1 (A j).2)
      obtain ⟨v, hv⟩ : ∃ v, nearB (A j).1 (A j).2 = v := ⟨_, rfl⟩
      rw [hv] at NOK
      have HV := hide hv
      clear hpre hra hbel hv
      go_wp2_with fail
      refine (NOK.out _).mono ?_
      rintro e w5 ⟨rfl, b5⟩
      have HB5 := hide (bstep HB.out b5)
      have HA5 := hide (HA.out.below b5)
      clear b5 c0 c1
      cases v
      · have E := hide (show apB A N = false from allN_no hlt (by unfold apAt; rw [HV.out]; rfl))
        go_wp2_with fail
        go_ret
        rw [← HM.out, E.out]
        exact outM_nil rfl HB5.out
      · go_wp2_with fail
        go_loopw [9] (fun i wv => ∃ t : Nat, t ≤ j ∧ i = .int .i64 t ∧ (∀ u, u < t → ((A u).1 == (A j).1) = false) ∧ RowL wv g4 N A ∧ Below w.heap.size w wv) (fun i _ => j - (intOf i).toNat)
        case atStart => exact ⟨0, Nat.zero_le _, rfl, fun t ht => absurd ht (by omega), HA5.out, HB5.out⟩
        case round =>
          obtain ⟨t, ht, rfl, hpre2, hra2, hbel2⟩ := hrel
          have HP2 := hide hpre2
          have HA2 := hide hra2
          have HB2 := hide hbel2
          by_cases hltt : t < j
          · have hltt' : (t : Int) < (j : Int) := by omega
            have htN : (t : Int) < (N : Int) := by omega
            have d0 := hra2.c0 (i := t) (by omega)
            have d1 := hra2.c0 (i := j) hlt
            obtain ⟨u, hu⟩ : ∃ u, ((A t).1 == (A j).1) = u := ⟨_, rfl⟩
            have HU := hide hu
            clear hpre2 hra2 hbel2
            go_wp2_with fail
            go_quiet (fail)
            cases u
            · go_wp2_with fail
              go_roundw
              case rel => exact ⟨t + 1, by omega, by go_num, fun u hu => (by rcases Nat.lt_succ_iff_lt_or_eq.1 hu with h | h; exact HP2.out u h; rw [h]; exact HU.out), HA2.out.below (below_drewN (Below.refl _ _) _), below_drewN HB2.out _⟩
              case measure => simp [intOf]; omega
            · have E := hide (show apB A N = false from allN_no hlt (by unfold apAt; rw [hasId_yes hltt HU.out]; cases nearB (A j).1 (A j).2 <;> rfl))
              go_wp2_with fail
              go_ret
              rw [← HM.out, E.out]
              exact outM_nil rfl (below_drewN HB2.out _)
          · obtain rfl : t = j := by omega
            have E := hide (show apAt A t = true by unfold apAt; rw [HV.out, hasId_no hpre2]; rfl)
            clear hpre2 hra2 hbel2
            go_wp2_with fail
            go_roundw
            case rel => exact ⟨t + 1, by omega, by go_num, fun u hu => (by rcases Nat.lt_succ_iff_lt_or_eq.1 hu with h | h; exact HP.out u h; rw [h]; exact E.out), HA2.out, HB2.out⟩
            case measure => simp [intOf]; omega
    · obtain rfl : j = N := by omega
      have hm := HM.out
      rw [show apB A j = true from allN_yes hpre, if_pos rfl] at hm
      have hmin : min (K : Int) (j : Int) = (m : Int) := by omega
      have hmj : m ≤ j := by omega
      have S := hide (l6Sorted_some g4 0 j c4 (fun i => (A i).1) (fun i => (A i).2) wr (by omega) hra.lt (fun i hi => by rw [Nat.zero_add]; exact ⟨hra.c0 hi, hra.c1 hi⟩))
      clear hpre hra hbel hm
      go_wp2_with fail
      refine S.out.mono ?_
      rintro e w5 ⟨g5, c5, M, rfl, hr5, hM, b5⟩
      have hcap5 : j ≤ c5 := by
        obtain ⟨_, cur, _, hk, _⟩ := hr5
        exact hk
      have HR5 := hide (hr5.rowl.congr fun i hi => (hM i hi).trans (isortL_ext j (fun i hi => listL_at hi) i hi))
      have HG5 := hide hr5.base
      have hmc : (m : Int) ≤ (c5 : Int) := by omega
      have hs5 := HB.out.size
      have HB6 := hide (bstep HB.out b5)
      clear hr5 hM b5 S
      go_wp2_with fail
      go_ret
      exact ⟨some ⟨g5, 0, none⟩, c5, rfl, .inr ⟨g5, rfl, Nat.le_trans hs5 HG5.out, HR5.out.less hmj⟩, HB6.out⟩

theorem sMerged_any (a1 a2 : Option Addr) (n1 n2 c1 c2 : Nat) (k : Int) (f1 g1 f2 g2 : Nat → Int) (w : World) (h1 : PRow w a1 n1 f1 g1) (h2 : PRow w a2 n2 f2 g2) (hn1 : n1 ≤ 1048576) (hn2 : n2 ≤ 1048576) :
    Calls Try.prog 5 #[.slice a1 n1 c1, .slice a2 n2 c2, .int .i64 k] w fun e w' => OutM w (mrgM k n1 n2 f1 g1 f2 g2) (isortL (n1 + n2) (mrgA n1 f1 g1 f2 g2)) e w' := by
  unfold mrgM mrgB
  cases hno : (inB k 1 20 && decide (n1 ≤ 20) && decide (n2 ≤ 20))
  · exact sMerged_few a1 a2 n1 n2 c1 c2 k _ w hn1 hn2 hno
  · simp only [Bool.and_eq_true, decide_eq_true_eq] at hno
    have hk := of_decide_eq_true hno.1.1
    obtain ⟨K, rfl⟩ : ∃ K : Nat, k = (K : Int) := ⟨k.toNat, by omega⟩
    have := sMerged_some a1 a2 n1 n2 c1 c2 K f1 g1 f2 g2 w h1 h2 (by omega) (by omega) hno.1.2 hno.2
    simpa using this
end Go.Proofs.Ytidoajapaaoifaa
