/- Merged of the program. -/
import Derived.Test.YtidoajapaaoifaaMA3
namespace Go.Proofs.Ytidoajapaaoifaa
open Go.RowKit
set_option linter.unusedSimpArgs false
set_option linter.unusedVariables false

set_option maxHeartbeats 400000 in
theorem grow_none (w : World) :
    Calls Try.prog 22 #[.slice none 0 0, .int .i64 0] w fun e w' => e = .returned (.slice none 0 0) ∧ w' = w := by
  go_enter Try.func22, Try.ntmps22
  go_wp2_with fail
  go_ret
  exact ⟨rfl, rfl⟩

theorem app_none (w : World) (a : Option Addr) (c : Nat) : (Builtin.append_ #[24, 24] 24 #[.slice none 0 0, .slice a 0 c]).run Try.prog w = .ok (.slice none 0 0) w := by
  obtain ⟨i0, hi, hz0, hz1, hz2⟩ := nearInfo2
  have hlc : ∀ (x : Addr), (loadCells x 0).run Try.prog w = .ok #[] w := fun x => by simpa using run_loadCells_list (P := Try.prog) w x [] (by simp)
  cases a <;> simp [Builtin.append_, run_underlying Try.underlying24, sizeOf, typeInfo, hi, Builtin.firstCells, Builtin.lenOf, storeCells, hlc]

set_option maxHeartbeats 4000000 in
set_option maxRecDepth 4000 in
theorem concat_none (pb : Nat) (a1 a2 : Option Addr) (c1 c2 : Nat) (w : World) (hp : Pair2 w pb a1 a2 0 0 c1 c2) :
    Calls Try.prog 16 #[.slice (some ⟨pb, 0, none⟩) 2 2] w fun e w' => e = .returned (.slice none 0 0) ∧ w' = w := by
  have GR := hide (grow_none w)
  obtain ⟨_, p0, p1⟩ := hp
  have r1 := app_none w a1 c1
  have r2 := app_none w a2 c2
  go_enter Try.func16, Try.ntmps16
  go_wp2_with fail
  refine wp_loop_rounds 3 ?_
  rw [rounds_succ]
  go_wp2_with fail
  rw [rounds_succ]
  go_wp2_with fail
  rw [rounds_succ]
  go_wp2_with fail
  refine GR.out.mono ?_
  rintro e w1 ⟨rfl, hw⟩
  have hw' := hw.symm
  subst hw'
  go_wp2_with fail
  refine wp_loop_rounds 3 ?_
  rw [rounds_succ]
  go_wp2_with (at_builtin; refine wpList_append_run2 rfl _ _ 24 24 rfl _ _ rfl rfl _ _ r1 ?_)
  rw [rounds_succ]
  go_wp2_with (at_builtin; refine wpList_append_run2 rfl _ _ 24 24 rfl _ _ rfl rfl _ _ r2 ?_)
  rw [rounds_succ]
  go_wp2_with fail
  go_ret
  exact ⟨rfl, rfl⟩

set_option maxHeartbeats 400000 in
theorem nearsApart_none (w : World) :
    Calls Try.prog 17 #[.slice none 0 0] w fun e w' => e = .returned (.bool true) ∧ w' = w := by
  go_enter Try.func17, Try.ntmps17
  go_wp2_with fail
  refine wp_loop_rounds 1 ?_
  rw [rounds_succ]
  go_wp2_with fail
  go_ret
  exact ⟨rfl, rfl⟩

set_option maxHeartbeats 800000 in
theorem leastOf_none (K : Nat) (A : NL) (w : World) (h1 : 1 ≤ K) (h20 : K ≤ 20) :
    Calls Try.prog 18 #[.slice none 0 0, .int .i64 K] w fun e w' => LeastR w K 0 A e w' := by
  have hok := (Keep.zero K A (fun _ => (0, 0))).ok (fun t ht => absurd ht (by omega)) h1 h20
  have SO := hide (fun w1 => iHeapSorted_yes K none 0 0 (fun i => ((fun _ => (0, 0)) i : Int × Int).1) (fun i => ((fun _ => (0, 0)) i : Int × Int).2) w1 ⟨.inl rfl⟩ hok (by omega))
  go_enter Try.func18, Try.ntmps18
  go_wp2_with fail
  refine wp_loop_rounds 1 ?_
  rw [rounds_succ]
  go_wp2_with fail
  refine (SO.out _).mono ?_
  rintro e w1 ⟨b2, rfl, hle2, hown2, hb1⟩
  clear hown2
  go_wp2_with fail
  go_ret
  exact ⟨some ⟨b2, 0, none⟩, 0, by rw [Nat.min_zero]; rfl, .inl (Nat.min_zero _), (by repeat' first | with_reducible exact Below.refl _ _ | with_reducible assumption | with_reducible refine below_drewN ?_ _ | with_reducible refine balloc ?_ _ | with_reducible refine Below.drew ?_ | with_reducible refine Below.setCell ?_ (by first | (simp; done) | (simp; omega) | omega) _ | with_reducible refine bstep ?_ (by assumption))⟩

/-- Merged, plain. -/
def mrgA (n1 : Nat) (f1 g1 f2 g2 : Nat → Int) : NL := joinL n1 (joinL 0 (fun _ => (0, 0)) f1 g1) f2 g2
def mrgB (k : Int) (n1 n2 : Nat) (f1 g1 f2 g2 : Nat → Int) : Bool := inB k 1 20 && decide (n1 ≤ 20) && decide (n2 ≤ 20) && apB (mrgA n1 f1 g1 f2 g2) (n1 + n2)
def mrgM (k : Int) (n1 n2 : Nat) (f1 g1 f2 g2 : Nat → Int) : Nat := if mrgB k n1 n2 f1 g1 f2 g2 then min k.toNat (n1 + n2) else 0
/-- The answer of Merged. -/
def OutM (w : World) (m : Nat) (A : NL) (e : Ending) (w' : World) : Prop :=
  ∃ a cap, e = .returned (.slice a m cap) ∧ Wr w' a m A w.heap.size ∧ Below w.heap.size w w'
theorem outM_nil {w w' : World} {A : NL} {e : Ending} (he : e = .returned (.slice none 0 0)) (hb : Below w.heap.size w w') : OutM w 0 A e w' := ⟨none, 0, he, .inl rfl, hb⟩

theorem Pair2.new (w : World) (a1 a2 : Option Addr) (n1 n2 c1 c2 : Nat) (t : TypeId) : Pair2 (w.alloc (.cells #[.slice a1 n1 c1, .slice a2 n2 c2] t)) w.heap.size a1 a2 n1 n2 c1 c2 := ⟨by simp, by simp [go_sem], by simp [go_sem]⟩

set_option maxHeartbeats 800000 in
theorem iMerged_few (a1 a2 : Option Addr) (n1 n2 c1 c2 : Nat) (k : Int) (A : NL) (w : World) (hn1 : n1 ≤ 1048576) (hn2 : n2 ≤ 1048576) (hno : (inB k 1 20 && decide (n1 ≤ 20) && decide (n2 ≤ 20)) = false) :
    Calls Try.prog 7 #[.slice a1 n1 c1, .slice a2 n2 c2, .int .i64 k] w fun e w' => OutM w 0 A e w' := by
  have KO := hide (kOk_any k)
  cases h0 : inB k 1 20
  · rw [h0] at KO
    go_enter Try.func7, Try.ntmps7
    go_wp2_with fail
    refine (KO.out _).mono ?_
    rintro e w' ⟨rfl, rfl⟩
    go_wp2_with fail
    go_ret
    exact outM_nil rfl (Below.refl _ _)
  · rw [h0] at KO hno
    by_cases h1 : n1 ≤ 20
    · have h2 : ¬ n2 ≤ 20 := by
        intro h2
        rw [decide_eq_true h1, decide_eq_true h2] at hno
        cases hno
      have h1' : ¬ (20 : Int) < (n1 : Int) := by omega
      have h2' : (20 : Int) < (n2 : Int) := by omega
      clear hno
      go_enter Try.func7, Try.ntmps7
      go_wp2_with fail
      refine (KO.out _).mono ?_
      rintro e w' ⟨rfl, rfl⟩
      go_wp2_with fail
      go_ret
      exact outM_nil rfl (Below.refl _ _)
    · have h1' : (20 : Int) < (n1 : Int) := by omega
      clear hno
      go_enter Try.func7, Try.ntmps7
      go_wp2_with fail
      refine (KO.out _).mono ?_
      rintro e w' ⟨rfl, rfl⟩
      go_wp2_with fail
      go_ret
      exact outM_nil rfl (Below.refl _ _)

set_option maxHeartbeats 2000000 in
theorem iMerged_some (a1 a2 : Option Addr) (n1 n2 c1 c2 : Nat) (K : Nat) (f1 g1 f2 g2 : Nat → Int) (w : World) (h1 : PRow w a1 n1 f1 g1) (h2 : PRow w a2 n2 f2 g2) (hk1 : 1 ≤ K) (hk20 : K ≤ 20) (hn1 : n1 ≤ 20) (hn2 : n2 ≤ 20) :
    Calls Try.prog 7 #[.slice a1 n1 c1, .slice a2 n2 c2, .int .i64 K] w fun e w' => OutM w (if apB (mrgA n1 f1 g1 f2 g2) (n1 + n2) then min K (n1 + n2) else 0) (isortL (n1 + n2) (mrgA n1 f1 g1 f2 g2)) e w' := by
  have KO := hide (kOk_any K)
  rw [show inB (K : Int) 1 20 = true from decide_eq_true (by omega)] at KO
  have h1' : ¬ (20 : Int) < (n1 : Int) := by omega
  have h2' : ¬ (20 : Int) < (n2 : Int) := by omega
  have bb : Below w.heap.size w (w.alloc (.cells #[.slice a1 n1 c1, .slice a2 n2 c2] 24)) := balloc (Below.refl _ _) _
  by_cases h0 : n1 + n2 = 0
  · obtain rfl : n1 = 0 := by omega
    obtain rfl : n2 = 0 := by omega
    have CN := hide (concat_none w.heap.size a1 a2 c1 c2 _ (Pair2.new w a1 a2 0 0 c1 c2 24))
    have NA := hide nearsApart_none
    have LO := hide (fun w1 => leastOf_none K (mrgA 0 f1 g1 f2 g2) w1 hk1 hk20)
    rw [show apB (mrgA 0 f1 g1 f2 g2) (0 + 0) = true from rfl, if_pos rfl, Nat.min_zero]
    simp only [LeastR, Nat.min_zero] at LO
    have HBB := hide bb
    clear h1 h2 bb
    go_enter Try.func7, Try.ntmps7
    go_wp2_with fail
    refine (KO.out _).mono ?_
    rintro e w' ⟨rfl, hw'⟩
    have hw := hw'.symm
    subst hw
    go_wp2_with fail
    refine CN.out.mono ?_
    rintro e w1 ⟨rfl, hw1⟩
    subst hw1
    go_wp2_with fail
    refine (NA.out _).mono ?_
    rintro e w2 ⟨rfl, hw2⟩
    subst hw2
    go_wp2_with fail
    refine (LO.out _).mono ?_
    rintro e w3 ⟨a3, c3, rfl, hw3, b3⟩
    clear hw3
    go_wp2_with fail
    go_ret
    exact ⟨a3, c3, rfl, .inl rfl, bstep HBB.out b3⟩
  · have CN := hide (concat_some w.heap.size a1 a2 n1 n2 c1 c2 f1 g1 f2 g2 _ (Pair2.new w a1 a2 n1 n2 c1 c2 24) (h1.below bb) (h2.below bb) hn1 hn2 (by omega))
    rw [show joinL n1 (joinL 0 (fun _ => (0, 0)) f1 g1) f2 g2 = mrgA n1 f1 g1 f2 g2 from rfl] at CN
    generalize mrgA n1 f1 g1 f2 g2 = A at *
    obtain ⟨N, hN⟩ : ∃ N, n1 + n2 = N := ⟨_, rfl⟩
    rw [hN] at CN h0 ⊢
    have hN40 : N ≤ 40 := by omega
    have NA := hide (fun b cap w1 (hc : N ≤ cap) (hr : RowL w1 b N A) => nearsApart_any b N cap A w1 (by omega) hc hr)
    have LO := hide (fun b cap w1 (hap : apB A N = true) (hr : RowL w1 b N A) => leastOf_some b 0 N cap K A w1 hk1 hk20 (by omega) (fun t ht => by
      have := allN_at hap ht
      unfold apAt at this
      rw [Bool.and_eq_true] at this
      exact this.1) hr.lt (fun i hi => by rw [Nat.zero_add]; exact ⟨hr.c0 hi, hr.c1 hi⟩))
    have HBB := hide bb
    clear h1 h2 bb hN
    cases hap : apB A N
    · simp only [hap] at NA
      rw [if_neg (by decide)]
      clear hap
      go_enter Try.func7, Try.ntmps7
      go_wp2_with fail
      refine (KO.out _).mono ?_
      rintro e w' ⟨rfl, hw'⟩
      have hw := hw'.symm
      subst hw
      go_wp2_with fail
      refine CN.out.mono ?_
      rintro e w1 ⟨a3, c3, rfl, hw1, hc3, b1⟩
      rcases hw1 with hz | ⟨b, rfl, hB, hr⟩
      · exact absurd hz h0
      go_wp2_with fail
      refine (NA.out _ _ _ hc3 hr).mono ?_
      rintro e w2 ⟨rfl, b2⟩
      go_wp2_with fail
      go_ret
      exact outM_nil rfl (bstep (bstep HBB.out b1) b2)
    · simp only [hap] at NA
      have LO := hide (fun b cap w1 hr => LO.out b cap w1 hap hr)
      rw [if_pos rfl]
      obtain ⟨t, ht⟩ : ∃ t, min K N = t := ⟨_, rfl⟩
      simp only [LeastR, ht] at LO
      rw [ht]
      clear hap ht
      go_enter Try.func7, Try.ntmps7
      go_wp2_with fail
      refine (KO.out _).mono ?_
      rintro e w' ⟨rfl, hw'⟩
      have hw := hw'.symm
      subst hw
      go_wp2_with fail
      refine CN.out.mono ?_
      rintro e w1 ⟨a3, c3, rfl, hw1, hc3, b1⟩
      rcases hw1 with hz | ⟨b, rfl, hB, hr⟩
      · exact absurd hz h0
      go_wp2_with fail
      refine (NA.out _ _ _ hc3 hr).mono ?_
      rintro e w2 ⟨rfl, b2⟩
      have bw2 := bstep (bstep HBB.out b1) b2
      go_wp2_with fail
      refine (LO.out _ _ _ (hr.below b2)).mono ?_
      rintro e w3 ⟨a4, c4, rfl, hw4, b4⟩
      have HW4 := hide hw4
      clear hw4 hr b1 b2
      go_wp2_with fail
      go_ret
      refine ⟨a4, c4, rfl, ?_, bstep bw2 b4⟩
      rcases HW4.out with hz | ⟨b', e', hB', hr'⟩
      · exact .inl hz
      · exact .inr ⟨b', e', Nat.le_trans bw2.size hB', hr'⟩

theorem iMerged_any (a1 a2 : Option Addr) (n1 n2 c1 c2 : Nat) (k : Int) (f1 g1 f2 g2 : Nat → Int) (w : World) (h1 : PRow w a1 n1 f1 g1) (h2 : PRow w a2 n2 f2 g2) (hn1 : n1 ≤ 1048576) (hn2 : n2 ≤ 1048576) :
    Calls Try.prog 7 #[.slice a1 n1 c1, .slice a2 n2 c2, .int .i64 k] w fun e w' => OutM w (mrgM k n1 n2 f1 g1 f2 g2) (isortL (n1 + n2) (mrgA n1 f1 g1 f2 g2)) e w' := by
  unfold mrgM mrgB
  cases hno : (inB k 1 20 && decide (n1 ≤ 20) && decide (n2 ≤ 20))
  · exact iMerged_few a1 a2 n1 n2 c1 c2 k _ w hn1 hn2 hno
  · simp only [Bool.and_eq_true, decide_eq_true_eq] at hno
    have hk := of_decide_eq_true hno.1.1
    obtain ⟨K, rfl⟩ : ∃ K : Nat, k = (K : Int) := ⟨k.toNat, by omega⟩
    have := iMerged_some a1 a2 n1 n2 c1 c2 K f1 g1 f2 g2 w h1 h2 (by omega) (by omega) hno.1.2 hno.2
    simpa using this
end Go.Proofs.Ytidoajapaaoifaa
