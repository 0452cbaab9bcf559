/- Nearest and KthOf of the model. -/
import Derived.Test.YtboodnbjhgobgaaQM
namespace Go.Proofs.Ytboodnbjhgobgaa
open Go.RowKit
set_option linter.unusedSimpArgs false
set_option linter.unusedVariables false

theorem Try.elemNears : Try.prog.elem 25 = 50 := by kernel_rfl
theorem Try.underNears : Try.prog.underlying 25 = some (.slice (Try.prog.elem 25)) := by rw [Try.elemNears]; exact Try.underlying25
theorem nearSize (w : World) : (sizeOf (Try.prog.elem 25)).run Try.prog w = .ok 2 w := by
  obtain ⟨i0, hi, hz0, hz1, hz2⟩ := nearInfo2
  rw [Try.elemNears]
  simp [sizeOf, typeInfo, hi, hz1]

set_option maxHeartbeats 4000000 in
theorem sNearest_yes (dim : Int) (a : Option Addr) (n cap : Nat) (L : IL) (qa : Option Addr) (qn qc : Nat) (qs : List Int) (K : Nat) (mask : Int) (w : World) (h : IRow w a n L) (hv : ∀ i, i < n → (L i).vec.length ≤ 1048576) (rq : Row w qa qn qs) (hqn : qn ≤ 1048576) (hf : formB dim n L qs = true) (h1 : 1 ≤ K) (h20 : K ≤ 20) :
    Calls Try.prog 6 #[.int .i64 dim, .slice a n cap, .slice qa qn qc, .int .i64 K, .int .i64 mask] w fun e w' => OutN w (min K (cntP (mtB mask) L n)) (nearA n L qs mask) e w' := by
  have hfine := fine_of hf
  have hn := hfine.n60
  have KQ := hide (fun w1 (hb : Below w.heap.size w w1) => l8Form_any dim a n cap L qa qn qc qs w1 (h.below hb) (by omega) hv (rq.below hb) hqn)
  simp only [hf] at KQ
  have KO := hide (fun w1 => l1In_any (K : Int) 1 20 w1)
  rw [show inB (K : Int) 1 20 = true from decide_eq_true (by omega)] at KO
  have NR := hide (fun w1 (hb : Below w.heap.size w w1) => l8Nears_any dim a n cap L qa qn qc qs mask w1 (h.below hb) (rq.below hb) hfine)
  have hml : cntP (mtB mask) L n ≤ 60 := Nat.le_trans (cntP_le _ _ _) hn
  unfold nearA
  generalize cntP (mtB mask) L n = N at *
  generalize nrL qs mask L n = A at *
  obtain ⟨t, ht⟩ : ∃ t, min K N = t := ⟨_, rfl⟩
  have hmin : min (K : Int) (N : Int) = (t : Int) := by omega
  have htN : t ≤ N := by omega
  rw [ht]
  clear h hv rq hf hfine ht
  go_enter Try.func6, Try.ntmps6
  go_wp2_with fail
  refine (KQ.out _ (Below.refl _ _)).mono ?_
  rintro e w1 ⟨rfl, b1⟩
  go_wp2_with fail
  refine (KO.out _).mono ?_
  rintro e w' ⟨rfl, hw'⟩
  have hw1 := hw'.symm
  subst hw1
  go_wp2_with fail
  refine (NR.out _ b1).mono ?_
  rintro e w2 ⟨g2, c2, rfl, hr2, b2⟩
  have S := hide (l6Sorted_some g2 0 N c2 (fun i => (A i).1) (fun i => (A i).2) w2 hml hr2.rowl.lt (fun i hi => by rw [Nat.zero_add]; exact ⟨hr2.rowl.c0 hi, hr2.rowl.c1 hi⟩))
  have bw2 := bstep b1 b2
  clear hr2 b1 b2
  go_wp2_with fail
  refine S.out.mono ?_
  rintro e w3 ⟨g3, c3, M, rfl, hr3, hM, b3⟩
  have hcap3 : N ≤ c3 := by
    obtain ⟨_, cur, _, hk, _⟩ := hr3
    exact hk
  have HR3 := hide (hr3.rowl.congr fun i hi => (hM i hi).trans (isortL_ext N (fun i hi => listL_at hi) i hi))
  have HG3 := hide hr3.base
  have HBW := hide (bstep bw2 b3)
  have hs2 := bw2.size
  have htc : (t : Int) ≤ (c3 : Int) := by omega
  clear hr3 hM b3 bw2 S
  go_wp2_with fail
  go_ret
  exact ⟨some ⟨g3, 0, none⟩, c3, rfl, .inr ⟨g3, rfl, Nat.le_trans hs2 HG3.out, HR3.out.less htN⟩, HBW.out⟩

set_option maxHeartbeats 1600000 in
theorem sNearest_no (dim : Int) (a : Option Addr) (n cap : Nat) (L : IL) (qa : Option Addr) (qn qc : Nat) (qs : List Int) (k mask : Int) (w : World) (h : IRow w a n L) (hn : n ≤ 1048576) (hv : ∀ i, i < n → (L i).vec.length ≤ 1048576) (rq : Row w qa qn qs) (hqn : qn ≤ 1048576) (hf : (formB dim n L qs && inB k 1 20) = false) (A : NL) :
    Calls Try.prog 6 #[.int .i64 dim, .slice a n cap, .slice qa qn qc, .int .i64 k, .int .i64 mask] w fun e w' => OutN w 0 A e w' := by
  have KQ := hide (fun w1 (hb : Below w.heap.size w w1) => l8Form_any dim a n cap L qa qn qc qs w1 (h.below hb) hn hv (rq.below hb) hqn)
  have KO := hide (fun w1 => l1In_any k 1 20 w1)
  clear h hv rq
  cases h0 : formB dim n L qs
  · simp only [h0] at KQ
    go_enter Try.func6, Try.ntmps6
    go_wp2_with fail
    refine (KQ.out _ (Below.refl _ _)).mono ?_
    rintro e w1 ⟨rfl, b1⟩
    go_wp2_with fail
    go_ret
    exact outN_nil rfl b1
  · rw [h0, Bool.true_and] at hf
    simp only [h0] at KQ
    simp only [hf] at KO
    go_enter Try.func6, Try.ntmps6
    go_wp2_with fail
    refine (KQ.out _ (Below.refl _ _)).mono ?_
    rintro e w1 ⟨rfl, b1⟩
    go_wp2_with fail
    refine (KO.out _).mono ?_
    rintro e w' ⟨rfl, rfl⟩
    go_wp2_with fail
    go_ret
    exact outN_nil rfl b1

theorem sNearest_any (dim : Int) (a : Option Addr) (n cap : Nat) (L : IL) (qa : Option Addr) (qn qc : Nat) (qs : List Int) (k mask : Int) (w : World) (h : IRow w a n L) (hn : n ≤ 1048576) (hv : ∀ i, i < n → (L i).vec.length ≤ 1048576) (rq : Row w qa qn qs) (hqn : qn ≤ 1048576) :
    Calls Try.prog 6 #[.int .i64 dim, .slice a n cap, .slice qa qn qc, .int .i64 k, .int .i64 mask] w fun e w' => OutN w (nearM dim n L qs k mask) (nearA n L qs mask) e w' := by
  unfold nearM
  cases hf : (formB dim n L qs && inB k 1 20)
  · exact sNearest_no dim a n cap L qa qn qc qs k mask w h hn hv rq hqn hf _
  · rw [Bool.and_eq_true] at hf
    have hk := of_decide_eq_true hf.2
    obtain ⟨K, rfl⟩ : ∃ K : Nat, k = (K : Int) := ⟨k.toNat, by omega⟩
    exact sNearest_yes dim a n cap L qa qn qc qs K mask w h hv rq hqn hf.1 (by omega) (by omega)

/-- The answer of KthOf. -/
def kthV (m : Nat) (A : NL) : Int := if m = 0 then -1 else (A (m - 1)).2

set_option maxHeartbeats 1600000 in
theorem iKthOf_any (dim : Int) (av qv : Value) (k mask : Int) (m : Nat) (A : NL) (w : World) (hm : m ≤ 60) (NE : Hid (Calls Try.prog 9 #[.int .i64 dim, av, qv, .int .i64 k, .int .i64 mask] w fun e w' => OutN w m A e w')) :
    Calls Try.prog 18 #[.int .i64 dim, av, qv, .int .i64 k, .int .i64 mask] w fun e w' => e = .returned (.int .i64 (kthV m A)) ∧ Below w.heap.size w w' := by
  unfold kthV
  by_cases h0 : m = 0
  · subst h0
    rw [if_pos rfl]
    go_enter Try.func18, Try.ntmps18
    go_wp2_with fail
    refine NE.out.mono ?_
    rintro e w1 ⟨a1, c1, rfl, hw1, b1⟩
    go_wp2_with fail
    go_ret
    exact ⟨rfl, b1⟩
  · rw [if_neg h0]
    obtain ⟨p, hp⟩ : ∃ p, m - 1 = p := ⟨_, rfl⟩
    rw [hp]
    have HP := hide hp
    have hmp : (m : Int) - 1 = (p : Int) := by omega
    have hpm : (p : Int) < (m : Int) := by omega
    have hm0 : ((m : Int) == 0) = false := by simp; omega
    clear hp
    go_enter Try.func18, Try.ntmps18
    go_wp2_with fail
    refine NE.out.mono ?_
    rintro e w1 ⟨a1, c1, rfl, hw1, b1⟩
    rcases hw1 with h1 | ⟨b, rfl, hB, hr⟩
    · exact absurd h1 h0
    have q1 := hr.c1 (i := p) (by have := HP.out; omega)
    clear hr h0
    go_wp2_with fail
    go_ret
    exact ⟨rfl, b1⟩

set_option maxHeartbeats 1600000 in
theorem sKthOf_any (dim : Int) (av qv : Value) (k mask : Int) (m : Nat) (A : NL) (w : World) (hm : m ≤ 60) (NE : Hid (Calls Try.prog 6 #[.int .i64 dim, av, qv, .int .i64 k, .int .i64 mask] w fun e w' => OutN w m A e w')) :
    Calls Try.prog 17 #[.int .i64 dim, av, qv, .int .i64 k, .int .i64 mask] w fun e w' => e = .returned (.int .i64 (kthV m A)) ∧ Below w.heap.size w w' := by
  unfold kthV
  by_cases h0 : m = 0
  · subst h0
    rw [if_pos rfl]
    go_enter Try.func17, Try.ntmps17
    go_wp2_with fail
    refine NE.out.mono ?_
    rintro e w1 ⟨a1, c1, rfl, hw1, b1⟩
    go_wp2_with fail
    go_ret
    exact ⟨rfl, b1⟩
  · rw [if_neg h0]
    obtain ⟨p, hp⟩ : ∃ p, m - 1 = p := ⟨_, rfl⟩
    rw [hp]
    have HP := hide hp
    have hmp : (m : Int) - 1 = (p : Int) := by omega
    have hpm : (p : Int) < (m : Int) := by omega
    have hm0 : ((m : Int) == 0) = false := by simp; omega
    clear hp
    go_enter Try.func17, Try.ntmps17
    go_wp2_with fail
    refine NE.out.mono ?_
    rintro e w1 ⟨a1, c1, rfl, hw1, b1⟩
    rcases hw1 with h1 | ⟨b, rfl, hB, hr⟩
    · exact absurd h1 h0
    have q1 := hr.c1 (i := p) (by have := HP.out; omega)
    clear hr h0
    go_wp2_with fail
    go_ret
    exact ⟨rfl, b1⟩
end Go.Proofs.Ytboodnbjhgobgaa
