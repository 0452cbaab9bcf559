/- RankOf of the model and of the program. -/
import Derived.Test.YtkelehdhjfmkdaaQH
namespace Go.Proofs.Ytkelehdhjfmkdaa
open Go.RowKit
set_option linter.unusedSimpArgs false
set_option linter.unusedVariables false

set_option maxHeartbeats 4000000 in
theorem sRankOf_yes (dim : Int) (a : Option Addr) (n cap : Nat) (L : IL) (qa : Option Addr) (qn qc : Nat) (qs : List Int) (id : Int) (w : World) (h : IRow w a n L) (hv : ∀ i, i < n → (L i).vec.length ≤ 1048576) (rq : Row w qa qn qs) (hqn : qn ≤ 1048576) (hf : formB dim n L qs = true) :
    Calls Try.prog 17 #[.int .i64 dim, .slice a n cap, .slice qa qn qc, .int .i64 id] w fun e w' => e = .returned (.int .i64 (rkF (isortL n (fun i => nrOf qs (L i))) n id)) ∧ Below w.heap.size w w' := by
  have hfine := fine_of hf
  have hn := hfine.n60
  have K := hide (fun w1 (hb : Below w.heap.size w w1) => l8Form_any dim a n cap L qa qn qc qs w1 (h.below hb) (by omega) hv (rq.below hb) hqn)
  simp only [hf] at K
  have NR := hide (fun w1 (hb : Below w.heap.size w w1) => l8Nears_any dim a n cap L qa qn qc qs 0 w1 (h.below hb) (rq.below hb) hfine)
  simp only [cnt0] at NR
  have HL := hide (show ∀ i, i < n → isortL n (listL n (fun i => (nrL qs 0 L n i).1) (fun i => (nrL qs 0 L n i).2)) i = isortL n (fun i => nrOf qs (L i)) i from by
    have e : ∀ k, k ≤ n → ∀ i, i < k → isortL k (listL n (fun i => (nrL qs 0 L n i).1) (fun i => (nrL qs 0 L n i).2)) i = isortL k (fun i => nrOf qs (L i)) i := by
      intro k
      induction k with
      | zero => intro _ i hi; omega
      | succ k ih =>
        intro hk i hi
        show insL k (isortL k _) _ i = insL k (isortL k _) _ i
        rw [show listL n (fun i => (nrL qs 0 L n i).1) (fun i => (nrL qs 0 L n i).2) k = nrOf qs (L k) from by unfold listL; rw [if_pos (by omega)]; exact nrL0 (by omega)]
        exact insL_ext k _ _ _ (fun j hj => ih (by omega) j hj) i (by omega)
    exact e n (Nat.le_refl _))
  generalize hA : nrL qs 0 L n = A at *
  generalize hD : isortL n (fun i => nrOf qs (L i)) = D at *
  clear h hv rq hf hfine hA hD
  go_enter Try.func17, Try.ntmps17
  go_wp2_with fail
  refine (K.out _ (Below.refl _ _)).mono ?_
  rintro e w1 ⟨rfl, b1⟩
  go_wp2_with fail
  refine (NR.out _ b1).mono ?_
  rintro e w2 ⟨g2, c2, rfl, hr2, b2⟩
  have S := hide (l6Sorted_some g2 0 n c2 (fun i => (A i).1) (fun i => (A i).2) w2 hn hr2.rowl.lt (fun i hi => by rw [Nat.zero_add]; exact ⟨hr2.rowl.c0 hi, hr2.rowl.c1 hi⟩))
  have bw2 := bstep b1 b2
  clear hr2 b1 b2 K NR
  go_wp2_with fail
  refine S.out.mono ?_
  rintro e w3 ⟨g3, c3, M, rfl, hr3, hM, b3⟩
  have HR3 := hide hr3.rowl
  have HBW := hide (bstep bw2 b3)
  have HMD := hide (fun i (hi : i < n) => (hM i hi).trans (HL.out i hi))
  clear hr3 hM b3 bw2 S HL
  go_wp2_with fail
  go_loopw [10] (fun i wr => ∃ k : Nat, k ≤ n ∧ i = .int .i64 k ∧ (∀ j, j < k → (D j).1 ≠ id) ∧ wr = w3) (fun i _ => n - (intOf i).toNat)
  case atStart => exact ⟨0, Nat.zero_le _, rfl, fun j hj => absurd hj (by omega), by trivial⟩
  case round =>
    obtain ⟨k, hk, rfl, hpre, rfl⟩ := hrel
    have HP := hide hpre
    by_cases hlt : k < n
    · have c0 := HR3.out.c0 hlt
      rw [HMD.out k hlt] at c0
      have hlt' : (k : Int) < (n : Int) := by omega
      by_cases hid : (D k).1 = id
      · have hq : ((D k).1 == id) = true := by simpa using hid
        have E := hide (rkF_hit hlt hid hpre)
        clear hpre hid
        go_wp2_with fail
        go_ret
        exact ⟨by rw [E.out]; rfl, HBW.out⟩
      · have hq : ((D k).1 == id) = false := by simpa using hid
        have HI := hide hid
        clear hpre hid
        go_wp2_with fail
        go_roundw
        case rel => exact ⟨k + 1, by omega, by go_num, fun j hj => (by rcases Nat.lt_succ_iff_lt_or_eq.1 hj with h | h; exact HP.out j h; rw [h]; exact HI.out), by trivial⟩
        case measure => simp [intOf]; omega
    · obtain rfl : k = n := by omega
      have E := hide (rkF_miss hpre)
      clear hpre
      go_wp2_with fail
      go_ret
      exact ⟨by rw [E.out]; rfl, HBW.out⟩

set_option maxHeartbeats 800000 in
theorem sRankOf_no (dim : Int) (a : Option Addr) (n cap : Nat) (L : IL) (qa : Option Addr) (qn qc : Nat) (qs : List Int) (id : Int) (w : World) (h : IRow w a n L) (hn : n ≤ 1048576) (hv : ∀ i, i < n → (L i).vec.length ≤ 1048576) (rq : Row w qa qn qs) (hqn : qn ≤ 1048576) (hf : formB dim n L qs = false) :
    Calls Try.prog 17 #[.int .i64 dim, .slice a n cap, .slice qa qn qc, .int .i64 id] w fun e w' => e = .returned (.int .i64 (-1)) ∧ Below w.heap.size w w' := by
  have K := hide (fun w1 (hb : Below w.heap.size w w1) => l8Form_any dim a n cap L qa qn qc qs w1 (h.below hb) hn hv (rq.below hb) hqn)
  simp only [hf] at K
  clear h hv rq hf
  go_enter Try.func17, Try.ntmps17
  go_wp2_with fail
  refine (K.out _ (Below.refl _ _)).mono ?_
  rintro e w1 ⟨rfl, b1⟩
  go_wp2_with fail
  go_ret
  exact ⟨rfl, b1⟩

/-- What the closure of RankOf keeps: the Near that it holds others against, and a count. -/
structure CapK (w0 : World) (ob kb : Nat) (y : Int × Int) (j : Nat) (w : World) : Prop where
  own : w.heap[ob]? = some (.cells #[.int .i64 y.1, .int .i64 y.2] 45 (0, 0))
  cnt : w.heap[kb]? = some (.cells #[.int .i64 (j : Int)] 2 (0, 0))
  lo : w0.heap.size ≤ kb
  bel : Below w0.heap.size w0 w
theorem CapK.below {w0 : World} {ob kb : Nat} {y : Int × Int} {j : Nat} {w w' : World} (h : CapK w0 ob kb y j w) (hb : Below w.heap.size w w') : CapK w0 ob kb y j w' :=
  ⟨(hb.block ob (blkLt h.own)).trans h.own, (hb.block kb (blkLt h.cnt)).trans h.cnt, h.lo, bstep h.bel hb⟩
theorem CapK.ne {w0 : World} {ob kb : Nat} {y : Int × Int} {j : Nat} {w : World} (h : CapK w0 ob kb y j w) : ob ≠ kb := fun e => by
  have h1 := h.own
  rw [e, h.cnt] at h1
  simp at h1
theorem CapK.step {w0 : World} {ob kb : Nat} {y : Int × Int} {j : Nat} {w : World} (h : CapK w0 ob kb y j w) : CapK w0 ob kb y (j + 1) (w.setCell ⟨kb, 0, none⟩ (.int .i64 ((j : Int) + 1))) := by
  have hne := h.ne
  refine ⟨(Below.heap_setCell w ⟨kb, 0, none⟩ _ ob hne).trans h.own, ?_, h.lo, h.bel.setCell h.lo _⟩
  rw [heap_set h.cnt]
  simp

set_option maxHeartbeats 2000000 in
theorem rankOf1_any (w0 : World) (ob kb : Nat) (y : Int × Int) (j : Nat) (x : Int × Int) (w : World) (h : CapK w0 ob kb y j w) (hj : j ≤ 60) :
    Calls Try.prog 31 #[.agg #[.int .i64 x.1, .int .i64 x.2], .pointer (some ⟨ob, 0, none⟩), .pointer (some ⟨kb, 0, none⟩)] w fun e w' => e = .returned (.tuple #[]) ∧ CapK w0 ob kb y (if ltO y x then j + 1 else j) w' := by
  have hb1 : Below w.heap.size w (w.alloc (.cells #[.int .i64 x.1, .int .i64 x.2] 45)) := balloc (Below.refl _ _) _
  have LE := hide (fun w1 => less_any x.1 x.2 y.1 y.2 w1)
  have HC := hide (h.below hb1)
  have q1 : (w.alloc (.cells #[.int .i64 x.1, .int .i64 x.2] 45)).cell? ⟨ob, 0, none⟩ = some (.int .i64 y.1) := by simp [World.cell?, HC.out.own]
  have q2 : (w.alloc (.cells #[.int .i64 x.1, .int .i64 x.2] 45)).cell? ⟨ob, 1, none⟩ = some (.int .i64 y.2) := by simp [World.cell?, HC.out.own]
  have lo := blkLt h.own
  have hneo : ob ≠ w.heap.size := by omega
  have q1' : w.cell? ⟨ob, 0, none⟩ = some (.int .i64 y.1) := by simp [World.cell?, h.own]
  have q2' : w.cell? ⟨ob, 1, none⟩ = some (.int .i64 y.2) := by simp [World.cell?, h.own]
  clear h hb1
  cases hm : ltO y x
  · rw [show lessB x.1 x.2 y.1 y.2 = false from hm] at LE
    simp only [Bool.false_eq_true, if_false]
    go_enter Try.func31, Try.ntmps31
    go_wp2_with fail
    refine (LE.out _).mono ?_
    rintro e w1 ⟨rfl, b1⟩
    have HC1 := hide (HC.out.below b1)
    go_wp2_with fail
    go_end0
    exact ⟨rfl, HC1.out⟩
  · rw [show lessB x.1 x.2 y.1 y.2 = true from hm] at LE
    simp only [if_true]
    go_enter Try.func31, Try.ntmps31
    go_wp2_with fail
    refine (LE.out _).mono ?_
    rintro e w1 ⟨rfl, b1⟩
    have HC1 := hide (HC.out.below b1)
    have q3 := one_cell HC1.out.cnt
    have q4 := one_free HC1.out.cnt
    clear b1
    go_wp2_with fail
    go_end0
    exact ⟨rfl, HC1.out.step⟩
end Go.Proofs.Ytkelehdhjfmkdaa
