/- Rows that are right: packRow of the program at all arguments, RowOk of the program; of the model: lists held against each other. -/
import Derived.Test.YtfbigielooemaaaKI
namespace Go.Proofs.Ytfbigielooemaaa
open Go.RowKit
set_option linter.unusedSimpArgs false
set_option linter.unusedVariables false

set_option maxHeartbeats 4000000 in
theorem packRow_no (a : Option Addr) (n cap : Nat) (r : RowV) (w : World) (v : Bool) (hh : v = true → ¬ (r.m1 = n ∧ r.m2 = n ∧ r.m3 = n))
    (BO : Hid (∀ w1, Below w.heap.size w w1 → Calls Try.prog 34 #[.slice a n cap] w1 fun e w' => e = .returned (.bool v) ∧ Below w1.heap.size w1 w')) :
    Calls Try.prog 21 #[.slice a n cap, r.v] w fun e w' => e = .returned (.tuple #[PK0, .bool false]) ∧ Below w.heap.size w w' := by
  obtain ⟨a1, a2, a3, m1, m2, m3, k1, k2, k3⟩ := r
  unfold RowV.v
  simp only at hh ⊢
  have HH := hide hh
  clear hh
  cases v
  · go_enter Try.func21, Try.ntmps21
    go_wp2_with fail
    refine (BO.out _ (by repeat' first | with_reducible exact Below.refl _ _ | with_reducible assumption | with_reducible refine below_drewN ?_ _ | with_reducible refine balloc ?_ _ | with_reducible refine Below.drew ?_ | with_reducible refine Below.setCell ?_ (by first | (simp; done) | (simp; omega) | omega) _ | with_reducible refine bstep ?_ (by assumption))).mono ?_
    rintro e w1 ⟨rfl, hw1⟩
    have F1 : Five w1 (w.heap.size + 1) (.int .u8 0) (.int .u32 0) (.int .u64 0) (.int .u8 0) (.int .i64 0) := (Five.new (w.alloc _) _ _ _ _ _ _ _ (by simp)).below hw1
    have B1 : Below w.heap.size w w1 := (by repeat' first | with_reducible exact Below.refl _ _ | with_reducible assumption | with_reducible refine below_drewN ?_ _ | with_reducible refine balloc ?_ _ | with_reducible refine Below.drew ?_ | with_reducible refine Below.setCell ?_ (by first | (simp; done) | (simp; omega) | omega) _ | with_reducible refine bstep ?_ (by assumption))
    obtain ⟨_, s0, s1, s2, s3, s4, p0, p1, p2, p3, p4⟩ := F1
    clear hw1
    go_wp2_with fail
    refine bodyPost_ret (v := .tuple #[PK0, .bool false]) ?_ rfl ⟨rfl, ?_⟩
    · simp [results, Try.results21, go_sem, *]
    · exact ((((B1.setCell (by simp) _).setCell (by simp) _).setCell (by simp) _).setCell (by simp) _).setCell (by simp) _
  · have hD : ((m1 : Int) != (n : Int)) = true ∨ (((m1 : Int) != (n : Int)) = false ∧ ((m2 : Int) != (n : Int)) = true) ∨ (((m1 : Int) != (n : Int)) = false ∧ ((m2 : Int) != (n : Int)) = false ∧ ((m3 : Int) != (n : Int)) = true) := by
      have := HH.out rfl
      simp only [bne_iff_ne, bne_eq_false_iff_eq]
      omega
    rcases hD with h1 | ⟨h1, h2⟩ | ⟨h1, h2, h3⟩
    all_goals
      go_enter Try.func21, Try.ntmps21
      go_wp2_with fail
      refine (BO.out _ (by repeat' first | with_reducible exact Below.refl _ _ | with_reducible assumption | with_reducible refine below_drewN ?_ _ | with_reducible refine balloc ?_ _ | with_reducible refine Below.drew ?_ | with_reducible refine Below.setCell ?_ (by first | (simp; done) | (simp; omega) | omega) _ | with_reducible refine bstep ?_ (by assumption))).mono ?_
      rintro e w1 ⟨rfl, hw1⟩
      have T1 : TriW w1 w.heap.size (.slice a1 m1 k1) (.slice a2 m2 k2) (.slice a3 m3 k3) := ((TriW.new w _ _ _ _ _ rfl).alloc _).below hw1
      have F1 : Five w1 (w.heap.size + 1) (.int .u8 0) (.int .u32 0) (.int .u64 0) (.int .u8 0) (.int .i64 0) := (Five.new (w.alloc _) _ _ _ _ _ _ _ (by simp)).below hw1
      have B1 : Below w.heap.size w w1 := (by repeat' first | with_reducible exact Below.refl _ _ | with_reducible assumption | with_reducible refine below_drewN ?_ _ | with_reducible refine balloc ?_ _ | with_reducible refine Below.drew ?_ | with_reducible refine Below.setCell ?_ (by first | (simp; done) | (simp; omega) | omega) _ | with_reducible refine bstep ?_ (by assumption))
      obtain ⟨_, s0, s1, s2, s3, s4, p0, p1, p2, p3, p4⟩ := F1
      obtain ⟨_, t0, t1, t2, _, _, _⟩ := T1
      clear hw1
      go_wp2_with fail
      refine bodyPost_ret (v := .tuple #[PK0, .bool false]) ?_ rfl ⟨rfl, ?_⟩
      · simp [results, Try.results21, go_sem, s0, s1, s2, s3, s4]
      · exact ((((B1.setCell (by simp) _).setCell (by simp) _).setCell (by simp) _).setCell (by simp) _).setCell (by simp) _

theorem packRow_any (a : Option Addr) (n cap : Nat) (f g : Nat → Int) (r : RowV) (L1 L2 L3 : List Int) (w : World) (h : PRow w a n f g) (hr : r.is w L1 L2 L3) :
    Calls Try.prog 21 #[.slice a n cap, r.v] w fun e w' => e = .returned (.tuple #[pkV (rowOkB n f g L1 L2 L3) (nth L1) (nth L2) (nth L3) n, .bool (rowOkB n f g L1 L2 L3)]) ∧ Below w.heap.size w w' := by
  have BO := hide (fun w1 (hb : Below w.heap.size w w1) => iBoxOk_any a n cap f g w1 (h.below hb))
  unfold rowOkB
  have e1 := hr.r1.len
  have e2 := hr.r2.len
  have e3 := hr.r3.len
  cases hB : boxB n f g
  · rw [hB] at BO
    exact packRow_no a n cap r w false (fun q => by cases q) BO
  · rw [hB] at BO
    by_cases hm : L1.length = n ∧ L2.length = n ∧ L3.length = n
    · have hn8 := boxB_num' hB
      rcases h.lies with q | ⟨b, off, rfl, lt, hc⟩
      · omega
      · obtain ⟨a1, a2, a3, m1, m2, m3, k1, k2, k3⟩ := r
        obtain ⟨r1, r2, r3⟩ := hr
        simp only at r1 r2 r3 e1 e2 e3
        obtain rfl : m1 = n := by omega
        obtain rfl : m2 = m1 := by omega
        obtain rfl : m3 = m2 := by omega
        rw [decide_eq_true hm, Bool.true_and, Bool.true_and]
        rcases r1.lies with q | ⟨b1, o1, rfl, lt1, hc1⟩
        · omega
        rcases r2.lies with q | ⟨b2, o2, rfl, lt2, hc2⟩
        · omega
        rcases r3.lies with q | ⟨b3, o3, rfl, lt3, hc3⟩
        · omega
        exact packRow_some b off m3 cap f g b1 o1 k1 b2 o2 k2 b3 o3 k3 L1 L2 L3 w hn8.2 lt lt1 lt2 lt3 (fun i hi => boxB_at' hB hi) hc hc1 hc2 hc3 BO
    · rw [decide_eq_false hm]
      exact packRow_no a n cap r w true (fun _ q => hm (by omega)) BO



set_option maxHeartbeats 1600000 in
theorem l5SameInts_some (b off n cap b' off' cap' : Nat) (xs ys : List Int) (w : World) (hl : xs.length = n) (hl' : ys.length = n) (hn : n ≤ 1048576) (hb : b < w.heap.size) (hb' : b' < w.heap.size)
    (hc : ∀ i, i < n → w.cell? ⟨b, off + i, none⟩ = some (.int .i64 (nth xs i))) (hc' : ∀ i, i < n → w.cell? ⟨b', off' + i, none⟩ = some (.int .i64 (nth ys i))) :
    Calls Try.prog 45 #[.slice (some ⟨b, off, none⟩) n cap, .slice (some ⟨b', off', none⟩) n cap'] w fun e w' => e = .returned (.bool (decide (xs = ys))) ∧ Below w.heap.size w w' := by
  have hnn : ((n : Int) != (n : Int)) = false := by simp
  go_enter Try.func45, Try.ntmps45
  go_wp2_with fail
  go_loopw [5] (fun i wr => ∃ k : Nat, k ≤ n ∧ i = .int .i64 k ∧ (∀ j, j < k → nth xs j = nth ys j) ∧ Below w.heap.size w wr) (fun i _ => n - (intOf i).toNat)
  case atStart => exact ⟨0, Nat.zero_le _, rfl, fun j h => absurd h (by omega), (by repeat' first | with_reducible exact Below.refl _ _ | with_reducible assumption | with_reducible refine below_drewN ?_ _ | with_reducible refine balloc ?_ _ | with_reducible refine Below.drew ?_ | with_reducible refine Below.setCell ?_ (by first | (simp; done) | (simp; omega) | omega) _ | with_reducible refine bstep ?_ (by assumption))⟩
  case round =>
    obtain ⟨k, hk, rfl, hpre, hbel⟩ := hrel
    have HP := hide hpre
    have HC := hide hc
    have HC' := hide hc'
    have HB := hide hbel
    by_cases hlt : k < n
    · have z1 : wr.cell? ⟨b, off + k, none⟩ = some (.int .i64 (nth xs k)) := (hbel.cell (p := ⟨b, off + k, none⟩) hb).trans (hc k hlt)
      have z2 : wr.cell? ⟨b', off' + k, none⟩ = some (.int .i64 (nth ys k)) := (hbel.cell (p := ⟨b', off' + k, none⟩) hb').trans (hc' k hlt)
      have hlt' : (k : Int) < (n : Int) := by omega
      clear hpre hbel hc hc'
      by_cases he : nth xs k = nth ys k
      · have HE := hide he
        have hq : (nth xs k != nth ys k) = false := by rw [he]; simp
        clear he
        go_wp2_with fail
        go_quiet (fail)
        go_wp2_with fail
        go_roundw
        case rel =>
          have hbel := HB.out
          exact ⟨k + 1, by omega, by go_num, fun j hj => (by rcases Nat.lt_succ_iff_lt_or_eq.1 hj with h | h; exact HP.out j h; rw [h]; exact HE.out), (by repeat' first | with_reducible exact Below.refl _ _ | with_reducible assumption | with_reducible refine below_drewN ?_ _ | with_reducible refine balloc ?_ _ | with_reducible refine Below.drew ?_ | with_reducible refine Below.setCell ?_ (by first | (simp; done) | (simp; omega) | omega) _ | with_reducible refine bstep ?_ (by assumption))⟩
        case measure => simp [intOf]; omega
      · have HE := hide he
        have hq : (nth xs k != nth ys k) = true := by simpa using he
        clear he
        go_wp2_with fail
        go_quiet (fail)
        go_wp2_with fail
        go_ret
        have hbel := HB.out
        exact ⟨by rw [decide_eq_false (fun q => HE.out (by rw [q]))]; rfl, (by repeat' first | with_reducible exact Below.refl _ _ | with_reducible assumption | with_reducible refine below_drewN ?_ _ | with_reducible refine balloc ?_ _ | with_reducible refine Below.drew ?_ | with_reducible refine Below.setCell ?_ (by first | (simp; done) | (simp; omega) | omega) _ | with_reducible refine bstep ?_ (by assumption))⟩
    · clear hpre hbel hc hc'
      go_wp2_with fail
      go_ret
      exact ⟨by rw [decide_eq_true (nth_ext (hl.trans hl'.symm) fun j hj => HP.out j (by omega))]; rfl, HB.out⟩

set_option maxHeartbeats 400000 in
theorem l5SameInts_len (a a' : Option Addr) (n cap n' cap' : Nat) (w : World) (h : ¬ n = n') :
    Calls Try.prog 45 #[.slice a n cap, .slice a' n' cap'] w fun e w' => e = .returned (.bool false) ∧ Below w.heap.size w w' := by
  have hne : ((n : Int) != (n' : Int)) = true := by rw [bne_iff_ne]; omega
  go_enter Try.func45, Try.ntmps45
  go_wp2_with fail
  go_ret
  exact ⟨rfl, (by repeat' first | with_reducible exact Below.refl _ _ | with_reducible assumption | with_reducible refine below_drewN ?_ _ | with_reducible refine balloc ?_ _ | with_reducible refine Below.drew ?_ | with_reducible refine Below.setCell ?_ (by first | (simp; done) | (simp; omega) | omega) _ | with_reducible refine bstep ?_ (by assumption))⟩

theorem l5SameInts_any (a a' : Option Addr) (n cap n' cap' : Nat) (xs ys : List Int) (w : World) (h : Row w a n xs) (h' : Row w a' n' ys) (hn : n ≤ 1048576) (h0 : 1 ≤ n) :
    Calls Try.prog 45 #[.slice a n cap, .slice a' n' cap'] w fun e w' => e = .returned (.bool (decide (xs = ys))) ∧ Below w.heap.size w w' := by
  by_cases e : n = n'
  · subst e
    rcases h.lies with q | ⟨b, off, rfl, hb, hc⟩
    · omega
    · rcases h'.lies with q | ⟨b', off', rfl, hb', hc'⟩
      · omega
      · exact l5SameInts_some b off n cap b' off' cap' xs ys w h.len h'.len hn hb hb' hc hc'
  · have : decide (xs = ys) = false := decide_eq_false fun q => e (by rw [← h.len, ← h'.len, q])
    rw [this]
    exact l5SameInts_len a a' n cap n' cap' w e

set_option maxHeartbeats 4000000 in
theorem l5Same_any (r s : RowV) (L1 L2 L3 M1 M2 M3 : List Int) (w : World) (hr : r.is w L1 L2 L3) (hs : s.is w M1 M2 M3) (h1 : 1 ≤ r.m1) (h2 : 1 ≤ r.m2) (h3 : 1 ≤ r.m3) (q1 : r.m1 ≤ 1048576) (q2 : r.m2 ≤ 1048576) (q3 : r.m3 ≤ 1048576) :
    Calls Try.prog 30 #[r.v, s.v] w fun e w' => e = .returned (.bool (decide (L1 = M1) && (decide (L2 = M2) && decide (L3 = M3)))) ∧ Below w.heap.size w w' := by
  obtain ⟨a1, a2, a3, m1, m2, m3, k1, k2, k3⟩ := r
  obtain ⟨b1, b2, b3, n1, n2, n3, j1, j2, j3⟩ := s
  obtain ⟨r1, r2, r3⟩ := hr
  obtain ⟨s1, s2, s3⟩ := hs
  simp only at r1 r2 r3 s1 s2 s3 h1 h2 h3 q1 q2 q3
  unfold RowV.v
  simp only
  have E1 := hide (fun w1 (hb : Below w.heap.size w w1) => l5SameInts_any a1 b1 m1 k1 n1 j1 L1 M1 w1 (r1.below hb) (s1.below hb) q1 h1)
  have E2 := hide (fun w1 (hb : Below w.heap.size w w1) => l5SameInts_any a2 b2 m2 k2 n2 j2 L2 M2 w1 (r2.below hb) (s2.below hb) q2 h2)
  have E3 := hide (fun w1 (hb : Below w.heap.size w w1) => l5SameInts_any a3 b3 m3 k3 n3 j3 L3 M3 w1 (r3.below hb) (s3.below hb) q3 h3)
  generalize decide (L1 = M1) = v1 at E1 ⊢
  generalize decide (L2 = M2) = v2 at E2 ⊢
  generalize decide (L3 = M3) = v3 at E3 ⊢
  clear r1 r2 r3 s1 s2 s3
  obtain ⟨W0, hW0⟩ : ∃ W, (((w.alloc (.cells #[.slice a1 m1 k1, .slice a2 m2 k2, .slice a3 m3 k3] 32)).alloc (.cells #[.slice b1 n1 j1, .slice b2 n2 j2, .slice b3 n3 j3] 32))) = W := ⟨_, rfl⟩
  have T0 : TriW W0 w.heap.size (.slice a1 m1 k1) (.slice a2 m2 k2) (.slice a3 m3 k3) := hW0 ▸ (TriW.new w _ _ _ _ _ rfl).alloc _
  have U0 : TriW W0 (w.heap.size + 1) (.slice b1 n1 j1) (.slice b2 n2 j2) (.slice b3 n3 j3) := hW0 ▸ TriW.new (w.alloc _) _ _ _ _ _ (by simp)
  have B0 : Below w.heap.size w W0 := hW0 ▸ (by repeat' first | with_reducible exact Below.refl _ _ | with_reducible assumption | with_reducible refine below_drewN ?_ _ | with_reducible refine balloc ?_ _ | with_reducible refine Below.drew ?_ | with_reducible refine Below.setCell ?_ (by first | (simp; done) | (simp; omega) | omega) _ | with_reducible refine bstep ?_ (by assumption))
  have HW := hide hW0
  clear hW0
  cases v1
  · go_enter Try.func30, Try.ntmps30
    go_wp2_with fail
    rw [HW.out]
    refine (E1.out _ B0).mono ?_
    rintro e w1 ⟨rfl, hb1⟩
    go_wp2_with fail
    go_ret
    exact ⟨rfl, bstep B0 hb1⟩
  · cases v2
    · go_enter Try.func30, Try.ntmps30
      go_wp2_with fail
      rw [HW.out]
      refine (E1.out _ B0).mono ?_
      rintro e w1 ⟨rfl, hb1⟩
      have T1 := T0.below hb1
      have U1 := U0.below hb1
      have B1 := bstep B0 hb1
      obtain ⟨_, t0, t1, t2, _, _, _⟩ := T1
      obtain ⟨_, u0, u1, u2, _, _, _⟩ := U1
      go_wp2_with fail
      refine (E2.out _ B1).mono ?_
      rintro e w2 ⟨rfl, hb2⟩
      go_wp2_with fail
      go_ret
      exact ⟨rfl, bstep B1 hb2⟩
    · go_enter Try.func30, Try.ntmps30
      go_wp2_with fail
      rw [HW.out]
      refine (E1.out _ B0).mono ?_
      rintro e w1 ⟨rfl, hb1⟩
      have T1 := T0.below hb1
      have U1 := U0.below hb1
      have B1 := bstep B0 hb1
      have HT := hide T1
      have HU := hide U1
      obtain ⟨_, t0, t1, t2, _, _, _⟩ := T1
      obtain ⟨_, u0, u1, u2, _, _, _⟩ := U1
      go_wp2_with fail
      refine (E2.out _ B1).mono ?_
      rintro e w2 ⟨rfl, hb2⟩
      have T2 := HT.out.below hb2
      have U2 := HU.out.below hb2
      have B2 := bstep B1 hb2
      clear t0 t1 t2 u0 u1 u2
      obtain ⟨_, t0, t1, t2, _, _, _⟩ := T2
      obtain ⟨_, u0, u1, u2, _, _, _⟩ := U2
      go_wp2_with fail
      refine (E3.out _ B2).mono ?_
      rintro e w3 ⟨rfl, hb3⟩
      go_wp2_with fail
      go_ret
      exact ⟨rfl, bstep B2 hb3⟩
end Go.Proofs.Ytfbigielooemaaa
