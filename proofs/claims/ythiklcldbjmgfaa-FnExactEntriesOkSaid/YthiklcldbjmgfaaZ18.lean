/- Rows that are right: which they are, and the number that has a row's codes; of the program. -/
import Derived.Test.YthiklcldbjmgfaaZ17
import Derived.Test.YthiklcldbjmgfaaZ4
import Derived.Laws.StructEq
import Derived.Test.YthiklcldbjmgfaaZ11
namespace Go.Proofs.Ythiklcldbjmgfaa
open Go.RowKit
set_option maxRecDepth 8000
set_option linter.unusedSimpArgs false
set_option linter.unusedVariables false

theorem eqArr3 (p0 p1 p2 q0 q1 q2 : Int) (w : World) : (Op.equalIn 10000 86 (.agg #[.int .i64 p0, .int .i64 p1, .int .i64 p2]) (.agg #[.int .i64 q0, .int .i64 q1, .int .i64 q2])).run Try.prog w = .ok ((p0 == q0) && ((p1 == q1) && (p2 == q2))) w := by
  have u3 := Try.underlying2
  have k3 := Try.isAgg2
  have z3 := Try.sizeOf2
  rw [show (10000 : Nat) = 9999 + 1 from rfl, Op.equalIn]
  simp only [Sem.run_bind, run_underlying Try.underlying86, Result.andThen_ok]
  simp only [Std.Legacy.Range.forIn_eq_forIn_range', Std.Legacy.Range.size, Nat.sub_zero, Nat.add_sub_cancel, Nat.div_one, List.range'_succ, List.range'_zero, List.forIn_cons, List.forIn_nil]
  go_simp
  by_cases h0 : p0 = q0
  case neg => simp [h0]
  by_cases h1 : p1 = q1
  case neg => simp [h0, h1]
  by_cases h2 : p2 = q2
  case neg => simp [h0, h1, h2]
  simp [h0, h1, h2]

/-- The number that the program takes for a code of tier 3, and whether there is one. -/
def numI (lo hi c : Int) : Int := if c = -1 then (if -1048576 < lo then lo - 1 else if hi < 1048576 then hi + 1 else 0) else cellLo lo hi 3 c
def numIB (lo hi c : Int) : Bool := if c = -1 then decide (-1048576 < lo) || decide (hi < 1048576) else cellB lo hi 3 c
/-- Whether a place's codes are those of a number. -/
def rowAt (lo hi a b c : Int) : Bool := numIB lo hi c && ((codeB lo hi 1 (numI lo hi c) == a) && ((codeB lo hi 2 (numI lo hi c) == b) && (codeB lo hi 3 (numI lo hi c) == c)))

theorem rowAt_def (lo hi a b c : Int) : rowAt lo hi a b c = (numIB lo hi c && ((codeB lo hi 1 (numI lo hi c) == a) && ((codeB lo hi 2 (numI lo hi c) == b) && (codeB lo hi 3 (numI lo hi c) == c)))) := rfl

theorem rowAt_codes {lo hi a b c : Int} (hr : rightB lo hi = true) (h : rowAt lo hi a b c = true) : CodesAt a b c := by
  simp only [rowAt, Bool.and_eq_true, beq_iff_eq] at h
  obtain ⟨_, h1, h2, h3⟩ := h
  have := codeB_ok (x := numI lo hi c) hr
  rwa [h1, h2, h3] at this

set_option maxHeartbeats 800000 in
theorem numberBeside_any (lo hi : Int) (w : World) (hr : rightB lo hi = true) :
    Calls Try.prog 61 #[.agg #[.int .i64 lo, .int .i64 hi]] w fun e w' => e = .returned (.tuple #[.int .i64 (numI lo hi (-1)), .bool (numIB lo hi (-1))]) ∧ Below w.heap.size w w' := by
  obtain ⟨a1, a2, a3, a4, a5⟩ := right_nums hr
  simp only [numI, numIB, if_true]
  by_cases h1 : -1048576 < lo
  · simp only [h1, if_true, decide_true, Bool.true_or]
    go_enter Try.func61, Try.ntmps61
    go_wp2_with fail
    refine bodyPost_ret (v := .tuple #[.int .i64 (lo - 1), .bool true]) ?_ rfl ⟨rfl, (by repeat' first | with_reducible exact Below.refl _ _ | with_reducible assumption | with_reducible refine below_drewN ?_ _ | with_reducible refine balloc ?_ _ | with_reducible refine Below.drew ?_ | with_reducible refine Below.setCell ?_ (by first | (simp; done) | (simp; omega) | omega) _ | with_reducible refine bstep ?_ (by assumption))⟩
    simp [results, Try.results61, go_sem]
  · by_cases h2 : hi < 1048576
    · simp only [h1, h2, if_true, if_false, decide_true, decide_false, Bool.or_true]
      go_enter Try.func61, Try.ntmps61
      go_wp2_with fail
      refine bodyPost_ret (v := .tuple #[.int .i64 (hi + 1), .bool true]) ?_ rfl ⟨rfl, (by repeat' first | with_reducible exact Below.refl _ _ | with_reducible assumption | with_reducible refine below_drewN ?_ _ | with_reducible refine balloc ?_ _ | with_reducible refine Below.drew ?_ | with_reducible refine Below.setCell ?_ (by first | (simp; done) | (simp; omega) | omega) _ | with_reducible refine bstep ?_ (by assumption))⟩
      simp [results, Try.results61, go_sem]
    · simp only [h1, h2, if_false, decide_false, Bool.or_false]
      go_enter Try.func61, Try.ntmps61
      go_wp2_with fail
      refine bodyPost_ret (v := .tuple #[.int .i64 0, .bool false]) ?_ rfl ⟨rfl, (by repeat' first | with_reducible exact Below.refl _ _ | with_reducible assumption | with_reducible refine below_drewN ?_ _ | with_reducible refine balloc ?_ _ | with_reducible refine Below.drew ?_ | with_reducible refine Below.setCell ?_ (by first | (simp; done) | (simp; omega) | omega) _ | with_reducible refine bstep ?_ (by assumption))⟩
      simp [results, Try.results61, go_sem]

set_option maxHeartbeats 800000 in
theorem numberOf_any (lo hi c : Int) (w : World) (hr : rightB lo hi = true) :
    Calls Try.prog 50 #[.agg #[.int .i64 lo, .int .i64 hi], .int .i64 c] w fun e w' => e = .returned (.tuple #[.int .i64 (numI lo hi c), .bool (numIB lo hi c)]) ∧ Below w.heap.size w w' := by
  by_cases hc : c = -1
  · subst hc
    have N := hide (fun w => numberBeside_any lo hi w hr)
    generalize numI lo hi (-1) = x at N ⊢
    generalize numIB lo hi (-1) = y at N ⊢
    go_enter Try.func50, Try.ntmps50
    go_wp2_with fail
    refine (N.out _).mono ?_
    rintro e w1 ⟨rfl, hb1⟩
    go_wp2_with fail
    refine bodyPost_ret (v := .tuple #[.int .i64 x, .bool y]) ?_ rfl ⟨rfl, (by repeat' first | with_reducible exact Below.refl _ _ | with_reducible assumption | with_reducible refine below_drewN ?_ _ | with_reducible refine balloc ?_ _ | with_reducible refine Below.drew ?_ | with_reducible refine Below.setCell ?_ (by first | (simp; done) | (simp; omega) | omega) _ | with_reducible refine bstep ?_ (by assumption))⟩
    simp [results, Try.results50, go_sem]
  · have hc' : (c == -1) = false := by simpa using hc
    have C := hide (iCellOf_any lo hi 3 c)
    simp only [numI, numIB, hc, if_false]
    unfold cellT at C
    generalize cellLo lo hi 3 c = x at C ⊢
    generalize cellHi lo hi 3 c = z at C
    generalize cellB lo hi 3 c = y at C ⊢
    go_enter Try.func50, Try.ntmps50
    go_wp2_with fail
    refine (C.out _).mono ?_
    rintro e w1 ⟨rfl, hb1⟩
    go_wp2_with fail
    refine bodyPost_ret (v := .tuple #[.int .i64 x, .bool y]) ?_ rfl ⟨rfl, (by repeat' first | with_reducible exact Below.refl _ _ | with_reducible assumption | with_reducible refine below_drewN ?_ _ | with_reducible refine balloc ?_ _ | with_reducible refine Below.drew ?_ | with_reducible refine Below.setCell ?_ (by first | (simp; done) | (simp; omega) | omega) _ | with_reducible refine bstep ?_ (by assumption))⟩
    simp [results, Try.results50, go_sem]

/-- A row that is read: three slices of numbers. -/
structure RowV where
  a1 : Option Addr
  a2 : Option Addr
  a3 : Option Addr
  m1 : Nat
  m2 : Nat
  m3 : Nat
  k1 : Nat
  k2 : Nat
  k3 : Nat
def RowV.v (r : RowV) : Value := .agg #[.slice r.a1 r.m1 r.k1, .slice r.a2 r.m2 r.k2, .slice r.a3 r.m3 r.k3]
structure RowV.is (r : RowV) (w : World) (L1 L2 L3 : List Int) : Prop where
  r1 : Row w r.a1 r.m1 L1
  r2 : Row w r.a2 r.m2 L2
  r3 : Row w r.a3 r.m3 L3

theorem RowV.is.below {r : RowV} {w w' : World} {L1 L2 L3 : List Int} (h : r.is w L1 L2 L3) (hb : Below w.heap.size w w') : r.is w' L1 L2 L3 := ⟨h.r1.below hb, h.r2.below hb, h.r3.below hb⟩

/-- Whether a row is that of some vector. -/
def rowOkB (n : Nat) (f g : Nat → Int) (L1 L2 L3 : List Int) : Bool := boxB n f g && (decide (L1.length = n ∧ L2.length = n ∧ L3.length = n) && allN n (fun i => rowAt (f i) (g i) (nth L1 i) (nth L2 i) (nth L3 i)))

/-- What packRow holds in its loop: the row's box, that of its answer, that of the packed row under way. -/
structure PR (w0 w : World) (s1 s2 s3 : Value) (q : Nat) (A B C D n : Value) : Prop where
  box : TriW w w0.heap.size s1 s2 s3
  res : Five w (w0.heap.size + 1) (.int .u8 0) (.int .u32 0) (.int .u64 0) (.int .u8 0) (.int .i64 0)
  pk : Five w q A B C D n
  far : w0.heap.size + 2 ≤ q
  bel : Below w0.heap.size w0 w

theorem PR.below {w0 w w' : World} {s1 s2 s3 : Value} {q : Nat} {A B C D n : Value} (h : PR w0 w s1 s2 s3 q A B C D n) (hb : Below w.heap.size w w') : PR w0 w' s1 s2 s3 q A B C D n := ⟨h.box.below hb, h.res.below hb, h.pk.below hb, h.far, bstep h.bel hb⟩

theorem PR.set {w0 w : World} {s1 s2 s3 : Value} {q : Nat} {A B C D n : Value} (h : PR w0 w s1 s2 s3 q A B C D n) (A' B' C' D' n' : Value) : PR w0 (((((w.setCell ⟨q, 0, none⟩ A').setCell ⟨q, 1, none⟩ B').setCell ⟨q, 2, none⟩ C').setCell ⟨q, 3, none⟩ D').setCell ⟨q, 4, none⟩ n') s1 s2 s3 q A' B' C' D' n' := by
  have hq := h.far
  have d1 : w0.heap.size ≠ q := by omega
  have d2 : w0.heap.size + 1 ≠ q := by omega
  exact ⟨((((h.box.away _ _ d1).away _ _ d1).away _ _ d1).away _ _ d1).away _ _ d1, ((((h.res.away _ _ d2).away _ _ d2).away _ _ d2).away _ _ d2).away _ _ d2, h.pk.set _ _ _ _ _, h.far, ((((h.bel.setCell (by simp; omega) _).setCell (by simp; omega) _).setCell (by simp; omega) _).setCell (by simp; omega) _).setCell (by simp; omega) _⟩

def pkV (ok : Bool) (c1 c2 c3 : Nat → Int) (n : Nat) : Value := if ok then PK c1 c2 c3 n n else PK0

/-- A range's box, and behind it that of a place's codes. -/
structure NB (w : World) (b : Nat) (lo hi x y z : Int) : Prop where
  lt : b + 1 < w.heap.size
  c0 : w.cell? ⟨b, 0, none⟩ = some (.int .i64 lo)
  c1 : w.cell? ⟨b, 1, none⟩ = some (.int .i64 hi)
  d0 : w.cell? ⟨b + 1, 0, none⟩ = some (.int .i64 x)
  d1 : w.cell? ⟨b + 1, 1, none⟩ = some (.int .i64 y)
  d2 : w.cell? ⟨b + 1, 2, none⟩ = some (.int .i64 z)

theorem NB.below {w w' : World} {b : Nat} {lo hi x y z : Int} (h : NB w b lo hi x y z) (hb : Below w.heap.size w w') : NB w' b lo hi x y z :=
  ⟨Nat.lt_of_lt_of_le h.lt hb.size, (hb.cell (p := ⟨b, 0, none⟩) (by have := h.lt; show b < _; omega)).trans h.c0, (hb.cell (p := ⟨b, 1, none⟩) (by have := h.lt; show b < _; omega)).trans h.c1, (hb.cell (p := ⟨b + 1, 0, none⟩) h.lt).trans h.d0, (hb.cell (p := ⟨b + 1, 1, none⟩) h.lt).trans h.d1, (hb.cell (p := ⟨b + 1, 2, none⟩) h.lt).trans h.d2⟩

set_option maxHeartbeats 8000000 in
set_option maxRecDepth 4000 in
theorem packRow_some (b off n cap : Nat) (f g : Nat → Int) (b1 o1 k1 b2 o2 k2 b3 o3 k3 : Nat) (L1 L2 L3 : List Int) (w : World) (h8 : n ≤ 8) (hb : b < w.heap.size) (hb1 : b1 < w.heap.size) (hb2 : b2 < w.heap.size) (hb3 : b3 < w.heap.size)
    (hr : ∀ i, i < n → rightB (f i) (g i) = true)
    (hc : ∀ i, i < n → w.cell? ⟨b, off + i * 2, none⟩ = some (.int .i64 (f i)) ∧ w.cell? ⟨b, off + i * 2 + 1, none⟩ = some (.int .i64 (g i)))
    (hc1 : ∀ i, i < n → w.cell? ⟨b1, o1 + i, none⟩ = some (.int .i64 (nth L1 i)))
    (hc2 : ∀ i, i < n → w.cell? ⟨b2, o2 + i, none⟩ = some (.int .i64 (nth L2 i)))
    (hc3 : ∀ i, i < n → w.cell? ⟨b3, o3 + i, none⟩ = some (.int .i64 (nth L3 i)))
    (BO : Hid (∀ w1, Below w.heap.size w w1 → Calls Try.prog 31 #[.slice (some ⟨b, off, none⟩) n cap] w1 fun e w' => e = .returned (.bool true) ∧ Below w1.heap.size w1 w')) :
    Calls Try.prog 33 #[.slice (some ⟨b, off, none⟩) n cap, .agg #[.slice (some ⟨b1, o1, none⟩) n k1, .slice (some ⟨b2, o2, none⟩) n k2, .slice (some ⟨b3, o3, none⟩) n k3]] w fun e w' =>
      e = .returned (.tuple #[pkV (allN n (fun i => rowAt (f i) (g i) (nth L1 i) (nth L2 i) (nth L3 i))) (nth L1) (nth L2) (nth L3) n, .bool (allN n (fun i => rowAt (f i) (g i) (nth L1 i) (nth L2 i) (nth L3 i)))]) ∧ Below w.heap.size w w' := by
  obtain ⟨okk, hokk⟩ : ∃ v, allN n (fun i => rowAt (f i) (g i) (nth L1 i) (nth L2 i) (nth L3 i)) = v := ⟨_, rfl⟩
  have HOK := hide hokk
  rw [hokk]
  clear hokk
  have HRR := hide hr
  have HC := hide hc
  have HC1 := hide hc1
  have HC2 := hide hc2
  have HC3 := hide hc3
  clear hr hc hc1 hc2 hc3
  have hnn : ((n : Int) != (n : Int)) = false := by simp
  have NU := hide (fun (k : Nat) (hk : k < n) (w1 : World) => numberOf_any (f k) (g k) (nth L3 k) w1 (HRR.out k hk))
  have CO' := hide (fun (k : Nat) (x : Int) => codesOf_any (f k) (g k) x)
  go_enter Try.func33, Try.ntmps33
  go_wp2_with fail
  refine (BO.out _ (by repeat' first | with_reducible exact Below.refl _ _ | with_reducible assumption | with_reducible refine below_drewN ?_ _ | with_reducible refine balloc ?_ _ | with_reducible refine Below.drew ?_ | with_reducible refine Below.setCell ?_ (by first | (simp; done) | (simp; omega) | omega) _ | with_reducible refine bstep ?_ (by assumption))).mono ?_
  rintro e w1 ⟨rfl, hw1⟩
  have T1 : TriW w1 w.heap.size (.slice (some ⟨b1, o1, none⟩) n k1) (.slice (some ⟨b2, o2, none⟩) n k2) (.slice (some ⟨b3, o3, none⟩) n k3) := ((TriW.new w _ _ _ _ _ rfl).alloc _).below hw1
  have F1 : Five w1 (w.heap.size + 1) (.int .u8 0) (.int .u32 0) (.int .u64 0) (.int .u8 0) (.int .i64 0) := (Five.new (w.alloc _) _ _ _ _ _ _ _ (by simp)).below hw1
  have B1 : Below w.heap.size w w1 := (by repeat' first | with_reducible exact Below.refl _ _ | with_reducible assumption | with_reducible refine below_drewN ?_ _ | with_reducible refine balloc ?_ _ | with_reducible refine Below.drew ?_ | with_reducible refine Below.setCell ?_ (by first | (simp; done) | (simp; omega) | omega) _ | with_reducible refine bstep ?_ (by assumption))
  have z1 := F1.lt
  have HT1 := hide T1
  have HF1 := hide F1
  have HB1 := hide B1
  obtain ⟨_, t0, t1, t2, _, _, _⟩ := T1
  clear hw1 F1 B1
  go_wp2_with fail
  go_loopw [44] (fun i wr => ∃ k : Nat, k ≤ n ∧ i = .int .i64 k ∧ (∀ j, j < k → rowAt (f j) (g j) (nth L1 j) (nth L2 j) (nth L3 j) = true) ∧ PR w wr (.slice (some ⟨b1, o1, none⟩) n k1) (.slice (some ⟨b2, o2, none⟩) n k2) (.slice (some ⟨b3, o3, none⟩) n k3) w1.heap.size (.int .u8 (pA (nth L1) (nth L2) (nth L3) k)) (.int .u32 (pB (nth L1) (nth L2) (nth L3) k)) (.int .u64 (pC (nth L1) (nth L2) (nth L3) k)) (.int .u8 (pD (nth L1) (nth L2) (nth L3) k)) (.int .i64 n)) (fun i _ => n - (intOf i).toNat)
  case atStart =>
    exact ⟨0, Nat.zero_le _, rfl, fun j h => absurd h (by omega), ⟨HT1.out.alloc _, HF1.out.below (balloc (Below.refl _ _) _), Five.new w1 _ _ _ _ _ _ _ rfl, by omega, balloc HB1.out _⟩⟩
  case round =>
    clear t0 t1 t2 HT1 HF1 HB1
    obtain ⟨k, hk, rfl, hpre, hP⟩ := hrel
    have HP := hide hP
    have HPRE := hide hpre
    clear hpre
    by_cases hlt : k < n
    · have hbel := hP.bel
      have y1 : wr.cell? ⟨b, off + k * 2, none⟩ = some (.int .i64 (f k)) := (hbel.cell (p := ⟨b, off + k * 2, none⟩) hb).trans (HC.out k hlt).1
      have y2 : wr.cell? ⟨b, off + k * 2 + 1, none⟩ = some (.int .i64 (g k)) := (hbel.cell (p := ⟨b, off + k * 2 + 1, none⟩) hb).trans (HC.out k hlt).2
      have x1 : wr.cell? ⟨b1, o1 + k, none⟩ = some (.int .i64 (nth L1 k)) := (hbel.cell (p := ⟨b1, o1 + k, none⟩) hb1).trans (HC1.out k hlt)
      have x2 : wr.cell? ⟨b2, o2 + k, none⟩ = some (.int .i64 (nth L2 k)) := (hbel.cell (p := ⟨b2, o2 + k, none⟩) hb2).trans (HC2.out k hlt)
      have x3 : wr.cell? ⟨b3, o3 + k, none⟩ = some (.int .i64 (nth L3 k)) := (hbel.cell (p := ⟨b3, o3 + k, none⟩) hb3).trans (HC3.out k hlt)
      have e0 := hbel.size
      have lb1 : b1 < wr.heap.size := by omega
      have lb2 : b2 < wr.heap.size := by omega
      have lb3 : b3 < wr.heap.size := by omega
      obtain ⟨lt, t0, t1, t2, _, _, _⟩ := hP.box
      have hlt' : (k : Int) < (n : Int) := by omega
      clear hP hbel
      go_upto_region 8 with fail
      go_region
      go_wp2_with fail
      refine (NU.out k hlt _).mono ?_
      rintro e wa ⟨rfl, hba⟩
      have ba : Below wr.heap.size wr ((wr.alloc (.cells #[.int .i64 (f k), .int .i64 (g k)] 48)).alloc (.cells #[.int .i64 (nth L1 k), .int .i64 (nth L2 k), .int .i64 (nth L3 k)] 86)).drew := Below.drew (balloc (balloc (Below.refl _ _) _) _)
      have HP := hide ((HP.out.below ba).below hba)
      have Ta : TriW wa (wr.heap.size + 1) (.int .i64 (nth L1 k)) (.int .i64 (nth L2 k)) (.int .i64 (nth L3 k)) := ((TriW.new (wr.alloc (.cells #[.int .i64 (f k), .int .i64 (g k)] 48)) (.int .i64 (nth L1 k)) (.int .i64 (nth L2 k)) (.int .i64 (nth L3 k)) 86 _ (by simp)).drew).below hba
      have HTa := hide Ta
      have c0 : wa.cell? ⟨wr.heap.size, 0, none⟩ = some (.int .i64 (f k)) := (hba.cell (p := ⟨wr.heap.size, 0, none⟩) (by simp; omega)).trans (by simp [go_sem])
      have c1 : wa.cell? ⟨wr.heap.size, 1, none⟩ = some (.int .i64 (g k)) := (hba.cell (p := ⟨wr.heap.size, 1, none⟩) (by simp; omega)).trans (by simp [go_sem])
      have l9 : wr.heap.size + 1 < wa.heap.size := Ta.lt
      obtain ⟨_, d0, d1, d2, _, _, _⟩ := Ta
      have C := hide (CO'.out k (numI (f k) (g k) (nth L3 k)))
      have WI := hide (fun (h : CodesOk (k + 1) (nth L1) (nth L2) (nth L3)) (w1 : World) => with_any (nth L1) (nth L2) (nth L3) n k w1 (by omega) h)
      have EA := hide (rowAt_def (f k) (g k) (nth L1 k) (nth L2 k) (nth L3 k))
      have RC := hide (rowAt_codes (a := nth L1 k) (b := nth L2 k) (c := nth L3 k) (HRR.out k hlt))
      have he := eqArr3 (codeB (f k) (g k) 1 (numI (f k) (g k) (nth L3 k))) (codeB (f k) (g k) 2 (numI (f k) (g k) (nth L3 k))) (codeB (f k) (g k) 3 (numI (f k) (g k) (nth L3 k))) (nth L1 k) (nth L2 k) (nth L3 k)
      generalize codeB (f k) (g k) 1 (numI (f k) (g k) (nth L3 k)) = v1 at C he EA
      generalize codeB (f k) (g k) 2 (numI (f k) (g k) (nth L3 k)) = v2 at C he EA
      generalize codeB (f k) (g k) 3 (numI (f k) (g k) (nth L3 k)) = v3 at C he EA
      generalize numI (f k) (g k) (nth L3 k) = x at C
      clear y1 y2 x1 x2 x3 hba ba t0 t1 t2
      cases hok : numIB (f k) (g k) (nth L3 k)
      · have HE : Hid (rowAt (f k) (g k) (nth L1 k) (nth L2 k) (nth L3 k) = false) := hide (by rw [EA.out, hok]; rfl)
        obtain ⟨_, s0, s1, s2, s3, s4, p0, p1, p2, p3, p4⟩ := HP.out.res
        clear hok EA he c0 c1 d0 d1 d2
        go_upto_region 10 with fail
        go_quiet (fail)
        go_wp2_with fail
        refine bodyPost_ret (v := .tuple #[PK0, .bool false]) ?_ rfl ⟨?_, ?_⟩
        · simp [results, Try.results33, go_sem, *]
        · have hz : okk = false := by rw [← HOK.out]; exact allN_no hlt HE.out
          rw [hz]; rfl
        · have hB := HP.out.bel
          exact (by repeat' first | with_reducible exact Below.refl _ _ | with_reducible assumption | with_reducible refine below_drewN ?_ _ | with_reducible refine balloc ?_ _ | with_reducible refine Below.drew ?_ | with_reducible refine Below.setCell ?_ (by first | (simp; done) | (simp; omega) | omega) _ | with_reducible refine bstep ?_ (by assumption))
      · have HE : Hid (rowAt (f k) (g k) (nth L1 k) (nth L2 k) (nth L3 k) = ((v1 == nth L1 k) && ((v2 == nth L2 k) && (v3 == nth L3 k)))) := hide (by rw [EA.out, hok, Bool.true_and])
        generalize ((v1 == nth L1 k) && ((v2 == nth L2 k) && (v3 == nth L3 k))) = v at he HE
        clear hok EA
        have SN : Hid (NB wa.drew wr.heap.size (f k) (g k) (nth L1 k) (nth L2 k) (nth L3 k)) := hide ⟨l9, c0, c1, d0, d1, d2⟩
        go_upto_region 10 with fail
        refine wp_region_held_drew (S := fun wx => NB wx wr.heap.size (f k) (g k) (nth L1 k) (nth L2 k) (nth L3 k)) (by kernel_rfl) (SN.out) (fun hH0 => ?_)
        refine wpAnyH_take (i := 0) (oi := { dst := some 72, op := _, type := _, pos := _, after := _, guard := _ }) (v := ?_) rfl (by kernel_rfl) (by kernel_rfl) (by kernel_rfl) (fun _ _ _ h => h) (Or.inl ⟨by rfl, ?_⟩) (hH0) ?_
        rotate_left
        · (intro wx hSw; obtain ⟨_, q0, q1, q2, q3, q4⟩ := hSw; go_simp <;> with_reducible rfl)
        simp only [Act.put, List.setIfInBounds_toArray, List.set_cons_zero, List.set_cons_succ]
        refine wpAnyH_take (i := 1) (oi := { dst := some 73, op := _, type := _, pos := _, after := _, guard := _ }) (v := ?_) rfl (by kernel_rfl) (by kernel_rfl) (by kernel_rfl) (fun _ _ _ h => h) (Or.inl ⟨by rfl, ?_⟩) (hH0) ?_
        rotate_left
        · (intro wx hSw; obtain ⟨_, q0, q1, q2, q3, q4⟩ := hSw; go_simp <;> with_reducible rfl)
        simp only [Act.put, List.setIfInBounds_toArray, List.set_cons_zero, List.set_cons_succ]
        refine wpAnyH_take (i := 2) (oi := { dst := some 74, op := _, type := _, pos := _, after := _, guard := _ }) (v := ?_) rfl (by kernel_rfl) (by kernel_rfl) (by kernel_rfl) (fun _ _ _ h => h) (Or.inl ⟨by rfl, ?_⟩) (hH0) ?_
        rotate_left
        · (intro wx hSw; obtain ⟨_, q0, q1, q2, q3, q4⟩ := hSw; go_simp <;> with_reducible rfl)
        simp only [Act.put, List.setIfInBounds_toArray, List.set_cons_zero, List.set_cons_succ]
        refine wpAnyH_take (i := 3) (oi := { dst := some 75, op := _, type := _, pos := _, after := _, guard := _ }) (v := ?_) rfl (by kernel_rfl) (by kernel_rfl) (by kernel_rfl) (fun _ _ _ h => h) (Or.inl ⟨by rfl, ?_⟩) (hH0) ?_
        rotate_left
        · (intro wx hSw; obtain ⟨_, q0, q1, q2, q3, q4⟩ := hSw; go_simp <;> with_reducible rfl)
        simp only [Act.put, List.setIfInBounds_toArray, List.set_cons_zero, List.set_cons_succ]
        refine wpAnyH_take (i := 4) (oi := { dst := some 76, op := _, type := _, pos := _, after := _, guard := _ }) (v := ?_) rfl (by kernel_rfl) (by kernel_rfl) (by kernel_rfl) (fun _ _ _ h => h) (Or.inl ⟨by rfl, ?_⟩) (hH0) ?_
        rotate_left
        · (intro wx hSw; obtain ⟨_, q0, q1, q2, q3, q4⟩ := hSw; go_simp <;> with_reducible rfl)
        simp only [Act.put, List.setIfInBounds_toArray, List.set_cons_zero, List.set_cons_succ]
        refine wpAnyH_take (i := 6) (oi := { dst := some 78, op := _, type := _, pos := _, after := _, guard := _ }) (v := ?_) rfl (by kernel_rfl) (by kernel_rfl) (by kernel_rfl) (fun _ _ _ h => h) (Or.inl ⟨by rfl, ?_⟩) (hH0) ?_
        rotate_left
        · (intro wx hSw; obtain ⟨_, q0, q1, q2, q3, q4⟩ := hSw; go_simp <;> with_reducible rfl)
        simp only [Act.put, List.setIfInBounds_toArray, List.set_cons_zero, List.set_cons_succ]
        refine wpAnyH_ready (rs := [5]) (by kernel_rfl) (by simp) ?_
        refine AllReadyH.cons (o := { dst := some 77, op := _, type := _, pos := _, after := _, guard := _ }) rfl (fun K hK => ?_) AllReadyH.nil
        go_simp
        refine (C.out _).mono ?_
        rintro e w_c77_1 ⟨rfl, hb_c77_1⟩
        dsimp only
        refine hK.out _ _ (NB.below hH0 hb_c77_1) (fun hH1 => ?_)
        clear hK K
        refine wpAnyH_take (i := 7) (oi := { dst := some 79, op := _, type := _, pos := _, after := _, guard := _ }) (v := ?_) rfl (by kernel_rfl) (by kernel_rfl) (by kernel_rfl) (fun _ _ _ h => h) (Or.inl ⟨by rfl, ?_⟩) (hH1) ?_
        rotate_left
        · (intro wx hSw; obtain ⟨_, q0, q1, q2, q3, q4⟩ := hSw; go_simp <;> with_reducible rfl)
        simp only [Act.put, List.setIfInBounds_toArray, List.set_cons_zero, List.set_cons_succ]
        refine wpAnyH_take (i := 8) (oi := { dst := some 80, op := _, type := _, pos := _, after := _, guard := _ }) (v := ?_) rfl (by kernel_rfl) (by kernel_rfl) (by kernel_rfl) (fun _ _ _ h => h) (Or.inl ⟨by rfl, ?_⟩) (hH1) ?_
        rotate_left
        · (intro wx hSw; obtain ⟨_, q0, q1, q2, q3, q4⟩ := hSw; go_simp <;> with_reducible rfl)
        simp only [Act.put, List.setIfInBounds_toArray, List.set_cons_zero, List.set_cons_succ]
        refine wpAnyH_done (by kernel_rfl) ?_ _
        -- behind it: go_wp2_with fail, then go_meet (a cut) or go_ret; the condition at the end: hH1
        all_goals
          have HPb := hide (HP.out.below (bstep (Below.drew (Below.refl _ _)) hb_c77_1))
          obtain ⟨_, _, _, d0b, d1b, d2b⟩ := hH1
          clear hb_c77_1 c0 c1 d0 d1 d2
          obtain ⟨_, s0, s1, s2, s3, s4, p0, p1, p2, p3, p4⟩ := HPb.out.res
          obtain ⟨_, r0, r1, r2, r3, r4, i0, i1, i2, i3, i4⟩ := HPb.out.pk
          cases v
          · go_wp2_with fail
            refine bodyPost_ret (v := .tuple #[PK0, .bool false]) ?_ rfl ⟨?_, ?_⟩
            · simp [results, Try.results33, go_sem, *]
            · have hz : okk = false := by rw [← HOK.out]; exact allN_no hlt HE.out
              rw [hz]; rfl
            · have hB := HPb.out.bel
              exact (by repeat' first | with_reducible exact Below.refl _ _ | with_reducible assumption | with_reducible refine below_drewN ?_ _ | with_reducible refine balloc ?_ _ | with_reducible refine Below.drew ?_ | with_reducible refine Below.setCell ?_ (by first | (simp; done) | (simp; omega) | omega) _ | with_reducible refine bstep ?_ (by assumption))
          · have CK : CodesOk (k + 1) (nth L1) (nth L2) (nth L3) := fun i hi => by
              rcases Nat.lt_succ_iff_lt_or_eq.1 hi with h | h
              · exact rowAt_codes (HRR.out i (by omega)) (HPRE.out i h)
              · rw [h]; exact RC.out HE.out
            have W := hide (WI.out CK)
            clear CK
            go_wp2_with fail
            refine (W.out _).mono ?_
            rintro e wc ⟨rfl, hbc⟩
            have HPc := hide (HPb.out.below hbc)
            obtain ⟨_, r0c, r1c, r2c, r3c, r4c, i0c, i1c, i2c, i3c, i4c⟩ := HPc.out.pk
            clear hbc s0 s1 s2 s3 s4 p0 p1 p2 p3 p4 r0 r1 r2 r3 r4 i0 i1 i2 i3 i4 d0b d1b d2b
            go_wp2_with fail
            go_roundw
            case rel => exact ⟨k + 1, by omega, by go_num, fun j hj => (by rcases Nat.lt_succ_iff_lt_or_eq.1 hj with h | h; exact HPRE.out j h; rw [h]; exact HE.out), HPc.out.set _ _ _ _ _⟩
            case measure => simp [intOf]; omega
    · obtain rfl : k = n := by omega
      obtain ⟨_, s0, s1, s2, s3, s4, p0, p1, p2, p3, p4⟩ := hP.res
      obtain ⟨_, r0, r1, r2, r3, r4, i0, i1, i2, i3, i4⟩ := hP.pk
      have fr := hP.far
      have d7 : w.heap.size + 1 ≠ w1.heap.size := by omega
      clear hP
      go_wp2_with fail
      refine bodyPost_ret (v := .tuple #[PK (nth L1) (nth L2) (nth L3) k k, .bool true]) ?_ rfl ⟨?_, ?_⟩
      · simp [results, Try.results33, go_sem, *]
      · have hz : okk = true := by rw [← HOK.out]; exact allN_yes (fun j hj => HPRE.out j hj)
        rw [hz]; rfl
      · have hB := HP.out.bel
        exact (by repeat' first | with_reducible exact Below.refl _ _ | with_reducible assumption | with_reducible refine below_drewN ?_ _ | with_reducible refine balloc ?_ _ | with_reducible refine Below.drew ?_ | with_reducible refine Below.setCell ?_ (by first | (simp; done) | (simp; omega) | omega) _ | with_reducible refine bstep ?_ (by assumption))
end Go.Proofs.Ythiklcldbjmgfaa

/- Rows that are right: packRow of the program at all arguments, RowOk of the program; of the model: lists held against each other. -/
namespace Go.Proofs.Ythiklcldbjmgfaa
open Go.RowKit
set_option maxRecDepth 8000
set_option linter.unusedSimpArgs false
set_option linter.unusedVariables false

set_option maxHeartbeats 4000000 in
theorem packRow_no (a : Option Addr) (n cap : Nat) (r : RowV) (w : World) (v : Bool) (hh : v = true → ¬ (r.m1 = n ∧ r.m2 = n ∧ r.m3 = n))
    (BO : Hid (∀ w1, Below w.heap.size w w1 → Calls Try.prog 31 #[.slice a n cap] w1 fun e w' => e = .returned (.bool v) ∧ Below w1.heap.size w1 w')) :
    Calls Try.prog 33 #[.slice a n cap, r.v] w fun e w' => e = .returned (.tuple #[PK0, .bool false]) ∧ Below w.heap.size w w' := by
  obtain ⟨a1, a2, a3, m1, m2, m3, k1, k2, k3⟩ := r
  unfold RowV.v
  simp only at hh ⊢
  have HH := hide hh
  clear hh
  cases v
  · go_enter Try.func33, Try.ntmps33
    go_wp2_with fail
    refine (BO.out _ (by repeat' first | with_reducible exact Below.refl _ _ | with_reducible assumption | with_reducible refine below_drewN ?_ _ | with_reducible refine balloc ?_ _ | with_reducible refine Below.drew ?_ | with_reducible refine Below.setCell ?_ (by first | (simp; done) | (simp; omega) | omega) _ | with_reducible refine bstep ?_ (by assumption))).mono ?_
    rintro e w1 ⟨rfl, hw1⟩
    have F1 : Five w1 (w.heap.size + 1) (.int .u8 0) (.int .u32 0) (.int .u64 0) (.int .u8 0) (.int .i64 0) := (Five.new (w.alloc _) _ _ _ _ _ _ _ (by simp)).below hw1
    have B1 : Below w.heap.size w w1 := (by repeat' first | with_reducible exact Below.refl _ _ | with_reducible assumption | with_reducible refine below_drewN ?_ _ | with_reducible refine balloc ?_ _ | with_reducible refine Below.drew ?_ | with_reducible refine Below.setCell ?_ (by first | (simp; done) | (simp; omega) | omega) _ | with_reducible refine bstep ?_ (by assumption))
    obtain ⟨_, s0, s1, s2, s3, s4, p0, p1, p2, p3, p4⟩ := F1
    clear hw1
    go_wp2_with fail
    refine bodyPost_ret (v := .tuple #[PK0, .bool false]) ?_ rfl ⟨rfl, ?_⟩
    · simp [results, Try.results33, go_sem, *]
    · exact ((((B1.setCell (by simp) _).setCell (by simp) _).setCell (by simp) _).setCell (by simp) _).setCell (by simp) _
  · have hD : ((m1 : Int) != (n : Int)) = true ∨ (((m1 : Int) != (n : Int)) = false ∧ ((m2 : Int) != (n : Int)) = true) ∨ (((m1 : Int) != (n : Int)) = false ∧ ((m2 : Int) != (n : Int)) = false ∧ ((m3 : Int) != (n : Int)) = true) := by
      have := HH.out rfl
      simp only [bne_iff_ne, bne_eq_false_iff_eq]
      omega
    rcases hD with h1 | ⟨h1, h2⟩ | ⟨h1, h2, h3⟩
    all_goals
      go_enter Try.func33, Try.ntmps33
      go_wp2_with fail
      refine (BO.out _ (by repeat' first | with_reducible exact Below.refl _ _ | with_reducible assumption | with_reducible refine below_drewN ?_ _ | with_reducible refine balloc ?_ _ | with_reducible refine Below.drew ?_ | with_reducible refine Below.setCell ?_ (by first | (simp; done) | (simp; omega) | omega) _ | with_reducible refine bstep ?_ (by assumption))).mono ?_
      rintro e w1 ⟨rfl, hw1⟩
      have T1 : TriW w1 w.heap.size (.slice a1 m1 k1) (.slice a2 m2 k2) (.slice a3 m3 k3) := ((TriW.new w _ _ _ _ _ rfl).alloc _).below hw1
      have F1 : Five w1 (w.heap.size + 1) (.int .u8 0) (.int .u32 0) (.int .u64 0) (.int .u8 0) (.int .i64 0) := (Five.new (w.alloc _) _ _ _ _ _ _ _ (by simp)).below hw1
      have B1 : Below w.heap.size w w1 := (by repeat' first | with_reducible exact Below.refl _ _ | with_reducible assumption | with_reducible refine below_drewN ?_ _ | with_reducible refine balloc ?_ _ | with_reducible refine Below.drew ?_ | with_reducible refine Below.setCell ?_ (by first | (simp; done) | (simp; omega) | omega) _ | with_reducible refine bstep ?_ (by assumption))
      obtain ⟨_, s0, s1, s2, s3, s4, p0, p1, p2, p3, p4⟩ := F1
      obtain ⟨_, t0, t1, t2, _, _, _⟩ := T1
      clear hw1
      go_wp2_with fail
      refine bodyPost_ret (v := .tuple #[PK0, .bool false]) ?_ rfl ⟨rfl, ?_⟩
      · simp [results, Try.results33, go_sem, s0, s1, s2, s3, s4]
      · exact ((((B1.setCell (by simp) _).setCell (by simp) _).setCell (by simp) _).setCell (by simp) _).setCell (by simp) _

theorem packRow_any (a : Option Addr) (n cap : Nat) (f g : Nat → Int) (r : RowV) (L1 L2 L3 : List Int) (w : World) (h : PRow w a n f g) (hr : r.is w L1 L2 L3) :
    Calls Try.prog 33 #[.slice a n cap, r.v] w fun e w' => e = .returned (.tuple #[pkV (rowOkB n f g L1 L2 L3) (nth L1) (nth L2) (nth L3) n, .bool (rowOkB n f g L1 L2 L3)]) ∧ Below w.heap.size w w' := by
  have BO := hide (fun w1 (hb : Below w.heap.size w w1) => iBoxOk_any a n cap f g w1 (h.below hb))
  unfold rowOkB
  have e1 := hr.r1.len
  have e2 := hr.r2.len
  have e3 := hr.r3.len
  cases hB : boxB n f g
  · rw [hB] at BO
    exact packRow_no a n cap r w false (fun q => by cases q) BO
  · rw [hB] at BO
    by_cases hm : L1.length = n ∧ L2.length = n ∧ L3.length = n
    · have hn8 := boxB_num' hB
      rcases h.lies with q | ⟨b, off, rfl, lt, hc⟩
      · omega
      · obtain ⟨a1, a2, a3, m1, m2, m3, k1, k2, k3⟩ := r
        obtain ⟨r1, r2, r3⟩ := hr
        simp only at r1 r2 r3 e1 e2 e3
        obtain rfl : m1 = n := by omega
        obtain rfl : m2 = m1 := by omega
        obtain rfl : m3 = m2 := by omega
        rw [decide_eq_true hm, Bool.true_and, Bool.true_and]
        rcases r1.lies with q | ⟨b1, o1, rfl, lt1, hc1⟩
        · omega
        rcases r2.lies with q | ⟨b2, o2, rfl, lt2, hc2⟩
        · omega
        rcases r3.lies with q | ⟨b3, o3, rfl, lt3, hc3⟩
        · omega
        exact packRow_some b off m3 cap f g b1 o1 k1 b2 o2 k2 b3 o3 k3 L1 L2 L3 w hn8.2 lt lt1 lt2 lt3 (fun i hi => boxB_at' hB hi) hc hc1 hc2 hc3 BO
    · rw [decide_eq_false hm]
      exact packRow_no a n cap r w true (fun _ q => hm (by omega)) BO



set_option maxHeartbeats 1600000 in
theorem l5SameInts_some (b off n cap b' off' cap' : Nat) (xs ys : List Int) (w : World) (hl : xs.length = n) (hl' : ys.length = n) (hn : n ≤ 1048576) (hb : b < w.heap.size) (hb' : b' < w.heap.size)
    (hc : ∀ i, i < n → w.cell? ⟨b, off + i, none⟩ = some (.int .i64 (nth xs i))) (hc' : ∀ i, i < n → w.cell? ⟨b', off' + i, none⟩ = some (.int .i64 (nth ys i))) :
    Calls Try.prog 44 #[.slice (some ⟨b, off, none⟩) n cap, .slice (some ⟨b', off', none⟩) n cap'] w fun e w' => e = .returned (.bool (decide (xs = ys))) ∧ Below w.heap.size w w' := by
  have hnn : ((n : Int) != (n : Int)) = false := by simp
  go_enter Try.func44, Try.ntmps44
  go_wp2_with fail
  go_loopw [5] (fun i wr => ∃ k : Nat, k ≤ n ∧ i = .int .i64 k ∧ (∀ j, j < k → nth xs j = nth ys j) ∧ Below w.heap.size w wr) (fun i _ => n - (intOf i).toNat)
  case atStart => exact ⟨0, Nat.zero_le _, rfl, fun j h => absurd h (by omega), (by repeat' first | with_reducible exact Below.refl _ _ | with_reducible assumption | with_reducible refine below_drewN ?_ _ | with_reducible refine balloc ?_ _ | with_reducible refine Below.drew ?_ | with_reducible refine Below.setCell ?_ (by first | (simp; done) | (simp; omega) | omega) _ | with_reducible refine bstep ?_ (by assumption))⟩
  case round =>
    obtain ⟨k, hk, rfl, hpre, hbel⟩ := hrel
    have HP := hide hpre
    have HC := hide hc
    have HC' := hide hc'
    have HB := hide hbel
    by_cases hlt : k < n
    · have z1 : wr.cell? ⟨b, off + k, none⟩ = some (.int .i64 (nth xs k)) := (hbel.cell (p := ⟨b, off + k, none⟩) hb).trans (hc k hlt)
      have z2 : wr.cell? ⟨b', off' + k, none⟩ = some (.int .i64 (nth ys k)) := (hbel.cell (p := ⟨b', off' + k, none⟩) hb').trans (hc' k hlt)
      have hlt' : (k : Int) < (n : Int) := by omega
      clear hpre hbel hc hc'
      by_cases he : nth xs k = nth ys k
      · have HE := hide he
        have hq : (nth xs k != nth ys k) = false := by rw [he]; simp
        clear he
        go_wp2_with fail
        go_quiet (fail)
        go_wp2_with fail
        go_roundw
        case rel =>
          have hbel := HB.out
          exact ⟨k + 1, by omega, by go_num, fun j hj => (by rcases Nat.lt_succ_iff_lt_or_eq.1 hj with h | h; exact HP.out j h; rw [h]; exact HE.out), (by repeat' first | with_reducible exact Below.refl _ _ | with_reducible assumption | with_reducible refine below_drewN ?_ _ | with_reducible refine balloc ?_ _ | with_reducible refine Below.drew ?_ | with_reducible refine Below.setCell ?_ (by first | (simp; done) | (simp; omega) | omega) _ | with_reducible refine bstep ?_ (by assumption))⟩
        case measure => simp [intOf]; omega
      · have HE := hide he
        have hq : (nth xs k != nth ys k) = true := by simpa using he
        clear he
        go_wp2_with fail
        go_quiet (fail)
        go_wp2_with fail
        go_ret
        have hbel := HB.out
        exact ⟨by rw [decide_eq_false (fun q => HE.out (by rw [q]))]; rfl, (by repeat' first | with_reducible exact Below.refl _ _ | with_reducible assumption | with_reducible refine below_drewN ?_ _ | with_reducible refine balloc ?_ _ | with_reducible refine Below.drew ?_ | with_reducible refine Below.setCell ?_ (by first | (simp; done) | (simp; omega) | omega) _ | with_reducible refine bstep ?_ (by assumption))⟩
    · clear hpre hbel hc hc'
      go_wp2_with fail
      go_ret
      exact ⟨by rw [decide_eq_true (nth_ext (hl.trans hl'.symm) fun j hj => HP.out j (by omega))]; rfl, HB.out⟩

set_option maxHeartbeats 400000 in
theorem l5SameInts_len (a a' : Option Addr) (n cap n' cap' : Nat) (w : World) (h : ¬ n = n') :
    Calls Try.prog 44 #[.slice a n cap, .slice a' n' cap'] w fun e w' => e = .returned (.bool false) ∧ Below w.heap.size w w' := by
  have hne : ((n : Int) != (n' : Int)) = true := by rw [bne_iff_ne]; omega
  go_enter Try.func44, Try.ntmps44
  go_wp2_with fail
  go_ret
  exact ⟨rfl, (by repeat' first | with_reducible exact Below.refl _ _ | with_reducible assumption | with_reducible refine below_drewN ?_ _ | with_reducible refine balloc ?_ _ | with_reducible refine Below.drew ?_ | with_reducible refine Below.setCell ?_ (by first | (simp; done) | (simp; omega) | omega) _ | with_reducible refine bstep ?_ (by assumption))⟩

theorem l5SameInts_any (a a' : Option Addr) (n cap n' cap' : Nat) (xs ys : List Int) (w : World) (h : Row w a n xs) (h' : Row w a' n' ys) (hn : n ≤ 1048576) (h0 : 1 ≤ n) :
    Calls Try.prog 44 #[.slice a n cap, .slice a' n' cap'] w fun e w' => e = .returned (.bool (decide (xs = ys))) ∧ Below w.heap.size w w' := by
  by_cases e : n = n'
  · subst e
    rcases h.lies with q | ⟨b, off, rfl, hb, hc⟩
    · omega
    · rcases h'.lies with q | ⟨b', off', rfl, hb', hc'⟩
      · omega
      · exact l5SameInts_some b off n cap b' off' cap' xs ys w h.len h'.len hn hb hb' hc hc'
  · have : decide (xs = ys) = false := decide_eq_false fun q => e (by rw [← h.len, ← h'.len, q])
    rw [this]
    exact l5SameInts_len a a' n cap n' cap' w e

set_option maxHeartbeats 4000000 in
theorem l5Same_any (r s : RowV) (L1 L2 L3 M1 M2 M3 : List Int) (w : World) (hr : r.is w L1 L2 L3) (hs : s.is w M1 M2 M3) (h1 : 1 ≤ r.m1) (h2 : 1 ≤ r.m2) (h3 : 1 ≤ r.m3) (q1 : r.m1 ≤ 1048576) (q2 : r.m2 ≤ 1048576) (q3 : r.m3 ≤ 1048576) :
    Calls Try.prog 28 #[r.v, s.v] w fun e w' => e = .returned (.bool (decide (L1 = M1) && (decide (L2 = M2) && decide (L3 = M3)))) ∧ Below w.heap.size w w' := by
  obtain ⟨a1, a2, a3, m1, m2, m3, k1, k2, k3⟩ := r
  obtain ⟨b1, b2, b3, n1, n2, n3, j1, j2, j3⟩ := s
  obtain ⟨r1, r2, r3⟩ := hr
  obtain ⟨s1, s2, s3⟩ := hs
  simp only at r1 r2 r3 s1 s2 s3 h1 h2 h3 q1 q2 q3
  unfold RowV.v
  simp only
  have E1 := hide (fun w1 (hb : Below w.heap.size w w1) => l5SameInts_any a1 b1 m1 k1 n1 j1 L1 M1 w1 (r1.below hb) (s1.below hb) q1 h1)
  have E2 := hide (fun w1 (hb : Below w.heap.size w w1) => l5SameInts_any a2 b2 m2 k2 n2 j2 L2 M2 w1 (r2.below hb) (s2.below hb) q2 h2)
  have E3 := hide (fun w1 (hb : Below w.heap.size w w1) => l5SameInts_any a3 b3 m3 k3 n3 j3 L3 M3 w1 (r3.below hb) (s3.below hb) q3 h3)
  generalize decide (L1 = M1) = v1 at E1 ⊢
  generalize decide (L2 = M2) = v2 at E2 ⊢
  generalize decide (L3 = M3) = v3 at E3 ⊢
  clear r1 r2 r3 s1 s2 s3
  obtain ⟨W0, hW0⟩ : ∃ W, (((w.alloc (.cells #[.slice a1 m1 k1, .slice a2 m2 k2, .slice a3 m3 k3] 44)).alloc (.cells #[.slice b1 n1 j1, .slice b2 n2 j2, .slice b3 n3 j3] 44))) = W := ⟨_, rfl⟩
  have T0 : TriW W0 w.heap.size (.slice a1 m1 k1) (.slice a2 m2 k2) (.slice a3 m3 k3) := hW0 ▸ (TriW.new w _ _ _ _ _ rfl).alloc _
  have U0 : TriW W0 (w.heap.size + 1) (.slice b1 n1 j1) (.slice b2 n2 j2) (.slice b3 n3 j3) := hW0 ▸ TriW.new (w.alloc _) _ _ _ _ _ (by simp)
  have B0 : Below w.heap.size w W0 := hW0 ▸ (by repeat' first | with_reducible exact Below.refl _ _ | with_reducible assumption | with_reducible refine below_drewN ?_ _ | with_reducible refine balloc ?_ _ | with_reducible refine Below.drew ?_ | with_reducible refine Below.setCell ?_ (by first | (simp; done) | (simp; omega) | omega) _ | with_reducible refine bstep ?_ (by assumption))
  have HW := hide hW0
  clear hW0
  cases v1
  · go_enter Try.func28, Try.ntmps28
    go_wp2_with fail
    rw [HW.out]
    refine (E1.out _ B0).mono ?_
    rintro e w1 ⟨rfl, hb1⟩
    go_wp2_with fail
    go_ret
    exact ⟨rfl, bstep B0 hb1⟩
  · cases v2
    · go_enter Try.func28, Try.ntmps28
      go_wp2_with fail
      rw [HW.out]
      refine (E1.out _ B0).mono ?_
      rintro e w1 ⟨rfl, hb1⟩
      have T1 := T0.below hb1
      have U1 := U0.below hb1
      have B1 := bstep B0 hb1
      obtain ⟨_, t0, t1, t2, _, _, _⟩ := T1
      obtain ⟨_, u0, u1, u2, _, _, _⟩ := U1
      go_wp2_with fail
      refine (E2.out _ B1).mono ?_
      rintro e w2 ⟨rfl, hb2⟩
      go_wp2_with fail
      go_ret
      exact ⟨rfl, bstep B1 hb2⟩
    · go_enter Try.func28, Try.ntmps28
      go_wp2_with fail
      rw [HW.out]
      refine (E1.out _ B0).mono ?_
      rintro e w1 ⟨rfl, hb1⟩
      have T1 := T0.below hb1
      have U1 := U0.below hb1
      have B1 := bstep B0 hb1
      have HT := hide T1
      have HU := hide U1
      obtain ⟨_, t0, t1, t2, _, _, _⟩ := T1
      obtain ⟨_, u0, u1, u2, _, _, _⟩ := U1
      go_wp2_with fail
      refine (E2.out _ B1).mono ?_
      rintro e w2 ⟨rfl, hb2⟩
      have T2 := HT.out.below hb2
      have U2 := HU.out.below hb2
      have B2 := bstep B1 hb2
      clear t0 t1 t2 u0 u1 u2
      obtain ⟨_, t0, t1, t2, _, _, _⟩ := T2
      obtain ⟨_, u0, u1, u2, _, _, _⟩ := U2
      go_wp2_with fail
      refine (E3.out _ B2).mono ?_
      rintro e w3 ⟨rfl, hb3⟩
      go_wp2_with fail
      go_ret
      exact ⟨rfl, bstep B2 hb3⟩
end Go.Proofs.Ythiklcldbjmgfaa

/- Whether an entry's row is its vector's, of the program. -/
namespace Go.Proofs.Ythiklcldbjmgfaa
open Go.RowKit
set_option maxRecDepth 8000
set_option linter.unusedSimpArgs false
set_option linter.unusedVariables false

theorem eqPk (a b c d e a' b' c' d' e' : Int) (w : World) : (Op.equalIn 10000 70 (.agg #[.int .u8 a, .int .u32 b, .int .u64 c, .int .u8 d, .int .i64 e]) (.agg #[.int .u8 a', .int .u32 b', .int .u64 c', .int .u8 d', .int .i64 e'])).run Try.prog w = .ok (a == a' && (b == b' && (c == c' && (d == d' && e == e')))) w := by
  have u1 := Try.underlying5
  have k1 := Try.isAgg5
  have z1 := Try.sizeOf5
  have u2 := Try.underlying67
  have k2 := Try.isAgg67
  have z2 := Try.sizeOf67
  have u3 := Try.underlying68
  have k3 := Try.isAgg68
  have z3 := Try.sizeOf68
  have u4 := Try.underlying3
  have k4 := Try.isAgg3
  have z4 := Try.sizeOf3
  have hS : Try.prog.underlying 70 = some (.struct (Try.prog.fieldsOf 70)) := by kernel_rfl
  rw [show (10000 : Nat) = 9999 + 1 from rfl, run_equalIn_agg w 9999 70 _ _ hS (by kernel_rfl)]
  simp only [Program.fieldsOf, Try.underlying70]
  go_simp
  by_cases h1 : a = a' <;> by_cases h2 : b = b' <;> by_cases h3 : c = c' <;> by_cases h4 : d = d' <;> by_cases h5 : e = e' <;> simp [h1, h2, h3, h4, h5]

/-- Whether an entry's row is that of its vector. -/
def rowInB (n : Nat) (f g : Nat → Int) (L1 L2 L3 : List Int) (m : Nat) (xs : List Int) : Bool :=
  rowOkB n f g L1 L2 L3 && (formB n f g m xs && allN n (fun i => (nth L1 i == vcode f g xs 1 i) && ((nth L2 i == vcode f g xs 2 i) && (nth L3 i == vcode f g xs 3 i))))

theorem pk_dec {n : Nat} {c1 c2 c3 d1 d2 d3 : Nat → Int} (hc : CodesOk n c1 c2 c3) (hd : CodesOk n d1 d2 d3) :
    (pA c1 c2 c3 n == pA d1 d2 d3 n && (pB c1 c2 c3 n == pB d1 d2 d3 n && (pC c1 c2 c3 n == pC d1 d2 d3 n && (pD c1 c2 c3 n == pD d1 d2 d3 n && (n : Int) == (n : Int))))) = allN n (fun i => (c1 i == d1 i) && ((c2 i == d2 i) && (c3 i == d3 i))) := by
  rw [Bool.eq_iff_iff]
  simp only [Bool.and_eq_true, beq_iff_eq, and_true]
  rw [pk_eq hc hd]
  constructor
  · intro h
    exact allN_yes fun i hi => by
      obtain ⟨h1, h2, h3⟩ := h i hi
      simp [h1, h2, h3]
  · intro h i hi
    have := allN_at h hi
    simpa using this

set_option maxHeartbeats 4000000 in
set_option maxRecDepth 4000 in
theorem rowIn_any (i t : Int) (is : Bool) (a : Option Addr) (n cap : Nat) (f g : Nat → Int) (va : Option Addr) (vn vc : Nat) (xs : List Int) (r : RowV) (L1 L2 L3 : List Int) (w : World) (h : PRow w a n f g) (hv : Row w va vn xs) (hvn : vn ≤ 1048576) (hr : r.is w L1 L2 L3) :
    Calls Try.prog 20 #[.agg #[.int .i64 i, .int .i64 t, .slice va vn vc, .slice r.a1 r.m1 r.k1, .slice r.a2 r.m2 r.k2, .slice r.a3 r.m3 r.k3, .bool is], .slice a n cap] w fun e w' => e = .returned (.bool (rowInB n f g L1 L2 L3 vn xs)) ∧ Below w.heap.size w w' := by
  have PR' := hide (fun w1 (hb : Below w.heap.size w w1) => packRow_any a n cap f g r L1 L2 L3 w1 (h.below hb) (hr.below hb))
  have PV := hide (fun w1 (hb : Below w.heap.size w w1) => packVector_any a va n cap vn vc f g xs w1 (h.below hb) (hv.below hb) hvn)
  obtain ⟨a1, a2, a3, m1, m2, m3, k1, k2, k3⟩ := r
  unfold RowV.v at PR'
  simp only at PR' ⊢
  obtain ⟨V, hV⟩ : ∃ V, rowInB n f g L1 L2 L3 vn xs = V := ⟨_, rfl⟩
  rw [hV]
  unfold rowInB at hV
  cases h1 : rowOkB n f g L1 L2 L3
  · rw [h1] at PR' hV
    simp only [pkV, if_false, Bool.false_eq_true, Bool.false_and] at PR' hV
    subst hV
    unfold packT at PV
    cases h2 : formB n f g vn xs
    all_goals
      rw [h2] at PV
      simp only [if_true, if_false, Bool.false_eq_true] at PV
      clear h hv hr
      go_enter Try.func20, Try.ntmps20
      go_wp2_with fail
      refine (PR'.out _ (by repeat' first | with_reducible exact Below.refl _ _ | with_reducible assumption | with_reducible refine below_drewN ?_ _ | with_reducible refine balloc ?_ _ | with_reducible refine Below.drew ?_ | with_reducible refine Below.setCell ?_ (by first | (simp; done) | (simp; omega) | omega) _ | with_reducible refine bstep ?_ (by assumption))).mono ?_
      rintro e w1 ⟨rfl, hb1⟩
      have c2 : w1.cell? ⟨w.heap.size, 2, none⟩ = some (.slice va vn vc) := (hb1.cell (p := ⟨w.heap.size, 2, none⟩) (by simp)).trans (by simp [go_sem])
      have B1 : Below w.heap.size w w1 := (by repeat' first | with_reducible exact Below.refl _ _ | with_reducible assumption | with_reducible refine below_drewN ?_ _ | with_reducible refine balloc ?_ _ | with_reducible refine Below.drew ?_ | with_reducible refine Below.setCell ?_ (by first | (simp; done) | (simp; omega) | omega) _ | with_reducible refine bstep ?_ (by assumption))
      have lw : w.heap.size < w1.heap.size := by have := hb1.size; simp at this; omega
      clear hb1
      go_wp2_with fail
      refine (PV.out _ (balloc B1 _)).mono ?_
      rintro e w2 ⟨rfl, hb2⟩
      have B2 := bstep (balloc B1 _) hb2
      go_wp2_with fail
      go_ret
      exact ⟨rfl, (by repeat' first | with_reducible exact Below.refl _ _ | with_reducible assumption | with_reducible refine below_drewN ?_ _ | with_reducible refine balloc ?_ _ | with_reducible refine Below.drew ?_ | with_reducible refine Below.setCell ?_ (by first | (simp; done) | (simp; omega) | omega) _ | with_reducible refine bstep ?_ (by assumption))⟩
  · rw [h1] at PR' hV
    have h1' := h1
    simp only [rowOkB, Bool.and_eq_true, decide_eq_true_eq] at h1'
    have CK : CodesOk n (nth L1) (nth L2) (nth L3) := fun j hj => rowAt_codes (boxB_at' h1'.1 hj) (allN_at h1'.2.2 hj)
    have CV := vcode_ok (n := n) xs (fun j hj => boxB_at' h1'.1 hj)
    simp only [pkV, if_true, Bool.true_and] at PR' hV
    unfold packT at PV
    cases h2 : formB n f g vn xs
    · rw [h2] at PV hV
      simp only [if_false, Bool.false_eq_true, Bool.false_and] at PV hV
      subst hV
      clear h hv hr CK CV h1' h1
      simp only [PK] at PR'
      generalize pA (nth L1) (nth L2) (nth L3) n = A at PR'
      generalize pB (nth L1) (nth L2) (nth L3) n = B at PR'
      generalize pC (nth L1) (nth L2) (nth L3) n = C at PR'
      generalize pD (nth L1) (nth L2) (nth L3) n = D at PR'
      go_enter Try.func20, Try.ntmps20
      go_wp2_with fail
      refine (PR'.out _ (by repeat' first | with_reducible exact Below.refl _ _ | with_reducible assumption | with_reducible refine below_drewN ?_ _ | with_reducible refine balloc ?_ _ | with_reducible refine Below.drew ?_ | with_reducible refine Below.setCell ?_ (by first | (simp; done) | (simp; omega) | omega) _ | with_reducible refine bstep ?_ (by assumption))).mono ?_
      rintro e w1 ⟨rfl, hb1⟩
      have c2 : w1.cell? ⟨w.heap.size, 2, none⟩ = some (.slice va vn vc) := (hb1.cell (p := ⟨w.heap.size, 2, none⟩) (by simp)).trans (by simp [go_sem])
      have B1 : Below w.heap.size w w1 := (by repeat' first | with_reducible exact Below.refl _ _ | with_reducible assumption | with_reducible refine below_drewN ?_ _ | with_reducible refine balloc ?_ _ | with_reducible refine Below.drew ?_ | with_reducible refine Below.setCell ?_ (by first | (simp; done) | (simp; omega) | omega) _ | with_reducible refine bstep ?_ (by assumption))
      have lw : w.heap.size < w1.heap.size := by have := hb1.size; simp at this; omega
      clear hb1
      go_wp2_with fail
      refine (PV.out _ (balloc B1 _)).mono ?_
      rintro e w2 ⟨rfl, hb2⟩
      have B2 := bstep (balloc B1 _) hb2
      go_wp2_with fail
      go_ret
      exact ⟨rfl, (by repeat' first | with_reducible exact Below.refl _ _ | with_reducible assumption | with_reducible refine below_drewN ?_ _ | with_reducible refine balloc ?_ _ | with_reducible refine Below.drew ?_ | with_reducible refine Below.setCell ?_ (by first | (simp; done) | (simp; omega) | omega) _ | with_reducible refine bstep ?_ (by assumption))⟩
    · rw [h2] at PV hV
      simp only [if_true, Bool.true_and] at PV hV
      have he := eqPk (pA (nth L1) (nth L2) (nth L3) n) (pB (nth L1) (nth L2) (nth L3) n) (pC (nth L1) (nth L2) (nth L3) n) (pD (nth L1) (nth L2) (nth L3) n) n (pA (vcode f g xs 1) (vcode f g xs 2) (vcode f g xs 3) n) (pB (vcode f g xs 1) (vcode f g xs 2) (vcode f g xs 3) n) (pC (vcode f g xs 1) (vcode f g xs 2) (vcode f g xs 3) n) (pD (vcode f g xs 1) (vcode f g xs 2) (vcode f g xs 3) n) n
      rw [pk_dec CK CV, hV] at he
      clear h hv hr CK CV h1' h1 hV
      simp only [PK] at PR' PV
      generalize pA (nth L1) (nth L2) (nth L3) n = A at PR' he
      generalize pB (nth L1) (nth L2) (nth L3) n = B at PR' he
      generalize pC (nth L1) (nth L2) (nth L3) n = C at PR' he
      generalize pD (nth L1) (nth L2) (nth L3) n = D at PR' he
      generalize pA (vcode f g xs 1) (vcode f g xs 2) (vcode f g xs 3) n = A' at PV he
      generalize pB (vcode f g xs 1) (vcode f g xs 2) (vcode f g xs 3) n = B' at PV he
      generalize pC (vcode f g xs 1) (vcode f g xs 2) (vcode f g xs 3) n = C' at PV he
      generalize pD (vcode f g xs 1) (vcode f g xs 2) (vcode f g xs 3) n = D' at PV he
      go_enter Try.func20, Try.ntmps20
      go_wp2_with fail
      refine (PR'.out _ (by repeat' first | with_reducible exact Below.refl _ _ | with_reducible assumption | with_reducible refine below_drewN ?_ _ | with_reducible refine balloc ?_ _ | with_reducible refine Below.drew ?_ | with_reducible refine Below.setCell ?_ (by first | (simp; done) | (simp; omega) | omega) _ | with_reducible refine bstep ?_ (by assumption))).mono ?_
      rintro e w1 ⟨rfl, hb1⟩
      have c2 : w1.cell? ⟨w.heap.size, 2, none⟩ = some (.slice va vn vc) := (hb1.cell (p := ⟨w.heap.size, 2, none⟩) (by simp)).trans (by simp [go_sem])
      have B1 : Below w.heap.size w w1 := (by repeat' first | with_reducible exact Below.refl _ _ | with_reducible assumption | with_reducible refine below_drewN ?_ _ | with_reducible refine balloc ?_ _ | with_reducible refine Below.drew ?_ | with_reducible refine Below.setCell ?_ (by first | (simp; done) | (simp; omega) | omega) _ | with_reducible refine bstep ?_ (by assumption))
      have lw : w.heap.size < w1.heap.size := by have := hb1.size; simp at this; omega
      clear hb1
      go_wp2_with fail
      refine (PV.out _ (balloc B1 _)).mono ?_
      rintro e w2 ⟨rfl, hb2⟩
      have F1 : Five w2 w1.heap.size (.int .u8 A) (.int .u32 B) (.int .u64 C) (.int .u8 D) (.int .i64 n) := (Five.new w1 _ _ _ _ _ _ _ rfl).below hb2
      obtain ⟨_, s0, s1, s2, s3, s4, _, _, _, _, _⟩ := F1
      have B2 := bstep (balloc B1 _) hb2
      cases V
      all_goals
        go_wp2_with fail
        go_ret
        exact ⟨rfl, (by repeat' first | with_reducible exact Below.refl _ _ | with_reducible assumption | with_reducible refine below_drewN ?_ _ | with_reducible refine balloc ?_ _ | with_reducible refine Below.drew ?_ | with_reducible refine Below.setCell ?_ (by first | (simp; done) | (simp; omega) | omega) _ | with_reducible refine bstep ?_ (by assumption))⟩
end Go.Proofs.Ythiklcldbjmgfaa
