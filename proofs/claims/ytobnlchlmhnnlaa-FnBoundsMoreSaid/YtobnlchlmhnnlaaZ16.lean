/- Rows of ranges made by append; markRangeS and heldRangeS of the laws. -/
import Derived.Test.YtobnlchlmhnnlaaZ11
import Derived.Deep.AppendLies
import Derived.Deep.RegionLaw
import Derived.Test.YtobnlchlmhnnlaaZ1
import Derived.Test.YtobnlchlmhnnlaaZ12
namespace Go.Proofs.Ytobnlchlmhnnlaa
open Go.RowKit
set_option maxRecDepth 8000
set_option linter.unusedSimpArgs false
set_option linter.unusedVariables false

def pvals (f g : Nat → Int) : Nat → List Value
  | 0 => []
  | k + 1 => pvals f g k ++ [.int .i64 (f k), .int .i64 (g k)]

theorem pvals_len (f g : Nat → Int) (k : Nat) : (pvals f g k).length = k * 2 := by
  induction k with
  | zero => rfl
  | succ k ih => simp only [pvals, List.length_append, ih]; simp; omega

theorem pvals_at (f g : Nat → Int) (k : Nat) : ∀ i, i < k → (pvals f g k)[i * 2]? = some (.int .i64 (f i)) ∧ (pvals f g k)[i * 2 + 1]? = some (.int .i64 (g i)) := by
  induction k with
  | zero => intro i hi; omega
  | succ k ih =>
    intro i hi
    simp only [pvals]
    rcases Nat.lt_succ_iff_lt_or_eq.1 hi with h | h
    · rw [List.getElem?_append_left (by rw [pvals_len]; omega), List.getElem?_append_left (by rw [pvals_len]; omega)]
      exact ih i h
    · subst h
      rw [List.getElem?_append_right (by rw [pvals_len]; omega), List.getElem?_append_right (by rw [pvals_len]; omega), pvals_len]
      simp [show i * 2 + 1 - i * 2 = 1 by omega]

theorem prow_of_owns {w : World} {base : Nat} {v : Value} {n : Nat} {f g : Nat → Int} (h : w.ownsRow base 34 2 v n (pvals f g n)) :
    ∃ a cap, v = .slice a n cap ∧ PRow w a n f g ∧ ∀ b off, a = some ⟨b, off, none⟩ → base ≤ b := by
  have h0 := h
  rcases h.2 with ⟨rfl, rfl⟩ | ⟨b, cap, cur, rfl, hb, hg, hcap, _, hsz, htake⟩
  · exact ⟨none, 0, rfl, ⟨.inl rfl⟩, fun b off e => by cases e⟩
  · refine ⟨_, cap, rfl, ⟨.inr ⟨b, 0, rfl, (Array.getElem?_eq_some_iff.1 hg).1, fun i hi => ?_⟩⟩, fun b off e => by cases e; exact hb⟩
    obtain ⟨p0, p1⟩ := pvals_at f g n i hi
    have c0 := h0.cells (g := b) rfl (i * 2) _ p0
    have c1 := h0.cells (g := b) rfl (i * 2 + 1) _ p1
    rw [Nat.zero_add]
    refine ⟨?_, ?_⟩
    · by_cases h00 : i = 0
      · subst h00; simpa [Addr.add] using c0
      · simpa [Addr.add, show ¬ i * 2 = 0 by omega] using c0
    · simpa [Addr.add] using c1

theorem two_new (w : World) (x y : Value) (t : TypeId) : ∀ (j : Nat) (u : Value), [x, y][j]? = some u → (w.alloc (.cells #[x, y] t)).cell? ((⟨w.heap.size, 0, none⟩ : Addr).add j) = some u := by
  intro j u hj
  match j, hj with
  | 0, hj => simp at hj; subst hj; simp [Addr.add]
  | 1, hj => simp at hj; subst hj; simp [Addr.add]
  | j + 2, hj => simp at hj

theorem infoRange_parts : ∃ i : TypeInfo, Try.prog.info? 34 = some i ∧ i.zero = some (.agg #[.int .i64 0, .int .i64 0]) ∧ i.size = 2 ∧ i.bytes = 16 := by
  obtain ⟨i, hi, hzz⟩ := Option.map_eq_some_iff.1 Try.infoRange
  simp only [Prod.mk.injEq] at hzz
  exact ⟨i, hi, hzz.1, hzz.2.1, hzz.2.2⟩

theorem owns_drewP {w : World} {base : Nat} {e : TypeId} {size : Nat} {v : Value} {n : Nat} {xs : List Value} (h : w.ownsRow base e size v n xs) : w.drew.ownsRow base e size v n xs := h

theorem owns_below {w w' : World} {base : Nat} {e : TypeId} {size : Nat} {v : Value} {n : Nat} {xs : List Value} (h : w.ownsRow base e size v n xs) (hb : Below w.heap.size w w') : w'.ownsRow base e size v n xs := by
  refine ⟨h.1, ?_⟩
  rcases h.2 with h0 | ⟨g, cap, cur, hv, hb0, hg, hrest⟩
  · exact .inl h0
  · exact .inr ⟨g, cap, cur, hv, hb0, (hb.block g (Array.getElem?_eq_some_iff.1 hg).1).trans hg, hrest⟩
/-- Behind an append the old memory is as it was. -/
theorem below_appP {B : Nat} {w wr w2 : World} {v : Value} {k : Nat} {e : TypeId} {size : Nat} {xs : List Value} (hb : Below B w wr) (hB : B ≤ wr.heap.size) (ho : wr.ownsRow B e size v k xs) (hg : wr.grownBy w2 v.ownBlock) : Below B w w2 :=
  hb.grown hg hB fun k' hk' => (ho.lt k' hk').1

theorem OwnP.but {w w' : World} {b c n : Nat} {f g : Nat → Int} (h : OwnP w b n f g) (hb : But c w w') (hne : b ≠ c) : OwnP w' b n f g := World.rowIs.of_block h (hb.block b (World.rowIs.lt h) hne)

def mlo (q : Int) (i : Nat) : Int := q + 2 * (i : Int)
def mhi (q : Int) (i : Nat) : Int := q + 2 * (i : Int) + 1
def mixTo (k : Nat) (m f : Nat → Int) (i : Nat) : Int := if i < k then m i else f i

theorem OwnP.mark {w : World} {b n k : Nat} {m1 m2 f g : Nat → Int} (h : OwnP w b n (mixTo k m1 f) (mixTo k m2 g)) :
    OwnP ((w.setCell ⟨b, k * 2, none⟩ (.int .i64 (m1 k))).setCell ⟨b, k * 2 + 1, none⟩ (.int .i64 (m2 k))) b n (mixTo (k + 1) m1 f) (mixTo (k + 1) m2 g) := by
  refine (h.set k (m1 k) (m2 k)).congr (fun i _ => ?_) (fun i _ => ?_)
  all_goals
    unfold mixTo
    by_cases e : i = k
    · subst e; simp
    · by_cases l : i < k
      · simp [e, l, show i < k + 1 by omega]
      · simp [e, l, show ¬ i < k + 1 by omega]







end Go.Proofs.Ytobnlchlmhnnlaa
/- BoxJoin of the program. -/
namespace Go.Proofs.Ytobnlchlmhnnlaa
open Go.RowKit
set_option maxRecDepth 8000
set_option linter.unusedSimpArgs false
set_option linter.unusedVariables false

def joinF (f f' : Nat → Int) (i : Nat) : Int := min (f i) (f' i)
def joinG (g g' : Nat → Int) (i : Nat) : Int := max (g i) (g' i)

def IJoin (w : World) (n : Nat) (F G : Nat → Int) (e : Ending) (w' : World) : Prop :=
  ∃ b, e = .returned (.tuple #[.slice (some ⟨b, 0, none⟩) n n, .bool true]) ∧ w.heap.size ≤ b ∧ OwnP w' b n F G ∧ Below w.heap.size w w'

set_option maxHeartbeats 1600000 in
theorem iBoxJoin_some (b off n cap b' off' cap' : Nat) (f g f' g' : Nat → Int) (w : World) (h8 : n ≤ 8) (hb : b < w.heap.size) (hb' : b' < w.heap.size)
    (hc : ∀ i, i < n → w.cell? ⟨b, off + i * 2, none⟩ = some (.int .i64 (f i)) ∧ w.cell? ⟨b, off + i * 2 + 1, none⟩ = some (.int .i64 (g i)))
    (hc' : ∀ i, i < n → w.cell? ⟨b', off' + i * 2, none⟩ = some (.int .i64 (f' i)) ∧ w.cell? ⟨b', off' + i * 2 + 1, none⟩ = some (.int .i64 (g' i)))
    (AL : Hid (Calls Try.prog 15 #[.slice (some ⟨b, off, none⟩) n cap, .slice (some ⟨b', off', none⟩) n cap'] w fun e w' => e = .returned (.bool true) ∧ Below w.heap.size w w')) :
    Calls Try.prog 6 #[.slice (some ⟨b, off, none⟩) n cap, .slice (some ⟨b', off', none⟩) n cap'] w fun e w' => IJoin w n (joinF f f') (joinG g g') e w' := by
  have hmk := run_make_pairs (P := Try.prog) 24 34 (.int .i64 0) (.int .i64 0) 16 Try.underlying24 Try.infoRange .i64 .i64 n (by omega) (by omega)
  go_enter Try.func6, Try.ntmps6
  go_wp2_with fail
  refine AL.out.mono ?_
  rintro e w1 ⟨rfl, hb1⟩
  go_wp2_with fail
  have hs1 := hb1.size
  go_loopw [18] (fun i wr => ∃ k : Nat, k ≤ n ∧ i = .int .i64 k ∧ OwnP wr w1.heap.size n (upTo k (joinF f f')) (upTo k (joinG g g')) ∧ Below w.heap.size w wr) (fun i _ => n - (intOf i).toNat)
  case atStart => exact ⟨0, Nat.zero_le _, rfl, (OwnP.made w1 n).congr (fun j _ => by simp [upTo]) (fun j _ => by simp [upTo]), (by repeat' first | with_reducible exact Below.refl _ _ | with_reducible assumption | with_reducible refine below_drewN ?_ _ | with_reducible refine balloc ?_ _ | with_reducible refine Below.drew ?_ | with_reducible refine Below.setCell ?_ (by first | (simp; done) | (simp; omega) | omega) _ | with_reducible refine bstep ?_ (by assumption))⟩
  case round =>
    obtain ⟨k, hk, rfl, hrow, hbel⟩ := hrel
    have HC := hide hc
    have HC' := hide hc'
    have HB := hide hbel
    have HR := hide hrow
    by_cases hlt : k < n
    · have z1 : wr.cell? ⟨b, off + k * 2, none⟩ = some (.int .i64 (f k)) := (hbel.cell (p := ⟨b, off + k * 2, none⟩) hb).trans (hc k hlt).1
      have z2 : wr.cell? ⟨b, off + k * 2 + 1, none⟩ = some (.int .i64 (g k)) := (hbel.cell (p := ⟨b, off + k * 2 + 1, none⟩) hb).trans (hc k hlt).2
      have hlt' : (k : Int) < (n : Int) := by omega
      have l2 : b' < wr.heap.size := Nat.lt_of_lt_of_le hb' hbel.size
      have l0 := hrow.lt
      have hal := balloc (Below.refl wr.heap.size wr) (.cells #[.int .i64 (f k), .int .i64 (g k)] 34)
      have z3 : (wr.alloc (.cells #[.int .i64 (f k), .int .i64 (g k)] 34)).cell? ⟨b', off' + k * 2, none⟩ = some (.int .i64 (f' k)) := ((hal.cell (p := ⟨b', off' + k * 2, none⟩) l2).trans (hbel.cell (p := ⟨b', off' + k * 2, none⟩) hb')).trans (hc' k hlt).1
      have z4 : (wr.alloc (.cells #[.int .i64 (f k), .int .i64 (g k)] 34)).cell? ⟨b', off' + k * 2 + 1, none⟩ = some (.int .i64 (g' k)) := ((hal.cell (p := ⟨b', off' + k * 2 + 1, none⟩) l2).trans (hbel.cell (p := ⟨b', off' + k * 2 + 1, none⟩) hb')).trans (hc' k hlt).2
      have HR1 := hide (hrow.below hal)
      have l3 : b' < (wr.alloc (.cells #[.int .i64 (f k), .int .i64 (g k)] 34)).heap.size := by simp; omega
      have R := hide (join_any (f k) (g k) (f' k) (g' k))
      clear hbel hc hc' hal hrow
      have n1 : b' ≠ w1.heap.size := by omega
      have n2 : wr.heap.size ≠ w1.heap.size := by omega
      have KB := hide (fun (W : World) (hW : Below (wr.alloc (.cells #[.int .i64 (f k), .int .i64 (g k)] 34)).drew.heap.size (wr.alloc (.cells #[.int .i64 (f k), .int .i64 (g k)] 34)).drew W) => OwnP.below (w := (wr.alloc (.cells #[.int .i64 (f k), .int .i64 (g k)] 34)).drew) HR1.out hW)
      go_upto_region 7 with fail
      go_region_held3 (fun w' => w'.cell? ⟨wr.heap.size, 0, none⟩ = some (.int .i64 (f k)) ∧ w'.cell? ⟨wr.heap.size, 1, none⟩ = some (.int .i64 (g k)) ∧ w'.cell? ⟨b', off' + k * 2, none⟩ = some (.int .i64 (f' k)) ∧ w'.cell? ⟨b', off' + k * 2 + 1, none⟩ = some (.int .i64 (g' k))) (refine ⟨?_, ?_, ?_, ?_⟩ <;> first | assumption | (simp [go_sem]; done) | (simp [go_sem, *]; done) | (go_keep; done)) ((go_at_call 16; refine (R.out _).mono ?_; rintro e wn ⟨rfl, hbn⟩; have s1 : wn.cell? ⟨wr.heap.size, 0, none⟩ = some (.int .i64 (f k)) := (hbn.cell (p := ⟨wr.heap.size, 0, none⟩) (by simp)).trans (by simp [go_sem]); have s2 : wn.cell? ⟨wr.heap.size, 1, none⟩ = some (.int .i64 (g k)) := (hbn.cell (p := ⟨wr.heap.size, 1, none⟩) (by simp)).trans (by simp [go_sem]); have s3 := (hbn.cell (p := ⟨b', off' + k * 2, none⟩) l3).trans z3; have s4 := (hbn.cell (p := ⟨b', off' + k * 2 + 1, none⟩) l3).trans z4; have HRn := hide (KB.out _ hbn); have y0 := HRn.out.c0 hlt; have y1 := HRn.out.c1 hlt; have y2 := World.rowIs.frozen HRn.out (k * 2); have y3 := World.rowIs.frozen HRn.out (k * 2 + 1)))
      all_goals
        go_wp2_with fail
        go_roundw
        case rel =>
          have hbel := HB.out
          have hn1 : w.heap.size ≤ w1.heap.size := hs1
          exact ⟨k + 1, by omega, by go_num, HRn.out.step, (by repeat' first | with_reducible exact Below.refl _ _ | with_reducible assumption | with_reducible refine below_drewN ?_ _ | with_reducible refine balloc ?_ _ | with_reducible refine Below.drew ?_ | with_reducible refine Below.setCell ?_ (by first | (simp; done) | (simp; omega) | omega) _ | with_reducible refine bstep ?_ (by assumption))⟩
        case measure => simp [intOf]; omega
    · clear hbel hc hc'
      go_wp2_with fail
      refine bodyPost_ret (v := .tuple #[.slice (some ⟨w1.heap.size, 0, none⟩) n n, .bool true]) ?_ rfl ⟨_, rfl, hs1, hrow.congr (fun j hj => by rw [upTo, if_pos (by omega)]) (fun j hj => by rw [upTo, if_pos (by omega)]), HB.out⟩
      simp [results, Try.results6, go_sem]

set_option maxHeartbeats 800000 in
theorem iBoxJoin_no (a a' : Option Addr) (n cap n' cap' : Nat) (f g f' g' : Nat → Int) (w : World) (h : PRow w a n f g) (h' : PRow w a' n' f' g') (hA : alikeB n f g n' f' g' = false) :
    Calls Try.prog 6 #[.slice a n cap, .slice a' n' cap'] w fun e w' => e = .returned (.tuple #[.slice none 0 0, .bool false]) ∧ Below w.heap.size w w' := by
  have AL := hide (boxesAlike_any a a' n cap n' cap' f g f' g' w h h')
  rw [hA] at AL
  clear h h'
  go_enter Try.func6, Try.ntmps6
  go_wp2_with fail
  refine AL.out.mono ?_
  rintro e w1 ⟨rfl, hb1⟩
  go_wp2_with fail
  refine bodyPost_ret (v := .tuple #[.slice none 0 0, .bool false]) ?_ rfl ⟨rfl, (by repeat' first | with_reducible exact Below.refl _ _ | with_reducible assumption | with_reducible refine below_drewN ?_ _ | with_reducible refine balloc ?_ _ | with_reducible refine Below.drew ?_ | with_reducible refine Below.setCell ?_ (by first | (simp; done) | (simp; omega) | omega) _ | with_reducible refine bstep ?_ (by assumption))⟩
  simp [results, Try.results6, go_sem]

theorem iBoxJoin_yes (a a' : Option Addr) (n cap n' cap' : Nat) (f g f' g' : Nat → Int) (w : World) (h : PRow w a n f g) (h' : PRow w a' n' f' g') (hA : alikeB n f g n' f' g' = true) :
    Calls Try.prog 6 #[.slice a n cap, .slice a' n' cap'] w fun e w' => IJoin w n (joinF f f') (joinG g g') e w' := by
  have AL := hide (boxesAlike_any a a' n cap n' cap' f g f' g' w h h')
  rw [hA] at AL
  simp only [alikeB, Bool.and_eq_true, decide_eq_true_eq] at hA
  obtain ⟨⟨h1, h2⟩, rfl⟩ := hA
  have hn := boxB_num h1
  rcases h.lies with q | ⟨b, off, rfl, lt, hc⟩
  · omega
  · rcases h'.lies with q | ⟨b', off', rfl, lt', hc'⟩
    · omega
    · exact iBoxJoin_some b off n cap b' off' cap' f g f' g' w hn.2 lt lt' hc hc' AL
end Go.Proofs.Ytobnlchlmhnnlaa

/- Joined boxes, plain: what is told of the join. -/
namespace Go.Proofs.Ytobnlchlmhnnlaa
open Go.RowKit
set_option maxRecDepth 8000
set_option linter.unusedSimpArgs false
set_option linter.unusedVariables false

theorem right_join {a b c d : Int} (h : rightB a b = true) (h' : rightB c d = true) : rightB (min a c) (max b d) = true := by
  simp only [rightB, compB, Bool.and_eq_true, decide_eq_true_eq] at h h' ⊢
  omega

theorem leq_joinL {a b c d : Int} (h : rightB a b = true) (h' : rightB c d = true) : leqB a b (min a c) (max b d) = true := by
  have := right_join h h'
  simp only [leqB, h, this, Bool.true_and, Bool.and_eq_true, decide_eq_true_eq]
  omega

theorem leq_joinR {a b c d : Int} (h : rightB a b = true) (h' : rightB c d = true) : leqB c d (min a c) (max b d) = true := by
  have := right_join h h'
  simp only [leqB, h', this, Bool.true_and, Bool.and_eq_true, decide_eq_true_eq]
  omega

theorem leq_same {a b c d : Int} (h : rightB a b = true) (h' : rightB c d = true) : leqB a b c d = (decide (min a c = c) && decide (max b d = d)) := by
  simp only [leqB, h, h', Bool.true_and]
  rw [Bool.eq_iff_iff]
  simp only [Bool.and_eq_true, decide_eq_true_eq]
  omega

theorem sumSq_le (d e : Nat → Int) : ∀ n, (∀ i, i < n → 0 ≤ d i ∧ d i ≤ e i) → sumSq d n ≤ sumSq e n := by
  intro n
  induction n with
  | zero => intro _; simp [sumSq]
  | succ n ih =>
    intro h
    have h0 := ih fun i hi => h i (by omega)
    obtain ⟨h1, h2⟩ := h n (by omega)
    have := Int.mul_le_mul h2 h2 h1 (by omega)
    simp only [sumSq]
    omega

theorem sumSq_nil (d : Nat → Int) : ∀ n, (∀ i, i < n → d i = 0) → sumSq d n = 0 := by
  intro n
  induction n with
  | zero => intro _; simp [sumSq]
  | succ n ih =>
    intro h
    simp only [sumSq, ih fun i hi => h i (by omega), h n (by omega)]
    omega
/-- What a join is told: it is a box, both lie in it, and of a vector of the second box it tells no more as least and no less as greatest than the first. -/
theorem join_facts {n n' : Nat} {f g f' g' : Nat → Int} {ys : List Int} (hA : alikeB n f g n' f' g' = true) (hl : ys.length = n) (hy : ∀ j, j < n → f' j ≤ nth ys j ∧ nth ys j ≤ g' j) :
    boxLeqB n f g n (joinF f f') (joinG g g') = true ∧ boxLeqB n f' g' n (joinF f f') (joinG g g') = true ∧
    formB n (joinF f f') (joinG g g') n ys = true ∧ formB n f g n ys = true ∧ leastN n (joinF f f') (joinG g g') ys = 0 ∧ 0 ≤ leastN n f g ys ∧
    mostN n f g ys ≤ mostN n (joinF f f') (joinG g g') ys ∧ boxLeqB n f g n' f' g' = sameB n (joinF f f') (joinG g g') f' g' := by
  have hA0 := hA
  simp only [alikeB, Bool.and_eq_true, decide_eq_true_eq] at hA
  obtain ⟨⟨h1, h2⟩, rfl⟩ := hA
  have hn := boxB_num' h1
  have r1 : ∀ i, i < n → rightB (f i) (g i) = true := fun i hi => boxB_at' h1 hi
  have r2 : ∀ i, i < n → rightB (f' i) (g' i) = true := fun i hi => boxB_at' h2 hi
  have hj : boxB n (joinF f f') (joinG g g') = true := by
    unfold boxB
    rw [decide_eq_true hn, Bool.true_and]
    exact allN_yes fun i hi => right_join (r1 i hi) (r2 i hi)
  have hv : vecOkB ys = true := by
    unfold vecOkB
    rw [hl, decide_eq_true hn, Bool.true_and]
    refine all_nth fun j hjj => ?_
    have a := r2 j (by omega)
    have b := hy j (by omega)
    simp only [rightB, compB, Bool.and_eq_true, decide_eq_true_eq] at a ⊢
    omega
  have le : ∀ i, i < n → f i ≤ g i := fun i hi => by
    have := r1 i hi
    simp only [rightB, Bool.and_eq_true, decide_eq_true_eq] at this
    omega
  refine ⟨?_, ?_, ?_, ?_, ?_, ?_, ?_, ?_⟩
  · unfold boxLeqB alikeB leqN
    rw [h1, hj, decide_eq_true rfl, Bool.true_and, Bool.true_and, Bool.true_and]
    exact allN_yes fun i hi => leq_joinL (r1 i hi) (r2 i hi)
  · unfold boxLeqB alikeB leqN
    rw [h2, hj, decide_eq_true rfl, Bool.true_and, Bool.true_and, Bool.true_and]
    exact allN_yes fun i hi => leq_joinR (r1 i hi) (r2 i hi)
  · unfold formB; rw [hj, hv, decide_eq_true rfl]; rfl
  · unfold formB; rw [h1, hv, decide_eq_true rfl]; rfl
  · refine sumSq_nil _ _ fun i hi => ?_
    have := hy i hi
    unfold leastV joinF joinG
    omega
  · have := sumSq_le (fun _ => 0) (fun i => leastV (f i) (g i) (nth ys i)) n fun i hi => ⟨Int.le_refl _, by unfold leastV; omega⟩
    rw [sumSq_nil (fun _ => 0) n fun _ _ => rfl] at this
    exact this
  · refine sumSq_le _ _ _ fun i hi => ?_
    have := le i hi
    unfold mostV joinF joinG
    omega
  · unfold boxLeqB leqN sameB
    rw [hA0, Bool.true_and]
    exact allN_congr fun i hi => leq_same (r1 i hi) (r2 i hi)
end Go.Proofs.Ytobnlchlmhnnlaa
