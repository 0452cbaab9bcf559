/- Items that grow by append: the row in one block, the vectors in blocks of their own. -/
import Derived.Test.YtjliecggfncelaaZ15
import Derived.Deep.AppendLies
import Derived.Test.YtjliecggfncelaaZ11
namespace Go.Proofs.Ytjliecggfncelaa
open Go.RowKit
set_option maxRecDepth 8000
set_option linter.unusedSimpArgs false
set_option linter.unusedVariables false

/-- The cells of the first k items, as a list. -/
def icl (M : IL) (sv : Nat → Value) : Nat → List Value
  | 0 => []
  | k + 1 => icl M sv k ++ [.int .i64 (M k).id, .int .i64 (M k).tags, sv k]

theorem icl_len (M : IL) (sv : Nat → Value) (k : Nat) : (icl M sv k).length = k * 3 := by
  induction k with
  | zero => rfl
  | succ k ih => simp only [icl, List.length_append, ih]; simp; omega

theorem icl_congr {M N : IL} {sv sv' : Nat → Value} {k : Nat} (h : ∀ i, i < k → M i = N i) (h' : ∀ i, i < k → sv i = sv' i) : icl M sv k = icl N sv' k := by
  induction k with
  | zero => rfl
  | succ k ih => simp only [icl]; rw [ih (fun i hi => h i (by omega)) (fun i hi => h' i (by omega)), h k (by omega), h' k (by omega)]

theorem icl_put (M : IL) (sv : Nat → Value) (k : Nat) (x : It) (v : Value) : icl (M.put k x) (putF sv k v) (k + 1) = icl M sv k ++ [.int .i64 x.id, .int .i64 x.tags, v] := by
  simp only [icl]
  rw [IL.put_at, putF_at, icl_congr (fun i hi => IL.put_off M x (show i ≠ k by omega)) (fun i hi => putF_off sv v (show i ≠ k by omega))]

theorem icl_at (M : IL) (sv : Nat → Value) {k j : Nat} (hj : j < k * 3) : (icl M sv k)[j]? = some (icell M sv j) := by
  induction k with
  | zero => omega
  | succ k ih =>
    simp only [icl]
    by_cases h : j < k * 3
    · rw [List.getElem?_append_left (by rw [icl_len]; exact h)]
      exact ih h
    · rw [List.getElem?_append_right (by rw [icl_len]; omega), icl_len]
      rcases (show j = k * 3 ∨ j = k * 3 + 1 ∨ j = k * 3 + 2 by omega) with rfl | rfl | rfl
      · rw [icell_0, Nat.sub_self]; rfl
      · rw [icell_1, show k * 3 + 1 - k * 3 = 1 by omega]; rfl
      · rw [icell_2, show k * 3 + 2 - k * 3 = 2 by omega]; rfl

structure GI (w : World) (base g cap m : Nat) (M : IL) (V : Nat → Nat) (sv : Nat → Value) : Prop where
  own : w.ownsRow base 36 3 (.slice (some ⟨g, 0, none⟩) m cap) m (icl M sv m)
  vecs : Vecs w base m M V sv g

theorem GI.shape {w : World} {base g cap m : Nat} {M : IL} {V : Nat → Nat} {sv : Nat → Value} (h : GI w base g cap m M V sv) : base ≤ g ∧ ∃ cur, w.heap[g]? = some (.cells cur 36 (0, 0)) ∧ m ≤ cap ∧ cap ≤ maxLen ∧ cur.size = cap * 3 ∧ cur.toList.take (m * 3) = icl M sv m := by
  rcases h.own.2 with ⟨h0, _⟩ | ⟨g', cap', cur, hv, hb, hg, hcap, hm, hsz, htake⟩
  · cases h0
  · simp only [Value.slice.injEq, Option.some.injEq, Addr.mk.injEq] at hv
    obtain ⟨⟨rfl, _⟩, _, rfl⟩ := hv
    exact ⟨hb, cur, hg, hcap, hm, hsz, htake⟩

theorem GI.lt {w : World} {base g cap m : Nat} {M : IL} {V : Nat → Nat} {sv : Nat → Value} (h : GI w base g cap m M V sv) : g < w.heap.size := by
  obtain ⟨_, cur, hg, _⟩ := h.shape
  exact (Array.getElem?_eq_some_iff.1 hg).1

theorem GI.below {w w' : World} {base g cap m : Nat} {M : IL} {V : Nat → Nat} {sv : Nat → Value} (h : GI w base g cap m M V sv) (hb : Below w.heap.size w w') : GI w' base g cap m M V sv := by
  obtain ⟨h1, cur, hg, h2, h3, h4, h5⟩ := h.shape
  exact ⟨⟨icl_len _ _ _, .inr ⟨g, cap, cur, rfl, h1, (hb.block g h.lt).trans hg, h2, h3, h4, h5⟩⟩, h.vecs.below hb⟩

theorem GI.arr {w : World} {base g cap m : Nat} {M : IL} {V : Nat → Nat} {sv : Nat → Value} (h : GI w base g cap m M V sv) : Arr w g (m * 3) (icell M sv) := by
  obtain ⟨h1, cur, hg, h2, h3, h4, h5⟩ := h.shape
  refine ⟨cur, _, hg, by omega, fun j hj => ?_⟩
  rw [← icl_at M sv hj, ← h5, List.getElem?_take_of_lt hj, Array.getElem?_toList]

theorem GI.its {w : World} {base g cap m : Nat} {M : IL} {V : Nat → Nat} {sv : Nat → Value} (h : GI w base g cap m M V sv) : Its w base w.heap.size (some ⟨g, 0, none⟩) m M g V sv := h.vecs.its h.shape.1 h.arr

theorem GI.new (w : World) (V : Nat → Nat) (sv : Nat → Value) (M : IL) : GI (w.alloc (.cells #[] 36)) w.heap.size w.heap.size 0 0 M V sv :=
  ⟨⟨rfl, .inr ⟨w.heap.size, 0, #[], rfl, Nat.le_refl _, Go.Deep.blk_alloc_new _ _, Nat.le_refl _, Nat.zero_le _, rfl, rfl⟩⟩, Vecs.zero _ _ _ _ _ _⟩
/-- One more. -/
theorem GI.step {w w1 w2 w3 : World} {base g cap m : Nat} {M : IL} {V : Nat → Nat} {sv : Nat → Value} (h : GI w base g cap m M V sv) (hB : base ≤ w.heap.size) (hb : Below w.heap.size w w1) (x : It) (v : Value) (gv : Nat) (hv : VSl w1 w.heap.size w1.heap.size v x.vec gv)
    (hb2 : Below w1.heap.size w1 w2) {g' cap' : Nat} (hown : w3.ownsRow base 36 3 (.slice (some ⟨g', 0, none⟩) (m + 1) cap') (m + 1) (icl M sv m ++ [.int .i64 x.id, .int .i64 x.tags, v]))
    (hgrow : w2.grownBy w3 (some g)) (hat : some g = some g' ∨ g' = w2.heap.size) : GI w3 base g' cap' (m + 1) (M.put m x) (putF V m gv) (putF sv m v) := by
  have hs := (h.vecs.step hb hB h.lt x v gv hv).below hb2
  have hr := hs.row hgrow.size fun i hi hne => hgrow.block i hi (by simpa using hne)
  refine ⟨by rw [icl_put]; exact hown, hr.vec, fun i hi h0 => ⟨?_, (hr.sep i hi h0).2⟩⟩
  rcases hat with e | e
  · cases e; exact (hr.sep i hi h0).1
  · have := ((hs.vec i hi).lt h0).2.2
    omega

theorem itemInfo : ∃ i : TypeInfo, Try.prog.info? 36 = some i ∧ i.zero = some (.agg #[.int .i64 0, .int .i64 0, .slice none 0 0]) ∧ i.size = 3 ∧ i.bytes = 40 := by
  obtain ⟨i, hi, hzz⟩ := Option.map_eq_some_iff.1 Try.infoItem
  simp only [Prod.mk.injEq] at hzz
  exact ⟨i, hi, hzz.1, hzz.2.1, hzz.2.2⟩

theorem three_new (w : World) (x y z : Value) (t : TypeId) : ∀ (j : Nat) (u : Value), [x, y, z][j]? = some u → (w.alloc (.cells #[x, y, z] t)).cell? ((⟨w.heap.size, 0, none⟩ : Addr).add j) = some u := by
  intro j u hj
  match j, hj with
  | 0, hj => simp at hj; subst hj; simp [Addr.add]
  | 1, hj => simp at hj; subst hj; simp [Addr.add]
  | 2, hj => simp at hj; subst hj; simp [Addr.add]
  | j + 3, hj => simp at hj

theorem three_one (x y : Int) (a : Option Addr) (n c : Nat) : ∀ u ∈ [Value.int .i64 x, .int .i64 y, .slice a n c], u.oneCell' = true := by
  intro u hu
  simp at hu
  rcases hu with rfl | rfl | rfl <;> rfl

/-- How many of the first k are such, and these. -/
def cntP (p : It → Bool) (L : IL) : Nat → Nat
  | 0 => 0
  | k + 1 => if p (L k) then cntP p L k + 1 else cntP p L k
def fil (p : It → Bool) (L : IL) : Nat → IL
  | 0 => fun _ => ⟨0, 0, []⟩
  | k + 1 => if p (L k) then (fil p L k).put (cntP p L k) (L k) else fil p L k

theorem cntP_le (p : It → Bool) (L : IL) (k : Nat) : cntP p L k ≤ k := by
  induction k with
  | zero => exact Nat.le_refl _
  | succ k ih => simp only [cntP]; split <;> omega

theorem cntP_yes {p : It → Bool} {L : IL} {k : Nat} (h : p (L k) = true) : cntP p L (k + 1) = cntP p L k + 1 := by simp [cntP, h]

theorem cntP_no {p : It → Bool} {L : IL} {k : Nat} (h : p (L k) = false) : cntP p L (k + 1) = cntP p L k := by simp [cntP, h]

theorem fil_yes {p : It → Bool} {L : IL} {k : Nat} (h : p (L k) = true) : fil p L (k + 1) = (fil p L k).put (cntP p L k) (L k) := by simp [fil, h]

theorem fil_no {p : It → Bool} {L : IL} {k : Nat} (h : p (L k) = false) : fil p L (k + 1) = fil p L k := by simp [fil, h]

theorem sumV_congr {M N : IL} {k : Nat} (h : ∀ i, i < k → M i = N i) : sumV M k = sumV N k := by
  induction k with
  | zero => rfl
  | succ k ih => simp only [sumV]; rw [ih (fun i hi => h i (by omega)), h k (by omega)]

theorem sumV_fil (p : It → Bool) (L : IL) (k : Nat) : sumV (fil p L k) (cntP p L k) ≤ sumV L k := by
  induction k with
  | zero => exact Nat.le_refl _
  | succ k ih =>
    cases h : p (L k)
    · rw [cntP_no h, fil_no h]; simp only [sumV]; omega
    · rw [cntP_yes h, fil_yes h]
      simp only [sumV]
      rw [IL.put_at, sumV_congr (N := fil p L k) (fun i hi => IL.put_off _ _ (show i ≠ cntP p L k by omega))]
      omega

theorem fil_mem (p : It → Bool) (L : IL) (k : Nat) : ∀ i, i < cntP p L k → ∃ j, j < k ∧ fil p L k i = L j := by
  induction k with
  | zero => intro i hi; exact absurd hi (by simp [cntP])
  | succ k ih =>
    intro i hi
    cases h : p (L k)
    · rw [cntP_no h] at hi
      obtain ⟨j, hj, e⟩ := ih i hi
      exact ⟨j, by omega, by rw [fil_no h, e]⟩
    · rw [cntP_yes h] at hi
      rw [fil_yes h]
      by_cases e : i = cntP p L k
      · subst e; exact ⟨k, by omega, IL.put_at _ _ _⟩
      · obtain ⟨j, hj, e'⟩ := ih i (by omega)
        exact ⟨j, by omega, by rw [IL.put_off _ _ e, e']⟩
/-- Whether an item has all bits of a mask. -/
def mtB (mask : Int) (x : It) : Bool := bits .and .i64 x.tags mask == mask
end Go.Proofs.Ytjliecggfncelaa

/- (Item).matches. -/
namespace Go.Proofs.Ytjliecggfncelaa
open Go.RowKit
set_option maxRecDepth 8000
set_option linter.unusedSimpArgs false
set_option linter.unusedVariables false

set_option maxHeartbeats 400000 in
theorem matches_any (mask : Int) (x : It) (a : Option Addr) (n cap : Nat) (w : World) :
    Calls Try.prog 53 #[.agg #[.int .i64 x.id, .int .i64 x.tags, .slice a n cap], .int .i64 mask] w fun e w' => e = .returned (.bool (mtB mask x)) ∧ Below w.heap.size w w' := by
  unfold mtB
  go_enter Try.func53, Try.ntmps53
  go_wp2_with fail
  go_ret
  exact ⟨rfl, (by repeat' first | with_reducible exact Below.refl _ _ | with_reducible assumption | with_reducible refine below_drewN ?_ _ | with_reducible refine balloc ?_ _ | with_reducible refine Below.drew ?_ | with_reducible refine Below.setCell ?_ (by first | (simp; done) | (simp; omega) | omega) _ | with_reducible refine bstep ?_ (by assumption))⟩
end Go.Proofs.Ytjliecggfncelaa

/- copiedItems of the program: items of several slices, one behind the other. -/
namespace Go.Proofs.Ytjliecggfncelaa
open Go.RowKit
set_option maxRecDepth 8000
set_option linter.unusedSimpArgs false
set_option linter.unusedVariables false

/-- How many items the first i parts have, and these. -/
def catN (pn : Nat → Nat) : Nat → Nat
  | 0 => 0
  | i + 1 => catN pn i + pn i
def catL (pn : Nat → Nat) (PL : Nat → IL) : Nat → IL
  | 0 => fun _ => ⟨0, 0, []⟩
  | i + 1 => fun j => if j < catN pn i then catL pn PL i j else PL i (j - catN pn i)

theorem catN_mono {pn : Nat → Nat} {i j : Nat} (h : i ≤ j) : catN pn i ≤ catN pn j := by
  induction j with
  | zero => rw [show i = 0 by omega]; exact Nat.le_refl _
  | succ j ih =>
    by_cases e : i = j + 1
    · subst e; exact Nat.le_refl _
    · have := ih (by omega); show catN pn i ≤ catN pn j + _; omega

theorem GI.congr {w : World} {base g cap m : Nat} {M N : IL} {V : Nat → Nat} {sv : Nat → Value} (h : GI w base g cap m M V sv) (e : ∀ i, i < m → M i = N i) : GI w base g cap m N V sv :=
  ⟨by rw [← icl_congr e (fun _ _ => rfl)]; exact h.own, h.vecs.congr e (fun _ _ => rfl) (fun _ _ => rfl)⟩
/-- Items that grow, which are the first m of N. -/
def GIs (w : World) (base : Nat) (v : Value) (m : Nat) (N : IL) : Prop := ∃ g c V sv, v = .slice (some ⟨g, 0, none⟩) m c ∧ GI w base g c m N V sv

/-- The slices that lie in a block, one cell each. -/
structure Parts (w : World) (pb np : Nat) (pa : Nat → Option Addr) (pn pc : Nat → Nat) (PL : Nat → IL) : Prop where
  lt : pb < w.heap.size
  cell : ∀ i, i < np → w.cell? ⟨pb, i, none⟩ = some (.slice (pa i) (pn i) (pc i))
  row : ∀ i, i < np → IRow w (pa i) (pn i) (PL i)

theorem Parts.below {w w' : World} {pb np : Nat} {pa : Nat → Option Addr} {pn pc : Nat → Nat} {PL : Nat → IL} (h : Parts w pb np pa pn pc PL) (hb : Below w.heap.size w w') : Parts w' pb np pa pn pc PL :=
  ⟨Nat.lt_of_lt_of_le h.lt hb.size, fun i hi => (hb.cell (p := ⟨pb, i, none⟩) h.lt).trans (h.cell i hi), fun i hi => (h.row i hi).below hb⟩

/-- The answer of copiedItems. -/
def CatR (w : World) (m : Nat) (N : IL) (e : Ending) (w' : World) : Prop :=
  ∃ v, e = .returned v ∧ GIs w' w.heap.size v m N ∧ Below w.heap.size w w'

end Go.Proofs.Ytjliecggfncelaa
/- ItemDrop, plain: what is left of items that rise without one of them; of the model and of the program. -/
namespace Go.Proofs.Ytjliecggfncelaa
open Go.RowKit
set_option maxRecDepth 8000
set_option linter.unusedSimpArgs false
set_option linter.unusedVariables false

theorem itemsB_n {dim : Int} {n : Nat} {L : IL} (h : itemsB dim n L = true) : n ≤ 60 := by
  unfold itemsB at h
  simp only [Bool.and_eq_true, decide_eq_true_eq] at h
  exact h.1.2

theorem itemsB_ok {dim : Int} {n : Nat} {L : IL} (h : itemsB dim n L = true) {k : Nat} (hk : k < n) : okI dim L k = true := by
  unfold itemsB at h
  simp only [Bool.and_eq_true] at h
  cases e : okI dim L k
  · rw [allN_no hk e] at h; exact absurd h.2 (by simp)
  · rfl

theorem itemsB_next {dim : Int} {n : Nat} {L : IL} (h : itemsB dim n L = true) {k : Nat} (hk : k + 1 < n) : (L k).id < (L (k + 1)).id := by
  have := itemsB_ok h hk
  unfold okI at this
  simp only [Bool.and_eq_true, Bool.or_eq_true, decide_eq_true_eq, Bool.not_eq_true', decide_eq_false_iff_not, Nat.add_sub_cancel] at this
  rcases this.2 with h | h <;> omega

theorem itemsB_rise {dim : Int} {n : Nat} {L : IL} (h : itemsB dim n L = true) {i j : Nat} (hij : i < j) (hj : j < n) : (L i).id < (L j).id := by
  induction j with
  | zero => omega
  | succ j ih =>
    have := itemsB_next h hj
    by_cases e : i = j
    · subst e; exact this
    · have := ih (by omega) (by omega); omega

theorem itemsB_le {dim : Int} {n : Nat} {L : IL} (h : itemsB dim n L = true) (i j : Nat) (hij : i ≤ j) (hj : j < n) : (L i).id ≤ (L j).id := by
  by_cases e : i = j
  · subst e; exact Int.le_refl _
  · exact Int.le_of_lt (itemsB_rise h (by omega) hj)

def neB (id : Int) (x : It) : Bool := x.id != id
/-- All but the p-th. -/
def sansL (L : IL) (p : Nat) : IL := fun j => if j < p then L j else L (j + 1)

theorem sans_fil {L : IL} {id : Int} {n p : Nat} (hp : p < n) (he : (L p).id = id) (hne : ∀ i, i < n → i ≠ p → (L i).id ≠ id) : ∀ k, k ≤ n → (k ≤ p → cntP (neB id) L k = k ∧ ∀ j, j < k → fil (neB id) L k j = L j) ∧ (p < k → cntP (neB id) L k = k - 1 ∧ ∀ j, j < k - 1 → fil (neB id) L k j = sansL L p j) := by
  intro k
  induction k with
  | zero => intro _; exact ⟨fun _ => ⟨rfl, fun j hj => absurd hj (by omega)⟩, fun h => absurd h (by omega)⟩
  | succ k ih =>
    intro hk
    obtain ⟨i1, i2⟩ := ih (by omega)
    by_cases e : k = p
    · subst e
      have hb : neB id (L k) = false := by simp [neB, he]
      obtain ⟨q1, q2⟩ := i1 (Nat.le_refl _)
      refine ⟨fun h => absurd h (by omega), fun _ => ⟨by rw [cntP_no hb, q1]; omega, fun j hj => ?_⟩⟩
      rw [fil_no hb, q2 j (by omega)]
      simp [sansL, show j < k by omega]
    · have hb : neB id (L k) = true := by simpa [neB] using hne k (by omega) e
      by_cases hkp : k < p
      · obtain ⟨q1, q2⟩ := i1 (by omega)
        refine ⟨fun _ => ⟨by rw [cntP_yes hb, q1], fun j hj => ?_⟩, fun h => absurd h (by omega)⟩
        rw [fil_yes hb, q1]
        by_cases ej : j = k
        · subst ej; rw [IL.put_at]
        · rw [IL.put_off _ _ ej, q2 j (by omega)]
      · obtain ⟨q1, q2⟩ := i2 (by omega)
        refine ⟨fun h => absurd h (by omega), fun _ => ⟨by rw [cntP_yes hb, q1]; omega, fun j hj => ?_⟩⟩
        rw [fil_yes hb, q1]
        by_cases ej : j = k - 1
        · subst ej
          rw [IL.put_at]
          simp only [sansL]
          rw [if_neg (by omega), show k - 1 + 1 = k by omega]
        · rw [IL.put_off _ _ ej, q2 j (by omega)]

/-- The place that was found is of the first one that has the id. -/
theorem place_find {dim : Int} {n : Nat} {L : IL} {id : Int} {p : Nat} (hit : itemsB dim n L = true) (hp : IsPlace n L id p) : (findX n L id).2 = decide (p < n ∧ (L p).id = id) := by
  by_cases h : p < n ∧ (L p).id = id
  · rw [decide_eq_true h, findX_hit h.1 h.2 fun j hj => by have := hp.lo j hj; omega]
  · rw [decide_eq_false h, findX_miss fun j hj e => ?_]
    rcases Nat.lt_or_ge j p with hlt | hge
    · have := hp.lo j hlt; omega
    · by_cases hpj : p = j
      · subst hpj; exact h ⟨hj, e⟩
      · have h1 := hp.hi p (Nat.le_refl _) (by omega)
        have h2 := itemsB_rise hit (show p < j by omega) hj
        omega

/-- The answer of ItemDrop, and of whoever tells items and something beside them. -/
def TwoR (w : World) (m : Nat) (N : IL) (u : Value) (e : Ending) (w' : World) : Prop :=
  ∃ a cap g V sv, e = .returned (.tuple #[.slice a m cap, u]) ∧ Its w' w.heap.size w'.heap.size a m N g V sv ∧ Below w.heap.size w w'

theorem twoR_nil {w w' : World} {u : Value} {N : IL} {e : Ending} (he : e = .returned (.tuple #[.slice none 0 0, u])) (hb : Below w.heap.size w w') : TwoR w 0 N u e w' :=
  ⟨none, 0, 0, fun _ => 0, fun _ => .slice none 0 0, he, ⟨.inl rfl, fun i hi => absurd hi (by omega), fun i hi => absurd hi (by omega)⟩, hb⟩

theorem GI.low {w : World} {base base' g cap m : Nat} {M : IL} {V : Nat → Nat} {sv : Nat → Value} (h : GI w base g cap m M V sv) (hb : base' ≤ base) : GI w base' g cap m M V sv := by
  obtain ⟨h1, cur, hg, h2⟩ := h.shape
  exact ⟨⟨icl_len _ _ _, .inr ⟨g, cap, cur, rfl, by omega, hg, h2⟩⟩, fun i hi => (h.vecs.vec i hi).mono hb (Nat.le_refl _), h.vecs.sep⟩
/-- As TwoR, and the row's room is known. -/
def TwoG (w : World) (m : Nat) (N : IL) (u : Value) (e : Ending) (w' : World) : Prop :=
  ∃ v, e = .returned (.tuple #[v, u]) ∧ ((v = .slice none 0 0 ∧ m = 0) ∨ GIs w' w.heap.size v m N) ∧ Below w.heap.size w w'
def TwoGs (w : World) (m : Nat) (N : IL) (u : Value) (e : Ending) (w' : World) : Prop :=
  ∃ v, e = .returned (.tuple #[v, u]) ∧ GIs w' w.heap.size v m N ∧ Below w.heap.size w w'

theorem TwoGs.g {w : World} {m : Nat} {N : IL} {u : Value} {e : Ending} {w' : World} (h : TwoGs w m N u e w') : TwoG w m N u e w' := by
  obtain ⟨v, he, hg, hb⟩ := h
  exact ⟨v, he, .inr hg, hb⟩

theorem twoG_nil {w w' : World} {u : Value} {N : IL} {e : Ending} (he : e = .returned (.tuple #[.slice none 0 0, u])) (hb : Below w.heap.size w w') : TwoG w 0 N u e w' :=
  ⟨_, he, .inl ⟨rfl, rfl⟩, hb⟩

theorem TwoG.two {w : World} {m : Nat} {N : IL} {u : Value} {e : Ending} {w' : World} (h : TwoG w m N u e w') : TwoR w m N u e w' := by
  obtain ⟨v, he, ⟨rfl, rfl⟩ | ⟨g, c, V, sv, rfl, hg⟩, hb⟩ := h
  · exact twoR_nil he hb
  · exact ⟨_, c, g, V, sv, he, hg.its, hb⟩

theorem TwoG.less {w : World} {m : Nat} {N M : IL} {u : Value} {e : Ending} {w' : World} (h : TwoG w m N u e w') (he : ∀ i, i < m → N i = M i) : TwoG w m M u e w' := by
  obtain ⟨v, h1, ⟨rfl, rfl⟩ | ⟨g, c, V, sv, rfl, hg⟩, hb⟩ := h
  · exact ⟨_, h1, .inl ⟨rfl, rfl⟩, hb⟩
  · exact ⟨_, h1, .inr ⟨g, c, V, sv, rfl, hg.congr he⟩, hb⟩

def dropB (dim : Int) (n : Nat) (L : IL) (id : Int) : Bool := itemsB dim n L && (findX n L id).2
def dropN (dim : Int) (n : Nat) (L : IL) (id : Int) : Nat := if dropB dim n L id then cntP (neB id) L n else 0
end Go.Proofs.Ytjliecggfncelaa

/- Items that are right, plain; those of them that are such. -/
namespace Go.Proofs.Ytjliecggfncelaa
open Go.RowKit
set_option maxRecDepth 8000
set_option linter.unusedSimpArgs false
set_option linter.unusedVariables false

theorem itemsB_dim {dim : Int} {n : Nat} {L : IL} (h : itemsB dim n L = true) : inB dim 1 8 = true := by
  unfold itemsB at h
  simp only [Bool.and_eq_true] at h
  exact h.1.1

theorem itemsB_item {dim : Int} {n : Nat} {L : IL} (h : itemsB dim n L = true) {k : Nat} (hk : k < n) : itemB dim (L k) = true := by
  have := itemsB_ok h hk
  unfold okI at this
  simp only [Bool.and_eq_true] at this
  exact this.1
/-- Items are right where each is, and each id is greater than the one ahead. -/
theorem itemsB_mk {dim : Int} {n : Nat} {L : IL} (hd : inB dim 1 8 = true) (hn : n ≤ 60) (hi : ∀ k, k < n → itemB dim (L k) = true) (hr : ∀ k, k + 1 < n → (L k).id < (L (k + 1)).id) : itemsB dim n L = true := by
  unfold itemsB
  rw [hd, decide_eq_true hn, allN_yes]
  · rfl
  · intro k hk
    unfold okI
    rw [hi k hk, Bool.true_and]
    by_cases h0 : k = 0
    · simp [h0]
    · have := hr (k - 1) (by omega)
      rw [show k - 1 + 1 = k by omega] at this
      simp [h0]; omega

theorem fil_rise {dim : Int} {n : Nat} {L : IL} (h : itemsB dim n L = true) (p : It → Bool) : ∀ m, m ≤ n → ∀ k, k + 1 < cntP p L m → (fil p L m k).id < (fil p L m (k + 1)).id
  | 0, _, k, hk => absurd hk (by simp [cntP])
  | m + 1, hm, k, hk => by
    have ih := fil_rise h p m (by omega)
    cases hp : p (L m)
    · rw [cntP_no hp] at hk
      rw [fil_no hp]
      exact ih k hk
    · rw [cntP_yes hp] at hk
      rw [fil_yes hp]
      by_cases e : k + 1 = cntP p L m
      · rw [e, IL.put_at, IL.put_off _ _ (by omega)]
        obtain ⟨j, hj, ej⟩ := fil_mem p L m k (by omega)
        rw [ej]
        exact itemsB_rise h hj (by omega)
      · rw [IL.put_off _ _ (by omega), IL.put_off _ _ e]
        exact ih k (by omega)
/-- Those of right items that are such are right. -/
theorem itemsB_fil {dim : Int} {n : Nat} {L : IL} (h : itemsB dim n L = true) (p : It → Bool) : itemsB dim (cntP p L n) (fil p L n) = true :=
  itemsB_mk (itemsB_dim h) (Nat.le_trans (cntP_le p L n) (itemsB_n h)) (fun k hk => by
    obtain ⟨j, hj, e⟩ := fil_mem p L n k hk
    rw [e]; exact itemsB_item h hj) (fil_rise h p n (Nat.le_refl _))
end Go.Proofs.Ytjliecggfncelaa

/- ItemPut, plain: the place of an id among items that rise; what there is behind a put. -/
namespace Go.Proofs.Ytjliecggfncelaa
open Go.RowKit
set_option maxRecDepth 8000
set_option linter.unusedSimpArgs false
set_option linter.unusedVariables false

/-- How many of the first k stand ahead of an id, where they rise. -/
def plc (L : IL) (id : Int) : Nat → Nat
  | 0 => 0
  | k + 1 => if (L k).id < id then k + 1 else plc L id k

theorem plc_is {L : IL} {id : Int} {n : Nat} (hr : ∀ i j, i ≤ j → j < n → (L i).id ≤ (L j).id) : IsPlace n L id (plc L id n) := by
  induction n with
  | zero => exact ⟨Nat.le_refl _, fun i hi => absurd hi (by simp [plc]), fun i _ hi => absurd hi (by omega)⟩
  | succ n ih =>
    obtain ⟨h1, h2, h3⟩ := ih fun i j h1 h2 => hr i j h1 (by omega)
    unfold plc
    by_cases h : (L n).id < id
    · rw [if_pos h]
      exact ⟨Nat.le_refl _, fun i hi => by have := hr i n (by omega) (by omega); omega, fun i h1 h2 => absurd h2 (by omega)⟩
    · rw [if_neg h]
      refine ⟨by omega, h2, fun i hi hin => ?_⟩
      by_cases e : i = n
      · subst e; omega
      · exact h3 i hi (by omega)

theorem IsPlace.uniq {n : Nat} {L : IL} {id : Int} {p q : Nat} (hp : IsPlace n L id p) (hq : IsPlace n L id q) : p = q := by
  rcases Nat.lt_trichotomy p q with h | h | h
  · have h1 := hp.hi p (Nat.le_refl _) (by have := hq.le; omega)
    have h2 := hq.lo p h
    omega
  · exact h
  · have h1 := hq.hi q (Nat.le_refl _) (by have := hp.le; omega)
    have h2 := hp.lo q h
    omega

/-- Whether an item of that id is there. -/
def isAt (n : Nat) (L : IL) (id : Int) : Bool := decide (plc L id n < n ∧ (L (plc L id n)).id = id)
/-- The items behind a put at p: in the place of the p-th, or ahead of it. -/
def putI (L : IL) (p : Nat) (f : Bool) (x : It) : IL := fun j => if j < p then L j else if j = p then x else if f then L j else L (j - 1)
/-- Whether a put is right in form; how many there are behind it; its code; how many are told. -/
def putOk (dim : Int) (n : Nat) (L : IL) (x : It) : Bool := itemsB dim n L && itemB dim x
def putM (n : Nat) (L : IL) (x : It) : Nat := if isAt n L x.id then n else n + 1
def putC (dim : Int) (n : Nat) (L : IL) (x : It) : Int := if putOk dim n L x then (if putM n L x ≤ 60 then 0 else 2) else 1
def putT (dim : Int) (n : Nat) (L : IL) (x : It) : Nat := if putOk dim n L x then (if putM n L x ≤ 60 then putM n L x else 0) else 0
def putA (n : Nat) (L : IL) (x : It) : IL := putI L (plc L x.id n) (isAt n L x.id) x

theorem putI_lt {L : IL} {p : Nat} {f : Bool} {x : It} {j : Nat} (h : j < p) : putI L p f x j = L j := by unfold putI; rw [if_pos h]

theorem putI_at {L : IL} {p : Nat} {f : Bool} {x : It} : putI L p f x p = x := by unfold putI; rw [if_neg (by omega), if_pos rfl]

theorem putI_yes {L : IL} {p : Nat} {x : It} {j : Nat} (h : p < j) : putI L p true x j = L j := by unfold putI; rw [if_neg (by omega), if_neg (by omega), if_pos rfl]

theorem putI_no {L : IL} {p : Nat} {x : It} {j : Nat} (h : p < j) : putI L p false x j = L (j - 1) := by unfold putI; rw [if_neg (by omega), if_neg (by omega)]; rfl

/-- One more, which is the next one of N. -/
theorem GI.next {w w1 w2 w3 : World} {base g cap m : Nat} {N : IL} {V : Nat → Nat} {sv : Nat → Value} (h : GI w base g cap m N V sv) (hB : base ≤ w.heap.size) (hb : Below w.heap.size w w1) (x : It) (hx : N m = x) (v : Value) (gv : Nat) (hv : VSl w1 w.heap.size w1.heap.size v x.vec gv)
    (hb2 : Below w1.heap.size w1 w2) {g' cap' : Nat} (hown : w3.ownsRow base 36 3 (.slice (some ⟨g', 0, none⟩) (m + 1) cap') (m + 1) (icl N sv m ++ [.int .i64 x.id, .int .i64 x.tags, v]))
    (hgrow : w2.grownBy w3 (some g)) (hat : some g = some g' ∨ g' = w2.heap.size) : GI w3 base g' cap' (m + 1) N (putF V m gv) (putF sv m v) :=
  (h.step hB hb x v gv hv hb2 hown hgrow hat).congr fun i hi => by
    by_cases e : i = m
    · subst e; rw [IL.put_at, hx]
    · rw [IL.put_off _ _ e]

theorem sumV_put (L : IL) (p : Nat) (f : Bool) (x : It) (n : Nat) (hp : p ≤ n) : sumV (putI L p f x) (if f then n else n + 1) ≤ sumV L n + x.vec.length := by
  have hlt : ∀ k, k ≤ p → sumV (putI L p f x) k = sumV L k := fun k hk => sumV_congr fun i hi => putI_lt (by omega)
  cases f
  · have h : ∀ k, sumV (putI L p false x) (p + k + 1) = sumV L (p + k) + x.vec.length := by
      intro k
      induction k with
      | zero => show sumV _ p + (putI L p false x p).vec.length = _; rw [hlt p (Nat.le_refl _), putI_at]; rfl
      | succ k ih =>
        show sumV _ (p + k + 1) + (putI L p false x (p + k + 1)).vec.length = sumV L (p + k) + (L (p + k)).vec.length + _
        rw [ih, putI_no (by omega), show p + k + 1 - 1 = p + k by omega]
        omega
    have := h (n - p)
    rw [show p + (n - p) = n by omega] at this
    simp only [Bool.false_eq_true, if_false]
    omega
  · by_cases e : p = n
    · subst e; rw [if_pos rfl, hlt _ (Nat.le_refl _)]; omega
    · have h : ∀ k, sumV (putI L p true x) (p + k + 1) ≤ sumV L (p + k + 1) + x.vec.length := by
        intro k
        induction k with
        | zero => show sumV _ p + (putI L p true x p).vec.length ≤ sumV L p + (L p).vec.length + _; rw [hlt p (Nat.le_refl _), putI_at]; omega
        | succ k ih =>
          show sumV _ (p + k + 1) + (putI L p true x (p + k + 1)).vec.length ≤ sumV L (p + k + 1) + (L (p + k + 1)).vec.length + _
          rw [putI_yes (by omega)]
          omega
      have := h (n - p - 1)
      rw [show p + (n - p - 1) + 1 = n by omega] at this
      rw [if_pos rfl]
      exact this
end Go.Proofs.Ytjliecggfncelaa
