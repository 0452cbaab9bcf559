/- Items that grow by append: the row in one block, the vectors in blocks of their own. -/
import Derived.Test.YtcbmfannbaaokaaIK
import Derived.Deep.AppendLies
namespace Go.Proofs.Ytcbmfannbaaokaa
open Go.RowKit
set_option linter.unusedSimpArgs false
set_option linter.unusedVariables false

/-- The cells of the first k items, as a list. -/
def icl (M : IL) (sv : Nat → Value) : Nat → List Value
  | 0 => []
  | k + 1 => icl M sv k ++ [.int .i64 (M k).id, .int .i64 (M k).tags, sv k]
theorem icl_len (M : IL) (sv : Nat → Value) (k : Nat) : (icl M sv k).length = k * 3 := by
  induction k with
  | zero => rfl
  | succ k ih => simp only [icl, List.length_append, ih]; simp; omega
theorem icl_congr {M N : IL} {sv sv' : Nat → Value} {k : Nat} (h : ∀ i, i < k → M i = N i) (h' : ∀ i, i < k → sv i = sv' i) : icl M sv k = icl N sv' k := by
  induction k with
  | zero => rfl
  | succ k ih => simp only [icl]; rw [ih (fun i hi => h i (by omega)) (fun i hi => h' i (by omega)), h k (by omega), h' k (by omega)]
theorem icl_put (M : IL) (sv : Nat → Value) (k : Nat) (x : It) (v : Value) : icl (M.put k x) (putF sv k v) (k + 1) = icl M sv k ++ [.int .i64 x.id, .int .i64 x.tags, v] := by
  simp only [icl]
  rw [IL.put_at, putF_at, icl_congr (fun i hi => IL.put_off M x (show i ≠ k by omega)) (fun i hi => putF_off sv v (show i ≠ k by omega))]
theorem icl_at (M : IL) (sv : Nat → Value) {k j : Nat} (hj : j < k * 3) : (icl M sv k)[j]? = some (icell M sv j) := by
  induction k with
  | zero => omega
  | succ k ih =>
    simp only [icl]
    by_cases h : j < k * 3
    · rw [List.getElem?_append_left (by rw [icl_len]; exact h)]
      exact ih h
    · rw [List.getElem?_append_right (by rw [icl_len]; omega), icl_len]
      rcases (show j = k * 3 ∨ j = k * 3 + 1 ∨ j = k * 3 + 2 by omega) with rfl | rfl | rfl
      · rw [icell_0, Nat.sub_self]; rfl
      · rw [icell_1, show k * 3 + 1 - k * 3 = 1 by omega]; rfl
      · rw [icell_2, show k * 3 + 2 - k * 3 = 2 by omega]; rfl

structure GI (w : World) (base g cap m : Nat) (M : IL) (V : Nat → Nat) (sv : Nat → Value) : Prop where
  own : w.ownsRow base 27 3 (.slice (some ⟨g, 0, none⟩) m cap) m (icl M sv m)
  vecs : Vecs w base m M V sv g
theorem GI.shape {w : World} {base g cap m : Nat} {M : IL} {V : Nat → Nat} {sv : Nat → Value} (h : GI w base g cap m M V sv) : base ≤ g ∧ ∃ cur, w.heap[g]? = some (.cells cur 27 (0, 0)) ∧ m ≤ cap ∧ cap ≤ maxLen ∧ cur.size = cap * 3 ∧ cur.toList.take (m * 3) = icl M sv m := by
  rcases h.own.2 with ⟨h0, _⟩ | ⟨g', cap', cur, hv, hb, hg, hcap, hm, hsz, htake⟩
  · cases h0
  · simp only [Value.slice.injEq, Option.some.injEq, Addr.mk.injEq] at hv
    obtain ⟨⟨rfl, _⟩, _, rfl⟩ := hv
    exact ⟨hb, cur, hg, hcap, hm, hsz, htake⟩
theorem GI.lt {w : World} {base g cap m : Nat} {M : IL} {V : Nat → Nat} {sv : Nat → Value} (h : GI w base g cap m M V sv) : g < w.heap.size := by
  obtain ⟨_, cur, hg, _⟩ := h.shape
  exact (Array.getElem?_eq_some_iff.1 hg).1
theorem GI.below {w w' : World} {base g cap m : Nat} {M : IL} {V : Nat → Nat} {sv : Nat → Value} (h : GI w base g cap m M V sv) (hb : Below w.heap.size w w') : GI w' base g cap m M V sv := by
  obtain ⟨h1, cur, hg, h2, h3, h4, h5⟩ := h.shape
  exact ⟨⟨icl_len _ _ _, .inr ⟨g, cap, cur, rfl, h1, (hb.block g h.lt).trans hg, h2, h3, h4, h5⟩⟩, h.vecs.below hb⟩
theorem GI.arr {w : World} {base g cap m : Nat} {M : IL} {V : Nat → Nat} {sv : Nat → Value} (h : GI w base g cap m M V sv) : Arr w g (m * 3) (icell M sv) := by
  obtain ⟨h1, cur, hg, h2, h3, h4, h5⟩ := h.shape
  refine ⟨cur, _, hg, by omega, fun j hj => ?_⟩
  rw [← icl_at M sv hj, ← h5, List.getElem?_take_of_lt hj, Array.getElem?_toList]
theorem GI.its {w : World} {base g cap m : Nat} {M : IL} {V : Nat → Nat} {sv : Nat → Value} (h : GI w base g cap m M V sv) : Its w base w.heap.size (some ⟨g, 0, none⟩) m M g V sv := h.vecs.its h.shape.1 h.arr
theorem GI.new (w : World) (V : Nat → Nat) (sv : Nat → Value) (M : IL) : GI (w.alloc (.cells #[] 27)) w.heap.size w.heap.size 0 0 M V sv :=
  ⟨⟨rfl, .inr ⟨w.heap.size, 0, #[], rfl, Nat.le_refl _, Go.Deep.blk_alloc_new _ _, Nat.le_refl _, Nat.zero_le _, rfl, rfl⟩⟩, Vecs.zero _ _ _ _ _ _⟩
/-- One more. -/
theorem GI.step {w w1 w2 w3 : World} {base g cap m : Nat} {M : IL} {V : Nat → Nat} {sv : Nat → Value} (h : GI w base g cap m M V sv) (hB : base ≤ w.heap.size) (hb : Below w.heap.size w w1) (x : It) (v : Value) (gv : Nat) (hv : VSl w1 w.heap.size w1.heap.size v x.vec gv)
    (hb2 : Below w1.heap.size w1 w2) {g' cap' : Nat} (hown : w3.ownsRow base 27 3 (.slice (some ⟨g', 0, none⟩) (m + 1) cap') (m + 1) (icl M sv m ++ [.int .i64 x.id, .int .i64 x.tags, v]))
    (hgrow : w2.grownBy w3 (some g)) (hat : some g = some g' ∨ g' = w2.heap.size) : GI w3 base g' cap' (m + 1) (M.put m x) (putF V m gv) (putF sv m v) := by
  have hs := (h.vecs.step hb hB h.lt x v gv hv).below hb2
  have hr := hs.row hgrow.size fun i hi hne => hgrow.block i hi (by simpa using hne)
  refine ⟨by rw [icl_put]; exact hown, hr.vec, fun i hi h0 => ⟨?_, (hr.sep i hi h0).2⟩⟩
  rcases hat with e | e
  · cases e; exact (hr.sep i hi h0).1
  · have := ((hs.vec i hi).lt h0).2.2
    omega

theorem itemInfo : ∃ i : TypeInfo, Try.prog.info? 27 = some i ∧ i.zero = some (.agg #[.int .i64 0, .int .i64 0, .slice none 0 0]) ∧ i.size = 3 ∧ i.bytes = 40 := by
  obtain ⟨i, hi, hzz⟩ := Option.map_eq_some_iff.1 Try.infoItem
  simp only [Prod.mk.injEq] at hzz
  exact ⟨i, hi, hzz.1, hzz.2.1, hzz.2.2⟩
theorem three_new (w : World) (x y z : Value) (t : TypeId) : ∀ (j : Nat) (u : Value), [x, y, z][j]? = some u → (w.alloc (.cells #[x, y, z] t)).cell? ((⟨w.heap.size, 0, none⟩ : Addr).add j) = some u := by
  intro j u hj
  match j, hj with
  | 0, hj => simp at hj; subst hj; simp [Addr.add]
  | 1, hj => simp at hj; subst hj; simp [Addr.add]
  | 2, hj => simp at hj; subst hj; simp [Addr.add]
  | j + 3, hj => simp at hj
theorem three_one (x y : Int) (a : Option Addr) (n c : Nat) : ∀ u ∈ [Value.int .i64 x, .int .i64 y, .slice a n c], u.oneCell' = true := by
  intro u hu
  simp at hu
  rcases hu with rfl | rfl | rfl <;> rfl

/-- How many of the first k are such, and these. -/
def cntP (p : It → Bool) (L : IL) : Nat → Nat
  | 0 => 0
  | k + 1 => if p (L k) then cntP p L k + 1 else cntP p L k
def fil (p : It → Bool) (L : IL) : Nat → IL
  | 0 => fun _ => ⟨0, 0, []⟩
  | k + 1 => if p (L k) then (fil p L k).put (cntP p L k) (L k) else fil p L k
theorem cntP_le (p : It → Bool) (L : IL) (k : Nat) : cntP p L k ≤ k := by
  induction k with
  | zero => exact Nat.le_refl _
  | succ k ih => simp only [cntP]; split <;> omega
theorem cntP_yes {p : It → Bool} {L : IL} {k : Nat} (h : p (L k) = true) : cntP p L (k + 1) = cntP p L k + 1 := by simp [cntP, h]
theorem cntP_no {p : It → Bool} {L : IL} {k : Nat} (h : p (L k) = false) : cntP p L (k + 1) = cntP p L k := by simp [cntP, h]
theorem fil_yes {p : It → Bool} {L : IL} {k : Nat} (h : p (L k) = true) : fil p L (k + 1) = (fil p L k).put (cntP p L k) (L k) := by simp [fil, h]
theorem fil_no {p : It → Bool} {L : IL} {k : Nat} (h : p (L k) = false) : fil p L (k + 1) = fil p L k := by simp [fil, h]
theorem sumV_congr {M N : IL} {k : Nat} (h : ∀ i, i < k → M i = N i) : sumV M k = sumV N k := by
  induction k with
  | zero => rfl
  | succ k ih => simp only [sumV]; rw [ih (fun i hi => h i (by omega)), h k (by omega)]
theorem sumV_fil (p : It → Bool) (L : IL) (k : Nat) : sumV (fil p L k) (cntP p L k) ≤ sumV L k := by
  induction k with
  | zero => exact Nat.le_refl _
  | succ k ih =>
    cases h : p (L k)
    · rw [cntP_no h, fil_no h]; simp only [sumV]; omega
    · rw [cntP_yes h, fil_yes h]
      simp only [sumV]
      rw [IL.put_at, sumV_congr (N := fil p L k) (fun i hi => IL.put_off _ _ (show i ≠ cntP p L k by omega))]
      omega
theorem fil_mem (p : It → Bool) (L : IL) (k : Nat) : ∀ i, i < cntP p L k → ∃ j, j < k ∧ fil p L k i = L j := by
  induction k with
  | zero => intro i hi; exact absurd hi (by simp [cntP])
  | succ k ih =>
    intro i hi
    cases h : p (L k)
    · rw [cntP_no h] at hi
      obtain ⟨j, hj, e⟩ := ih i hi
      exact ⟨j, by omega, by rw [fil_no h, e]⟩
    · rw [cntP_yes h] at hi
      rw [fil_yes h]
      by_cases e : i = cntP p L k
      · subst e; exact ⟨k, by omega, IL.put_at _ _ _⟩
      · obtain ⟨j, hj, e'⟩ := ih i (by omega)
        exact ⟨j, by omega, by rw [IL.put_off _ _ e, e']⟩
end Go.Proofs.Ytcbmfannbaaokaa
