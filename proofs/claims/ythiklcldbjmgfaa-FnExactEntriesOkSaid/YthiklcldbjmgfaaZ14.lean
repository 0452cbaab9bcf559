/- Rows of ranges made by append; markRangeS and heldRangeS of the laws. -/
import Derived.Test.YthiklcldbjmgfaaZ10
import Derived.Deep.AppendLies
import Derived.Deep.RegionLaw
namespace Go.Proofs.Ythiklcldbjmgfaa
open Go.RowKit
set_option maxRecDepth 8000
set_option linter.unusedSimpArgs false
set_option linter.unusedVariables false

def pvals (f g : Nat → Int) : Nat → List Value
  | 0 => []
  | k + 1 => pvals f g k ++ [.int .i64 (f k), .int .i64 (g k)]

theorem pvals_len (f g : Nat → Int) (k : Nat) : (pvals f g k).length = k * 2 := by
  induction k with
  | zero => rfl
  | succ k ih => simp only [pvals, List.length_append, ih]; simp; omega

theorem pvals_at (f g : Nat → Int) (k : Nat) : ∀ i, i < k → (pvals f g k)[i * 2]? = some (.int .i64 (f i)) ∧ (pvals f g k)[i * 2 + 1]? = some (.int .i64 (g i)) := by
  induction k with
  | zero => intro i hi; omega
  | succ k ih =>
    intro i hi
    simp only [pvals]
    rcases Nat.lt_succ_iff_lt_or_eq.1 hi with h | h
    · rw [List.getElem?_append_left (by rw [pvals_len]; omega), List.getElem?_append_left (by rw [pvals_len]; omega)]
      exact ih i h
    · subst h
      rw [List.getElem?_append_right (by rw [pvals_len]; omega), List.getElem?_append_right (by rw [pvals_len]; omega), pvals_len]
      simp [show i * 2 + 1 - i * 2 = 1 by omega]

theorem prow_of_owns {w : World} {base : Nat} {v : Value} {n : Nat} {f g : Nat → Int} (h : w.ownsRow base 48 2 v n (pvals f g n)) :
    ∃ a cap, v = .slice a n cap ∧ PRow w a n f g ∧ ∀ b off, a = some ⟨b, off, none⟩ → base ≤ b := by
  have h0 := h
  rcases h.2 with ⟨rfl, rfl⟩ | ⟨b, cap, cur, rfl, hb, hg, hcap, _, hsz, htake⟩
  · exact ⟨none, 0, rfl, ⟨.inl rfl⟩, fun b off e => by cases e⟩
  · refine ⟨_, cap, rfl, ⟨.inr ⟨b, 0, rfl, (Array.getElem?_eq_some_iff.1 hg).1, fun i hi => ?_⟩⟩, fun b off e => by cases e; exact hb⟩
    obtain ⟨p0, p1⟩ := pvals_at f g n i hi
    have c0 := h0.cells (g := b) rfl (i * 2) _ p0
    have c1 := h0.cells (g := b) rfl (i * 2 + 1) _ p1
    rw [Nat.zero_add]
    refine ⟨?_, ?_⟩
    · by_cases h00 : i = 0
      · subst h00; simpa [Addr.add] using c0
      · simpa [Addr.add, show ¬ i * 2 = 0 by omega] using c0
    · simpa [Addr.add] using c1

theorem two_new (w : World) (x y : Value) (t : TypeId) : ∀ (j : Nat) (u : Value), [x, y][j]? = some u → (w.alloc (.cells #[x, y] t)).cell? ((⟨w.heap.size, 0, none⟩ : Addr).add j) = some u := by
  intro j u hj
  match j, hj with
  | 0, hj => simp at hj; subst hj; simp [Addr.add]
  | 1, hj => simp at hj; subst hj; simp [Addr.add]
  | j + 2, hj => simp at hj

theorem infoRange_parts : ∃ i : TypeInfo, Try.prog.info? 48 = some i ∧ i.zero = some (.agg #[.int .i64 0, .int .i64 0]) ∧ i.size = 2 ∧ i.bytes = 16 := by
  obtain ⟨i, hi, hzz⟩ := Option.map_eq_some_iff.1 Try.infoRange
  simp only [Prod.mk.injEq] at hzz
  exact ⟨i, hi, hzz.1, hzz.2.1, hzz.2.2⟩

theorem owns_drewP {w : World} {base : Nat} {e : TypeId} {size : Nat} {v : Value} {n : Nat} {xs : List Value} (h : w.ownsRow base e size v n xs) : w.drew.ownsRow base e size v n xs := h

theorem owns_below {w w' : World} {base : Nat} {e : TypeId} {size : Nat} {v : Value} {n : Nat} {xs : List Value} (h : w.ownsRow base e size v n xs) (hb : Below w.heap.size w w') : w'.ownsRow base e size v n xs := by
  refine ⟨h.1, ?_⟩
  rcases h.2 with h0 | ⟨g, cap, cur, hv, hb0, hg, hrest⟩
  · exact .inl h0
  · exact .inr ⟨g, cap, cur, hv, hb0, (hb.block g (Array.getElem?_eq_some_iff.1 hg).1).trans hg, hrest⟩
/-- Behind an append the old memory is as it was. -/
theorem below_appP {B : Nat} {w wr w2 : World} {v : Value} {k : Nat} {e : TypeId} {size : Nat} {xs : List Value} (hb : Below B w wr) (hB : B ≤ wr.heap.size) (ho : wr.ownsRow B e size v k xs) (hg : wr.grownBy w2 v.ownBlock) : Below B w w2 :=
  hb.grown hg hB fun k' hk' => (ho.lt k' hk').1

theorem OwnP.but {w w' : World} {b c n : Nat} {f g : Nat → Int} (h : OwnP w b n f g) (hb : But c w w') (hne : b ≠ c) : OwnP w' b n f g := World.rowIs.of_block h (hb.block b (World.rowIs.lt h) hne)

def mlo (q : Int) (i : Nat) : Int := q + 2 * (i : Int)
def mhi (q : Int) (i : Nat) : Int := q + 2 * (i : Int) + 1
def mixTo (k : Nat) (m f : Nat → Int) (i : Nat) : Int := if i < k then m i else f i

theorem OwnP.mark {w : World} {b n k : Nat} {m1 m2 f g : Nat → Int} (h : OwnP w b n (mixTo k m1 f) (mixTo k m2 g)) :
    OwnP ((w.setCell ⟨b, k * 2, none⟩ (.int .i64 (m1 k))).setCell ⟨b, k * 2 + 1, none⟩ (.int .i64 (m2 k))) b n (mixTo (k + 1) m1 f) (mixTo (k + 1) m2 g) := by
  refine (h.set k (m1 k) (m2 k)).congr (fun i _ => ?_) (fun i _ => ?_)
  all_goals
    unfold mixTo
    by_cases e : i = k
    · subst e; simp
    · by_cases l : i < k
      · simp [e, l, show i < k + 1 by omega]
      · simp [e, l, show ¬ i < k + 1 by omega]







end Go.Proofs.Ythiklcldbjmgfaa