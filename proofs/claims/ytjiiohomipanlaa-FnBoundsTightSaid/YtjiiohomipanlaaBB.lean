/- Rows of ranges of the call's own; contracts of the laws' small functions over them: szRangeS, toRangeS, eqRangeS. -/
import Derived.Test.YtjiiohomipanlaaBA
import Derived.Test.YtjiiohomipanlaaWT
import Derived.Deep.RegionHeld3
import Derived.Deep.Slices
namespace Go.Proofs.Ytjiiohomipanlaa
open Go.RowKit
set_option linter.unusedSimpArgs false
set_option linter.unusedVariables false

theorem Try.infoRange : (Try.prog.info? 33).map (fun i => (i.zero, i.size, i.bytes)) = some (some (.agg #[.int .i64 0, .int .i64 0]), 2, 16) := by kernel_rfl

theorem run_make_pairs {P : Program} (t e : TypeId) (x y : Value) (bytes : Nat) (ht : P.underlying t = some (.slice e)) (hinfo : (P.info? e).map (fun i => (i.zero, i.size, i.bytes)) = some (some (.agg #[x, y]), 2, bytes))
    (kl kc : IntKind) (n : Nat) (hbytes : bytes * n ≤ 281474976710656) (h63 : n ≤ 9223372036854775807) (w : World) :
    (Instr.makeSlice t (.int kl (n : Int)) (.int kc (n : Int))).run P w = .ok (.slice (some ⟨w.heap.size, 0, none⟩) n n) (w.alloc (.cells (madeCells #[x, y] (n * 2)) e)) := by
  obtain ⟨i, hi, hzz⟩ := Option.map_eq_some_iff.1 hinfo
  simp only [Prod.mk.injEq] at hzz
  obtain ⟨hz, hs, hb⟩ := hzz
  have hb' : (i.bytes : Int) * (n : Int) ≤ 281474976710656 := by
    have h : ((i.bytes * n : Nat) : Int) ≤ 281474976710656 := by rw [hb]; omega
    rwa [Int.natCast_mul] at h
  have hr := run_make (P := P) w t e i _ ht hi hz kl kc n n (by omega) (Int.le_refl _) hb' (by omega)
  simp only [Int.toNat_natCast, hs] at hr
  exact hr

def pcell (f g : Nat → Int) (j : Nat) : Value := .int .i64 (if j % 2 = 0 then f (j / 2) else g (j / 2))
theorem pcell_lo (f g : Nat → Int) (i : Nat) : pcell f g (i * 2) = .int .i64 (f i) := by simp [pcell]
theorem pcell_hi (f g : Nat → Int) (i : Nat) : pcell f g (i * 2 + 1) = .int .i64 (g i) := by
  have h1 : (i * 2 + 1) % 2 = 1 := by omega
  have h2 : (i * 2 + 1) / 2 = i := by omega
  simp [pcell, h1, h2]

/-- A row of ranges of the call's own, that may be written. -/
def OwnP (w : World) (b n : Nat) (f g : Nat → Int) : Prop := w.rowIs b 33 (n * 2) (pcell f g)
theorem OwnP.lt {w : World} {b n : Nat} {f g : Nat → Int} (h : OwnP w b n f g) : b < w.heap.size := World.rowIs.lt h
theorem OwnP.c0 {w : World} {b n : Nat} {f g : Nat → Int} (h : OwnP w b n f g) {i : Nat} (hi : i < n) : w.cell? ⟨b, i * 2, none⟩ = some (.int .i64 (f i)) := by
  rw [World.rowIs.cell h (show i * 2 < n * 2 by omega), pcell_lo]
theorem OwnP.c1 {w : World} {b n : Nat} {f g : Nat → Int} (h : OwnP w b n f g) {i : Nat} (hi : i < n) : w.cell? ⟨b, i * 2 + 1, none⟩ = some (.int .i64 (g i)) := by
  rw [World.rowIs.cell h (show i * 2 + 1 < n * 2 by omega), pcell_hi]
theorem OwnP.prow {w : World} {b n : Nat} {f g : Nat → Int} (h : OwnP w b n f g) : PRow w (some ⟨b, 0, none⟩) n f g :=
  ⟨.inr ⟨b, 0, rfl, h.lt, fun i hi => by rw [Nat.zero_add]; exact ⟨h.c0 hi, h.c1 hi⟩⟩⟩
theorem OwnP.below {w w' : World} {b n : Nat} {f g : Nat → Int} (h : OwnP w b n f g) (hb : Below w.heap.size w w') : OwnP w' b n f g := World.rowIs.of_block h (hb.block b (World.rowIs.lt h))
theorem OwnP.congr {w : World} {b n : Nat} {f g f' g' : Nat → Int} (h : OwnP w b n f g) (hf : ∀ i, i < n → f i = f' i) (hg : ∀ i, i < n → g i = g' i) : OwnP w b n f' g' := by
  refine World.rowIs.congr h fun j hj => ?_
  unfold pcell
  rw [hf (j / 2) (by omega), hg (j / 2) (by omega)]
theorem OwnP.made (w : World) (n : Nat) : OwnP (w.alloc (.cells (madeCells #[.int .i64 0, .int .i64 0] (n * 2)) 33)) w.heap.size n (fun _ => 0) (fun _ => 0) := by
  refine ⟨_, Go.Deep.blk_alloc_new _ _, size_madeCells _ _, fun i hi => ?_⟩
  rcases (show i % 2 = 0 ∨ i % 2 = 1 by omega) with h | h <;> simp [madeCells, hi, h, pcell]
theorem OwnP.set {w : World} {b n : Nat} {f g : Nat → Int} (h : OwnP w b n f g) (k : Nat) (x y : Int) :
    OwnP ((w.setCell ⟨b, k * 2, none⟩ (.int .i64 x)).setCell ⟨b, k * 2 + 1, none⟩ (.int .i64 y)) b n (fun i => if i = k then x else f i) (fun i => if i = k then y else g i) := by
  refine (World.rowIs.set (World.rowIs.set h (k * 2) _) (k * 2 + 1) _).congr fun j hj => ?_
  unfold pcell
  dsimp only
  rcases (show j % 2 = 0 ∨ j % 2 = 1 by omega) with h | h
  · rw [if_neg (show ¬ j = k * 2 + 1 by omega)]
    by_cases e : j = k * 2
    · rw [if_pos e, if_pos h, if_pos (show j / 2 = k by omega)]
    · rw [if_neg e, if_pos h, if_pos h, if_neg (show ¬ j / 2 = k by omega)]
  · by_cases e : j = k * 2 + 1
    · rw [if_pos e, if_neg (by omega), if_pos (show j / 2 = k by omega)]
    · rw [if_neg e, if_neg (by omega), if_neg (by omega), if_neg (by omega), if_neg (show ¬ j / 2 = k by omega)]

def upTo (k : Nat) (f : Nat → Int) (i : Nat) : Int := if i < k then f i else 0
theorem OwnP.step {w : World} {b n k : Nat} {f g : Nat → Int} (h : OwnP w b n (upTo k f) (upTo k g)) :
    OwnP ((w.setCell ⟨b, k * 2, none⟩ (.int .i64 (f k))).setCell ⟨b, k * 2 + 1, none⟩ (.int .i64 (g k))) b n (upTo (k + 1) f) (upTo (k + 1) g) := by
  refine (h.set k (f k) (g k)).congr (fun i _ => ?_) (fun i _ => ?_)
  all_goals
    unfold upTo
    by_cases e : i = k
    · subst e; simp
    · by_cases l : i < k
      · simp [e, l, show i < k + 1 by omega]
      · simp [e, l, show ¬ i < k + 1 by omega]

/-- What the frame of a law tells of a slice of ranges that came in. -/
def IsPairs (w : World) (a : Option Addr) (len : Nat) (f g : Nat → Int) : Prop := PRow w a len f g ∧ len ≤ 9223372036854775807
theorem pairs_of {w : World} {x : Addr} {len m : Nat} {V0 V1 : Nat → Value} (hlm : len ≤ m) (hcell : ∀ i, i < m → w.cell? (x.add (i * 2)) = some (V0 i) ∧ w.cell? (x.add (i * 2 + 1)) = some (V1 i))
    (hv : ∀ i, i < m → ∃ z : Int × Int, V0 i = .int .i64 z.1 ∧ V1 i = .int .i64 z.2) : ∃ f g, PRow w (some x) len f g := by
  obtain ⟨z, hz⟩ := Go.Deep.choose_lt hv
  refine ⟨fun i => (z i).1, fun i => (z i).2, ?_⟩
  by_cases h0 : len = 0
  · exact ⟨.inl h0⟩
  · obtain ⟨b, off, spot⟩ := x
    have hc := (hcell 0 (by omega)).1
    have hspot : spot = none := by simpa [Addr.add] using World.cell?_spot hc
    subst hspot
    refine ⟨.inr ⟨b, off, rfl, ?_, fun i hi => ?_⟩⟩
    · by_cases hlt : b < w.heap.size
      · exact hlt
      · simp [World.cell?, Addr.add, Array.getElem?_eq_none (Nat.le_of_not_lt hlt)] at hc
    · obtain ⟨c0, c1⟩ := hcell i (by omega)
      obtain ⟨e0, e1⟩ := hz i (by omega)
      rw [e0] at c0
      rw [e1] at c1
      refine ⟨?_, ?_⟩
      · by_cases h00 : i = 0
        · subst h00; simpa [Addr.add] using c0
        · simpa [Addr.add, show ¬ i * 2 = 0 by omega] using c0
      · simpa [Addr.add, Nat.add_assoc] using c1



def ToRs (w : World) (n : Nat) (f g : Nat → Int) (e : Ending) (w' : World) : Prop :=
  ∃ b, e = .returned (.slice (some ⟨b, 0, none⟩) n n) ∧ w.heap.size ≤ b ∧ OwnP w' b n f g ∧ Below w.heap.size w w'





end Go.Proofs.Ytjiiohomipanlaa