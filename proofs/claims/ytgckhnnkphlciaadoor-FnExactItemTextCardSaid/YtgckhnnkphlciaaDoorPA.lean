/- Slices of structs of two numbers in memory: each takes two cells. What a slice leads to, whatever its element type is. -/
import Derived.Test.YtgckhnnkphlciaaDoorVA0
import Derived.Deep.RegionHeld3
import Derived.Deep.Slices
namespace Go.Proofs.YtgckhnnkphlciaaDoor
open Go.RowKit
set_option maxRecDepth 8000
set_option linter.unusedSimpArgs false
set_option linter.unusedVariables false

/-- A slice of n ranges that begins at a leads to the ranges from f i to g i. -/
structure PRow (w : World) (a : Option Addr) (n : Nat) (f g : Nat → Int) : Prop where
  lies : n = 0 ∨ ∃ b off, a = some ⟨b, off, none⟩ ∧ b < w.heap.size ∧ ∀ i, i < n → w.cell? ⟨b, off + i * 2, none⟩ = some (.int .i64 (f i)) ∧ w.cell? ⟨b, off + i * 2 + 1, none⟩ = some (.int .i64 (g i))

theorem PRow.below {w w' : World} {a : Option Addr} {n : Nat} {f g : Nat → Int} (h : PRow w a n f g) (hb : Below w.heap.size w w') : PRow w' a n f g := by
  rcases h.lies with h0 | ⟨b, off, e, lt, hc⟩
  · exact ⟨.inl h0⟩
  · exact ⟨.inr ⟨b, off, e, Nat.lt_of_lt_of_le lt hb.size, fun i hi => ⟨(hb.cell (p := ⟨b, off + i * 2, none⟩) lt).trans (hc i hi).1, (hb.cell (p := ⟨b, off + i * 2 + 1, none⟩) lt).trans (hc i hi).2⟩⟩⟩

/-- All of the first n. -/
def allN (n : Nat) (p : Nat → Bool) : Bool := (List.range n).all p

theorem allN_yes {n : Nat} {p : Nat → Bool} (h : ∀ i, i < n → p i = true) : allN n p = true := by
  simp only [allN, List.all_eq_true, List.mem_range]; exact h

theorem allN_no {n k : Nat} {p : Nat → Bool} (hk : k < n) (h : p k = false) : allN n p = false := by
  rw [Bool.eq_false_iff]
  intro q
  simp only [allN, List.all_eq_true, List.mem_range] at q
  have := q k hk
  rw [h] at this
  cases this

theorem allN_at {n k : Nat} {p : Nat → Bool} (h : allN n p = true) (hk : k < n) : p k = true := by
  simp only [allN, List.all_eq_true, List.mem_range] at h; exact h k hk

theorem run_make_pairs {P : Program} (t e : TypeId) (x y : Value) (bytes : Nat) (ht : P.underlying t = some (.slice e)) (hinfo : (P.info? e).map (fun i => (i.zero, i.size, i.bytes)) = some (some (.agg #[x, y]), 2, bytes))
    (kl kc : IntKind) (n : Nat) (hbytes : bytes * n ≤ 281474976710656) (h63 : n ≤ 9223372036854775807) (w : World) :
    (Instr.makeSlice t (.int kl (n : Int)) (.int kc (n : Int))).run P w = .ok (.slice (some ⟨w.heap.size, 0, none⟩) n n) (w.alloc (.cells (madeCells #[x, y] (n * 2)) e)) := by
  obtain ⟨i, hi, hzz⟩ := Option.map_eq_some_iff.1 hinfo
  simp only [Prod.mk.injEq] at hzz
  obtain ⟨hz, hs, hb⟩ := hzz
  have hb' : (i.bytes : Int) * (n : Int) ≤ 281474976710656 := by
    have h : ((i.bytes * n : Nat) : Int) ≤ 281474976710656 := by rw [hb]; omega
    rwa [Int.natCast_mul] at h
  have hr := run_make (P := P) w t e i _ ht hi hz kl kc n n (by omega) (Int.le_refl _) hb' (by omega)
  simp only [Int.toNat_natCast, hs] at hr
  exact hr

def pcell (f g : Nat → Int) (j : Nat) : Value := .int .i64 (if j % 2 = 0 then f (j / 2) else g (j / 2))

theorem pcell_lo (f g : Nat → Int) (i : Nat) : pcell f g (i * 2) = .int .i64 (f i) := by simp [pcell]

theorem pcell_hi (f g : Nat → Int) (i : Nat) : pcell f g (i * 2 + 1) = .int .i64 (g i) := by
  have h1 : (i * 2 + 1) % 2 = 1 := by omega
  have h2 : (i * 2 + 1) / 2 = i := by omega
  simp [pcell, h1, h2]

def upTo (k : Nat) (f : Nat → Int) (i : Nat) : Int := if i < k then f i else 0
/-- What the frame of a law tells of a slice of ranges that came in. -/
def IsPairs (w : World) (a : Option Addr) (len : Nat) (f g : Nat → Int) : Prop := PRow w a len f g ∧ len ≤ 9223372036854775807

theorem pairs_of {w : World} {x : Addr} {len m : Nat} {V0 V1 : Nat → Value} (hlm : len ≤ m) (hcell : ∀ i, i < m → w.cell? (x.add (i * 2)) = some (V0 i) ∧ w.cell? (x.add (i * 2 + 1)) = some (V1 i))
    (hv : ∀ i, i < m → ∃ z : Int × Int, V0 i = .int .i64 z.1 ∧ V1 i = .int .i64 z.2) : ∃ f g, PRow w (some x) len f g := by
  obtain ⟨z, hz⟩ := Go.Deep.choose_lt hv
  refine ⟨fun i => (z i).1, fun i => (z i).2, ?_⟩
  by_cases h0 : len = 0
  · exact ⟨.inl h0⟩
  · obtain ⟨b, off, spot⟩ := x
    have hc := (hcell 0 (by omega)).1
    have hspot : spot = none := by simpa [Addr.add] using World.cell?_spot hc
    subst hspot
    refine ⟨.inr ⟨b, off, rfl, ?_, fun i hi => ?_⟩⟩
    · by_cases hlt : b < w.heap.size
      · exact hlt
      · simp [World.cell?, Addr.add, Array.getElem?_eq_none (Nat.le_of_not_lt hlt)] at hc
    · obtain ⟨c0, c1⟩ := hcell i (by omega)
      obtain ⟨e0, e1⟩ := hz i (by omega)
      rw [e0] at c0
      rw [e1] at c1
      refine ⟨?_, ?_⟩
      · by_cases h00 : i = 0
        · subst h00; simpa [Addr.add] using c0
        · simpa [Addr.add, show ¬ i * 2 = 0 by omega] using c0
      · simpa [Addr.add, Nat.add_assoc] using c1

def sameB (n : Nat) (f g f' g' : Nat → Int) : Bool := allN n (fun i => decide (f i = f' i) && decide (g i = g' i))

theorem sameB_self (n : Nat) (f g : Nat → Int) : sameB n f g f g = true := allN_yes fun i _ => by simp
end Go.Proofs.YtgckhnnkphlciaaDoor
