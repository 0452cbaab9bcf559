/- Lists made by append: the values of a function, as cells that the call owns and as a row that is read. -/
import Derived.Test.YtgckhnnkphlciaaDoorZ4
namespace Go.Proofs.YtgckhnnkphlciaaDoor
open Go.RowKit
set_option maxRecDepth 8000
set_option linter.unusedSimpArgs false

/-- The first k values of f. -/
def vals (f : Nat → Int) (k : Nat) : List Value := (List.range k).map fun (j : Nat) => .int .i64 (f j)

theorem vals_succ (f : Nat → Int) (k : Nat) : vals f (k + 1) = vals f k ++ [.int .i64 (f k)] := by simp [vals, List.range_succ]

theorem vals_len (f : Nat → Int) (k : Nat) : (vals f k).length = k := by simp [vals]
def ints (f : Nat → Int) (k : Nat) : List Int := (List.range k).map f

theorem nth_ints (f : Nat → Int) (k j : Nat) (h : j < k) : nth (ints f k) j = f j := by simp [nth, ints, h]

theorem ints_len (f : Nat → Int) (k : Nat) : (ints f k).length = k := by simp [ints]

/-- What the call owns by append, as a row that is read. -/
theorem row_of_owns {w : World} {base : Nat} {v : Value} {n : Nat} {f : Nat → Int} (h : w.ownsRow base 2 1 v n (vals f n)) :
    ∃ a cap, v = .slice a n cap ∧ Row w a n (ints f n) ∧ ∀ b off, a = some ⟨b, off, none⟩ → base ≤ b := by
  have h0 := h
  rcases h.2 with ⟨rfl, rfl⟩ | ⟨g, cap, cur, rfl, hb, hg, hcap, _, hsz, htake⟩
  · exact ⟨none, 0, rfl, ⟨rfl, .inl rfl⟩, fun b off e => by cases e⟩
  · refine ⟨_, cap, rfl, ⟨ints_len f n, .inr ⟨g, 0, rfl, (Array.getElem?_eq_some_iff.1 hg).1, fun i hi => ?_⟩⟩, fun b off e => by cases e; exact hb⟩
    have hc := h0.cells (g := g) rfl i (.int .i64 (f i)) (by simp [vals, hi])
    rw [nth_ints f n i hi, Nat.zero_add]
    by_cases h00 : i = 0
    · subst h00; simpa [Addr.add] using hc
    · simpa [Addr.add, h00] using hc

theorem one_new (w : World) (v : Value) (t : TypeId) : ∀ (j : Nat) (u : Value), [v][j]? = some u → (w.alloc (.cells #[v] t)).cell? ((⟨w.heap.size, 0, none⟩ : Addr).add j) = some u := by
  intro j u hj
  match j, hj with
  | 0, hj => simp at hj; subst hj; simp [Addr.add]
  | j + 1, hj => simp at hj
/-- Behind an append of one element the old memory is as it was. -/
theorem below_app {w wr w2 : World} {o : Obj} {v : Value} {k : Nat} {e : TypeId} {size : Nat} {xs : List Value} (hb : Below w.heap.size w wr) (ho : wr.ownsRow w.heap.size e size v k xs) (hg : (wr.alloc o).grownBy w2 v.ownBlock) : Below w.heap.size w w2 :=
  (balloc hb o).grown hg (by have := hb.size; simp; omega) fun k' hk' => (ho.lt k' hk').1

end Go.Proofs.YtgckhnnkphlciaaDoor

/- VecNeg of the model: a list made by append. -/
namespace Go.Proofs.YtgckhnnkphlciaaDoor
open Go.RowKit
set_option maxRecDepth 8000
set_option linter.unusedSimpArgs false

theorem vecOk_bd {xs : List Int} {n : Nat} (h : vecOkB xs = true) (hl : xs.length = n) : 1 ≤ n ∧ n ≤ 8 ∧ ∀ j, j < n → -1048576 ≤ nth xs j ∧ nth xs j ≤ 1048576 := by
  unfold vecOkB at h
  rw [Bool.and_eq_true] at h
  have h1 := of_decide_eq_true h.1
  refine ⟨by omega, by omega, fun j hj => ?_⟩
  have := List.all_eq_true.1 h.2 (nth xs j) (by simp [nth, show j < xs.length by omega])
  simpa [compB] using this





/-- Each number turned; none where it is no vector. -/
def negL (xs : List Int) : List Int := if vecOkB xs then ints (fun j => -(nth xs j)) xs.length else []

end Go.Proofs.YtgckhnnkphlciaaDoor
/- Vectors of the program: vectorsOf. -/
namespace Go.Proofs.YtgckhnnkphlciaaDoor
open Go.RowKit
set_option maxRecDepth 8000
set_option linter.unusedSimpArgs false

def pairB (xs ys : List Int) : Bool := vecOkB xs && vecOkB ys && decide (xs.length = ys.length)





end Go.Proofs.YtgckhnnkphlciaaDoor
/- An answer that the program made ('Mine'): nil, or a row of its own: read, marked, held. -/
namespace Go.Proofs.YtgckhnnkphlciaaDoor
open Go.RowKit
set_option maxRecDepth 8000
set_option linter.unusedSimpArgs false

structure Mine (base : Nat) (w : World) (a : Option Addr) (n : Nat) (xs : List Int) : Prop where
  len : xs.length = n
  lies : (a = none ∧ n = 0) ∨ ∃ g, a = some ⟨g, 0, none⟩ ∧ base ≤ g ∧ Own w g xs

theorem Mine.row {base : Nat} {w : World} {a : Option Addr} {n : Nat} {xs : List Int} (h : Mine base w a n xs) : Row w a n xs := by
  rcases h.lies with ⟨rfl, h0⟩ | ⟨g, rfl, hb, ho⟩
  · exact ⟨h.len, .inl h0⟩
  · have := ho.row
    rw [h.len] at this
    exact this

theorem Mine.below {base : Nat} {w w' : World} {a : Option Addr} {n : Nat} {xs : List Int} (h : Mine base w a n xs) (hb : Below w.heap.size w w') : Mine base w' a n xs := by
  refine ⟨h.len, ?_⟩
  rcases h.lies with h0 | ⟨g, e, hg, ho⟩
  · exact .inl h0
  · exact .inr ⟨g, e, hg, ho.below hb⟩

theorem Mine.but {base g' : Nat} {w w' : World} {a : Option Addr} {n : Nat} {xs : List Int} (h : Mine base w a n xs) (hb : But g' w w') (hg : g' < base) : Mine base w' a n xs := by
  refine ⟨h.len, ?_⟩
  rcases h.lies with h0 | ⟨g, e, hg, ho⟩
  · exact .inl h0
  · exact .inr ⟨g, e, hg, hb.own ho (by omega)⟩
/-- What lies below a base is as it was, where all below it is. -/
theorem Row.belowAt {B : Nat} {w w' : World} {a : Option Addr} {n : Nat} {xs : List Int} (h : Row w a n xs) (hb : Below B w w') (hlt : ∀ b off, a = some ⟨b, off, none⟩ → b < B) : Row w' a n xs := by
  refine ⟨h.len, ?_⟩
  rcases h.lies with h0 | ⟨b, off, e, lt, hc⟩
  · exact .inl h0
  · exact .inr ⟨b, off, e, Nat.lt_of_lt_of_le lt hb.size, fun i hi => (hb.cell (p := ⟨b, off + i, none⟩) (hlt b off e)).trans (hc i hi)⟩

theorem Row.lt {w : World} {a : Option Addr} {n : Nat} {xs : List Int} (h : Row w a n xs) (hn : 0 < n) : ∀ b off, a = some ⟨b, off, none⟩ → b < w.heap.size := by
  intro b off e
  rcases h.lies with h0 | ⟨b', off', e', lt, _⟩
  · omega
  · rw [e] at e'; cases e'; exact lt

theorem Row.belowFrom {B : Nat} {w0 w w' : World} {a : Option Addr} {n : Nat} {xs : List Int} (h0 : Row w0 a n xs) (h : Row w a n xs) (hb : Below B w w') (hB : w0.heap.size ≤ B) : Row w' a n xs := by
  by_cases hn : n = 0
  · exact ⟨h.len, .inl hn⟩
  · exact h.belowAt hb fun b off e => Nat.lt_of_lt_of_le (h0.lt (by omega) b off e) hB

theorem Row.butFrom {g : Nat} {w0 w w' : World} {a : Option Addr} {n : Nat} {xs : List Int} (h0 : Row w0 a n xs) (h : Row w a n xs) (hb : But g w w') (hg : w0.heap.size ≤ g) : Row w' a n xs := by
  by_cases hn : n = 0
  · exact ⟨h.len, .inl hn⟩
  · exact hb.row h fun b off e => by have := h0.lt (by omega) b off e; omega

theorem markMine_any (base n cap : Nat) (a : Option Addr) (q : Int) (xs : List Int) (w : World) (hm : Mine base w a n xs) (hB : base ≤ w.heap.size) (hn : n ≤ 1048576) (hq : 0 ≤ q) (hq2 : q ≤ 100000000) :
    Calls Tryd.prog 37 #[.slice a n cap, .int .i64 q] w fun e w' => e = .returned (.int .i64 (q + (n : Int))) ∧ Mine base w' a n (marks q n) ∧ Below base w w' := by
  rcases hm.lies with ⟨rfl, h0⟩ | ⟨g, rfl, hg, ho⟩
  · refine (markInts_none none n cap q w (by omega)).mono ?_
    rintro e w' ⟨rfl, rfl⟩
    exact ⟨by rw [h0]; simp, ⟨marks_len q n, .inl ⟨rfl, h0⟩⟩, Below.refl _ _⟩
  · refine (markInts_any g n cap q xs w ho hm.len hn hq hq2).mono ?_
    rintro e w' ⟨rfl, ho', hbut⟩
    exact ⟨rfl, ⟨marks_len q n, .inr ⟨g, rfl, hg, ho'⟩⟩, hbut.below hg hB⟩

theorem heldMine_any (base n cap : Nat) (a : Option Addr) (q : Int) (w : World) (hm : Mine base w a n (marks q n)) (hn : n ≤ 1048576) (hq : 0 ≤ q) (hq2 : q ≤ 100000000) :
    Calls Tryd.prog 38 #[.slice a n cap, .int .i64 q] w fun e w' => e = .returned (.int .i64 (q + (n : Int))) ∧ w' = w := by
  rcases hm.lies with ⟨rfl, h0⟩ | ⟨g, rfl, hg, ho⟩
  · refine (heldInts_none none n cap q w (by omega)).mono ?_
    rintro e w' ⟨rfl, rfl⟩
    exact ⟨by rw [h0]; simp, rfl⟩
  · exact heldInts_any g n cap q w ho hn hq hq2
end Go.Proofs.YtgckhnnkphlciaaDoor
