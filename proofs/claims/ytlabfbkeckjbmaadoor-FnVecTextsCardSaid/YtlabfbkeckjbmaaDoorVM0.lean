/- An answer that the program made ('Mine'): nil, or a row of its own: read, marked, held. -/
import Derived.Test.YtlabfbkeckjbmaaDoorVA
namespace Go.Proofs.YtlabfbkeckjbmaaDoor
open Go.RowKit
set_option maxRecDepth 8000
set_option linter.unusedSimpArgs false

structure Mine (base : Nat) (w : World) (a : Option Addr) (n : Nat) (xs : List Int) : Prop where
  len : xs.length = n
  lies : (a = none ∧ n = 0) ∨ ∃ g, a = some ⟨g, 0, none⟩ ∧ base ≤ g ∧ Own w g xs

theorem Mine.row {base : Nat} {w : World} {a : Option Addr} {n : Nat} {xs : List Int} (h : Mine base w a n xs) : Row w a n xs := by
  rcases h.lies with ⟨rfl, h0⟩ | ⟨g, rfl, hb, ho⟩
  · exact ⟨h.len, .inl h0⟩
  · have := ho.row
    rw [h.len] at this
    exact this

theorem Mine.below {base : Nat} {w w' : World} {a : Option Addr} {n : Nat} {xs : List Int} (h : Mine base w a n xs) (hb : Below w.heap.size w w') : Mine base w' a n xs := by
  refine ⟨h.len, ?_⟩
  rcases h.lies with h0 | ⟨g, e, hg, ho⟩
  · exact .inl h0
  · exact .inr ⟨g, e, hg, ho.below hb⟩

theorem Mine.but {base g' : Nat} {w w' : World} {a : Option Addr} {n : Nat} {xs : List Int} (h : Mine base w a n xs) (hb : But g' w w') (hg : g' < base) : Mine base w' a n xs := by
  refine ⟨h.len, ?_⟩
  rcases h.lies with h0 | ⟨g, e, hg, ho⟩
  · exact .inl h0
  · exact .inr ⟨g, e, hg, hb.own ho (by omega)⟩
/-- What lies below a base is as it was, where all below it is. -/
theorem Row.belowAt {B : Nat} {w w' : World} {a : Option Addr} {n : Nat} {xs : List Int} (h : Row w a n xs) (hb : Below B w w') (hlt : ∀ b off, a = some ⟨b, off, none⟩ → b < B) : Row w' a n xs := by
  refine ⟨h.len, ?_⟩
  rcases h.lies with h0 | ⟨b, off, e, lt, hc⟩
  · exact .inl h0
  · exact .inr ⟨b, off, e, Nat.lt_of_lt_of_le lt hb.size, fun i hi => (hb.cell (p := ⟨b, off + i, none⟩) (hlt b off e)).trans (hc i hi)⟩

theorem Row.lt {w : World} {a : Option Addr} {n : Nat} {xs : List Int} (h : Row w a n xs) (hn : 0 < n) : ∀ b off, a = some ⟨b, off, none⟩ → b < w.heap.size := by
  intro b off e
  rcases h.lies with h0 | ⟨b', off', e', lt, _⟩
  · omega
  · rw [e] at e'; cases e'; exact lt

theorem Row.belowFrom {B : Nat} {w0 w w' : World} {a : Option Addr} {n : Nat} {xs : List Int} (h0 : Row w0 a n xs) (h : Row w a n xs) (hb : Below B w w') (hB : w0.heap.size ≤ B) : Row w' a n xs := by
  by_cases hn : n = 0
  · exact ⟨h.len, .inl hn⟩
  · exact h.belowAt hb fun b off e => Nat.lt_of_lt_of_le (h0.lt (by omega) b off e) hB

theorem Row.butFrom {g : Nat} {w0 w w' : World} {a : Option Addr} {n : Nat} {xs : List Int} (h0 : Row w0 a n xs) (h : Row w a n xs) (hb : But g w w') (hg : w0.heap.size ≤ g) : Row w' a n xs := by
  by_cases hn : n = 0
  · exact ⟨h.len, .inl hn⟩
  · exact hb.row h fun b off e => by have := h0.lt (by omega) b off e; omega

theorem markMine_any (base n cap : Nat) (a : Option Addr) (q : Int) (xs : List Int) (w : World) (hm : Mine base w a n xs) (hB : base ≤ w.heap.size) (hn : n ≤ 1048576) (hq : 0 ≤ q) (hq2 : q ≤ 100000000) :
    Calls Tryd.prog 17 #[.slice a n cap, .int .i64 q] w fun e w' => e = .returned (.int .i64 (q + (n : Int))) ∧ Mine base w' a n (marks q n) ∧ Below base w w' := by
  rcases hm.lies with ⟨rfl, h0⟩ | ⟨g, rfl, hg, ho⟩
  · refine (markInts_none none n cap q w (by omega)).mono ?_
    rintro e w' ⟨rfl, rfl⟩
    exact ⟨by rw [h0]; simp, ⟨marks_len q n, .inl ⟨rfl, h0⟩⟩, Below.refl _ _⟩
  · refine (markInts_any g n cap q xs w ho hm.len hn hq hq2).mono ?_
    rintro e w' ⟨rfl, ho', hbut⟩
    exact ⟨rfl, ⟨marks_len q n, .inr ⟨g, rfl, hg, ho'⟩⟩, hbut.below hg hB⟩

theorem heldMine_any (base n cap : Nat) (a : Option Addr) (q : Int) (w : World) (hm : Mine base w a n (marks q n)) (hn : n ≤ 1048576) (hq : 0 ≤ q) (hq2 : q ≤ 100000000) :
    Calls Tryd.prog 18 #[.slice a n cap, .int .i64 q] w fun e w' => e = .returned (.int .i64 (q + (n : Int))) ∧ w' = w := by
  rcases hm.lies with ⟨rfl, h0⟩ | ⟨g, rfl, hg, ho⟩
  · refine (heldInts_none none n cap q w (by omega)).mono ?_
    rintro e w' ⟨rfl, rfl⟩
    exact ⟨by rw [h0]; simp, rfl⟩
  · exact heldInts_any g n cap q w ho hn hq hq2
end Go.Proofs.YtlabfbkeckjbmaaDoor
