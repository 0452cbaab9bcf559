/- The walk of the law FnExactVecOk. -/
import Derived.Test.YtbplgenlmegoeaaVC
namespace Go.Proofs.Ytbplgenlmegoeaa
open Go.RowKit
set_option linter.unusedVariables false

/-- What the frame of a law tells of a slice of integers that came in. -/
def IsRow (k : IntKind) (w : World) (a : Option Addr) (len cap : Nat) (zs : List Int) : Prop :=
  (a = none ∧ len = 0 ∧ cap = 0 ∧ zs = []) ∨
  ∃ x, a = some x ∧ len ≤ cap ∧ cap ≤ maxLen ∧ zs.length = cap ∧ (∀ i, i < zs.length → w.cell? (x.add i) = some (.int k (zs.getD i 0))) ∧ ∀ n ∈ zs, (Lit.int k n).wf = true

theorem cellLt {w : World} {a : Addr} {v : Value} (h : w.cell? a = some v) : a.block < w.heap.size := by
  by_cases hlt : a.block < w.heap.size
  · exact hlt
  · simp [World.cell?, Array.getElem?_eq_none (Nat.le_of_not_lt hlt)] at h

/-- Such a slice of int64 as a row of the numbers up to its length. -/
theorem IsRow.row {w : World} {a : Option Addr} {len cap : Nat} {zs : List Int} (h : IsRow .i64 w a len cap zs) : Row w a len (zs.take len) := by
  rcases h with ⟨rfl, rfl, rfl, rfl⟩ | ⟨x, rfl, hl, hm, hz, hcell, hwz⟩
  · exact ⟨rfl, .inl rfl⟩
  · refine ⟨by simp; omega, ?_⟩
    by_cases h0 : len = 0
    · exact .inl h0
    · obtain ⟨b, off, spot⟩ := x
      have hc := hcell 0 (by omega)
      have hspot : spot = none := by simpa [Addr.add] using World.cell?_spot hc
      subst hspot
      refine .inr ⟨b, off, rfl, ?_, fun i hi => ?_⟩
      · have := cellLt hc
        simpa [Addr.add] using this
      · have := hcell i (by omega)
        have e : nth (zs.take len) i = zs.getD i 0 := by simp [nth, hi]
        rw [e]
        by_cases h00 : i = 0
        · subst h00; simpa [Addr.add] using this
        · simpa [Addr.add, h00] using this

set_option maxHeartbeats 400000 in
theorem exactVecOk_walk (a : Option Addr) (n cap : Nat) (zs : List Int) (w : World) (h : IsRow .i64 w a n cap zs) :
    Calls Try.prog 3 #[.slice a n cap] w fun e w' => e = .returned (.bool true) ∧ Below w.heap.size w w' := by
  by_cases hn : n ≤ 1048576
  · have hr := h.row
    generalize zs.take n = xs at hr
    clear h
    have HR := hide hr
    clear hr
    go_enter Try.func3, Try.ntmps3
    go_wp2_with fail
    refine (toInts_any a n cap xs _ HR.out hn).mono ?_
    rintro e w1 ⟨g1, rfl, hg1, ho1, hb1⟩
    have HL := hide HR.out.len
    have hl := HR.out.len
    subst hl
    go_wp2_with fail
    refine (sVecOk_any _ _ _ _ _ ho1.row hn).mono ?_
    rintro e w2 ⟨rfl, rfl⟩
    have hr1 := HR.out.below hb1
    go_wp2_with fail
    refine (toInts_any a xs.length cap xs _ hr1 hn).mono ?_
    rintro e w3 ⟨g3, rfl, hg3, ho3, hb3⟩
    go_wp2_with fail
    refine (iVecOk_any _ _ _ _ _ ho3.row hn).mono ?_
    rintro e w4 ⟨rfl, hb4⟩
    have hr2 := (hr1.below hb3).below hb4
    go_wp2_with fail
    refine (toInts_any a xs.length cap xs _ hr2 hn).mono ?_
    rintro e w5 ⟨g5, rfl, hg5, ho5, hb5⟩
    go_wp2_with fail
    refine (eqInts_any _ _ _ _ _ _ _ _ _ ((ho3.below hb4).below hb5).row ho5.row hn).mono ?_
    rintro e w6 ⟨rfl, hb6⟩
    rw [decide_eq_true rfl]
    go_wp2
    go_ret
    exact ⟨rfl, (by repeat' first | with_reducible exact Below.refl _ _ | with_reducible assumption | with_reducible refine below_drewN ?_ _ | with_reducible refine balloc ?_ _ | with_reducible refine Below.drew ?_ | with_reducible refine Below.setCell ?_ (by first | (simp; done) | (simp; omega) | omega) _ | with_reducible refine bstep ?_ (by assumption))⟩
  · have hn' : (1048576 : Int) < n := by omega
    go_enter Try.func3, Try.ntmps3
    go_wp2
    go_ret
    exact ⟨rfl, (by repeat' first | with_reducible exact Below.refl _ _ | with_reducible assumption | with_reducible refine below_drewN ?_ _ | with_reducible refine balloc ?_ _ | with_reducible refine Below.drew ?_ | with_reducible refine Below.setCell ?_ (by first | (simp; done) | (simp; omega) | omega) _ | with_reducible refine bstep ?_ (by assumption))⟩
end Go.Proofs.Ytbplgenlmegoeaa
