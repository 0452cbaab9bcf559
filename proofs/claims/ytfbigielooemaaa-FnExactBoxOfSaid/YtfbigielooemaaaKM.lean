/- The walk of FnExactRowOk. -/
import Derived.Test.YtfbigielooemaaaKL
import Derived.Test.YtfbigielooemaaaBC
namespace Go.Proofs.Ytfbigielooemaaa
open Go.RowKit
set_option linter.unusedSimpArgs false
set_option linter.unusedVariables false

theorem IsRow.le {w : World} {a : Option Addr} {len cap : Nat} {zs : List Int} (h : IsRow .i64 w a len cap zs) : len ≤ 9223372036854775807 := by
  rcases h with ⟨_, rfl, _, _⟩ | ⟨x, _, hl, hm, _⟩
  · omega
  · unfold maxLen at hm; omega

/-- Two boxes of three cells. -/
structure Two3 (w : World) (b c : Nat) (v0 v1 v2 u0 u1 u2 : Value) : Prop where
  one : TriW w b v0 v1 v2
  two : TriW w c u0 u1 u2
theorem Two3.below {w w' : World} {b c : Nat} {v0 v1 v2 u0 u1 u2 : Value} (h : Two3 w b c v0 v1 v2 u0 u1 u2) (hb : Below w.heap.size w w') : Two3 w' b c v0 v1 v2 u0 u1 u2 := ⟨h.one.below hb, h.two.below hb⟩

end Go.Proofs.Ytfbigielooemaaa