/- FnExactHeapSorted answers true at every argument, and leaves its arguments as they were. No condition. -/
import Derived.Test.YtjddabggoaffaaaRows
import Derived.Test.YtjddabggoaffaaaHAB
import Derived.ProofKit
import Derived.OpenShut
import Derived.ShutString
import Derived.ChangeOld
import Derived.Lib.SmallJoins
import Derived.Deep.SlicePairs
namespace Go.Proofs.Ytjddabggoaffaaa.fnExactHeapSortedDone
open Go.ChangeShapes Go.WideShapes Go.ChangeAt Go.RowKit Go.Joins
open Go.ChangeMaps (open_string shut_string)
set_option linter.unusedVariables false

theorem own : ownKnob Try.prog.godebug = none := by kernel_rfl
theorem laidOut : laidOutB Try.prog = true := by kernel_rfl

set_option maxRecDepth 100000 in
theorem lifted (os : Os) (started : os.Started) (H : Type) (enc : TypeId × Value → H) :
    ReturnsInHanded {} Try.checked os 4 .any (Rows.fnExactHeapSortedSpec.pre6 enc Try.prog Try.f4 Rows.fnExactHeapSortedRow.domain false) (Rows.fnExactHeapSortedSpec.post enc Try.prog Try.f4 false true false false) := by
  refine returnsInHanded_of_change (C := Try.checked) own started (by kernel_rfl) Try.func4
    (ChangeSpec.witness6 (enc := enc) (C := Try.checked) false ⟨#[], #[.agg #[.int .i64 0, .slice none 0 0]], []⟩ 8 (by kernel_rfl) (by kernel_rfl) (by kernel_rfl) (by kernel_rfl)) ?_
  intro W base args ds gs before hval0 hW hcnd _
  have hval : ∀ (j : Nat) t v, Try.f4.params[j]? = some t → args[j]? = some v → Value.okWide Try.prog W .any base t v := hval0
  have hW' := hW
  obtain ⟨p, q, hA0, hV, rfl, hfz, hnd⟩ := hW
  have hA : DataW.TrodAll enc Try.prog W 0 (fun _ => true) true Try.f4.params.toList args.toList ds p := hA0
  rw [Try.params4] at hA hval
  obtain ⟨v0, vs0, d0, ds0, p0, q0, hargs, rfl, rfl, h0, r0⟩ := trodAll_cons hA
  obtain ⟨rfl, rfl, rfl⟩ := trodAll_nil r0
  obtain rfl : args = #[v0] := by cases args; simp_all
  obtain ⟨rfl, rfl⟩ := trodVars_none hV
  have k0 := h0
  have lt0 : ∀ x ∈ p0, x.block < W.heap.size := by obtain ⟨m, hm⟩ := k0; exact DataW.trod_lt m _ _ _ hm
  obtain ⟨c0a, c0b, y0a, y0b, m0, rfl, _, _, hy0a, hy0b⟩ := open_agg2 Try.underlying24 (by kernel_rfl) (by kernel_rfl) (hval 0 24 v0 rfl rfl) h0
  obtain ⟨x0, e0a, _, wx0⟩ := DataW.trod_int Try.underlying2 hy0a
  simp at e0a
  subst e0a
  obtain ⟨a0, len0, cap0, f0, g0, e0b, wa0⟩ : ∃ a len cap f g, c0b = .slice a len cap ∧ IsPairs W a len f g := by
    rcases Go.Deep.open_slice_pairs Try.underlying22 Try.underlying26 (by kernel_rfl) rfl rfl (by kernel_rfl) (by kernel_rfl) hy0b with ⟨hcs, _⟩ | ⟨x, l, c, m, n, V0, V1, D0, D1, P0, P1, hcs, _, hl, hm, hmm, _, hcell⟩
    · simp at hcs
      exact ⟨none, 0, 0, fun _ => 0, fun _ => 0, hcs, ⟨.inl rfl⟩, by omega⟩
    · simp at hcs
      obtain ⟨f, g, hp⟩ := pairs_of (len := l) (m := m) (by rw [hmm]; split <;> omega) (fun i hi => ⟨(hcell i hi).1, (hcell i hi).2.1⟩) (fun i hi => by
        obtain ⟨y0, e0, _⟩ := DataW.trod_int Try.underlying2 (hcell i hi).2.2.1
        obtain ⟨y1, e1, _⟩ := DataW.trod_int Try.underlying2 (hcell i hi).2.2.2
        simp at e0 e1
        exact ⟨(y0, y1), e0, e1⟩)
      exact ⟨_, l, c, f, g, hcs, hp, by unfold maxLen at hm; omega⟩
  subst e0b
  clear hA0 hval0
  refine (exactHeapSorted_walk x0 a0 len0 cap0 f0 g0 W wa0).mono fun e W' ⟨he, bel⟩ => ?_
  subst he
  exact ⟨_, rfl, _, _, _, [], _, [], hW', trodAll_mk1 (shut_bool Try.underlying4 _), (trodAll_cons_mk (Below.trod laidOut (by kernel_rfl) (of_decide_eq_true (by kernel_rfl)) k0 bel lt0) trodAll_mk0), rfl, bel.frame _, fun h => by cases h⟩

theorem over : Rows.fnExactHeapSortedRow.holds Try.pinned (OpenSpec.ofChange Rows.fnExactHeapSortedSpec) :=
  OpenClaim.holds_of_wide 4 Try.f4 rfl rfl rfl rfl rfl rfl rfl ⟨rfl, rfl, rfl, rfl, rfl⟩ rfl rfl rfl rfl rfl (by kernel_rfl) Try.func4 (by kernel_rfl)
    (of_decide_eq_true (by kernel_rfl)) (by unfold Func.isWrapper; rw [if_neg (of_decide_eq_false (by kernel_rfl))]; exact ⟨rfl, rfl⟩)
    (fun os started H enc _ => lifted os started H enc)

end Go.Proofs.Ytjddabggoaffaaa.fnExactHeapSortedDone
namespace Go.Proofs.Ytjddabggoaffaaa
theorem fnExactHeapSorted_holds : Rows.FnExactHeapSortedSaid := fnExactHeapSortedDone.over
#print axioms fnExactHeapSorted_holds
end Go.Proofs.Ytjddabggoaffaaa
