/- FnExactFrameOf answers true at every argument, and leaves its arguments as they were. No condition. -/
import Derived.Test.YtpnppabpogedeaaDoorRows
import Derived.Test.YtpnppabpogedeaaDoorFR4
import Derived.ProofKit
import Derived.OpenShut
import Derived.ShutString
import Derived.ChangeOld
import Derived.LaidMore
import Derived.LaidSub
import Derived.Lib.LaidTab
import Derived.MakeChecks
import Derived.SevenTiedAt
import Derived.Lay
import Derived.Stop.LaidErr
import Derived.Shelf.Vars
import Derived.Test.YtpnppabpogedeaaDoorHSH
import Derived.Test.YtpnppabpogedeaaDoorTie
import Derived.Test.YtpnppabpogedeaaDoorCards
import Derived.Lib.SmallJoins
namespace Go.Proofs.YtpnppabpogedeaaDoor.fnExactFrameOfDone
open Go.ChangeShapes Go.WideShapes Go.ChangeAt Go.RowKit Go.Joins
open Go.ChangeMaps (open_string shut_string)
set_option linter.unusedVariables false

theorem own : ownKnob Tryd.prog.godebug = none := by kernel_rfl

theorem laidOut : laidOutB Tryd.prog = true := by kernel_rfl

def laidL : List (String × DataW Unit) := Rows.fnExactFrameOfRow.laid

theorem laid_sums {W : World} (h : laidMetH Tryd.prog laidL W) : Sums W := by
  rw [MakeChecks.laidMetH_plain _ _ _ (by kernel_rfl)] at h
  have h' := laidMet.filter (fun x => x.1 == "loop.example/g00707/impl.sums") h
  have e : laidL.filter (fun x => x.1 == "loop.example/g00707/impl.sums") = [("loop.example/g00707/impl.sums", Lib.tabData .u32 sumsTab)] := by kernel_rfl
  rw [e] at h'
  exact Lib.tabIs_of_head sumsG (by kernel_rfl) Tryd.underlying28 Tryd.underlying26 (by kernel_rfl) (by kernel_rfl) h'

theorem var_belowS {W W' : World} {n : String} {g : Nat} {cs : Array Value} (hb : Below W.heap.size W W') (hg : Tryd.prog.globalNamed n = some g) (lt : g < W.heap.size) (h : W.var? Tryd.prog n = some cs) : W'.var? Tryd.prog n = some cs := by
  unfold World.var? at h ⊢
  rw [hg] at h ⊢
  simp only [Option.bind_some] at h ⊢
  rw [hb.block g lt]
  exact h

theorem sums_kept {H : Type} {enc : TypeId × Value → H} {W W' : World} {d : DataW H} {q : List MemPlace} (hL : laidMetH Tryd.prog laidL W) (hV : DataW.TrodVars enc Tryd.prog W (fun _ => true) ["loop.example/g00707/impl.sums"] [d] q) (bel : Below W.heap.size W W') :
    ∃ pv, DataW.TrodVars enc Tryd.prog W' (fun b => decide (b < W.heap.size)) ["loop.example/g00707/impl.sums"] [d] pv := by
  obtain ⟨gv, tv, csv, fuv, dv, pv, e, hgv, htv, hvv, hdv, _⟩ := trodVars_one hV
  have hty : (Tryd.prog.globals[0]?).map (·.type) = some 28 := by kernel_rfl
  obtain rfl := Option.some.inj (sumsG.symm.trans hgv)
  obtain rfl := Option.some.inj (hty.symm.trans htv)
  obtain rfl : d = dv := (List.cons.inj e).1
  have kv : DataW.Trod enc Tryd.prog W 0 (fun _ => true) true 28 (.agg csv) d pv := ⟨fuv, hdv⟩
  obtain ⟨m, hm⟩ := Below.trod laidOut (by kernel_rfl) (of_decide_eq_true (by kernel_rfl)) kv bel (DataW.trod_lt fuv _ _ _ hdv)
  exact ⟨_, trodVars_mk1 sumsG hty (var_belowS bel sumsG (laid_sums hL).lt hvv) hm⟩

set_option maxRecDepth 100000 in
theorem door_met (os : Os) (args : Array Value) : laidMetH Tryd.prog laidL ((World.laidAll Tryd.prog os laidL).forCall (fun _ _ => 0) ⟨#[], args, []⟩).memory := by
  rw [MakeChecks.laidMetH_plain _ _ _ (by kernel_rfl)]
  exact laidMet_laidAll _ (by kernel_rfl) (by kernel_rfl)

set_option maxRecDepth 100000 in
theorem lifted (os : Os) (started : os.Started) (H : Type) (enc : TypeId × Value → H) :
    ReturnsInHanded {} Tryd.checked os 3 .any (fun w args => (Rows.fnExactFrameOfSpec.pre enc Tryd.prog Tryd.f3 [] false w args ∧ laidMetH Tryd.prog laidL w) ∧ sizedMet enc Tryd.prog Tryd.f3 (OpenSpec.ofChange Rows.fnExactFrameOfSpec) false w args)
      (Rows.fnExactFrameOfSpec.post enc Tryd.prog Tryd.f3 false true false false) := by
  refine returns_laid_shaped (C := Tryd.checked) (X := fun w _ => laidMetH Tryd.prog laidL w) (fun _ _ _ hh h => h.of_heap hh) own started (by kernel_rfl) Tryd.func3
    (ChangeSpec.witness_shaped (enc := enc) (C := Tryd.checked) (os := os) (X := fun w _ => laidMetH Tryd.prog laidL w) false (World.laidAll Tryd.prog os laidL) #[.string ByteArray.empty] 8 (World.laidAll_os _ _ _) (World.shaped_of_ZipB (by kernel_rfl) (by kernel_rfl)) (by kernel_rfl) (by kernel_rfl) (by kernel_rfl) (door_met os _)) ?_
  intro W base args ds gs before hval0 hW hL hS
  have hval : ∀ (j : Nat) t v, Tryd.f3.params[j]? = some t → args[j]? = some v → Value.okWide Tryd.prog W .any base t v := hval0
  have hW' := hW
  obtain ⟨p, q, hA0, hV, rfl, hfz, hnd⟩ := hW
  have hA : DataW.TrodAll enc Tryd.prog W 0 (fun _ => true) true Tryd.f3.params.toList args.toList ds p := hA0
  rw [Tryd.params3] at hA hval
  obtain ⟨v0, vs0, d0, ds0, p0, q0, hargs, rfl, rfl, h0, r0⟩ := trodAll_cons hA
  obtain ⟨rfl, rfl, rfl⟩ := trodAll_nil r0
  obtain rfl : args = #[v0] := by cases args; simp_all
  have hV1 := hV
  obtain ⟨gv, tv, csv, fuv, dv, pv, rfl, hgv, htv, hvv, hdv, hpv⟩ := trodVars_one hV1
  clear hV1 hgv htv hvv hdv hpv
  have k0 := h0
  have lt0 : ∀ x ∈ p0, x.block < W.heap.size := by obtain ⟨m, hm⟩ := k0; exact DataW.trod_lt m _ _ _ hm
  obtain ⟨x0, rfl, _, _, ws0⟩ := open_string Tryd.underlying9 (hval 0 9 v0 rfl rfl) h0
  clear hA0 hval0
  refine (exactFrameOf_walk x0 W (laid_sums hL)).mono fun e W' ⟨he, bel⟩ => ?_
  subst he
  obtain ⟨pv', hv'⟩ := sums_kept hL hV bel
  exact ⟨_, rfl, _, _, _, [], _, pv', hW', trodAll_mk1 (shut_bool Tryd.underlying4 _), (trodAll_cons_mk (Below.trod laidOut (by kernel_rfl) (of_decide_eq_true (by kernel_rfl)) k0 bel lt0) trodAll_mk0), hv', bel.frame _, fun h => by cases h⟩

theorem over : Rows.fnExactFrameOfRow.holds Tryd.pinned (OpenSpec.ofChange Rows.fnExactFrameOfSpec) :=
  OpenClaim.holds_of_wide 3 Tryd.f3 rfl rfl rfl rfl rfl rfl rfl ⟨rfl, rfl, rfl, rfl, rfl⟩ rfl rfl rfl rfl rfl (by kernel_rfl) Tryd.func3 (by kernel_rfl)
    (of_decide_eq_true (by kernel_rfl)) (by unfold Func.isWrapper; rw [if_neg (of_decide_eq_false (by kernel_rfl))]; exact ⟨rfl, rfl⟩)
    (fun os started H enc _ => lifted os started H enc)

end Go.Proofs.YtpnppabpogedeaaDoor.fnExactFrameOfDone
namespace Go.Proofs.YtpnppabpogedeaaDoor

theorem fnExactFrameOf_holds : Rows.FnExactFrameOfCardSaid :=
  Claim7.holds_tied_plain_at .later [] Rows.fnExactFrameOfCard.laidKinds true Rows.fnExactFrameOfCard.stood.harness Rows.fnExactFrameOfCard.stood.looks
    fnExactFrameOfDone.over (fun _ h => by cases h) (by kernel_rfl) (fun _ h => by cases h) fnExactFrameOf_row_tie rfl ⟨rfl, rfl⟩ (by kernel_rfl) rfl
    (fun f fn hf hfn => by
      obtain rfl : f = 3 := Option.some.inj ((show Tryd.prog.funcNamed Rows.fnExactFrameOfRow.func = some 3 by kernel_rfl).symm.trans hf) |>.symm
      obtain rfl : fn = Tryd.f3 := (Option.some.inj (Tryd.func3.symm.trans hfn)).symm
      exact ⟨by kernel_rfl, fun j t ht => by
        rw [Tryd.params3] at ht
        have hm : t ∈ [9] := by simpa using Array.mem_of_getElem? ht
        have hall : ([9].all fun u => !Tryd.prog.wantsStandIn u) = true := by kernel_rfl
        exact (show Tryd.prog.wantsStandIn t = false by simpa using List.all_eq_true.1 hall t hm)⟩)
    (by kernel_rfl)
#print axioms fnExactFrameOf_holds
end Go.Proofs.YtpnppabpogedeaaDoor
