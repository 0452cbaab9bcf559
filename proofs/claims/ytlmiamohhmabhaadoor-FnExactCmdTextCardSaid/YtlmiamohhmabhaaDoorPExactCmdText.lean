/- FnExactCmdText answers true at every argument, and leaves its arguments as they were. No condition. -/
import Derived.Test.YtlmiamohhmabhaaDoorRows
import Derived.Test.YtlmiamohhmabhaaDoorXB5
import Derived.ProofKit
import Derived.OpenShut
import Derived.ShutString
import Derived.ChangeOld
import Derived.LaidMore
import Derived.LaidSub
import Derived.Lib.LaidTab
import Derived.MakeChecks
import Derived.SevenTiedAt
import Derived.Lay
import Derived.Stop.LaidErr
import Derived.Shelf.Vars
import Derived.Test.YtlmiamohhmabhaaDoorHSH
import Derived.Test.YtlmiamohhmabhaaDoorTie
import Derived.Test.YtlmiamohhmabhaaDoorCards
import Derived.Lib.SmallJoins
namespace Go.Proofs.YtlmiamohhmabhaaDoor.fnExactCmdTextDone
open Go.ChangeShapes Go.WideShapes Go.ChangeAt Go.RowKit Go.Joins
open Go.ChangeMaps (open_string shut_string)
set_option linter.unusedVariables false

theorem own : ownKnob Tryd.prog.godebug = none := by kernel_rfl

theorem laidOut : laidOutB Tryd.prog = true := by kernel_rfl

def laidL : List (String × DataW Unit) := Rows.fnExactCmdTextRow.laid

theorem laid_tab {W : World} (h : laidMetH Tryd.prog laidL W) : Tab W := by
  rw [MakeChecks.laidMetH_plain _ _ _ (by kernel_rfl)] at h
  have h' := laidMet.filter (fun x => x.1 == "internal/strconv.uint64pow10") h
  have e : laidL.filter (fun x => x.1 == "internal/strconv.uint64pow10") = [("internal/strconv.uint64pow10", Lib.tabData .u64 Lib.pow10Tab)] := by kernel_rfl
  rw [e] at h'
  exact Lib.tabIs_of_head tabG (by kernel_rfl) Tryd.underlying114 Tryd.underlying68 (by kernel_rfl) (by kernel_rfl) h'

theorem laid_forms {W : World} (h : laidMetH Tryd.prog laidL W) : Forms W := by
  rw [MakeChecks.laidMetH_plain _ _ _ (by kernel_rfl)] at h
  have h' := laidMet.filter (fun x => x.1 == "loop.example/g00707/impl.forms") h
  have e : laidL.filter (fun x => x.1 == "loop.example/g00707/impl.forms") = [("loop.example/g00707/impl.forms", Rows.laid_loop_example_g00707_impl_forms)] := by kernel_rfl
  rw [e] at h'
  have hg : Tryd.prog.globalNamed "loop.example/g00707/impl.forms" = some 0 := by kernel_rfl
  have hty : (Tryd.prog.globals[0]?).map (·.type) = some 62 := by kernel_rfl
  obtain ⟨ps, ⟨g', t', cs, fuel, p, q, hg', ht', hvar, hd, _, _⟩, _⟩ := h'
  obtain rfl := Option.some.inj (hg.symm.trans hg')
  obtain rfl := Option.some.inj (hty.symm.trans ht')
  have hc := forms_cells hd rfl
  have hcell : ∀ j v, formsL[j]? = some v → W.cell? ⟨0, j, none⟩ = some v := fun j v hj => by
    have := World.var?_cell hg hvar j
    rw [this, ← Array.getElem?_toList, hc]
    exact hj
  exact ⟨cellLt (hcell 0 _ rfl), hcell⟩

theorem var_belowC {W W' : World} {n : String} {g : Nat} {cs : Array Value} (hb : Below W.heap.size W W') (hg : Tryd.prog.globalNamed n = some g) (lt : g < W.heap.size) (h : W.var? Tryd.prog n = some cs) : W'.var? Tryd.prog n = some cs := by
  unfold World.var? at h ⊢
  rw [hg] at h ⊢
  simp only [Option.bind_some] at h ⊢
  rw [hb.block g lt]
  exact h

theorem vars_kept {H : Type} {enc : TypeId × Value → H} {W W' : World} {d : DataW H} {q : List MemPlace} (hL : laidMetH Tryd.prog laidL W) (hV : DataW.TrodVars enc Tryd.prog W (fun _ => true) ["loop.example/g00707/impl.forms"] [d] q) (bel : Below W.heap.size W W') :
    ∃ pv, DataW.TrodVars enc Tryd.prog W' (fun b => decide (b < W.heap.size)) ["loop.example/g00707/impl.forms"] [d] pv := by
  obtain ⟨gv, tv, csv, fuv, dv, pv, e, hgv, htv, hvv, hdv, _⟩ := trodVars_one hV
  have hg : Tryd.prog.globalNamed "loop.example/g00707/impl.forms" = some 0 := by kernel_rfl
  have hty : (Tryd.prog.globals[0]?).map (·.type) = some 62 := by kernel_rfl
  obtain rfl := Option.some.inj (hg.symm.trans hgv)
  obtain rfl := Option.some.inj (hty.symm.trans htv)
  obtain rfl : d = dv := (List.cons.inj e).1
  have kv : DataW.Trod enc Tryd.prog W 0 (fun _ => true) true 62 (.agg csv) d pv := ⟨fuv, hdv⟩
  obtain ⟨m, hm⟩ := Below.trod laidOut (by kernel_rfl) (of_decide_eq_true (by kernel_rfl)) kv bel (DataW.trod_lt fuv _ _ _ hdv)
  exact ⟨_, trodVars_mk1 hg hty (var_belowC bel hg (laid_forms hL).lt hvv) hm⟩

set_option maxRecDepth 100000 in
theorem door_met (os : Os) (args : Array Value) : laidMetH Tryd.prog laidL ((World.laidAll Tryd.prog os laidL).forCall (fun _ _ => 0) ⟨#[], args, []⟩).memory := by
  rw [MakeChecks.laidMetH_plain _ _ _ (by kernel_rfl)]
  exact laidMet_laidAll _ (by kernel_rfl) (by kernel_rfl)

set_option maxRecDepth 100000 in
theorem lifted (os : Os) (started : os.Started) (H : Type) (enc : TypeId × Value → H) :
    ReturnsInHanded {} Tryd.checked os 4 .any (fun w args => (Rows.fnExactCmdTextSpec.pre enc Tryd.prog Tryd.f4 [] false w args ∧ laidMetH Tryd.prog laidL w) ∧ sizedMet enc Tryd.prog Tryd.f4 (OpenSpec.ofChange Rows.fnExactCmdTextSpec) false w args)
      (Rows.fnExactCmdTextSpec.post enc Tryd.prog Tryd.f4 false true false false) := by
  refine returns_laid_shaped (C := Tryd.checked) (X := fun w _ => laidMetH Tryd.prog laidL w) (fun _ _ _ hh h => h.of_heap hh) own started (by kernel_rfl) Tryd.func4
    (ChangeSpec.witness_shaped (enc := enc) (C := Tryd.checked) (os := os) (X := fun w _ => laidMetH Tryd.prog laidL w) false (World.laidAll Tryd.prog os laidL) #[.agg #[.int .i64 0, .int .i64 0, .int .i64 0, .int .i64 0, .slice none 0 0]] 8 (World.laidAll_os _ _ _) (World.shaped_of_ZipB (by kernel_rfl) (by kernel_rfl)) (by kernel_rfl) (by kernel_rfl) (by kernel_rfl) (door_met os _)) ?_
  intro W base args ds gs before hval0 hW hL hS
  have hval : ∀ (j : Nat) t v, Tryd.f4.params[j]? = some t → args[j]? = some v → Value.okWide Tryd.prog W .any base t v := hval0
  have hW' := hW
  obtain ⟨p, q, hA0, hV, rfl, hfz, hnd⟩ := hW
  have hA : DataW.TrodAll enc Tryd.prog W 0 (fun _ => true) true Tryd.f4.params.toList args.toList ds p := hA0
  rw [Tryd.params4] at hA hval
  obtain ⟨v0, vs0, d0, ds0, p0, q0, hargs, rfl, rfl, h0, r0⟩ := trodAll_cons hA
  obtain ⟨rfl, rfl, rfl⟩ := trodAll_nil r0
  obtain rfl : args = #[v0] := by cases args; simp_all
  have hV1 := hV
  obtain ⟨gv, tv, csv, fuv, dv, pv, rfl, hgv, htv, hvv, hdv, hpv⟩ := trodVars_one hV1
  clear hV1 hgv htv hvv hdv hpv
  have k0 := h0
  have lt0 : ∀ x ∈ p0, x.block < W.heap.size := by obtain ⟨m, hm⟩ := k0; exact DataW.trod_lt m _ _ _ hm
  obtain ⟨c0a, c0b, c0c, c0d, c0e, y0a, y0b, y0c, y0d, y0e, m0, rfl, hy0a, hy0b, hy0c, hy0d, hy0e⟩ := open_agg5C Tryd.underlying24 (by kernel_rfl) (by kernel_rfl) (hval 0 24 v0 rfl rfl) h0
  obtain ⟨x0a, e0a, _, wx0a⟩ := DataW.trod_int Tryd.underlying2 hy0a
  simp at e0a
  subst e0a
  obtain ⟨x0b, e0b, _, wx0b⟩ := DataW.trod_int Tryd.underlying2 hy0b
  simp at e0b
  subst e0b
  obtain ⟨x0c, e0c, _, wx0c⟩ := DataW.trod_int Tryd.underlying2 hy0c
  simp at e0c
  subst e0c
  obtain ⟨x0d, e0d, _, wx0d⟩ := DataW.trod_int Tryd.underlying2 hy0d
  simp at e0d
  subst e0d
  obtain ⟨a0e, len0e, cap0e, z0e, e0e, wa0e⟩ : ∃ a len cap zs, c0e = .slice a len cap ∧ IsRow .i64 W a len cap zs := by
    rcases open_ints Tryd.underlying22 Tryd.underlying2 (by kernel_rfl) hy0e with ⟨hcs, _⟩ | ⟨x, l, c, zs, hcs, _, hl, hm, hz, _, hcell, hwz⟩
    · simp at hcs
      exact ⟨none, 0, 0, [], hcs, .inl ⟨rfl, rfl, rfl, rfl⟩⟩
    · simp at hcs
      exact ⟨_, _, _, zs, hcs, .inr ⟨_, rfl, hl, hm, by simpa using hz, hcell, hwz⟩⟩
  subst e0e
  clear hA0 hval0
  refine (exactCmdText_walk x0a x0b x0c x0d a0e len0e cap0e z0e W (laid_forms hL) (laid_tab hL) wa0e).mono fun e W' ⟨he, bel⟩ => ?_
  subst he
  obtain ⟨pv', hv'⟩ := vars_kept hL hV bel
  exact ⟨_, rfl, _, _, _, [], _, pv', hW', trodAll_mk1 (shut_bool Tryd.underlying4 _), (trodAll_cons_mk (Below.trod laidOut (by kernel_rfl) (of_decide_eq_true (by kernel_rfl)) k0 bel lt0) trodAll_mk0), hv', bel.frame _, fun h => by cases h⟩

theorem over : Rows.fnExactCmdTextRow.holds Tryd.pinned (OpenSpec.ofChange Rows.fnExactCmdTextSpec) :=
  OpenClaim.holds_of_wide 4 Tryd.f4 rfl rfl rfl rfl rfl rfl rfl ⟨rfl, rfl, rfl, rfl, rfl⟩ rfl rfl rfl rfl rfl (by kernel_rfl) Tryd.func4 (by kernel_rfl)
    (of_decide_eq_true (by kernel_rfl)) (by unfold Func.isWrapper; rw [if_neg (of_decide_eq_false (by kernel_rfl))]; exact ⟨rfl, rfl⟩)
    (fun os started H enc _ => lifted os started H enc)

end Go.Proofs.YtlmiamohhmabhaaDoor.fnExactCmdTextDone
namespace Go.Proofs.YtlmiamohhmabhaaDoor

theorem fnExactCmdText_holds : Rows.FnExactCmdTextCardSaid :=
  Claim7.holds_tied_plain_at .later [] Rows.fnExactCmdTextCard.laidKinds true Rows.fnExactCmdTextCard.stood.harness Rows.fnExactCmdTextCard.stood.looks
    fnExactCmdTextDone.over (fun _ h => by cases h) (by kernel_rfl) (fun _ h => by cases h) fnExactCmdText_row_tie rfl ⟨rfl, rfl⟩ (by kernel_rfl) rfl
    (fun f fn hf hfn => by
      obtain rfl : f = 4 := Option.some.inj ((show Tryd.prog.funcNamed Rows.fnExactCmdTextRow.func = some 4 by kernel_rfl).symm.trans hf) |>.symm
      obtain rfl : fn = Tryd.f4 := (Option.some.inj (Tryd.func4.symm.trans hfn)).symm
      exact ⟨by kernel_rfl, fun j t ht => by
        rw [Tryd.params4] at ht
        have hm : t ∈ [24] := by simpa using Array.mem_of_getElem? ht
        have hall : ([24].all fun u => !Tryd.prog.wantsStandIn u) = true := by kernel_rfl
        exact (show Tryd.prog.wantsStandIn t = false by simpa using List.all_eq_true.1 hall t hm)⟩)
    (by kernel_rfl)
#print axioms fnExactCmdText_holds
end Go.Proofs.YtlmiamohhmabhaaDoor
