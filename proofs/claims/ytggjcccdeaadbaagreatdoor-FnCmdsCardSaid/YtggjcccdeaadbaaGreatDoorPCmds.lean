/- FnCmds answers true at every argument, and leaves its arguments as they were. No condition. -/
import Derived.Test.YtggjcccdeaadbaaGreatDoorRows
import Derived.Test.YtggjcccdeaadbaaGreatDoorZ35
import Derived.ProofKit
import Derived.OpenShut
import Derived.ShutString
import Derived.ChangeOld
import Derived.LaidMore
import Derived.LaidSub
import Derived.Lib.LaidTab
import Derived.MakeChecks
import Derived.SevenTiedAt
import Derived.Lay
import Derived.Stop.LaidErr
import Derived.Shelf.Vars
import Derived.Test.YtggjcccdeaadbaaGreatDoorZ1
import Derived.Test.YtggjcccdeaadbaaGreatDoorTie
import Derived.Test.YtggjcccdeaadbaaGreatDoorCards
import Derived.Lib.SmallJoins
namespace Go.Proofs.YtggjcccdeaadbaaGreatDoor.fnCmdsDone
open Go.ChangeShapes Go.WideShapes Go.ChangeAt Go.RowKit Go.Joins
open Go.ChangeMaps (open_string shut_string)
set_option linter.unusedVariables false

theorem own : ownKnob Tryz.prog.godebug = none := by kernel_rfl

theorem laidOut : laidOutB Tryz.prog = true := by kernel_rfl

def laidL : List (String × DataW Unit) := Rows.fnCmdsRow.laid

theorem laid_tab {W : World} (h : laidMetH Tryz.prog laidL W) : Tab W := by
  rw [MakeChecks.laidMetH_plain _ _ _ (by kernel_rfl)] at h
  have h' := laidMet.filter (fun x => x.1 == "internal/strconv.uint64pow10") h
  have e : laidL.filter (fun x => x.1 == "internal/strconv.uint64pow10") = [("internal/strconv.uint64pow10", Lib.tabData .u64 Lib.pow10Tab)] := by kernel_rfl
  rw [e] at h'
  exact Lib.tabIs_of_head tabG (by kernel_rfl) Tryz.underlying122 Tryz.underlying90 (by kernel_rfl) (by kernel_rfl) h'

theorem star : "*" ++ "errors.errorString" = "*errors.errorString" := by decide

theorem rowErr (u : TypeId) (h : Tryz.prog.typeName? 3 u = some "*errors.errorString") : u = 147 :=
  typeName_ptr_named (nm := "errors.errorString") (by rw [star]; kernel_rfl) (by kernel_rfl) (by decide) u (by rw [star]; exact h)

theorem laid_syn {W : World} (h : laidMetH Tryz.prog laidL W) : 5 < W.heap.size ∧ ∃ te pe, W.cell? ⟨5, 0, none⟩ = some (.iface te pe) := by
  rw [MakeChecks.laidMetH_plain _ _ _ (by kernel_rfl)] at h
  have h' := laidMet.filter (fun x => x.1 == "strconv.ErrSyntax") h
  have e : laidL.filter (fun x => x.1 == "strconv.ErrSyntax") = [("strconv.ErrSyntax", Rows.laid_strconv_ErrSyntax)] := by kernel_rfl
  rw [e] at h'
  have hg : Tryz.prog.globalNamed "strconv.ErrSyntax" = some 5 := by kernel_rfl
  obtain ⟨a0, s0, hv0, _, _, _⟩ := laid_sentinel h' hg (by kernel_rfl) Tryz.underlying74 rowErr Tryz.underlying147 Tryz.underlying149 rfl rfl Tryz.underlying9 (by kernel_rfl) (by kernel_rfl)
  have hc : W.cell? ⟨5, 0, none⟩ = some (.iface 147 (.pointer (some a0))) := by have h0 := World.var?_cell hg hv0 0; simpa using h0
  exact ⟨Lib.lt_of_cell hc, _, _, hc⟩

theorem laid_rng {W : World} (h : laidMetH Tryz.prog laidL W) : 6 < W.heap.size ∧ ∃ te pe, W.cell? ⟨6, 0, none⟩ = some (.iface te pe) := by
  rw [MakeChecks.laidMetH_plain _ _ _ (by kernel_rfl)] at h
  have h' := laidMet.filter (fun x => x.1 == "strconv.ErrRange") h
  have e : laidL.filter (fun x => x.1 == "strconv.ErrRange") = [("strconv.ErrRange", Rows.laid_strconv_ErrRange)] := by kernel_rfl
  rw [e] at h'
  have hg : Tryz.prog.globalNamed "strconv.ErrRange" = some 6 := by kernel_rfl
  obtain ⟨a0, s0, hv0, _, _, _⟩ := laid_sentinel h' hg (by kernel_rfl) Tryz.underlying74 rowErr Tryz.underlying147 Tryz.underlying149 rfl rfl Tryz.underlying9 (by kernel_rfl) (by kernel_rfl)
  have hc : W.cell? ⟨6, 0, none⟩ = some (.iface 147 (.pointer (some a0))) := by have h0 := World.var?_cell hg hv0 0; simpa using h0
  exact ⟨Lib.lt_of_cell hc, _, _, hc⟩

theorem laid_forms {W : World} (h : laidMetH Tryz.prog laidL W) : Forms W := by
  rw [MakeChecks.laidMetH_plain _ _ _ (by kernel_rfl)] at h
  have h' := laidMet.filter (fun x => x.1 == "loop.example/g00707/impl.forms") h
  have e : laidL.filter (fun x => x.1 == "loop.example/g00707/impl.forms") = [("loop.example/g00707/impl.forms", Rows.laid_loop_example_g00707_impl_forms)] := by kernel_rfl
  rw [e] at h'
  have hg : Tryz.prog.globalNamed "loop.example/g00707/impl.forms" = some 0 := by kernel_rfl
  have hty : (Tryz.prog.globals[0]?).map (·.type) = some 50 := by kernel_rfl
  obtain ⟨ps, ⟨g', t', cs, fuel, p, q, hg', ht', hvar, hd, _, _⟩, _⟩ := h'
  obtain rfl := Option.some.inj (hg.symm.trans hg')
  obtain rfl := Option.some.inj (hty.symm.trans ht')
  have hc := forms_cells hd rfl
  have hcell : ∀ j v, formsL[j]? = some v → W.cell? ⟨0, j, none⟩ = some v := fun j v hj => by
    have := World.var?_cell hg hvar j
    rw [this, ← Array.getElem?_toList, hc]
    exact hj
  exact ⟨cellLt (hcell 0 _ rfl), hcell⟩

theorem var_belowC {W W' : World} {n : String} {g : Nat} {cs : Array Value} (hb : Below W.heap.size W W') (hg : Tryz.prog.globalNamed n = some g) (lt : g < W.heap.size) (h : W.var? Tryz.prog n = some cs) : W'.var? Tryz.prog n = some cs := by
  unfold World.var? at h ⊢
  rw [hg] at h ⊢
  simp only [Option.bind_some] at h ⊢
  rw [hb.block g lt]
  exact h

theorem vars_kept {H : Type} {enc : TypeId × Value → H} {W W' : World} {d : DataW H} {q : List MemPlace} (hL : laidMetH Tryz.prog laidL W) (hV : DataW.TrodVars enc Tryz.prog W (fun _ => true) ["loop.example/g00707/impl.forms"] [d] q) (bel : Below W.heap.size W W') :
    ∃ pv, DataW.TrodVars enc Tryz.prog W' (fun b => decide (b < W.heap.size)) ["loop.example/g00707/impl.forms"] [d] pv := by
  obtain ⟨gv, tv, csv, fuv, dv, pv, e, hgv, htv, hvv, hdv, _⟩ := trodVars_one hV
  have hg : Tryz.prog.globalNamed "loop.example/g00707/impl.forms" = some 0 := by kernel_rfl
  have hty : (Tryz.prog.globals[0]?).map (·.type) = some 50 := by kernel_rfl
  obtain rfl := Option.some.inj (hg.symm.trans hgv)
  obtain rfl := Option.some.inj (hty.symm.trans htv)
  obtain rfl : d = dv := (List.cons.inj e).1
  have kv : DataW.Trod enc Tryz.prog W 0 (fun _ => true) true 50 (.agg csv) d pv := ⟨fuv, hdv⟩
  obtain ⟨m, hm⟩ := Below.trod laidOut (by kernel_rfl) (of_decide_eq_true (by kernel_rfl)) kv bel (DataW.trod_lt fuv _ _ _ hdv)
  exact ⟨_, trodVars_mk1 hg hty (var_belowC bel hg (laid_forms hL).lt hvv) hm⟩

theorem shape_ml {W : World} (h : W.ShapedOpen Tryz.prog) : Mlen W := by
  obtain ⟨m, hm⟩ := cell_of_shapedOpen_int (P := Tryz.prog) (g := 1) (t := 3) (zero := #[.int .i64 0]) (k := .i64) h (of_decide_eq_true (by kernel_rfl)) (by kernel_rfl) rfl (by kernel_rfl) (by kernel_rfl) Tryz.underlying3
  exact ⟨Lib.lt_of_cell hm, m, hm⟩

theorem laid_vars {W : World} (h : laidMetH Tryz.prog laidL W) : Vars W := ⟨laid_tab h, (laid_syn h).1, (laid_syn h).2, (laid_rng h).1, (laid_rng h).2⟩

set_option maxRecDepth 100000 in
theorem door_met (os : Os) (args : Array Value) : laidMetH Tryz.prog laidL ((World.laidAll Tryz.prog os laidL).forCall (fun _ _ => 0) ⟨#[], args, []⟩).memory := by
  rw [MakeChecks.laidMetH_plain _ _ _ (by kernel_rfl)]
  exact laidMet_laidAll _ (by kernel_rfl) (by kernel_rfl)

set_option maxRecDepth 100000 in
theorem lifted (os : Os) (started : os.Started) (H : Type) (enc : TypeId × Value → H) :
    ReturnsInHanded {} Tryz.checked os 3 .any (fun w args => (Rows.fnCmdsSpec.pre enc Tryz.prog Tryz.f3 [] false w args ∧ laidMetH Tryz.prog laidL w) ∧ sizedMet enc Tryz.prog Tryz.f3 (OpenSpec.ofChange Rows.fnCmdsSpec) false w args)
      (Rows.fnCmdsSpec.post enc Tryz.prog Tryz.f3 false true false false) := by
  refine returns_laid_shaped (C := Tryz.checked) (X := fun w _ => laidMetH Tryz.prog laidL w) (fun _ _ _ hh h => h.of_heap hh) own started (by kernel_rfl) Tryz.func3
    (ChangeSpec.witness_shaped (enc := enc) (C := Tryz.checked) (os := os) (X := fun w _ => laidMetH Tryz.prog laidL w) false (World.laidAll Tryz.prog os laidL) #[.slice none 0 0] 8 (World.laidAll_os _ _ _) (World.shaped_of_ZipB (by kernel_rfl) (by kernel_rfl)) (by kernel_rfl) (by kernel_rfl) (by kernel_rfl) (door_met os _)) ?_
  intro W base args ds gs before hval0 hW hL hS
  have hval : ∀ (j : Nat) t v, Tryz.f3.params[j]? = some t → args[j]? = some v → Value.okWide Tryz.prog W .any base t v := hval0
  have hW' := hW
  obtain ⟨p, q, hA0, hV, rfl, hfz, hnd⟩ := hW
  have hA : DataW.TrodAll enc Tryz.prog W 0 (fun _ => true) true Tryz.f3.params.toList args.toList ds p := hA0
  rw [Tryz.params3] at hA hval
  obtain ⟨v0, vs0, d0, ds0, p0, q0, hargs, rfl, rfl, h0, r0⟩ := trodAll_cons hA
  obtain ⟨rfl, rfl, rfl⟩ := trodAll_nil r0
  obtain rfl : args = #[v0] := by cases args; simp_all
  have hV1 := hV
  obtain ⟨gv, tv, csv, fuv, dv, pv, rfl, hgv, htv, hvv, hdv, hpv⟩ := trodVars_one hV1
  clear hV1 hgv htv hvv hdv hpv
  have k0 := h0
  have lt0 : ∀ x ∈ p0, x.block < W.heap.size := by obtain ⟨m, hm⟩ := k0; exact DataW.trod_lt m _ _ _ hm
  obtain ⟨a0, len0, cap0, rfl⟩ := okWide_slice Tryz.underlying22 (hval 0 22 v0 rfl rfl)
  obtain ⟨z0, wa0⟩ : ∃ zs, IsRow .u8 W a0 len0 cap0 zs := by
    obtain ⟨fuel, hf⟩ := h0
    rcases open_ints Tryz.underlying22 Tryz.underlying5 (by kernel_rfl) hf with ⟨hcs, _⟩ | ⟨x, l, c, zs, hcs, _, hl, hm, hz, _, hcell, hwz⟩
    · simp [Value.cells] at hcs
      obtain ⟨rfl, rfl, rfl⟩ := hcs
      exact ⟨[], .inl ⟨rfl, rfl, rfl, rfl⟩⟩
    · simp [Value.cells] at hcs
      obtain ⟨rfl, rfl, rfl⟩ := hcs
      exact ⟨zs, .inr ⟨_, rfl, hl, hm, by simpa using hz, hcell, hwz⟩⟩
  clear hA0 hval0
  refine (cmds_walk a0 len0 cap0 z0 W (laid_forms hL) (laid_vars hL) (shape_ml hS) wa0).mono fun e W' ⟨he, bel⟩ => ?_
  subst he
  obtain ⟨pv', hv'⟩ := vars_kept hL hV bel
  exact ⟨_, rfl, _, _, _, [], _, pv', hW', trodAll_mk1 (shut_bool Tryz.underlying4 _), (trodAll_cons_mk (Below.trod laidOut (by kernel_rfl) (of_decide_eq_true (by kernel_rfl)) k0 bel lt0) trodAll_mk0), hv', bel.frame _, fun h => by cases h⟩

theorem over : Rows.fnCmdsRow.holds Tryz.pinned (OpenSpec.ofChange Rows.fnCmdsSpec) :=
  OpenClaim.holds_of_wide 3 Tryz.f3 rfl rfl rfl rfl rfl rfl rfl ⟨rfl, rfl, rfl, rfl, rfl⟩ rfl rfl rfl rfl rfl (by kernel_rfl) Tryz.func3 (by kernel_rfl)
    (of_decide_eq_true (by kernel_rfl)) (by unfold Func.isWrapper; rw [if_neg (of_decide_eq_false (by kernel_rfl))]; exact ⟨rfl, rfl⟩)
    (fun os started H enc _ => lifted os started H enc)

end Go.Proofs.YtggjcccdeaadbaaGreatDoor.fnCmdsDone
namespace Go.Proofs.YtggjcccdeaadbaaGreatDoor

theorem fnCmds_holds : Rows.FnCmdsCardSaid :=
  Claim7.holds_tied_plain_at .later [] Rows.fnCmdsCard.laidKinds true Rows.fnCmdsCard.stood.harness Rows.fnCmdsCard.stood.looks
    fnCmdsDone.over (fun _ h => by cases h) (by kernel_rfl) (fun _ h => by cases h) fnCmds_row_tie rfl ⟨rfl, rfl⟩ (by kernel_rfl) rfl
    (fun f fn hf hfn => by
      obtain rfl : f = 3 := Option.some.inj ((show Tryz.prog.funcNamed Rows.fnCmdsRow.func = some 3 by kernel_rfl).symm.trans hf) |>.symm
      obtain rfl : fn = Tryz.f3 := (Option.some.inj (Tryz.func3.symm.trans hfn)).symm
      exact ⟨by kernel_rfl, fun j t ht => by
        rw [Tryz.params3] at ht
        have hm : t ∈ [22] := by simpa using Array.mem_of_getElem? ht
        have hall : ([22].all fun u => !Tryz.prog.wantsStandIn u) = true := by kernel_rfl
        exact (show Tryz.prog.wantsStandIn t = false by simpa using List.all_eq_true.1 hall t hm)⟩)
    (by kernel_rfl)
#print axioms fnCmds_holds
end Go.Proofs.YtggjcccdeaadbaaGreatDoor
