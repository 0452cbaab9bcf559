/- Copies of items: append onto nothing; l7Copy of the model, copied of the program. -/
import Derived.Test.YtecheolhmohhjaaGreatDoorZ11
import Derived.Deep.AppendSrc
namespace Go.Proofs.YtecheolhmohhjaaGreatDoor
open Go.RowKit
set_option maxRecDepth 8000
set_option linter.unusedSimpArgs false
set_option linter.unusedVariables false

theorem VSl.set {w : World} {B C : Nat} {v : Value} {xs : List Int} {b : Nat} (h : VSl w B C v xs b) (p : Addr) (u : Value) (hp : p.block < B ∨ C ≤ p.block) : VSl (w.setCell p u) B C v xs b :=
  h.keep fun k h1 h2 _ => Below.heap_setCell w p u k (by omega)

/-- Numbers are appended to a slice that has nothing, and no room. -/
theorem run_app_nums {P : Program} (w : World) (t ty e : TypeId) (i : TypeInfo) (ht : P.underlying t = some (.slice e)) (hi : P.info? e = some i) (hz : i.zero = some (.int .i64 0)) (hs : i.size = 1) (hb : i.bytes = 8)
    (base : Option Addr) (a : Option Addr) (n c : Nat) (xs : List Int) (h : Row w a n xs) (hn : n ≤ 1048576) (he : e = 2 := by rfl) :
    ∃ v' w' g, (Builtin.append_ #[t, t] ty #[.slice base 0 0, .slice a n c]).run P w = .ok v' w' ∧ VSl w' w.heap.size w'.heap.size v' xs g ∧ Below w.heap.size w w' := by
  have hl := h.len
  by_cases h0 : n = 0
  · subst h0
    refine ⟨.slice base 0 0, w, 0, ?_, ⟨base, 0, by rw [hl], .inl hl⟩, Below.refl _ _⟩
    have hlc : ∀ (x : Addr), (loadCells x 0).run P w = .ok #[] w := fun x => by simpa using run_loadCells_list (P := P) w x [] (by simp)
    cases a <;> cases base <;> simp [Builtin.append_, run_underlying ht, sizeOf, typeInfo, hi, Builtin.firstCells, Builtin.lenOf, storeCells, hlc]
  · rcases h.lies with q | ⟨b, off, rfl, lt, hc⟩
    · exact absurd q h0
    · have src : Src P i.size t (.slice (some ⟨b, off, none⟩) n c) n (xs.map fun x => Value.int .i64 x) w := by
        refine Src.ofSlice w ht ⟨b, off, none⟩ n c _ (by simp [hs, hl]) (fun j u hu => ?_) (fun u hu => ?_)
        · rw [List.getElem?_map] at hu
          obtain ⟨x, hx, rfl⟩ := Option.map_eq_some_iff.1 hu
          have hj : j < n := by rw [← hl]; exact (List.getElem?_eq_some_iff.1 hx).1
          have := hc j hj
          rw [show nth xs j = x by simp [nth, List.getD_eq_getElem?_getD, hx]] at this
          by_cases hj0 : j = 0
          · subst hj0; simpa [Addr.add] using this
          · simpa [Addr.add, hj0] using this
        · obtain ⟨x, _, rfl⟩ := List.mem_map.1 hu
          rfl
      have hold : (Builtin.firstCells i.size 0 (.slice base 0 0)).run P w.drew = .ok ([] : List Value).toArray w.drew := by
        have hlc : ∀ (x : Addr), (loadCells x 0).run P w.drew = .ok #[] w.drew := fun x => by simpa using run_loadCells_list (P := P) w.drew x [] (by simp)
        cases base <;> simp [Builtin.firstCells, hlc]
      have r := run_append_grow_src w t t ty e i _ ht hi hz base 0 0 [] hold _ n _ src (by omega) (by omega) (by rw [hb]; unfold Builtin.nextslicecap; simp [show 0 < n by omega]; omega)
      refine ⟨_, _, w.heap.size, r, ⟨_, _, by rw [hl, Nat.zero_add], .inr ⟨rfl, Nat.le_refl _, by simp, ?_⟩⟩, (Below.refl _ w).drew.alloc (by simp) _⟩
      subst he
      have hge := grownCap_ge w n 0 2
      refine ⟨_, Go.Deep.blk_alloc_new _ _, by simp [size_zeroCells, Value.cells, hl]; omega, by omega, .inl (grownCap_le_maxLen _ _ _ _ (by unfold maxLen; omega)), fun j hj => ?_⟩
      rw [Array.getElem?_append_left (by simpa using hj)]
      simp [intF, nth, hj]

/-- An append whose run is known by an equation, at a plain region's operations. -/
theorem wpList_append_run {P : Program} {ops : Array Oper} {rest : List Oper} {o : Oper} {a : Act} {w : World} {Q : Exit → Act → World → Prop} (hgd : o.guard = none) (s x : Operand) (t : TypeId)
    (ho : o.op = .call { callee := .builtin .append, args := #[s, x], argTypes := #[t, t] }) (v u : Value) (hs : a.eval s = v) (hx : a.eval x = u) (v' : Value) (w' : World)
    (hr : (Builtin.append_ #[t, t] o.type #[v, u]).run P w = .ok v' w') (h : wpList P ops Q rest (a.put o.dst v') w') : wpList P ops Q (o :: rest) a w :=
  wpList_plain hgd fun K hK => by
    unfold Oper.wp execOp
    simp only [ho, resolve, invoke, builtin, Sem.run_bind, Sem.run_pure, Result.andThen_ok, List.map_toArray, List.map_cons, List.map_nil, hs, hx, hr]
    exact hK _ _ h

/-- The answer of whoever copies an item. -/
def ToV (w : World) (x : It) (e : Ending) (w' : World) : Prop :=
  ∃ v g, e = .returned (.agg #[.int .i64 x.id, .int .i64 x.tags, v]) ∧ VSl w' w.heap.size w'.heap.size v x.vec g ∧ Below w.heap.size w w'



end Go.Proofs.YtecheolhmohhjaaGreatDoor