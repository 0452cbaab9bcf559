/- Copies of items: append onto nothing; l7Copy of the model, copied of the program. -/
import Derived.Test.YthiklcldbjmgfaaZ7
import Derived.Test.YthiklcldbjmgfaaZ10
import Derived.Deep.AppendSrc
namespace Go.Proofs.Ythiklcldbjmgfaa
open Go.RowKit
set_option maxRecDepth 8000
set_option linter.unusedSimpArgs false
set_option linter.unusedVariables false

theorem VSl.set {w : World} {B C : Nat} {v : Value} {xs : List Int} {b : Nat} (h : VSl w B C v xs b) (p : Addr) (u : Value) (hp : p.block < B ∨ C ≤ p.block) : VSl (w.setCell p u) B C v xs b :=
  h.keep fun k h1 h2 _ => Below.heap_setCell w p u k (by omega)

/-- Numbers are appended to a slice that has nothing, and no room. -/
theorem run_app_nums {P : Program} (w : World) (t ty e : TypeId) (i : TypeInfo) (ht : P.underlying t = some (.slice e)) (hi : P.info? e = some i) (hz : i.zero = some (.int .i64 0)) (hs : i.size = 1) (hb : i.bytes = 8)
    (base : Option Addr) (a : Option Addr) (n c : Nat) (xs : List Int) (h : Row w a n xs) (hn : n ≤ 1048576) (he : e = 2 := by rfl) :
    ∃ v' w' g, (Builtin.append_ #[t, t] ty #[.slice base 0 0, .slice a n c]).run P w = .ok v' w' ∧ VSl w' w.heap.size w'.heap.size v' xs g ∧ Below w.heap.size w w' := by
  have hl := h.len
  by_cases h0 : n = 0
  · subst h0
    refine ⟨.slice base 0 0, w, 0, ?_, ⟨base, 0, by rw [hl], .inl hl⟩, Below.refl _ _⟩
    have hlc : ∀ (x : Addr), (loadCells x 0).run P w = .ok #[] w := fun x => by simpa using run_loadCells_list (P := P) w x [] (by simp)
    cases a <;> cases base <;> simp [Builtin.append_, run_underlying ht, sizeOf, typeInfo, hi, Builtin.firstCells, Builtin.lenOf, storeCells, hlc]
  · rcases h.lies with q | ⟨b, off, rfl, lt, hc⟩
    · exact absurd q h0
    · have src : Src P i.size t (.slice (some ⟨b, off, none⟩) n c) n (xs.map fun x => Value.int .i64 x) w := by
        refine Src.ofSlice w ht ⟨b, off, none⟩ n c _ (by simp [hs, hl]) (fun j u hu => ?_) (fun u hu => ?_)
        · rw [List.getElem?_map] at hu
          obtain ⟨x, hx, rfl⟩ := Option.map_eq_some_iff.1 hu
          have hj : j < n := by rw [← hl]; exact (List.getElem?_eq_some_iff.1 hx).1
          have := hc j hj
          rw [show nth xs j = x by simp [nth, List.getD_eq_getElem?_getD, hx]] at this
          by_cases hj0 : j = 0
          · subst hj0; simpa [Addr.add] using this
          · simpa [Addr.add, hj0] using this
        · obtain ⟨x, _, rfl⟩ := List.mem_map.1 hu
          rfl
      have hold : (Builtin.firstCells i.size 0 (.slice base 0 0)).run P w.drew = .ok ([] : List Value).toArray w.drew := by
        have hlc : ∀ (x : Addr), (loadCells x 0).run P w.drew = .ok #[] w.drew := fun x => by simpa using run_loadCells_list (P := P) w.drew x [] (by simp)
        cases base <;> simp [Builtin.firstCells, hlc]
      have r := run_append_grow_src w t t ty e i _ ht hi hz base 0 0 [] hold _ n _ src (by omega) (by omega) (by rw [hb]; unfold Builtin.nextslicecap; simp [show 0 < n by omega]; omega)
      refine ⟨_, _, w.heap.size, r, ⟨_, _, by rw [hl, Nat.zero_add], .inr ⟨rfl, Nat.le_refl _, by simp, ?_⟩⟩, (Below.refl _ w).drew.alloc (by simp) _⟩
      subst he
      have hge := grownCap_ge w n 0 2
      refine ⟨_, Go.Deep.blk_alloc_new _ _, by simp [size_zeroCells, Value.cells, hl]; omega, by omega, .inl (grownCap_le_maxLen _ _ _ _ (by unfold maxLen; omega)), fun j hj => ?_⟩
      rw [Array.getElem?_append_left (by simpa using hj)]
      simp [intF, nth, hj]

/-- The answer of whoever copies an item. -/
def ToV (w : World) (x : It) (e : Ending) (w' : World) : Prop :=
  ∃ v g, e = .returned (.agg #[.int .i64 x.id, .int .i64 x.tags, v]) ∧ VSl w' w.heap.size w'.heap.size v x.vec g ∧ Below w.heap.size w w'



set_option maxHeartbeats 1600000 in
theorem l7Copy_any (x : It) (a : Option Addr) (n cap : Nat) (w : World) (h : Row w a n x.vec) (hn : n ≤ 1048576) :
    Calls Try.prog 41 #[.agg #[.int .i64 x.id, .int .i64 x.tags, .slice a n cap]] w fun e w' => ToV w x e w' := by
  obtain ⟨i0, hi, hzz⟩ := Option.map_eq_some_iff.1 Try.infoI64
  simp only [Prod.mk.injEq] at hzz
  obtain ⟨hz0, hz1, hz2⟩ := hzz
  obtain ⟨x0, x1, xs⟩ := x
  have hbx : Below w.heap.size w (((w.alloc (.cells #[.int .i64 x0, .int .i64 x1, .slice a n cap] 43)).alloc (.cells #[.int .i64 0, .int .i64 0, .slice none 0 0] 43)).alloc (.cells #[] 2)) := balloc (balloc (balloc (Below.refl _ _) _) _) _
  obtain ⟨v', w1, g, hrun, hv, hb⟩ := run_app_nums (P := Try.prog) (((w.alloc (.cells #[.int .i64 x0, .int .i64 x1, .slice a n cap] 43)).alloc (.cells #[.int .i64 0, .int .i64 0, .slice none 0 0] 43)).alloc (.cells #[] 2)) 35 35 2 i0 Try.underlying35 hi hz0 hz1 hz2 (some ⟨w.heap.size + 1 + 1, 0, none⟩) a n cap xs (h.below hbx) hn
  obtain ⟨p0, p1, p2, p3, p4, p5, p6⟩ := (((Tri.new w (.int .i64 x0) (.int .i64 x1) (.slice a n cap) 43).alloc _).alloc _).below hb
  obtain ⟨q0, q1, q2, q3, q4, q5, q6⟩ := ((Tri.newAt (w.alloc _) (.int .i64 0) (.int .i64 0) (.slice none 0 0) 43 (w.heap.size + 1) (by simp)).alloc _).below hb
  have HV := hide hv
  have HB := hide hb
  have hsz := hb.size
  simp at hsz
  obtain ⟨va, vc, ev, _⟩ := hv
  subst ev
  clear h hb hbx hi
  go_enter Try.func41, Try.ntmps41
  go_wp2_with (at_builtin; refine wpList_append_run rfl _ _ 35 rfl _ _ rfl rfl _ _ hrun ?_)
  refine bodyPost_ret (v := .agg #[.int .i64 x0, .int .i64 x1, .slice va xs.length vc]) ?_ rfl ⟨_, g, rfl, ?_, ?_⟩
  · simp [results, Try.results41, go_sem, q1, q2, q3]
  · have hv := (((HV.out.set ⟨w.heap.size, 2, none⟩ (.slice va xs.length vc) (by simp; omega)).set ⟨w.heap.size + 1, 0, none⟩ (.int .i64 x0) (by simp)).set ⟨w.heap.size + 1, 1, none⟩ (.int .i64 x1) (by simp)).set ⟨w.heap.size + 1, 2, none⟩ (.slice va xs.length vc) (by simp)
    exact hv.mono (by simp; omega) (by simp [World.setCell])
  · have hb := HB.out
    exact (by repeat' first | with_reducible exact Below.refl _ _ | with_reducible assumption | with_reducible refine below_drewN ?_ _ | with_reducible refine balloc ?_ _ | with_reducible refine Below.drew ?_ | with_reducible refine Below.setCell ?_ (by first | (simp; done) | (simp; omega) | omega) _ | with_reducible refine bstep ?_ (by assumption))
end Go.Proofs.Ythiklcldbjmgfaa
