/- slices.Grow at Nears: room for n, onto nothing. -/
import Derived.Test.YtidoajapaaoifaaQL
import Derived.Deep.AppendSrc
namespace Go.Proofs.Ytidoajapaaoifaa
open Go.RowKit
set_option linter.unusedSimpArgs false
set_option linter.unusedVariables false

/-- An append whose run is known by an equation, of two types. -/
theorem wpList_append_run2 {P : Program} {ops : Array Oper} {rest : List Oper} {o : Oper} {a : Act} {w : World} {Q : Exit → Act → World → Prop} (hgd : o.guard = none) (s x : Operand) (t tx : TypeId)
    (ho : o.op = .call { callee := .builtin .append, args := #[s, x], argTypes := #[t, tx] }) (v u : Value) (hs : a.eval s = v) (hx : a.eval x = u) (v' : Value) (w' : World)
    (hr : (Builtin.append_ #[t, tx] o.type #[v, u]).run P w = .ok v' w') (h : wpList P ops Q rest (a.put o.dst v') w') : wpList P ops Q (o :: rest) a w :=
  wpList_plain hgd fun K hK => by
    unfold Oper.wp execOp
    simp only [ho, resolve, invoke, builtin, Sem.run_bind, Sem.run_pure, Result.andThen_ok, List.map_toArray, List.map_cons, List.map_nil, hs, hx, hr]
    exact hK _ _ h

/-- An append of n zeros onto nothing. -/
theorem run_app_zeros {P : Program} (w : World) (t tx ty e : TypeId) (k : IntKind) (i : TypeInfo) (z : Value) (ht : P.underlying t = some (.slice e)) (hx : P.underlying tx = some (.int k)) (hi : P.info? e = some i) (hz : i.zero = some z) (hs : i.size = 2) (hb : i.bytes = 16) (base : Option Addr) (n : Nat) (h0 : 0 < n) (hn : n ≤ 1000) :
    (Builtin.append_ #[t, tx] ty #[.slice base 0 0, .int .i64 (n : Int)]).run P w =
      .ok (.slice (some ⟨w.heap.size, 0, none⟩) n (grownCap w n 0 e)) (w.drew.alloc (.cells (Builtin.zeroCells z.cells n ++ Builtin.zeroCells z.cells (grownCap w n 0 e - n)) e)) := by
  have hw : IntKind.i64.wrap (n : Int) = (n : Int) := wrapIn _ (by omega) (by omega)
  have h1 : ¬ ((n : Int) < 0) := by omega
  have h2 : ¬ (281474976710656 < (n : Int) * 16) := by omega
  have hcap : Builtin.nextslicecap n 0 = n := nextslicecap_zero h0
  have hne : ¬ n ≤ 0 := by omega
  have h63 : ¬ (9223372036854775807 < (n : Int)) := by omega
  have h48 : ¬ (281474976710656 < n * 16) := by omega
  have hold : ∀ w' : World, (Builtin.firstCells 2 0 (.slice base 0 0)).run P w' = .ok #[] w' := fun w' => by
    have hlc : ∀ (x : Addr), (loadCells x 0).run P w' = .ok #[] w' := fun x => by simpa using run_loadCells_list (P := P) w' x [] (by simp)
    cases base <;> simp [Builtin.firstCells, hlc]
  simp [Builtin.append_, run_underlying ht, run_underlying hx, sizeOf, typeInfo, zeroValue, hi, hz, hs, hb, asInt, asIntOf, hw, h1, h2, hcap, hne, h63, h48, Question.forced, hold, newRow, grownCap, show ¬ n * 2 = 0 by omega]
  intro h
  omega

theorem zero_size (z : Value) (hz : z.cells.size = 2) (n : Nat) : (Builtin.zeroCells z.cells n).size = n * 2 := by simp [Builtin.zeroCells, hz]

/-- Room for some Nears: a row that holds none of them yet. -/
def GrowR (w : World) (n : Nat) (e : Ending) (w' : World) : Prop :=
  ∃ c, e = .returned (.slice (some ⟨w.heap.size, 0, none⟩) 0 c) ∧ (∀ M, RC w' w.heap.size w.heap.size c 0 M) ∧ n ≤ c ∧ Below w.heap.size w w'

set_option maxHeartbeats 1600000 in
theorem grow_some (n : Nat) (w : World) (h0 : 0 < n) (hn : n ≤ 1000) :
    Calls Try.prog 22 #[.slice none 0 0, .int .i64 (n : Int)] w fun e w' => GrowR w n e w' := by
  obtain ⟨i0, hi, hz0, hz1, hz2⟩ := nearInfo2
  have hr := run_app_zeros (P := Try.prog) w 24 3 24 33 .i64 i0 _ Try.underlying24 Try.underlying3 hi hz0 hz1 hz2 none n h0 hn
  obtain ⟨c, hc⟩ : ∃ c, grownCap w n 0 33 = c := ⟨_, rfl⟩
  have hge := grownCap_ge w n 0 33
  have hle := grownCap_le_maxLen w n 0 33 (by unfold maxLen; omega)
  rw [hc] at hr hge hle
  obtain ⟨w1, hw1⟩ : ∃ w1, w.drew.alloc (.cells (Builtin.zeroCells (Value.agg #[.int .i64 0, .int .i64 0]).cells n ++ Builtin.zeroCells (Value.agg #[.int .i64 0, .int .i64 0]).cells (c - n)) 33) = w1 := ⟨_, rfl⟩
  have HRC : Hid (∀ M, RC w1 w.heap.size w.heap.size c 0 M) := hide fun M => by
    rw [← hw1]
    refine ⟨Nat.le_refl _, _, Go.Deep.blk_alloc_new w.drew _, Nat.zero_le _, hle, ?_, fun i hi => absurd hi (by omega)⟩
    rw [Array.size_append, zero_size _ rfl, zero_size _ rfl]
    omega
  have HB : Hid (Below w.heap.size w w1) := hide (by rw [← hw1]; exact balloc (Below.drew (Below.refl _ _)) _)
  rw [hw1] at hr
  have hn0 : ¬ (n : Int) < 0 := by omega
  have hn1 : (0 : Int) < (n : Int) := by omega
  have hc0 : (0 : Int) ≤ (c : Int) := by omega
  clear hw1 hc hi
  go_enter Try.func22, Try.ntmps22
  go_wp2_with (at_builtin; refine wpList_append_run2 rfl _ _ 24 3 rfl _ _ rfl rfl _ _ hr ?_)
  go_ret
  exact ⟨c, rfl, HRC.out, hge, HB.out⟩
end Go.Proofs.Ytidoajapaaoifaa
