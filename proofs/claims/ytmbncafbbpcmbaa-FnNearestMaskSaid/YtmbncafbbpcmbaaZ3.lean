/- Copies of items: append onto nothing; l7Copy of the model, copied of the program. -/
import Derived.Test.YtmbncafbbpcmbaaZ2
import Derived.Deep.AppendSrc
import Derived.Test.YtmbncafbbpcmbaaZ1
namespace Go.Proofs.Ytmbncafbbpcmbaa
open Go.RowKit
set_option maxRecDepth 8000
set_option linter.unusedSimpArgs false
set_option linter.unusedVariables false

theorem VSl.set {w : World} {B C : Nat} {v : Value} {xs : List Int} {b : Nat} (h : VSl w B C v xs b) (p : Addr) (u : Value) (hp : p.block < B ∨ C ≤ p.block) : VSl (w.setCell p u) B C v xs b :=
  h.keep fun k h1 h2 _ => Below.heap_setCell w p u k (by omega)

/-- Numbers are appended to a slice that has nothing, and no room. -/
theorem run_app_nums {P : Program} (w : World) (t ty e : TypeId) (i : TypeInfo) (ht : P.underlying t = some (.slice e)) (hi : P.info? e = some i) (hz : i.zero = some (.int .i64 0)) (hs : i.size = 1) (hb : i.bytes = 8)
    (base : Option Addr) (a : Option Addr) (n c : Nat) (xs : List Int) (h : Row w a n xs) (hn : n ≤ 1048576) (he : e = 2 := by rfl) :
    ∃ v' w' g, (Builtin.append_ #[t, t] ty #[.slice base 0 0, .slice a n c]).run P w = .ok v' w' ∧ VSl w' w.heap.size w'.heap.size v' xs g ∧ Below w.heap.size w w' := by
  have hl := h.len
  by_cases h0 : n = 0
  · subst h0
    refine ⟨.slice base 0 0, w, 0, ?_, ⟨base, 0, by rw [hl], .inl hl⟩, Below.refl _ _⟩
    have hlc : ∀ (x : Addr), (loadCells x 0).run P w = .ok #[] w := fun x => by simpa using run_loadCells_list (P := P) w x [] (by simp)
    cases a <;> cases base <;> simp [Builtin.append_, run_underlying ht, sizeOf, typeInfo, hi, Builtin.firstCells, Builtin.lenOf, storeCells, hlc]
  · rcases h.lies with q | ⟨b, off, rfl, lt, hc⟩
    · exact absurd q h0
    · have src : Src P i.size t (.slice (some ⟨b, off, none⟩) n c) n (xs.map fun x => Value.int .i64 x) w := by
        refine Src.ofSlice w ht ⟨b, off, none⟩ n c _ (by simp [hs, hl]) (fun j u hu => ?_) (fun u hu => ?_)
        · rw [List.getElem?_map] at hu
          obtain ⟨x, hx, rfl⟩ := Option.map_eq_some_iff.1 hu
          have hj : j < n := by rw [← hl]; exact (List.getElem?_eq_some_iff.1 hx).1
          have := hc j hj
          rw [show nth xs j = x by simp [nth, List.getD_eq_getElem?_getD, hx]] at this
          by_cases hj0 : j = 0
          · subst hj0; simpa [Addr.add] using this
          · simpa [Addr.add, hj0] using this
        · obtain ⟨x, _, rfl⟩ := List.mem_map.1 hu
          rfl
      have hold : (Builtin.firstCells i.size 0 (.slice base 0 0)).run P w.drew = .ok ([] : List Value).toArray w.drew := by
        have hlc : ∀ (x : Addr), (loadCells x 0).run P w.drew = .ok #[] w.drew := fun x => by simpa using run_loadCells_list (P := P) w.drew x [] (by simp)
        cases base <;> simp [Builtin.firstCells, hlc]
      have r := run_append_grow_src w t t ty e i _ ht hi hz base 0 0 [] hold _ n _ src (by omega) (by omega) (by rw [hb]; unfold Builtin.nextslicecap; simp [show 0 < n by omega]; omega)
      refine ⟨_, _, w.heap.size, r, ⟨_, _, by rw [hl, Nat.zero_add], .inr ⟨rfl, Nat.le_refl _, by simp, ?_⟩⟩, (Below.refl _ w).drew.alloc (by simp) _⟩
      subst he
      have hge := grownCap_ge w n 0 2
      refine ⟨_, Go.Deep.blk_alloc_new _ _, by simp [size_zeroCells, Value.cells, hl]; omega, by omega, .inl (grownCap_le_maxLen _ _ _ _ (by unfold maxLen; omega)), fun j hj => ?_⟩
      rw [Array.getElem?_append_left (by simpa using hj)]
      simp [intF, nth, hj]

/-- An append whose run is known by an equation, at a plain region's operations. -/
theorem wpList_append_run {P : Program} {ops : Array Oper} {rest : List Oper} {o : Oper} {a : Act} {w : World} {Q : Exit → Act → World → Prop} (hgd : o.guard = none) (s x : Operand) (t : TypeId)
    (ho : o.op = .call { callee := .builtin .append, args := #[s, x], argTypes := #[t, t] }) (v u : Value) (hs : a.eval s = v) (hx : a.eval x = u) (v' : Value) (w' : World)
    (hr : (Builtin.append_ #[t, t] o.type #[v, u]).run P w = .ok v' w') (h : wpList P ops Q rest (a.put o.dst v') w') : wpList P ops Q (o :: rest) a w :=
  wpList_plain hgd fun K hK => by
    unfold Oper.wp execOp
    simp only [ho, resolve, invoke, builtin, Sem.run_bind, Sem.run_pure, Result.andThen_ok, List.map_toArray, List.map_cons, List.map_nil, hs, hx, hr]
    exact hK _ _ h

/-- The answer of whoever copies an item. -/
def ToV (w : World) (x : It) (e : Ending) (w' : World) : Prop :=
  ∃ v g, e = .returned (.agg #[.int .i64 x.id, .int .i64 x.tags, v]) ∧ VSl w' w.heap.size w'.heap.size v x.vec g ∧ Below w.heap.size w w'

set_option maxHeartbeats 1600000 in
theorem copied_any (x : It) (a : Option Addr) (n cap : Nat) (w : World) (h : Row w a n x.vec) (hn : n ≤ 1048576) :
    Calls Try.prog 33 #[.agg #[.int .i64 x.id, .int .i64 x.tags, .slice a n cap]] w fun e w' => ToV w x e w' := by
  obtain ⟨i0, hi, hzz⟩ := Option.map_eq_some_iff.1 Try.infoI64
  simp only [Prod.mk.injEq] at hzz
  obtain ⟨hz0, hz1, hz2⟩ := hzz
  obtain ⟨x0, x1, xs⟩ := x
  have hbx : Below w.heap.size w ((w.alloc (.cells #[.int .i64 x0, .int .i64 x1, .slice a n cap] 55)).alloc (.cells #[.int .i64 0, .int .i64 0, .slice none 0 0] 55)) := balloc (balloc (Below.refl _ _) _) _
  obtain ⟨v', w1, g, hrun, hv, hb⟩ := run_app_nums (P := Try.prog) ((w.alloc (.cells #[.int .i64 x0, .int .i64 x1, .slice a n cap] 55)).alloc (.cells #[.int .i64 0, .int .i64 0, .slice none 0 0] 55)) 25 25 2 i0 Try.underlying25 hi hz0 hz1 hz2 none a n cap xs (h.below hbx) hn
  obtain ⟨p0, p1, p2, p3, p4, p5, p6⟩ := ((Tri.new w (.int .i64 x0) (.int .i64 x1) (.slice a n cap) 55).alloc _).below hb
  obtain ⟨q0, q1, q2, q3, q4, q5, q6⟩ := (Tri.newAt (w.alloc _) (.int .i64 0) (.int .i64 0) (.slice none 0 0) 55 (w.heap.size + 1) (by simp)).below hb
  have HV := hide hv
  have HB := hide hb
  have hsz := hb.size
  simp at hsz
  obtain ⟨va, vc, ev, _⟩ := hv
  subst ev
  clear h hb hbx hi
  go_enter Try.func33, Try.ntmps33
  go_wp2_with (at_builtin; refine wpList_append_run rfl _ _ 25 rfl _ _ rfl rfl _ _ hrun ?_)
  refine bodyPost_ret (v := .agg #[.int .i64 x0, .int .i64 x1, .slice va xs.length vc]) ?_ rfl ⟨_, g, rfl, ?_, ?_⟩
  · simp [results, Try.results33, go_sem, q1, q2, q3]
  · have hv := (((HV.out.set ⟨w.heap.size, 2, none⟩ (.slice va xs.length vc) (by simp; omega)).set ⟨w.heap.size + 1, 0, none⟩ (.int .i64 x0) (by simp)).set ⟨w.heap.size + 1, 1, none⟩ (.int .i64 x1) (by simp)).set ⟨w.heap.size + 1, 2, none⟩ (.slice va xs.length vc) (by simp)
    exact hv.mono (by simp; omega) (by simp [World.setCell])
  · have hb := HB.out
    exact (by repeat' first | with_reducible exact Below.refl _ _ | with_reducible assumption | with_reducible refine below_drewN ?_ _ | with_reducible refine balloc ?_ _ | with_reducible refine Below.drew ?_ | with_reducible refine Below.setCell ?_ (by first | (simp; done) | (simp; omega) | omega) _ | with_reducible refine bstep ?_ (by assumption))
set_option maxHeartbeats 1600000 in
theorem l7Copy_any (x : It) (a : Option Addr) (n cap : Nat) (w : World) (h : Row w a n x.vec) (hn : n ≤ 1048576) :
    Calls Try.prog 50 #[.agg #[.int .i64 x.id, .int .i64 x.tags, .slice a n cap]] w fun e w' => ToV w x e w' := by
  obtain ⟨i0, hi, hzz⟩ := Option.map_eq_some_iff.1 Try.infoI64
  simp only [Prod.mk.injEq] at hzz
  obtain ⟨hz0, hz1, hz2⟩ := hzz
  obtain ⟨x0, x1, xs⟩ := x
  have hbx : Below w.heap.size w (((w.alloc (.cells #[.int .i64 x0, .int .i64 x1, .slice a n cap] 55)).alloc (.cells #[.int .i64 0, .int .i64 0, .slice none 0 0] 55)).alloc (.cells #[] 2)) := balloc (balloc (balloc (Below.refl _ _) _) _) _
  obtain ⟨v', w1, g, hrun, hv, hb⟩ := run_app_nums (P := Try.prog) (((w.alloc (.cells #[.int .i64 x0, .int .i64 x1, .slice a n cap] 55)).alloc (.cells #[.int .i64 0, .int .i64 0, .slice none 0 0] 55)).alloc (.cells #[] 2)) 25 25 2 i0 Try.underlying25 hi hz0 hz1 hz2 (some ⟨w.heap.size + 1 + 1, 0, none⟩) a n cap xs (h.below hbx) hn
  obtain ⟨p0, p1, p2, p3, p4, p5, p6⟩ := (((Tri.new w (.int .i64 x0) (.int .i64 x1) (.slice a n cap) 55).alloc _).alloc _).below hb
  obtain ⟨q0, q1, q2, q3, q4, q5, q6⟩ := ((Tri.newAt (w.alloc _) (.int .i64 0) (.int .i64 0) (.slice none 0 0) 55 (w.heap.size + 1) (by simp)).alloc _).below hb
  have HV := hide hv
  have HB := hide hb
  have hsz := hb.size
  simp at hsz
  obtain ⟨va, vc, ev, _⟩ := hv
  subst ev
  clear h hb hbx hi
  go_enter Try.func50, Try.ntmps50
  go_wp2_with (at_builtin; refine wpList_append_run rfl _ _ 25 rfl _ _ rfl rfl _ _ hrun ?_)
  refine bodyPost_ret (v := .agg #[.int .i64 x0, .int .i64 x1, .slice va xs.length vc]) ?_ rfl ⟨_, g, rfl, ?_, ?_⟩
  · simp [results, Try.results50, go_sem, q1, q2, q3]
  · have hv := (((HV.out.set ⟨w.heap.size, 2, none⟩ (.slice va xs.length vc) (by simp; omega)).set ⟨w.heap.size + 1, 0, none⟩ (.int .i64 x0) (by simp)).set ⟨w.heap.size + 1, 1, none⟩ (.int .i64 x1) (by simp)).set ⟨w.heap.size + 1, 2, none⟩ (.slice va xs.length vc) (by simp)
    exact hv.mono (by simp; omega) (by simp [World.setCell])
  · have hb := HB.out
    exact (by repeat' first | with_reducible exact Below.refl _ _ | with_reducible assumption | with_reducible refine below_drewN ?_ _ | with_reducible refine balloc ?_ _ | with_reducible refine Below.drew ?_ | with_reducible refine Below.setCell ?_ (by first | (simp; done) | (simp; omega) | omega) _ | with_reducible refine bstep ?_ (by assumption))
end Go.Proofs.Ytmbncafbbpcmbaa

/- The reader of drawn bytes: below of whatever number, size, tags, item. -/
namespace Go.Proofs.Ytmbncafbbpcmbaa
open Go.RowKit
set_option maxRecDepth 8000
set_option linter.unusedSimpArgs false
set_option linter.unusedVariables false

set_option maxHeartbeats 1000000 in
set_option maxRecDepth 8000 in
theorem below_one (rb : Nat) (m : Int) (w : World) (h1 : m ≤ 1) :
    Calls Try.prog 13 #[.pointer (some ⟨rb, 0, none⟩), .int .i64 m] w fun e w' => e = .returned (.int .i64 0) ∧ w' = w := by
  go_enter Try.func13, Try.ntmps13
  go_wp2
  go_ret
  exact ⟨rfl, rfl⟩
/-- below, of any number that is no more than 256: one that is less, or 0. -/
theorem below_all (B rb n c : Nat) (a : Option Addr) (m : Int) (w : World) (h : Rd B w rb a n c) (h2 : m ≤ 256) :
    Calls Try.prog 13 #[.pointer (some ⟨rb, 0, none⟩), .int .i64 m] w fun e w' => RdPost B w rb a n c .i64 0 (max 0 (m - 1)) e w' := by
  by_cases h1 : 1 < m
  · exact (below_any B rb n c a m w h h1 h2).mono fun e w' ⟨v, he, v0, v1, hr, hb⟩ => ⟨v, he, v0, by omega, hr, hb⟩
  · refine (below_one rb m w (by omega)).mono fun e w' ⟨he, hw⟩ => ?_
    subst hw
    exact ⟨0, he, by omega, by omega, h, But.refl _ _⟩

set_option maxHeartbeats 1000000 in
set_option maxRecDepth 8000 in
theorem size_any (B rb n c : Nat) (a : Option Addr) (per most : Int) (w : World) (h : Rd B w rb a n c) (p0 : 1 ≤ per) (p1 : per ≤ 1000) (m0 : 1 ≤ most) (m1 : most ≤ 256) :
    Calls Try.prog 35 #[.pointer (some ⟨rb, 0, none⟩), .int .i64 per, .int .i64 most] w fun e w' => RdPost B w rb a n c .i64 1 most e w' := by
  have N := hide (fun m w1 (h : Rd B w1 rb a n c) (h2 : m ≤ 256) => below_all B rb n c a m w1 h h2)
  obtain ⟨p, hp, hblk⟩ := h.blk
  have c0 := rd_cell0 hblk
  have hs := h.small
  have HH := hide h
  clear hblk h
  have hne : per ≠ 0 := by omega
  have hd : ((n : Int).tdiv per) = ((n / per.toNat : Nat) : Int) := by
    rw [Int.tdiv_eq_ediv_of_nonneg (by omega)]
    rw [show per = ((per.toNat : Nat) : Int) by omega]
    simp
  have hle : n / per.toNat ≤ 1048576 := Nat.le_trans (Nat.div_le_self _ _) hs
  obtain ⟨q, hq⟩ : ∃ q : Nat, n / per.toNat = q := ⟨_, rfl⟩
  rw [hq] at hd hle
  have hw : IntKind.i64.wrap ((n : Int).tdiv per) = (q : Int) := by rw [hd]; exact wrapIn _ (by omega) (by omega)
  by_cases hm : most < 1 + (q : Int)
  · go_enter Try.func35, Try.ntmps35
    go_wp2_with fail
    refine (N.out _ _ HH.out (by omega)).mono ?_
    rintro e w1 ⟨v, rfl, v0, v1, hr, hb⟩
    go_wp2
    go_ret
    exact ⟨_, rfl, by omega, by omega, hr, hb⟩
  · go_enter Try.func35, Try.ntmps35
    go_wp2_with fail
    refine (N.out _ _ HH.out (by omega)).mono ?_
    rintro e w1 ⟨v, rfl, v0, v1, hr, hb⟩
    go_wp2
    go_ret
    exact ⟨_, rfl, by omega, by omega, hr, hb⟩

set_option maxHeartbeats 1000000 in
set_option maxRecDepth 8000 in
theorem tags_any (B rb n c : Nat) (a : Option Addr) (w : World) (h : Rd B w rb a n c) :
    Calls Try.prog 19 #[.pointer (some ⟨rb, 0, none⟩)] w fun e w' => RdPost B w rb a n c .i64 0 255 e w' := by
  have N := hide (fun w (h : Rd B w rb a n c) => below_any B rb n c a 7 w h (by omega) (by omega))
  have HR := hide h
  have hlt := h.lt
  clear h
  go_enter Try.func19, Try.ntmps19
  go_wp2_with fail
  refine (N.out _ (HR.out.alloc _)).mono ?_
  rintro e w2 ⟨u, rfl, u0, u1, hr2, hb2⟩
  have k : ∀ (o : Nat) (x : Int), (w.alloc (.cells #[.int .i64 0, .int .i64 1, .int .i64 2, .int .i64 3, .int .i64 3, .int .i64 7, .int .i64 255] 3)).cell? ⟨w.heap.size, o, none⟩ = some (.int .i64 x) → w2.cell? ⟨w.heap.size, o, none⟩ = some (.int .i64 x) := fun o x hx => (hb2.cell (p := ⟨w.heap.size, o, none⟩) (by simp) (by simp; omega)).trans hx
  have k0 := k 0 0 (by simp [go_sem])
  have k1 := k 1 1 (by simp [go_sem])
  have k2 := k 2 2 (by simp [go_sem])
  have k3 := k 3 3 (by simp [go_sem])
  have k4 := k 4 3 (by simp [go_sem])
  have k5 := k 5 7 (by simp [go_sem])
  have k6 := k 6 255 (by simp [go_sem])
  have HB2 := hide ((But.refl rb w).alloc (.cells #[.int .i64 0, .int .i64 1, .int .i64 2, .int .i64 3, .int .i64 3, .int .i64 7, .int .i64 255] 3) |>.trans hb2)
  clear hb2 k
  rcases (show u = 0 ∨ u = 1 ∨ u = 2 ∨ u = 3 ∨ u = 4 ∨ u = 5 ∨ u = 6 by omega) with rfl | rfl | rfl | rfl | rfl | rfl | rfl
  all_goals
    go_wp2
    go_ret
    exact ⟨_, rfl, by omega, by omega, hr2, HB2.out⟩

/-- What item leaves: an item, its vector owned by the call. -/
def ItemPost (B : Nat) (w : World) (rb : Nat) (a : Option Addr) (n c d : Nat) (e : Ending) (w' : World) : Prop :=
  ∃ (i t : Int) (g k : Nat) (f : Nat → Int), e = .returned (.agg #[.int .i64 i, .int .i64 t, .slice (some ⟨g, 0, none⟩) d k]) ∧ w'.ownsRow w.heap.size 2 1 (.slice (some ⟨g, 0, none⟩) d k) d (vals f d) ∧ Rd B w' rb a n c ∧ But rb w w'

theorem Tri.but {g : Nat} {w w' : World} {b : Nat} {x y z : Value} (h : Tri w b x y z) (hb : But g w w') (hne : b ≠ g) : Tri w' b x y z :=
  ⟨Nat.lt_of_lt_of_le h.lt hb.size, (hb.cell (p := ⟨b, 0, none⟩) h.lt hne).trans h.c0, (hb.cell (p := ⟨b, 1, none⟩) h.lt hne).trans h.c1, (hb.cell (p := ⟨b, 2, none⟩) h.lt hne).trans h.c2,
   (hb.frozen (p := ⟨b, 0, none⟩) h.lt hne).trans h.f0, (hb.frozen (p := ⟨b, 1, none⟩) h.lt hne).trans h.f1, (hb.frozen (p := ⟨b, 2, none⟩) h.lt hne).trans h.f2⟩
theorem owns_low {w : World} {base base' : Nat} {e : TypeId} {size : Nat} {v : Value} {n : Nat} {xs : List Value} (h : w.ownsRow base e size v n xs) (hb : base' ≤ base) : w.ownsRow base' e size v n xs := by
  refine ⟨h.1, ?_⟩
  rcases h.2 with h0 | ⟨g, cap, cur, hv, hg, hr⟩
  · exact .inl h0
  · exact .inr ⟨g, cap, cur, hv, by omega, hr⟩

set_option maxHeartbeats 1000000 in
set_option maxRecDepth 8000 in
theorem item_any (B rb n c : Nat) (a : Option Addr) (d : Nat) (w : World) (h : Rd B w rb a n c) (hB : B ≤ w.heap.size) (d1 : 1 ≤ d) (hd : d ≤ 100) :
    Calls Try.prog 37 #[.pointer (some ⟨rb, 0, none⟩), .int .i64 d] w fun e w' => ItemPost B w rb a n c d e w' := by
  have N := hide (fun w (h : Rd B w rb a n c) => below_any B rb n c a 14 w h (by omega) (by omega))
  have T := hide (fun w (h : Rd B w rb a n c) => tags_any B rb n c a w h)
  have V := hide (fun w (h : Rd B w rb a n c) (hB : B ≤ w.heap.size) => vec_any B rb n c a d w h hB hd)
  have HR := hide h
  have hlt := h.lt
  clear h
  go_enter Try.func37, Try.ntmps37
  go_wp2_with fail
  refine (N.out _ (HR.out.alloc _)).mono ?_
  rintro e w1 ⟨i, rfl, i0, i1, r1, b1⟩
  have t1 := (Tri.new w (.int .i64 0) (.int .i64 0) (.slice none 0 0) 55).but b1 (by omega)
  have HB1 := hide ((But.refl rb w).alloc (.cells #[.int .i64 0, .int .i64 0, .slice none 0 0] 55) |>.trans b1)
  have s1 := b1.size
  simp at s1
  obtain ⟨q0, q1, q2, q3, q4, q5, q6⟩ := t1
  clear b1
  go_wp2_with fail
  refine (T.out _ r1).mono ?_
  rintro e w2 ⟨t, rfl, t0, t1, r2, b2⟩
  have T2 := hide (Tri.but (b := w.heap.size) (x := .int .i64 0) (y := .int .i64 0) (z := .slice none 0 0) ⟨q0, q1, q2, q3, q4, q5, q6⟩ b2 (by omega))
  have HB2 := hide (HB1.out.trans b2)
  have s2 := b2.size
  clear q0 q1 q2 q3 q4 q5 q6 b2 HB1
  go_wp2_with fail
  refine (V.out _ r2 (by omega)).mono ?_
  rintro e w3 ⟨v, f, rfl, o3, r3, b3⟩
  obtain ⟨g3, c3, rfl, _, _⟩ := o3.form (by omega)
  obtain ⟨q0, q1, q2, q3, q4, q5, q6⟩ := T2.out.but b3 (by omega)
  have HO := hide o3
  have HR3 := hide r3
  have HB3 := hide (HB2.out.trans b3)
  have s3 := b3.size
  clear o3 b3 r3 r2 r1 T2 HB2 V T N
  go_wp2_with fail
  refine bodyPost_ret (v := .agg #[.int .i64 (1 + i), .int .i64 t, .slice (some ⟨g3, 0, none⟩) d c3]) ?_ rfl ?_
  · simp [results, Try.results37, go_sem, q1, q2, q3]
  · have bb : But w.heap.size w3 (((w3.setCell ⟨w.heap.size, 0, none⟩ (.int .i64 (1 + i))).setCell ⟨w.heap.size, 1, none⟩ (.int .i64 t)).setCell ⟨w.heap.size, 2, none⟩ (.slice (some ⟨g3, 0, none⟩) d c3)) := (((But.refl _ w3).setCell 0 _).setCell 1 _).setCell 2 _
    exact ⟨_, _, g3, c3, f, rfl, owns_low (owns_but HO.out bb (by omega)) (by omega), HR3.out.but bb hB (by omega), but_far (but_far (but_far HB3.out (Nat.le_refl _) _ _) (Nat.le_refl _) _ _) (Nat.le_refl _) _ _⟩
end Go.Proofs.Ytmbncafbbpcmbaa

/- The reader of drawn bytes: hurtVec, and which blocks it turns; hurtItem. -/
namespace Go.Proofs.Ytmbncafbbpcmbaa
open Go.RowKit
set_option maxRecDepth 8000
set_option linter.unusedSimpArgs false
set_option linter.unusedVariables false

/-- Of what was there nothing has turned but the blocks rb and g. -/
def KpG (rb g : Nat) (w w' : World) : Prop := w.heap.size ≤ w'.heap.size ∧ ∀ k, k < w.heap.size → k ≠ rb → k ≠ g → w'.heap[k]? = w.heap[k]?
theorem KpG.ofBut {rb : Nat} (g : Nat) {w w' : World} (h : But rb w w') : KpG rb g w w' := ⟨h.size, fun k hk h1 _ => h.block k hk h1⟩
theorem KpG.trans {rb g : Nat} {x y z : World} (h : KpG rb g x y) (k : KpG rb g y z) : KpG rb g x z :=
  ⟨Nat.le_trans h.1 k.1, fun j hj h1 h2 => (k.2 j (Nat.lt_of_lt_of_le hj h.1) h1 h2).trans (h.2 j hj h1 h2)⟩
theorem KpG.but {rb g : Nat} {x y z : World} (h : KpG rb g x y) (k : But rb y z) : KpG rb g x z := h.trans (KpG.ofBut g k)
theorem KpG.alloc {rb g : Nat} {x y : World} (h : KpG rb g x y) (o : Obj) : KpG rb g x (y.alloc o) := h.but ((But.refl rb y).alloc o)
theorem KpG.set {rb g : Nat} {x y : World} (h : KpG rb g x y) (o : Nat) (v : Value) : KpG rb g x (y.setCell ⟨g, o, none⟩ v) :=
  h.trans ⟨by simp [World.setCell], fun k _ _ hne => Below.heap_setCell y _ v k hne⟩
theorem KpG.far {rb g : Nat} {x y : World} (h : KpG rb g x y) (b o : Nat) (v : Value) (hb : x.heap.size ≤ b) : KpG rb g x (y.setCell ⟨b, o, none⟩ v) :=
  ⟨by simpa [World.setCell] using h.1, fun k hk h1 h2 => (Below.heap_setCell y ⟨b, o, none⟩ v k (by simp; omega)).trans (h.2 k hk h1 h2)⟩
theorem KpG.grown {rb g : Nat} {x y z : World} (h : KpG rb g x y) (k : y.grownBy z (some g)) : KpG rb g x z :=
  h.trans ⟨k.size, fun j hj _ hne => k.block j hj (by simpa using hne)⟩

def HurtPost2 (B : Nat) (w0 w : World) (rb g : Nat) (a : Option Addr) (n c : Nat) (e : Ending) (w' : World) : Prop :=
  ∃ (v : Value) (d : Nat) (f : Nat → Int), e = .returned v ∧ d ≤ 200 ∧ w'.ownsRow w0.heap.size 2 1 v d (vals f d) ∧ Rd B w' rb a n c ∧ But rb w0 w' ∧ KpG rb g w w'
set_option maxHeartbeats 2000000 in
set_option maxRecDepth 4000 in
theorem hurtVec2_any (B rb n c : Nat) (a : Option Addr) (d cap g : Nat) (f : Nat → Int) (w0 w : World) (h : Rd B w rb a n c) (hB : B ≤ w0.heap.size) (hrb : rb < w0.heap.size) (hb : But rb w0 w) (d1 : 1 ≤ d) (d2 : d ≤ 100) (ho : w.ownsRow w0.heap.size 2 1 (.slice (some ⟨g, 0, none⟩) d cap) d (vals f d)) :
    Calls Try.prog 15 #[.pointer (some ⟨rb, 0, none⟩), .slice (some ⟨g, 0, none⟩) d cap] w fun e w' => HurtPost2 B w0 w rb g a n c e w' := by
  obtain ⟨i0, hi, hz0, hz1, hz2⟩ := info_parts Try.infoI64
  have N := hide (below_any B rb n c a 24 w h (by omega) (by omega))
  have HO := hide ho
  have HB := hide hb
  have glt := ho.lt g rfl
  clear h ho hb
  go_enter Try.func15, Try.ntmps15
  go_wp2_with fail
  refine N.out.mono ?_
  rintro e w1 ⟨v, rfl, v0, v1, hr, hb1⟩
  have HR1 := hide hr
  have HO1 := hide (owns_but HO.out hb1 hrb)
  have HB1 := hide (HB.out.trans hb1)
  have HK1 := hide (KpG.ofBut g hb1)
  have s1 := HB1.out.size
  clear hr hb1 N HO HB
  by_cases e0 : v = 0
  · have b0 : (v == 0) = true := by simp [e0]
    go_wp2_with (at_builtin; refine wpList_append_own _ rfl _ _ 25 rfl w0.heap.size 2 i0 (.int .i64 0) 1 8 Try.underlying25 hi hz0 hz1 hz2 rfl (by decide) _ _ _ rfl (HO1.out.alloc _) ⟨_, 0, none⟩ 1 1 [.int .i64 0] rfl rfl ?c1 ?c2 ?c3 ?c4 ?c5 ?_)
    case c1 => exact one_new _ _ _
    case c2 => intro u hu; simp at hu; subst hu; rfl
    case c3 => unfold maxLen; omega
    case c4 => omega
    case c5 => simp; omega
    intro v' w2 hown2 hgrow _
    rw [vals_snoc] at hown2
    have hB2 := but_app HB1.out HO1.out hgrow
    have hR2 := HR1.out.app hrb hB HO1.out hgrow
    have HK2 := hide ((HK1.out.alloc _).grown hgrow)
    have HO2 := hide hown2
    have HB2 := hide hB2
    have HR2 := hide hR2
    clear hgrow hown2 hB2 hR2 HO1
    go_wp2_with fail
    go_ret
    exact ⟨_, d + 1, _, rfl, by omega, HO2.out, HR2.out, HB2.out, HK2.out⟩
  · have b0 : (v == 0) = false := by simp [e0]
    by_cases e1 : v = 1
    · have b1 : (v == 1) = true := by simp [e1]
      go_wp2_with fail
      go_ret
      exact ⟨_, 0, fun _ => 0, rfl, by omega, World.ownsRow_nil _ _ _ _, HR1.out, HB1.out, HK1.out⟩
    · have b1 : (v == 1) = false := by simp [e1]
      by_cases e2 : v = 2
      · have b2 : (v == 2) = true := by simp [e2]
        have hd0 : (0 : Int) < d := by omega
        have O := hide (off_any B rb n c a (-1048576) 1048576 w1 HR1.out (by omega) (by omega) (by omega) (by omega))
        go_wp2_with fail
        refine O.out.mono ?_
        rintro e w2 ⟨x, rfl, hr2, hb2⟩
        have own2 := owns_but HO1.out hb2 hrb
        have k0 : w2.cell? ⟨g, 0, none⟩ = some (.int .i64 (f 0)) := by
          rw [own2.cellAt 0 (by omega)]; simp [vals, show 0 < d by omega]
        have k1 := own2.frozenAt 0
        have ST := own2.stored 0 (.int .i64 x)
        rw [vals_set0 f d x d1] at ST
        have HO2 := hide ST.1
        have HR2 := hide (hr2.but ((But.refl g w2).setCell 0 (.int .i64 x)) (by omega) (by omega))
        have HB2 := hide (but_far (HB1.out.trans hb2) (g := g) (by omega) 0 (.int .i64 x))
        have HK2 := hide ((HK1.out.but hb2).set 0 (.int .i64 x))
        clear own2 ST hr2 hb2
        go_wp2_with fail
        go_ret
        exact ⟨_, d, _, rfl, by omega, HO2.out, HR2.out, HB2.out, HK2.out⟩
      · have b2 : (v == 2) = false := by simp [e2]
        by_cases e3 : v = 3
        · have b3 : (v == 3) = true := by simp [e3]
          have N2 := hide (below_any B rb n c a 2 w1 HR1.out (by omega) (by omega))
          go_wp2_with fail
          refine N2.out.mono ?_
          rintro e w2 ⟨x, rfl, x0, x1, hr2, hb2⟩
          obtain ⟨m, hm⟩ : ∃ m : Nat, 8 + x = (m : Int) := ⟨(8 + x).toNat, by omega⟩
          have hmk := run_make_row' (P := Try.prog) 25 2 (.int .i64 0) 8 Try.underlying25 Try.infoI64 rfl .i64 .i64 m (by omega) (by omega)
          have HB2 := hide (HB1.out.trans hb2)
          have HR2 := hide hr2
          have HK2 := hide (HK1.out.but hb2)
          have s2 := HB2.out.size
          clear hr2 hb2
          go_wp2_with fail
          go_ret
          exact ⟨_, m, fun _ => 0, rfl, by omega, made_owns w2 _ m s2 (by omega), HR2.out.alloc _, HB2.out.alloc _, HK2.out.alloc _⟩
        · have b3 : (v == 3) = false := by simp [e3]
          go_wp2_with fail
          go_ret
          exact ⟨_, d, f, rfl, by omega, HO1.out, HR1.out, HB1.out, HK1.out⟩


theorem Tri.kp {rb g : Nat} {w w' : World} {b : Nat} {x y z : Value} (h : Tri w b x y z) (hb : KpG rb g w w') (h1 : b ≠ rb) (h2 : b ≠ g) : Tri w' b x y z := by
  have e := hb.2 b h.lt h1 h2
  exact ⟨Nat.lt_of_lt_of_le h.lt hb.1, (World.cell?_of_block (a := ⟨b, 0, none⟩) e).trans h.c0, (World.cell?_of_block (a := ⟨b, 1, none⟩) e).trans h.c1, (World.cell?_of_block (a := ⟨b, 2, none⟩) e).trans h.c2,
    (World.frozen?_of_block (a := ⟨b, 0, none⟩) e).trans h.f0, (World.frozen?_of_block (a := ⟨b, 1, none⟩) e).trans h.f1, (World.frozen?_of_block (a := ⟨b, 2, none⟩) e).trans h.f2⟩
/-- A block of cells of items. -/
def IsBlk (w : World) (b : Nat) : Prop := ∃ c z, w.heap[b]? = some (.cells c 55 z)
theorem IsBlk.keep {w w' : World} {b : Nat} (h : IsBlk w b) (hk : w'.heap[b]? = w.heap[b]?) : IsBlk w' b := by
  obtain ⟨c, z, hc⟩ := h
  exact ⟨c, z, hk.trans hc⟩
theorem IsBlk.set {w : World} {b : Nat} (h : IsBlk w b) (p : Addr) (u : Value) (hp : p.spot = none := by rfl) : IsBlk (w.setCell p u) b := by
  obtain ⟨c, z, hc⟩ := h
  by_cases e : b = p.block
  · subst e
    have hlt := (Array.getElem?_eq_some_iff.1 hc).1
    refine ⟨c.setIfInBounds p.off u, z, ?_⟩
    simp [World.setCell, hc, hlt, hp, Array.getElem_modify, (Array.getElem?_eq_some_iff.1 hc).2]
  · exact ⟨c, z, (Below.heap_setCell w p u b e).trans hc⟩
theorem owns_item {w : World} {base : Nat} {v : Value} {n : Nat} {xs : List Value} {b : Nat} (h : w.ownsRow base 2 1 v n xs) (hb : IsBlk w b) (o : Nat) (u : Value) : (w.setCell ⟨b, o, none⟩ u).ownsRow base 2 1 v n xs := by
  refine ⟨h.1, ?_⟩
  rcases h.2 with h0 | ⟨g, cap, cur, hv, hg, hh, hr⟩
  · exact .inl h0
  · refine .inr ⟨g, cap, cur, hv, hg, ?_, hr⟩
    have hne : g ≠ b := by
      rintro rfl
      obtain ⟨c, z, hc⟩ := hb
      rw [hc] at hh
      simp at hh
    exact (Below.heap_setCell w ⟨b, o, none⟩ u g hne).trans hh
theorem IsBlk.but {rb : Nat} {w w' : World} {b : Nat} (h : IsBlk w b) (hb : But rb w w') (hne : b ≠ rb) : IsBlk w' b := by
  obtain ⟨c, z, hc⟩ := h
  exact ⟨c, z, (hb.block b (Array.getElem?_eq_some_iff.1 hc).1 hne).trans hc⟩

structure HIt (B : Nat) (w0 w : World) (rb g : Nat) (a : Option Addr) (n c : Nat) (v : Value) (d : Nat) (f : Nat → Int) (W : World) : Prop where
  own : W.ownsRow w0.heap.size 2 1 v d (vals f d)
  rd : Rd B W rb a n c
  but : But rb w0 W
  kp : KpG rb g w W
theorem HIt.set {B : Nat} {w0 w : World} {rb g : Nat} {a : Option Addr} {n c : Nat} {v : Value} {d : Nat} {f : Nat → Int} {W : World} (h : HIt B w0 w rb g a n c v d f W) (hB : B ≤ w0.heap.size) (hw : w0.heap.size ≤ w.heap.size) (hrb : rb < w0.heap.size) {b : Nat} (hb : w.heap.size ≤ b) (hib : IsBlk W b) (o : Nat) (u : Value) :
    HIt B w0 w rb g a n c v d f (W.setCell ⟨b, o, none⟩ u) :=
  ⟨owns_item h.own hib o u, h.rd.but ((But.refl b W).setCell o u) (by omega) (by omega), but_far h.but (by omega) o u, h.kp.far b o u hb⟩
def HurtItPost (B : Nat) (w0 w : World) (rb g : Nat) (a : Option Addr) (n c : Nat) (e : Ending) (w' : World) : Prop :=
  ∃ (i t : Int) (v : Value) (d : Nat) (f : Nat → Int), e = .returned (.agg #[.int .i64 i, .int .i64 t, v]) ∧ d ≤ 200 ∧ w'.ownsRow w0.heap.size 2 1 v d (vals f d) ∧ Rd B w' rb a n c ∧ But rb w0 w' ∧ KpG rb g w w'

set_option maxHeartbeats 2000000 in
set_option maxRecDepth 8000 in
theorem hurtItem_any (B rb n c : Nat) (a : Option Addr) (i t : Int) (d cap g : Nat) (f : Nat → Int) (w0 w : World) (h : Rd B w rb a n c) (hB : B ≤ w0.heap.size) (hrb : rb < w0.heap.size) (hb : But rb w0 w) (d1 : 1 ≤ d) (d2 : d ≤ 100) (ho : w.ownsRow w0.heap.size 2 1 (.slice (some ⟨g, 0, none⟩) d cap) d (vals f d)) :
    Calls Try.prog 40 #[.pointer (some ⟨rb, 0, none⟩), .agg #[.int .i64 i, .int .i64 t, .slice (some ⟨g, 0, none⟩) d cap]] w fun e w' => HurtItPost B w0 w rb g a n c e w' := by
  have N := hide (fun w (h : Rd B w rb a n c) => below_any B rb n c a 24 w h (by omega) (by omega))
  have O := hide (fun (lo hi : Int) w (h : Rd B w rb a n c) (h1 : -2251799813685248 ≤ lo) (h2 : lo ≤ 2251799813685248) (h3 : -2251799813685248 ≤ hi) (h4 : hi ≤ 2251799813685248) => off_any B rb n c a lo hi w h h1 h2 h3 h4)
  have V := hide (fun w (h : Rd B w rb a n c) (hb : But rb w0 w) (ho : w.ownsRow w0.heap.size 2 1 (.slice (some ⟨g, 0, none⟩) d cap) d (vals f d)) => hurtVec2_any B rb n c a d cap g f w0 w h hB hrb hb d1 d2 ho)
  have HO := hide ho
  have HB := hide hb
  have HR := hide h
  have glt := ho.lt g rfl
  have s0 := hb.size
  clear h ho hb
  have hbw : rb < w.heap.size := by omega
  go_enter Try.func40, Try.ntmps40
  go_wp2_with fail
  refine (N.out _ ((HR.out.alloc _).alloc _)).mono ?_
  rintro e w1 ⟨v, rfl, v0, v1, r1, b1⟩
  have T1 := hide (((Tri.new w (.int .i64 i) (.int .i64 t) (.slice (some ⟨g, 0, none⟩) d cap) 55).alloc (.cells #[.int .i64 0, .int .i64 0, .slice none 0 0] 55)).but b1 (by omega))
  have U1 := hide ((Tri.newAt (w.alloc (.cells #[.int .i64 i, .int .i64 t, .slice (some ⟨g, 0, none⟩) d cap] 55)) (.int .i64 0) (.int .i64 0) (.slice none 0 0) 55 (w.heap.size + 1) (by simp)).but b1 (by omega))
  have IA := hide ((show IsBlk ((w.alloc (.cells #[.int .i64 i, .int .i64 t, .slice (some ⟨g, 0, none⟩) d cap] 55)).alloc (.cells #[.int .i64 0, .int .i64 0, .slice none 0 0] 55)) w.heap.size from ⟨_, _, (Below.heap_alloc _ _ _ (by simp)).trans (heap_alloc_new w _)⟩).but b1 (by omega))
  have IB := hide ((show IsBlk ((w.alloc (.cells #[.int .i64 i, .int .i64 t, .slice (some ⟨g, 0, none⟩) d cap] 55)).alloc (.cells #[.int .i64 0, .int .i64 0, .slice none 0 0] 55)) (w.heap.size + 1) from ⟨_, _, by have := heap_alloc_new (w.alloc (.cells #[.int .i64 i, .int .i64 t, .slice (some ⟨g, 0, none⟩) d cap] 55)) (.cells #[.int .i64 0, .int .i64 0, .slice none 0 0] 55); simpa using this⟩).but b1 (by omega))
  have HB1 := hide (((HB.out.alloc (.cells #[.int .i64 i, .int .i64 t, .slice (some ⟨g, 0, none⟩) d cap] 55)).alloc (.cells #[.int .i64 0, .int .i64 0, .slice none 0 0] 55)).trans b1)
  have HK1 := hide (((((KpG.ofBut g (But.refl rb w)).alloc (.cells #[.int .i64 i, .int .i64 t, .slice (some ⟨g, 0, none⟩) d cap] 55)).alloc (.cells #[.int .i64 0, .int .i64 0, .slice none 0 0] 55))).but b1)
  have HO1 := hide (owns_but ((HO.out.alloc (.cells #[.int .i64 i, .int .i64 t, .slice (some ⟨g, 0, none⟩) d cap] 55)).alloc (.cells #[.int .i64 0, .int .i64 0, .slice none 0 0] 55)) b1 hrb)
  have HR1 := hide r1
  have s1 := b1.size
  simp at s1
  clear b1 r1 HB HO HR N
  obtain ⟨q0, q1, q2, q3, q4, q5, q6⟩ := T1.out
  obtain ⟨p0, p1, p2, p3, p4, p5, p6⟩ := U1.out
  by_cases e0 : v = 0
  · have z0 : (v == 0) = true := by simp [e0]
    clear q0 q1 q2 q3 q4 q5 q6 p0 p1 p2 p3 p4 p5 p6
    go_wp2_with fail
    refine (O.out _ _ _ HR1.out (by omega) (by omega) (by omega) (by omega)).mono ?_
    rintro e w2 ⟨x, rfl, r2, b2⟩
    obtain ⟨q0, q1, q2, q3, q4, q5, q6⟩ := T1.out.but b2 (by omega)
    obtain ⟨p0, p1, p2, p3, p4, p5, p6⟩ := U1.out.but b2 (by omega)
    have HR2 := hide r2
    have HB2 := hide (HB1.out.trans b2)
    have HK2 := hide (HK1.out.but b2)
    have HO2 := hide (owns_but HO1.out b2 hrb)
    have IA2 := hide (IA.out.but b2 (by omega))
    have IB2 := hide (IB.out.but b2 (by omega))
    clear r2 b2 HB1 HK1 HO1 T1 U1 IA IB HR1
    go_wp2_with fail
    refine bodyPost_ret (v := .agg #[.int .i64 x, .int .i64 t, .slice (some ⟨g, 0, none⟩) d cap]) ?_ rfl ?_
    · simp [results, Try.results40, go_sem, p1, p2, p3]
    · have S0 : HIt B w0 w rb g a n c _ _ _ w2 := ⟨HO2.out, HR2.out, HB2.out, HK2.out⟩
      have S1 := S0.set hB s0 hrb (Nat.le_refl _) IA2.out 0 (.int .i64 x)
      have B1 := IB2.out.set ⟨w.heap.size, 0, none⟩ (.int .i64 x)
      have S2 := S1.set hB s0 hrb (Nat.le_succ _) B1 0 (.int .i64 x)
      have B2 := B1.set ⟨w.heap.size + 1, 0, none⟩ (.int .i64 x)
      have S3 := S2.set hB s0 hrb (Nat.le_succ _) B2 1 (.int .i64 t)
      have B3 := B2.set ⟨w.heap.size + 1, 1, none⟩ (.int .i64 t)
      have S4 := S3.set hB s0 hrb (Nat.le_succ _) B3 2 (.slice (some ⟨g, 0, none⟩) d cap)
      exact ⟨_, _, _, _, _, rfl, by omega, S4.own, S4.rd, S4.but, S4.kp⟩
  · have z0 : (v == 0) = false := by simp [e0]
    by_cases e1 : v = 1
    · have z1 : (v == 1) = true := by simp [e1]
      clear q0 q1 q2 q3 q4 q5 q6 p0 p1 p2 p3 p4 p5 p6
      go_wp2_with fail
      refine (O.out _ _ _ HR1.out (by omega) (by omega) (by omega) (by omega)).mono ?_
      rintro e w2 ⟨x, rfl, r2, b2⟩
      obtain ⟨q0, q1, q2, q3, q4, q5, q6⟩ := T1.out.but b2 (by omega)
      obtain ⟨p0, p1, p2, p3, p4, p5, p6⟩ := U1.out.but b2 (by omega)
      have HR2 := hide r2
      have HB2 := hide (HB1.out.trans b2)
      have HK2 := hide (HK1.out.but b2)
      have HO2 := hide (owns_but HO1.out b2 hrb)
      have IA2 := hide (IA.out.but b2 (by omega))
      have IB2 := hide (IB.out.but b2 (by omega))
      clear r2 b2 HB1 HK1 HO1 T1 U1 IA IB HR1
      go_wp2_with fail
      refine bodyPost_ret (v := .agg #[.int .i64 i, .int .i64 x, .slice (some ⟨g, 0, none⟩) d cap]) ?_ rfl ?_
      · simp [results, Try.results40, go_sem, p1, p2, p3]
      · have S0 : HIt B w0 w rb g a n c _ _ _ w2 := ⟨HO2.out, HR2.out, HB2.out, HK2.out⟩
        have S1 := S0.set hB s0 hrb (Nat.le_refl _) IA2.out 1 (.int .i64 x)
        have B1 := IB2.out.set ⟨w.heap.size, 1, none⟩ (.int .i64 x)
        have S2 := S1.set hB s0 hrb (Nat.le_succ _) B1 0 (.int .i64 i)
        have B2 := B1.set ⟨w.heap.size + 1, 0, none⟩ (.int .i64 i)
        have S3 := S2.set hB s0 hrb (Nat.le_succ _) B2 1 (.int .i64 x)
        have B3 := B2.set ⟨w.heap.size + 1, 1, none⟩ (.int .i64 x)
        have S4 := S3.set hB s0 hrb (Nat.le_succ _) B3 2 (.slice (some ⟨g, 0, none⟩) d cap)
        exact ⟨_, _, _, _, _, rfl, by omega, S4.own, S4.rd, S4.but, S4.kp⟩
    · have z1 : (v == 1) = false := by simp [e1]
      by_cases e2 : v = 2
      · have z2 : (v == 2) = true := by simp [e2]
        clear q0 q1 q2 q4 q5 q6 p0 p1 p2 p3 p4 p5 p6
        go_wp2_with fail
        refine (V.out _ HR1.out HB1.out HO1.out).mono ?_
        rintro e w2 ⟨v2, d2', f2, rfl, hd2, o2, r2, b2, k2⟩
        obtain ⟨a2, c2, rfl, _, _⟩ := row_of_owns o2
        obtain ⟨q0, q1, q2, q3, q4, q5, q6⟩ := T1.out.kp k2 (by omega) (by omega)
        obtain ⟨p0, p1, p2, p3, p4, p5, p6⟩ := U1.out.kp k2 (by omega) (by omega)
        have HR2 := hide r2
        have HB2 := hide b2
        have HK2 := hide (HK1.out.trans k2)
        have HO2 := hide o2
        have IA2 := hide (IA.out.keep (k2.2 _ (by omega) (by omega) (by omega)))
        have IB2 := hide (IB.out.keep (k2.2 _ (by omega) (by omega) (by omega)))
        clear r2 b2 k2 o2 HB1 HK1 HO1 T1 U1 IA IB HR1
        go_wp2_with fail
        refine bodyPost_ret (v := .agg #[.int .i64 i, .int .i64 t, .slice a2 d2' c2]) ?_ rfl ?_
        · simp [results, Try.results40, go_sem, p1, p2, p3]
        · have S0 : HIt B w0 w rb g a n c _ _ _ w2 := ⟨HO2.out, HR2.out, HB2.out, HK2.out⟩
          have S1 := S0.set hB s0 hrb (Nat.le_refl _) IA2.out 2 (.slice a2 d2' c2)
          have B1 := IB2.out.set ⟨w.heap.size, 2, none⟩ (.slice a2 d2' c2)
          have S2 := S1.set hB s0 hrb (Nat.le_succ _) B1 0 (.int .i64 i)
          have B2 := B1.set ⟨w.heap.size + 1, 0, none⟩ (.int .i64 i)
          have S3 := S2.set hB s0 hrb (Nat.le_succ _) B2 1 (.int .i64 t)
          have B3 := B2.set ⟨w.heap.size + 1, 1, none⟩ (.int .i64 t)
          have S4 := S3.set hB s0 hrb (Nat.le_succ _) B3 2 (.slice a2 d2' c2)
          exact ⟨_, _, _, _, _, rfl, by omega, S4.own, S4.rd, S4.but, S4.kp⟩
      · have z2 : (v == 2) = false := by simp [e2]
        have HR2 := HR1
        have HB2 := HB1
        have HK2 := HK1
        have HO2 := HO1
        have IA2 := IA
        have IB2 := IB
        go_wp2_with fail
        refine bodyPost_ret (v := .agg #[.int .i64 i, .int .i64 t, .slice (some ⟨g, 0, none⟩) d cap]) ?_ rfl ?_
        · simp [results, Try.results40, go_sem, p1, p2, p3]
        · have S0 : HIt B w0 w rb g a n c _ _ _ w1 := ⟨HO2.out, HR2.out, HB2.out, HK2.out⟩
          have S1 := S0
          have B1 := IB2.out
          have S2 := S1.set hB s0 hrb (Nat.le_succ _) B1 0 (.int .i64 i)
          have B2 := B1.set ⟨w.heap.size + 1, 0, none⟩ (.int .i64 i)
          have S3 := S2.set hB s0 hrb (Nat.le_succ _) B2 1 (.int .i64 t)
          have B3 := B2.set ⟨w.heap.size + 1, 1, none⟩ (.int .i64 t)
          have S4 := S3.set hB s0 hrb (Nat.le_succ _) B3 2 (.slice (some ⟨g, 0, none⟩) d cap)
          exact ⟨_, _, _, _, _, rfl, by omega, S4.own, S4.rd, S4.but, S4.kp⟩
end Go.Proofs.Ytmbncafbbpcmbaa

/- ItemFind of the model and of the program. -/
namespace Go.Proofs.Ytmbncafbbpcmbaa
open Go.RowKit
set_option maxRecDepth 8000
set_option linter.unusedSimpArgs false
set_option linter.unusedVariables false

/-- The first one of that id, and whether there is one. -/
def findX (n : Nat) (L : IL) (id : Int) : It × Bool :=
  match (List.range n).find? fun i => decide ((L i).id = id) with
  | some i => (L i, true)
  | none => (⟨0, 0, []⟩, false)
theorem findX_hit {n k : Nat} {L : IL} {id : Int} (hk : k < n) (h : (L k).id = id) (hp : ∀ j, j < k → (L j).id ≠ id) : findX n L id = (L k, true) := by
  have e : (List.range n).find? (fun i => decide ((L i).id = id)) = some k := by
    rw [List.find?_range_eq_some]
    exact ⟨by simpa using h, by simpa using hk, fun j hj => by simpa using hp j hj⟩
  unfold findX
  rw [e]
theorem findX_miss {n : Nat} {L : IL} {id : Int} (hp : ∀ j, j < n → (L j).id ≠ id) : findX n L id = (⟨0, 0, []⟩, false) := by
  have e : (List.range n).find? (fun i => decide ((L i).id = id)) = none := by
    rw [List.find?_eq_none]
    intro j hj
    simpa using hp j (by simpa using hj)
  unfold findX
  rw [e]
theorem findX_len {n : Nat} {L : IL} {id : Int} {m : Nat} (h : ∀ i, i < n → (L i).vec.length ≤ m) : (findX n L id).1.vec.length ≤ m := by
  unfold findX
  split
  · rename_i i e
    have := List.mem_of_find?_eq_some e
    exact h i (by simpa using this)
  · simp

/-- The answer of ItemFind. -/
def FindR (w : World) (x : It) (ok : Bool) (e : Ending) (w' : World) : Prop :=
  ∃ v g, e = .returned (.tuple #[.agg #[.int .i64 x.id, .int .i64 x.tags, v], .bool ok]) ∧ VSl w' w.heap.size w'.heap.size v x.vec g ∧ Below w.heap.size w w'

theorem findR_no {w w' : World} {e : Ending} (he : e = .returned (.tuple #[.agg #[.int .i64 0, .int .i64 0, .slice none 0 0], .bool false])) (hb : Below w.heap.size w w') : FindR w ⟨0, 0, []⟩ false e w' :=
  ⟨.slice none 0 0, 0, he, ⟨_, _, rfl, .inl rfl⟩, hb⟩













end Go.Proofs.Ytmbncafbbpcmbaa

/- eqItem, eqItemS of the laws, where both are the same items. -/
namespace Go.Proofs.Ytmbncafbbpcmbaa
open Go.RowKit
set_option maxRecDepth 8000
set_option linter.unusedSimpArgs false
set_option linter.unusedVariables false



/-- The cells of two items, as a comparison reads them. -/
structure Two (w : World) (b o b1 o' : Nat) (x : It) (a a' : Option Addr) (n n' c c' : Nat) : Prop where
  l : b < w.heap.size
  l' : b1 < w.heap.size
  r : Row w a n x.vec
  r' : Row w a' n' x.vec
  c0 : w.cell? ⟨b, o, none⟩ = some (.int .i64 x.id)
  c1 : w.cell? ⟨b, o + 1, none⟩ = some (.int .i64 x.tags)
  c2 : w.cell? ⟨b, o + 2, none⟩ = some (.slice a n c)
  d0 : w.cell? ⟨b1, o', none⟩ = some (.int .i64 x.id)
  d1 : w.cell? ⟨b1, o' + 1, none⟩ = some (.int .i64 x.tags)
  d2 : w.cell? ⟨b1, o' + 2, none⟩ = some (.slice a' n' c')
theorem Two.below {w w' : World} {b o b1 o' : Nat} {x : It} {a a' : Option Addr} {n n' c c' : Nat} (h : Two w b o b1 o' x a a' n n' c c') (hb : Below w.heap.size w w') : Two w' b o b1 o' x a a' n n' c c' :=
  ⟨Nat.lt_of_lt_of_le h.l hb.size, Nat.lt_of_lt_of_le h.l' hb.size, h.r.below hb, h.r'.below hb,
    (hb.cell (p := ⟨b, o, none⟩) h.l).trans h.c0, (hb.cell (p := ⟨b, o + 1, none⟩) h.l).trans h.c1, (hb.cell (p := ⟨b, o + 2, none⟩) h.l).trans h.c2,
    (hb.cell (p := ⟨b1, o', none⟩) h.l').trans h.d0, (hb.cell (p := ⟨b1, o' + 1, none⟩) h.l').trans h.d1, (hb.cell (p := ⟨b1, o' + 2, none⟩) h.l').trans h.d2⟩
theorem Two.drew {w : World} {b o b1 o' : Nat} {x : It} {a a' : Option Addr} {n n' c c' : Nat} (h : Two w b o b1 o' x a a' n n' c c') : Two w.drew b o b1 o' x a a' n n' c c' :=
  ⟨h.l, h.l', ⟨h.r.len, h.r.lies⟩, ⟨h.r'.len, h.r'.lies⟩, h.c0, h.c1, h.c2, h.d0, h.d1, h.d2⟩





end Go.Proofs.Ytmbncafbbpcmbaa
/- Contracts of the model's small number functions. -/
namespace Go.Proofs.Ytmbncafbbpcmbaa
open Go.RowKit
set_option maxRecDepth 8000
set_option linter.unusedSimpArgs false

set_option maxHeartbeats 400000 in
theorem l1In_any (n lo hi : Int) (w : World) :
    Calls Try.prog 27 #[.int .i64 n, .int .i64 lo, .int .i64 hi] w fun e w' => e = .returned (.bool (inB n lo hi)) ∧ w' = w := by
  by_cases h1 : lo ≤ n <;> by_cases h2 : n ≤ hi
  all_goals
    simp only [inB, h1, h2, and_true, and_false, decide_true, decide_false]
    go_enter Try.func27, Try.ntmps27
    go_wp2
    go_ret
    exact ⟨rfl, rfl⟩

set_option maxHeartbeats 400000 in
theorem l1Comp_any (n : Int) (w : World) :
    Calls Try.prog 61 #[.int .i64 n] w fun e w' => e = .returned (.bool (compB n)) ∧ w' = w := by
  go_enter Try.func61, Try.ntmps61
  go_wp2_with (go_at_call 27; refine (l1In_any _ _ _ _).mono ?_; rintro e w' ⟨rfl, rfl⟩)
  go_ret
  exact ⟨rfl, rfl⟩

end Go.Proofs.Ytmbncafbbpcmbaa

/- Vectors: VecOk of the model and of the program. -/
namespace Go.Proofs.Ytmbncafbbpcmbaa
open Go.RowKit
set_option maxRecDepth 8000
set_option linter.unusedSimpArgs false

def vecOkB (xs : List Int) : Bool := decide (1 ≤ xs.length ∧ xs.length ≤ 8) && xs.all compB

theorem all_nth {xs : List Int} (h : ∀ j, j < xs.length → compB (nth xs j) = true) : xs.all compB = true := by
  rw [List.all_eq_true]
  intro x hx
  obtain ⟨j, hj, rfl⟩ := List.getElem_of_mem hx
  have := h j hj
  simpa [nth, hj] using this
theorem not_all_nth {xs : List Int} {j : Nat} (hj : j < xs.length) (h : compB (nth xs j) = false) : xs.all compB = false := by
  rw [List.all_eq_false]
  exact ⟨xs[j], List.getElem_mem hj, by simpa [nth, hj] using h⟩

set_option maxHeartbeats 400000 in
theorem sVecOk_some (b off n cap : Nat) (xs : List Int) (w : World) (hl : xs.length = n) (hn : n ≤ 1048576) (hc : ∀ i, i < n → w.cell? ⟨b, off + i, none⟩ = some (.int .i64 (nth xs i))) :
    Calls Try.prog 46 #[.slice (some ⟨b, off, none⟩) n cap] w fun e w' => e = .returned (.bool (vecOkB xs)) ∧ w' = w := by
  go_enter Try.func46, Try.ntmps46
  go_wp2
  go_loop [3] (fun i => ∃ k : Nat, k ≤ n ∧ i = .int .i64 k ∧ (∀ j, j < k → compB (nth xs j) = true)) (fun i => n - (intOf i).toNat)
  case atStart => exact ⟨0, Nat.zero_le _, rfl, fun j h => absurd h (by omega)⟩
  case round =>
    obtain ⟨k, hk, rfl, hpre⟩ := hrel
    have HP : Hid (∀ j, j < k → compB (nth xs j) = true) := hpre
    have HC : Hid (∀ i, i < n → w.cell? ⟨b, off + i, none⟩ = some (.int .i64 (nth xs i))) := hc
    by_cases hlt : k < n
    · have h1 := hc k hlt
      clear hpre hc
      cases he : compB (nth xs k)
      · have HE : Hid (compB (nth xs k) = false) := he
        go_wp2_with (go_at_call 61; refine (l1Comp_any _ _).mono ?_; rintro e w' ⟨rfl, rfl⟩)
        go_ret
        exact ⟨by rw [show vecOkB xs = false from by unfold vecOkB; rw [not_all_nth (by omega) HE.out, Bool.and_false]]; rfl, rfl⟩
      · have HE : Hid (compB (nth xs k) = true) := he
        go_wp2_with (go_at_call 61; refine (l1Comp_any _ _).mono ?_; rintro e w' ⟨rfl, rfl⟩)
        go_round
        case rel => exact ⟨k + 1, by omega, by go_num, fun j hj => (by rcases Nat.lt_succ_iff_lt_or_eq.1 hj with h | h; exact HP.out j h; rw [h]; exact HE.out)⟩
        case measure => simp [intOf]; omega
    · clear hpre hc
      go_wp2_with (go_at_call 27; refine (l1In_any _ _ _ _).mono ?_; rintro e w' ⟨rfl, rfl⟩)
      go_ret
      refine ⟨?_, rfl⟩
      rw [show vecOkB xs = inB (n : Int) 1 8 from by
        unfold vecOkB
        rw [all_nth (fun j hj => HP.out j (by omega)), Bool.and_true]
        unfold inB
        rw [hl]
        exact decide_eq_decide.2 (by omega)]
      rfl

set_option maxHeartbeats 400000 in
theorem sVecOk_none (a : Option Addr) (n cap : Nat) (w : World) (hn : n < 1) :
    Calls Try.prog 46 #[.slice a n cap] w fun e w' => e = .returned (.bool false) ∧ w' = w := by
  go_enter Try.func46, Try.ntmps46
  go_wp2
  refine wp_loop_rounds 1 ?_
  rw [rounds_succ]
  go_wp2_with (go_at_call 27; refine (l1In_any _ _ _ _).mono ?_; rintro e w' ⟨rfl, rfl⟩)
  go_ret
  refine ⟨?_, rfl⟩
  rw [show false = inB (n : Int) 1 8 from by unfold inB; exact (decide_eq_false (by omega)).symm]
  rfl

theorem sVecOk_any (a : Option Addr) (n cap : Nat) (xs : List Int) (w : World) (h : Row w a n xs) (hn : n ≤ 1048576) :
    Calls Try.prog 46 #[.slice a n cap] w fun e w' => e = .returned (.bool (vecOkB xs)) ∧ w' = w := by
  rcases h.lies with h0 | ⟨b, off, rfl, hb, hc⟩
  · have hx : xs = [] := List.eq_nil_of_length_eq_zero (h.len.trans h0)
    subst hx
    exact sVecOk_none a n cap w (by omega)
  · exact sVecOk_some b off n cap xs w h.len hn hc
end Go.Proofs.Ytmbncafbbpcmbaa

/- Vectors of the program: vectorOf, VecOk. -/
namespace Go.Proofs.Ytmbncafbbpcmbaa
open Go.RowKit
set_option maxRecDepth 8000
set_option linter.unusedSimpArgs false

/-- A vector as the program has it: eight numbers, noughts behind, and how many. -/
def vecV (xs : List Int) (n : Int) : Value := .agg #[.int .i64 (nth xs 0), .int .i64 (nth xs 1), .int .i64 (nth xs 2), .int .i64 (nth xs 3), .int .i64 (nth xs 4), .int .i64 (nth xs 5), .int .i64 (nth xs 6), .int .i64 (nth xs 7), .int .i64 n]
def cellF (xs : List Int) (n : Nat) (k j : Nat) : Value := if j < k then .int .i64 (nth xs j) else if j = 8 then .int .i64 n else .int .i64 0

set_option maxHeartbeats 400000 in
theorem vectorOf_len (a : Option Addr) (n cap : Nat) (w : World) (h : n < 1 ∨ 8 < n) (hn : n ≤ 1048576) :
    Calls Try.prog 54 #[.slice a n cap] w fun e w' => e = .returned (.tuple #[vecV [] 0, .bool false]) ∧ Below w.heap.size w w' := by
  rcases h with h | h
  · go_enter Try.func54, Try.ntmps54
    go_wp2
    refine bodyPost_ret (v := .tuple #[vecV [] 0, .bool false]) ?_ rfl ⟨rfl, ?_⟩
    · simp [results, Try.results54, go_sem, vecV, nth]
    · exact (by repeat' first | with_reducible exact Below.refl _ _ | with_reducible assumption | with_reducible refine below_drewN ?_ _ | with_reducible refine balloc ?_ _ | with_reducible refine Below.drew ?_ | with_reducible refine Below.setCell ?_ (by first | (simp; done) | (simp; omega) | omega) _ | with_reducible refine bstep ?_ (by assumption))
  · have h' : ¬ n < 1 := by omega
    go_enter Try.func54, Try.ntmps54
    go_wp2
    refine bodyPost_ret (v := .tuple #[vecV [] 0, .bool false]) ?_ rfl ⟨rfl, ?_⟩
    · simp [results, Try.results54, go_sem, vecV, nth]
    · exact (by repeat' first | with_reducible exact Below.refl _ _ | with_reducible assumption | with_reducible refine below_drewN ?_ _ | with_reducible refine balloc ?_ _ | with_reducible refine Below.drew ?_ | with_reducible refine Below.setCell ?_ (by first | (simp; done) | (simp; omega) | omega) _ | with_reducible refine bstep ?_ (by assumption))

theorem cellF_step {w : World} {g n k : Nat} {xs : List Int} {t : TypeId} (h : w.rowIs g t 9 (cellF xs n k)) (hk : k < 8) :
    (w.setCell ⟨g, k, none⟩ (.int .i64 (nth xs k))).rowIs g t 9 (cellF xs n (k + 1)) := by
  refine (World.rowIs.set h k _).congr fun j hj => ?_
  unfold cellF
  by_cases e : j = k
  · subst e; simp
  · by_cases l : j < k
    · rw [if_neg e, if_pos l, if_pos (by omega)]
    · simp [e, l, show ¬ j < k + 1 by omega]

theorem start0 (w : World) (n : Int) (t : TypeId) : ((w.alloc (.cells #[.int .i64 0, .int .i64 0, .int .i64 0, .int .i64 0, .int .i64 0, .int .i64 0, .int .i64 0, .int .i64 0, .int .i64 0] t)).alloc (.cells #[.int .i64 0, .int .i64 0, .int .i64 0, .int .i64 0, .int .i64 0, .int .i64 0, .int .i64 0, .int .i64 0, .int .i64 n] t)).rowIs w.heap.size t 9 (fun _ => .int .i64 0) := by
  refine World.rowIs.alloc (World.rowIs_alloc w _ t _ ?_) _
  intro i hi
  have : i < 9 := hi
  rcases (show i = 0 ∨ i = 1 ∨ i = 2 ∨ i = 3 ∨ i = 4 ∨ i = 5 ∨ i = 6 ∨ i = 7 ∨ i = 8 by omega) with rfl | rfl | rfl | rfl | rfl | rfl | rfl | rfl | rfl <;> rfl
theorem start1 (w : World) (n : Nat) (o : Obj) (xs : List Int) (t : TypeId) : ((w.alloc o).alloc (.cells #[.int .i64 0, .int .i64 0, .int .i64 0, .int .i64 0, .int .i64 0, .int .i64 0, .int .i64 0, .int .i64 0, .int .i64 n] t)).rowIs (w.heap.size + 1) t 9 (cellF xs n 0) := by
  have := World.rowIs_alloc (w.alloc o) #[.int .i64 0, .int .i64 0, .int .i64 0, .int .i64 0, .int .i64 0, .int .i64 0, .int .i64 0, .int .i64 0, .int .i64 n] t (cellF xs n 0) ?_
  · rw [World.size_alloc] at this
    exact this
  · intro i hi
    have : i < 9 := hi
    rcases (show i = 0 ∨ i = 1 ∨ i = 2 ∨ i = 3 ∨ i = 4 ∨ i = 5 ∨ i = 6 ∨ i = 7 ∨ i = 8 by omega) with rfl | rfl | rfl | rfl | rfl | rfl | rfl | rfl | rfl <;> rfl
theorem nth_past {xs : List Int} {j : Nat} (h : xs.length ≤ j) : nth xs j = 0 := by simp [nth, h]
theorem cellF_end {xs : List Int} {n j : Nat} (hl : xs.length = n) (hj : j < 8) : cellF xs n n j = .int .i64 (nth xs j) := by
  unfold cellF
  by_cases h : j < n
  · rw [if_pos h]
  · rw [if_neg h, if_neg (by omega), nth_past (by omega)]
theorem cellF_n {xs : List Int} {n : Nat} (h : n ≤ 8) : cellF xs n n 8 = .int .i64 n := by
  unfold cellF
  rw [if_neg (by omega), if_pos rfl]

set_option maxHeartbeats 1000000 in
theorem vectorOf_no (b off n cap : Nat) (xs : List Int) (w : World) (hl : xs.length = n) (h1 : 1 ≤ n) (h8 : n ≤ 8) (hb : b < w.heap.size) (hc : ∀ i, i < n → w.cell? ⟨b, off + i, none⟩ = some (.int .i64 (nth xs i))) (hv : xs.all compB = false) :
    Calls Try.prog 54 #[.slice (some ⟨b, off, none⟩) n cap] w fun e w' => e = .returned (.tuple #[vecV [] 0, .bool false]) ∧ Below w.heap.size w w' := by
  go_enter Try.func54, Try.ntmps54
  go_wp2
  go_loopw [5, 6, 21] (fun s5 s6 i wr => ∃ k : Nat, k ≤ n ∧ i = .int .i64 k ∧ (∀ j, j < k → compB (nth xs j) = true) ∧ wr.rowIs w.heap.size 81 9 (fun _ => .int .i64 0) ∧ wr.rowIs (w.heap.size + 1) 81 9 (cellF xs n k) ∧ Below w.heap.size w wr) (fun _ _ i _ => n - (intOf i).toNat)
  case atStart => exact ⟨0, Nat.zero_le _, rfl, fun j h => absurd h (by omega), start0 _ _ _, start1 _ _ _ _ _, (by repeat' first | with_reducible exact Below.refl _ _ | with_reducible assumption | with_reducible refine below_drewN ?_ _ | with_reducible refine balloc ?_ _ | with_reducible refine Below.drew ?_ | with_reducible refine Below.setCell ?_ (by first | (simp; done) | (simp; omega) | omega) _ | with_reducible refine bstep ?_ (by assumption))⟩
  case round =>
    obtain ⟨k, hk, rfl, hpre, hr0, hr1, hbel⟩ := hrel
    have HP : Hid (∀ j, j < k → compB (nth xs j) = true) := hpre
    have HC : Hid (∀ i, i < n → w.cell? ⟨b, off + i, none⟩ = some (.int .i64 (nth xs i))) := hc
    have HB : Hid (Below w.heap.size w wr) := hbel
    by_cases hlt : k < n
    · have q1 : wr.cell? ⟨b, off + k, none⟩ = some (.int .i64 (nth xs k)) := (hbel.cell (p := ⟨b, off + k, none⟩) hb).trans (hc k hlt)
      cases he : compB (nth xs k)
      · have HE : Hid (compB (nth xs k) = false) := he
        have z0 := World.rowIs.cell hr0 (i := 0) (by omega)
        have y0 := World.rowIs.frozen hr0 0
        have z1 := World.rowIs.cell hr0 (i := 1) (by omega)
        have y1 := World.rowIs.frozen hr0 1
        have z2 := World.rowIs.cell hr0 (i := 2) (by omega)
        have y2 := World.rowIs.frozen hr0 2
        have z3 := World.rowIs.cell hr0 (i := 3) (by omega)
        have y3 := World.rowIs.frozen hr0 3
        have z4 := World.rowIs.cell hr0 (i := 4) (by omega)
        have y4 := World.rowIs.frozen hr0 4
        have z5 := World.rowIs.cell hr0 (i := 5) (by omega)
        have y5 := World.rowIs.frozen hr0 5
        have z6 := World.rowIs.cell hr0 (i := 6) (by omega)
        have y6 := World.rowIs.frozen hr0 6
        have z7 := World.rowIs.cell hr0 (i := 7) (by omega)
        have y7 := World.rowIs.frozen hr0 7
        have z8 := World.rowIs.cell hr0 (i := 8) (by omega)
        have y8 := World.rowIs.frozen hr0 8
        clear hr0 hr1 hpre hc hbel
        go_wp2_with (go_at_call 64; refine (compOk_any _ _).mono ?_; rintro e w' ⟨rfl, rfl⟩)
        have hB := HB.out
        refine bodyPost_ret (v := .tuple #[vecV [] 0, .bool false]) ?_ rfl ⟨rfl, ?_⟩
        · simp [results, Try.results54, go_sem, vecV, nth, z0, z1, z2, z3, z4, z5, z6, z7, z8]
        · exact (by repeat' first | with_reducible exact Below.refl _ _ | with_reducible assumption | with_reducible refine below_drewN ?_ _ | with_reducible refine balloc ?_ _ | with_reducible refine Below.drew ?_ | with_reducible refine Below.setCell ?_ (by first | (simp; done) | (simp; omega) | omega) _ | with_reducible refine bstep ?_ (by assumption))
      · have HE : Hid (compB (nth xs k) = true) := he
        have q2 := World.rowIs.cell hr1 (i := k) (by omega)
        have q3 := World.rowIs.frozen hr1 k
        have HS : Hid _ := cellF_step hr1 (by omega)
        have H0 : Hid (wr.rowIs w.heap.size 81 9 (fun _ => .int .i64 0)) := hr0
        clear hr0 hr1 hpre hc hbel
        go_wp2_with (go_at_call 64; refine (compOk_any _ _).mono ?_; rintro e w' ⟨rfl, rfl⟩)
        go_roundw
        case rel => exact ⟨k + 1, by omega, by go_num, fun j hj => (by rcases Nat.lt_succ_iff_lt_or_eq.1 hj with h | h; exact HP.out j h; rw [h]; exact HE.out), World.rowIs.setOther H0.out (by simp) _, HS.out, HB.out.setCell (by simp) _⟩
        case measure => simp [intOf]; omega
    · have : xs.all compB = true := all_nth fun j hj => hpre j (by omega)
      rw [this] at hv
      cases hv

set_option maxHeartbeats 1000000 in
theorem vectorOf_yes (b off n cap : Nat) (xs : List Int) (w : World) (hl : xs.length = n) (h1 : 1 ≤ n) (h8 : n ≤ 8) (hb : b < w.heap.size) (hc : ∀ i, i < n → w.cell? ⟨b, off + i, none⟩ = some (.int .i64 (nth xs i))) (hv : xs.all compB = true) :
    Calls Try.prog 54 #[.slice (some ⟨b, off, none⟩) n cap] w fun e w' => e = .returned (.tuple #[vecV xs n, .bool true]) ∧ Below w.heap.size w w' := by
  have hv' : ∀ k, k < n → compB (nth xs k) = true := fun k hk => by
    have := List.all_eq_true.1 hv (nth xs k) (by simp [nth, show k < xs.length by omega])
    exact this
  have HV : Hid (∀ k, k < n → compB (nth xs k) = true) := hv'
  clear hv hv'
  go_enter Try.func54, Try.ntmps54
  go_wp2
  go_loopw [5, 6, 21] (fun s5 s6 i wr => ∃ k : Nat, k ≤ n ∧ i = .int .i64 k ∧ (∀ j, j < k → compB (nth xs j) = true) ∧ wr.rowIs w.heap.size 81 9 (fun _ => .int .i64 0) ∧ wr.rowIs (w.heap.size + 1) 81 9 (cellF xs n k) ∧ Below w.heap.size w wr) (fun _ _ i _ => n - (intOf i).toNat)
  case atStart => exact ⟨0, Nat.zero_le _, rfl, fun j h => absurd h (by omega), start0 _ _ _, start1 _ _ _ _ _, (by repeat' first | with_reducible exact Below.refl _ _ | with_reducible assumption | with_reducible refine below_drewN ?_ _ | with_reducible refine balloc ?_ _ | with_reducible refine Below.drew ?_ | with_reducible refine Below.setCell ?_ (by first | (simp; done) | (simp; omega) | omega) _ | with_reducible refine bstep ?_ (by assumption))⟩
  case round =>
    obtain ⟨k, hk, rfl, hpre, hr0, hr1, hbel⟩ := hrel
    have HP : Hid (∀ j, j < k → compB (nth xs j) = true) := hpre
    have HC : Hid (∀ i, i < n → w.cell? ⟨b, off + i, none⟩ = some (.int .i64 (nth xs i))) := hc
    have HB : Hid (Below w.heap.size w wr) := hbel
    by_cases hlt : k < n
    · have q1 : wr.cell? ⟨b, off + k, none⟩ = some (.int .i64 (nth xs k)) := (hbel.cell (p := ⟨b, off + k, none⟩) hb).trans (hc k hlt)
      cases he : compB (nth xs k)
      · exact absurd (HV.out k hlt) (by rw [he]; simp)
      · have HE : Hid (compB (nth xs k) = true) := he
        have q2 := World.rowIs.cell hr1 (i := k) (by omega)
        have q3 := World.rowIs.frozen hr1 k
        have HS : Hid _ := cellF_step hr1 (by omega)
        have H0 : Hid (wr.rowIs w.heap.size 81 9 (fun _ => .int .i64 0)) := hr0
        clear hr0 hr1 hpre hc hbel
        go_wp2_with (go_at_call 64; refine (compOk_any _ _).mono ?_; rintro e w' ⟨rfl, rfl⟩)
        go_roundw
        case rel => exact ⟨k + 1, by omega, by go_num, fun j hj => (by rcases Nat.lt_succ_iff_lt_or_eq.1 hj with h | h; exact HP.out j h; rw [h]; exact HE.out), World.rowIs.setOther H0.out (by simp) _, HS.out, HB.out.setCell (by simp) _⟩
        case measure => simp [intOf]; omega
    · have hkn : k = n := by omega
      subst hkn
      have z0 := World.rowIs.cell hr0 (i := 0) (by omega)
      have y0 := World.rowIs.frozen hr0 0
      have z1 := World.rowIs.cell hr0 (i := 1) (by omega)
      have y1 := World.rowIs.frozen hr0 1
      have z2 := World.rowIs.cell hr0 (i := 2) (by omega)
      have y2 := World.rowIs.frozen hr0 2
      have z3 := World.rowIs.cell hr0 (i := 3) (by omega)
      have y3 := World.rowIs.frozen hr0 3
      have z4 := World.rowIs.cell hr0 (i := 4) (by omega)
      have y4 := World.rowIs.frozen hr0 4
      have z5 := World.rowIs.cell hr0 (i := 5) (by omega)
      have y5 := World.rowIs.frozen hr0 5
      have z6 := World.rowIs.cell hr0 (i := 6) (by omega)
      have y6 := World.rowIs.frozen hr0 6
      have z7 := World.rowIs.cell hr0 (i := 7) (by omega)
      have y7 := World.rowIs.frozen hr0 7
      have z8 := World.rowIs.cell hr0 (i := 8) (by omega)
      have y8 := World.rowIs.frozen hr0 8
      have v0 := World.rowIs.cell hr1 (i := 0) (by omega)
      have v1 := World.rowIs.cell hr1 (i := 1) (by omega)
      have v2 := World.rowIs.cell hr1 (i := 2) (by omega)
      have v3 := World.rowIs.cell hr1 (i := 3) (by omega)
      have v4 := World.rowIs.cell hr1 (i := 4) (by omega)
      have v5 := World.rowIs.cell hr1 (i := 5) (by omega)
      have v6 := World.rowIs.cell hr1 (i := 6) (by omega)
      have v7 := World.rowIs.cell hr1 (i := 7) (by omega)
      have v8 := World.rowIs.cell hr1 (i := 8) (by omega)
      rw [cellF_end hl (by omega)] at v0 v1 v2 v3 v4 v5 v6 v7
      rw [cellF_n h8] at v8
      clear hr0 hr1 hpre hc hbel
      go_wp2
      have hB := HB.out
      refine bodyPost_ret (v := .tuple #[vecV xs k, .bool true]) ?_ rfl ⟨rfl, ?_⟩
      · simp [results, Try.results54, go_sem, vecV, z0, z1, z2, z3, z4, z5, z6, z7, z8]
      · exact (by repeat' first | with_reducible exact Below.refl _ _ | with_reducible assumption | with_reducible refine below_drewN ?_ _ | with_reducible refine balloc ?_ _ | with_reducible refine Below.drew ?_ | with_reducible refine Below.setCell ?_ (by first | (simp; done) | (simp; omega) | omega) _ | with_reducible refine bstep ?_ (by assumption))

theorem vectorOf_any (a : Option Addr) (n cap : Nat) (xs : List Int) (w : World) (h : Row w a n xs) (hn : n ≤ 1048576) :
    Calls Try.prog 54 #[.slice a n cap] w fun e w' => e = .returned (.tuple #[if vecOkB xs then vecV xs n else vecV [] 0, .bool (vecOkB xs)]) ∧ Below w.heap.size w w' := by
  by_cases hlen : n < 1 ∨ 8 < n
  · have : vecOkB xs = false := by
      unfold vecOkB
      rw [h.len, decide_eq_false (by omega), Bool.false_and]
    rw [this]
    exact vectorOf_len a n cap w hlen hn
  · rcases h.lies with h0 | ⟨b, off, rfl, hb, hc⟩
    · omega
    · cases hv : xs.all compB
      · have : vecOkB xs = false := by unfold vecOkB; rw [hv, Bool.and_false]
        rw [this]
        exact vectorOf_no b off n cap xs w h.len (by omega) (by omega) hb hc hv
      · have : vecOkB xs = true := by
          unfold vecOkB
          rw [hv, h.len, decide_eq_true (by omega), Bool.and_true]
        rw [this]
        exact vectorOf_yes b off n cap xs w h.len (by omega) (by omega) hb hc hv

set_option maxHeartbeats 400000 in
theorem iVecOk_any (a : Option Addr) (n cap : Nat) (xs : List Int) (w : World) (h : Row w a n xs) (hn : n ≤ 1048576) :
    Calls Try.prog 42 #[.slice a n cap] w fun e w' => e = .returned (.bool (vecOkB xs)) ∧ Below w.heap.size w w' := by
  have H := vectorOf_any a n cap xs w h hn
  generalize hv : (if vecOkB xs = true then vecV xs n else vecV [] 0) = v at H
  obtain ⟨q0, q1, q2, q3, q4, q5, q6, q7, q8, rfl⟩ : ∃ q0 q1 q2 q3 q4 q5 q6 q7 q8 : Int, v = .agg #[.int .i64 q0, .int .i64 q1, .int .i64 q2, .int .i64 q3, .int .i64 q4, .int .i64 q5, .int .i64 q6, .int .i64 q7, .int .i64 q8] := by
    subst hv
    cases vecOkB xs
    · exact ⟨_, _, _, _, _, _, _, _, _, rfl⟩
    · exact ⟨_, _, _, _, _, _, _, _, _, rfl⟩
  have KH := hide H
  clear hv H h
  go_enter Try.func42, Try.ntmps42
  go_wp2_with (go_at_call 54; refine KH.out.mono ?_; rintro e w1 ⟨rfl, hb⟩)
  go_ret
  exact ⟨rfl, (by repeat' first | with_reducible exact Below.refl _ _ | with_reducible assumption | with_reducible refine below_drewN ?_ _ | with_reducible refine balloc ?_ _ | with_reducible refine Below.drew ?_ | with_reducible refine Below.setCell ?_ (by first | (simp; done) | (simp; omega) | omega) _ | with_reducible refine bstep ?_ (by assumption))⟩
end Go.Proofs.Ytmbncafbbpcmbaa
