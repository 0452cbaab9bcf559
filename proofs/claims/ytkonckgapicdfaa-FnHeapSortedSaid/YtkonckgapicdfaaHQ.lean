/- HeapPut of the model. -/
import Derived.Test.YtkonckgapicdfaaHO
import Derived.Test.YtkonckgapicdfaaHN
import Derived.Test.YtkonckgapicdfaaHF
import Derived.Deep.AppendLies
import Derived.Deep.RegionLaw
import Derived.Deep.RegionHeldLaw
namespace Go.Proofs.Ytkonckgapicdfaa
open Go.RowKit
set_option maxRecDepth 8000
set_option linter.unusedSimpArgs false
set_option linter.unusedVariables false

theorem nearInfo : ∃ i : TypeInfo, Try.prog.info? 32 = some i ∧ i.zero = some (.agg #[.int .i64 0, .int .i64 0]) ∧ i.size = 2 ∧ i.bytes = 16 := by
  obtain ⟨i, hi, hzz⟩ := Option.map_eq_some_iff.1 Try.infoNear
  simp only [Prod.mk.injEq] at hzz
  exact ⟨i, hi, hzz.1, hzz.2.1, hzz.2.2⟩

theorem owns_drewN {w : World} {base : Nat} {e : TypeId} {size : Nat} {v : Value} {n : Nat} {xs : List Value} (h : w.ownsRow base e size v n xs) : w.drew.ownsRow base e size v n xs := h

theorem below_appN {B : Nat} {w wr w2 : World} {v : Value} {k : Nat} {e : TypeId} {size : Nat} {xs : List Value} (hb : Below B w wr) (hB : B ≤ wr.heap.size) (ho : wr.ownsRow B e size v k xs) (hg : wr.grownBy w2 v.ownBlock) : Below B w w2 :=
  hb.grown hg hB fun k' hk' => (ho.lt k' hk').1

theorem two_newN (w : World) (x y : Value) (t : TypeId) : ∀ (j : Nat) (u : Value), [x, y][j]? = some u → (w.alloc (.cells #[x, y] t)).cell? ((⟨w.heap.size, 0, none⟩ : Addr).add j) = some u := by
  intro j u hj
  match j, hj with
  | 0, hj => simp at hj; subst hj; simp [Addr.add]
  | 1, hj => simp at hj; subst hj; simp [Addr.add]
  | j + 2, hj => simp at hj

theorem two_at {w : World} {b : Nat} {x y : Value} (h0 : w.cell? ⟨b, 0, none⟩ = some x) (h1 : w.cell? ⟨b, 1, none⟩ = some y) : ∀ (j : Nat) (u : Value), [x, y][j]? = some u → w.cell? ((⟨b, 0, none⟩ : Addr).add j) = some u := by
  intro j u hj
  match j, hj with
  | 0, hj => simp at hj; subst hj; simpa [Addr.add] using h0
  | 1, hj => simp at hj; subst hj; simpa [Addr.add] using h1
  | j + 2, hj => simp at hj

/-- Behind the two appends: the list with the new one behind it. -/
theorem rowl_of {w : World} {base : Nat} {b n cap : Nat} {f g : Nat → Int} {i d : Int} (h : w.ownsRow base 32 2 (.slice (some ⟨b, 0, none⟩) (n + 1) cap) (n + 1) (pcells n f g ++ [.int .i64 i, .int .i64 d])) :
    base ≤ b ∧ cap ≤ maxLen ∧ RowS (cap * 2) w b (n + 1) ((listL n f g).put n (i, d)) := by
  rcases h.2 with ⟨h0, _⟩ | ⟨b', cap', cur, hv, hb, hg, hcap, hmx, hsz, htake⟩
  · cases h0
  · simp only [Value.slice.injEq, Option.some.injEq, Addr.mk.injEq] at hv
    obtain ⟨⟨rfl, _⟩, _, rfl⟩ := hv
    have hat : ∀ k, k < (n + 1) * 2 → cur[k]? = (pcells n f g ++ [.int .i64 i, .int .i64 d])[k]? := by
      intro k hk
      rw [← htake, List.getElem?_take_of_lt hk, Array.getElem?_toList]
    refine ⟨hb, hmx, cur, hg, hsz, by omega, fun k hk => ?_⟩
    rw [hat (k * 2) (by omega), hat (k * 2 + 1) (by omega)]
    unfold NL.put listL
    by_cases e : k = n
    · subst e
      rw [if_pos rfl, List.getElem?_append_right (by rw [pcells_len]; omega), List.getElem?_append_right (by rw [pcells_len]; omega), pcells_len]
      simp [show k * 2 + 1 - k * 2 = 1 by omega]
    · rw [if_neg e, if_pos (by omega), List.getElem?_append_left (by rw [pcells_len]; omega), List.getElem?_append_left (by rw [pcells_len]; omega)]
      have h1 : k * 2 < n * 2 := by omega
      have h2 : k * 2 + 1 < n * 2 := by omega
      simp only [pcells, List.getElem?_map, List.getElem?_range h1, List.getElem?_range h2, Option.map_some, pcell_lo, pcell_hi]
      simp

/-- An append whose run is known by an equation, as one step of a region that draws its order. -/
theorem step_append_run {P : Program} {ops : Array Oper} {o : Oper} {a : Act} {w : World} {K : Act → World → Prop} {Q : Exit → Act → World → Prop} {E : Prop}
    (hg : o.guard = none) (s x : Operand) (t : TypeId) (hop : o.op = Op.call { callee := Callee.builtin Builtin.append, args := #[s, x], argTypes := #[t, t] })
    (v u : Value) (hs : a.eval s = v) (hx : a.eval x = u) (v' : Value) (w' : World) (hr : (Builtin.append_ #[t, t] o.type #[v, u]).run P w = .ok v' w') (hK : K (a.put o.dst v') w') :
    if Region.wanted o (yielded ops a.tmps) = true then Oper.wp P o a w K Q else E := by
  have hw : Region.wanted o (yielded ops a.tmps) = true := by simp [Region.wanted, hg]
  rw [if_pos hw]
  unfold Oper.wp
  simp [execOp, hop, resolve, invoke, builtin, hs, hx, hr, Result.andThen]
  exact hK

/-- The world of a step, by its very words. -/
theorem step_at {P : Program} {ops : Array Oper} {o : Oper} {a : Act} {K : Act → World → Prop} {Q : Exit → Act → World → Prop} {E : Prop} (W : World)
    (h : if Region.wanted o (yielded ops a.tmps) = true then Oper.wp P o a W K Q else E) : if Region.wanted o (yielded ops a.tmps) = true then Oper.wp P o a W K Q else E := h

theorem run_app_nothing {P : Program} (w : World) (t ty e : TypeId) (i : TypeInfo) (ht : P.underlying t = some (.slice e)) (hi : P.info? e = some i) (g : Addr) (a : Option Addr) (c : Nat) :
    (Builtin.append_ #[t, t] ty #[.slice (some g) 0 0, .slice a 0 c]).run P w = .ok (.slice (some g) 0 0) w := by
  have hl : ∀ (x : Addr), (loadCells x 0).run P w = .ok #[] w := fun x => by simpa using run_loadCells_list (P := P) w x [] (by simp)
  cases a <;> simp [Builtin.append_, run_underlying ht, sizeOf, typeInfo, hi, Builtin.firstCells, Builtin.lenOf, storeCells, hl]

theorem capOf {w : World} {base b n cap : Nat} {e : TypeId} {size : Nat} {xs : List Value} (h : w.ownsRow base e size (.slice (some ⟨b, 0, none⟩) n cap) n xs) : n ≤ cap := by
  rcases h.2 with ⟨h0, _⟩ | ⟨b', cap', cur, hv, hb, hg, hcap, _⟩
  · cases h0
  · cases hv; exact hcap

def SPut (w : World) (K : Int) (n : Nat) (f g : Nat → Int) (i d : Int) (e : Ending) (w' : World) : Prop :=
  Below w.heap.size w w' ∧ ∃ b cap m, e = .returned (.tuple #[.agg #[.int .i64 K, .slice (some ⟨b, 0, none⟩) (putN K n) cap], .bool true]) ∧ w.heap.size ≤ b ∧ putN K n ≤ m ∧ m ≤ cap ∧ cap ≤ maxLen ∧ RowS (cap * 2) w' b m (putL K n f g i d)

set_option maxHeartbeats 8000000 in
set_option maxRecDepth 4000 in
theorem sHeapPut_ok (K : Int) (a : Option Addr) (n cap : Nat) (f g : Nat → Int) (i d : Int) (w : World) (hK : KOk true K n) (h : PRow w a n f g)
    (HO : Hid (∀ w1, Below w.heap.size w w1 → Calls Try.prog 9 #[.agg #[.int .i64 K, .slice a n cap]] w1 fun e w' => e = .returned (.bool true) ∧ Below w1.heap.size w1 w'))
    (NO : Hid (∀ w, Calls Try.prog 17 #[.agg #[.int .i64 i, .int .i64 d]] w fun e w' => e = .returned (.bool true) ∧ Below w.heap.size w w')) :
    Calls Try.prog 30 #[.agg #[.int .i64 K, .slice a n cap], .agg #[.int .i64 i, .int .i64 d]] w fun e w' => SPut w K n f g i d e w' := by
  obtain ⟨⟨hK1, hK2⟩, hnK⟩ := hK rfl
  have hn20 : n ≤ 20 := by omega
  obtain ⟨i0, hi, hz0, hz1, hz2⟩ := nearInfo
  have HI := hide hi
  have HP := hide h
  clear h hi hK
  go_enter Try.func30, Try.ntmps30
  go_wp2_with fail
  refine (HO.out _ (by repeat' first | with_reducible exact Below.refl _ _ | with_reducible assumption | with_reducible refine below_drewN ?_ _ | with_reducible refine balloc ?_ _ | with_reducible refine Below.drew ?_ | with_reducible refine Below.setCell ?_ (by first | (simp; done) | (simp; omega) | omega) _ | with_reducible refine bstep ?_ (by assumption))).mono ?_
  rintro e w1 ⟨rfl, hb1⟩
  have P1 : PBx w1 w.heap.size K a n cap i d := by
    refine PBx.below ⟨?_, ?_, ?_, ?_, ?_, ?_, ?_, ?_, ?_⟩ hb1 <;> simp [go_sem]
  have B1 : Below w.heap.size w w1 := (by repeat' first | with_reducible exact Below.refl _ _ | with_reducible assumption | with_reducible refine below_drewN ?_ _ | with_reducible refine balloc ?_ _ | with_reducible refine Below.drew ?_ | with_reducible refine Below.setCell ?_ (by first | (simp; done) | (simp; omega) | omega) _ | with_reducible refine bstep ?_ (by assumption))
  clear hb1 HO
  have P1' := P1
  obtain ⟨l0, h0, h1, n0, n1, r0, r1, f0, f1⟩ := P1'
  go_wp2_with fail
  refine (NO.out _).mono ?_
  rintro e w2 ⟨rfl, hb2⟩
  have P2 := P1.below hb2
  have B2 : Below w.heap.size w w2 := (by repeat' first | with_reducible exact Below.refl _ _ | with_reducible assumption | with_reducible refine below_drewN ?_ _ | with_reducible refine balloc ?_ _ | with_reducible refine Below.drew ?_ | with_reducible refine Below.setCell ?_ (by first | (simp; done) | (simp; omega) | omega) _ | with_reducible refine bstep ?_ (by assumption))
  clear l0 h0 h1 n0 n1 r0 r1 f0 f1 hb2 P1 B1 NO
  have P2' := P2
  obtain ⟨l0, h0, h1, n0, n1, r0, r1, f0, f1⟩ := P2'
  have BS := B2.size
  go_upto_region 3 with fail
  go_cut [6] (fun s wx => ∃ g6 c6, s = .slice (some ⟨g6, 0, none⟩) (n + 1) c6 ∧ n + 1 ≤ c6 ∧ w2.heap.size ≤ g6 ∧ c6 ≤ maxLen ∧ RowS (c6 * 2) wx g6 (n + 1) ((listL n f g).put n (i, d)) ∧ Below w2.heap.size w2 wx)
  case first =>
    by_cases hn0 : n = 0
    · subst hn0
      have OWC := hide (show World.ownsRow ((w2.alloc (Obj.cells #[Value.int IntKind.i64 i, Value.int IntKind.i64 d] 32)).alloc (Obj.cells #[] 32)).drew w2.heap.size 32 2 (.slice (some ⟨w2.heap.size + 1, 0, none⟩) 0 0) 0 [] from by
        have := World.ownsRow_made (base := w2.heap.size) (e := 32) (size := 2) (w2.alloc (Obj.cells #[Value.int IntKind.i64 i, Value.int IntKind.i64 d] 32)) #[] 0 (by simp) (Nat.zero_le _) rfl
        rwa [World.size_alloc] at this)
      have L0 : w.heap.size < w2.heap.size := by omega
      have L1 : w.heap.size + 1 < w2.heap.size := by omega
      go_region_held_law (fun w' => w'.cell? ⟨w.heap.size, 1, none⟩ = some (.slice a 0 cap) ∧ w'.cell? ⟨w.heap.size + 1, 0, none⟩ = some (.int .i64 i) ∧ w'.cell? ⟨w.heap.size + 1, 1, none⟩ = some (.int .i64 d)) (refine ⟨?_, ?_, ?_⟩ <;> first | assumption | (simp [go_sem, *]; done) | (rw [World.cell?_alloc_past _ _ _ (by first | omega | (simp; omega))]; first | assumption | (rw [World.cell?_alloc_past _ _ _ (by omega)]; assumption)))
        (first
        | (with_reducible refine step_at ((w2.alloc (Obj.cells #[] 32)).drew) ?_
           refine step_append_run (o := { dst := some 20, op := _, type := _, pos := _, after := _, guard := _ }) (w := (w2.alloc (Obj.cells #[] 32)).drew) rfl (.tmp 17) (.tmp 19) 24 rfl (.slice (some ⟨w2.heap.size, 0, none⟩) 0 0) (.slice a 0 cap) rfl rfl _ _ (run_app_nothing _ _ _ 32 i0 Try.underlying24 HI.out _ _ _) ?_
           have y1 : World.cell? ((w2.alloc (Obj.cells #[] 32)).drew) ⟨w.heap.size, 1, none⟩ = some (.slice a 0 cap) := (Below.cell (p := ⟨w.heap.size, 1, none⟩) (show Below w2.heap.size w2 ((w2.alloc (Obj.cells #[] 32)).drew) from (by repeat' first | with_reducible exact Below.refl _ _ | with_reducible assumption | with_reducible refine below_drewN ?_ _ | with_reducible refine balloc ?_ _ | with_reducible refine Below.drew ?_ | with_reducible refine Below.setCell ?_ (by first | (simp; done) | (simp; omega) | omega) _ | with_reducible refine bstep ?_ (by assumption))) L0).trans h1
           have y2 : World.cell? ((w2.alloc (Obj.cells #[] 32)).drew) ⟨w.heap.size + 1, 0, none⟩ = some (.int .i64 i) := (Below.cell (p := ⟨w.heap.size + 1, 0, none⟩) (show Below w2.heap.size w2 ((w2.alloc (Obj.cells #[] 32)).drew) from (by repeat' first | with_reducible exact Below.refl _ _ | with_reducible assumption | with_reducible refine below_drewN ?_ _ | with_reducible refine balloc ?_ _ | with_reducible refine Below.drew ?_ | with_reducible refine Below.setCell ?_ (by first | (simp; done) | (simp; omega) | omega) _ | with_reducible refine bstep ?_ (by assumption))) L1).trans n0
           have y3 : World.cell? ((w2.alloc (Obj.cells #[] 32)).drew) ⟨w.heap.size + 1, 1, none⟩ = some (.int .i64 d) := (Below.cell (p := ⟨w.heap.size + 1, 1, none⟩) (show Below w2.heap.size w2 ((w2.alloc (Obj.cells #[] 32)).drew) from (by repeat' first | with_reducible exact Below.refl _ _ | with_reducible assumption | with_reducible refine below_drewN ?_ _ | with_reducible refine balloc ?_ _ | with_reducible refine Below.drew ?_ | with_reducible refine Below.setCell ?_ (by first | (simp; done) | (simp; omega) | omega) _ | with_reducible refine bstep ?_ (by assumption))) L1).trans n1
           have HB5 := hide (show Below w2.heap.size w2 ((w2.alloc (Obj.cells #[] 32)).drew) from (by repeat' first | with_reducible exact Below.refl _ _ | with_reducible assumption | with_reducible refine below_drewN ?_ _ | with_reducible refine balloc ?_ _ | with_reducible refine Below.drew ?_ | with_reducible refine Below.setCell ?_ (by first | (simp; done) | (simp; omega) | omega) _ | with_reducible refine bstep ?_ (by assumption)))
           have S5 := HB5.out.size
           have HOWN5 := hide (show World.ownsRow ((w2.alloc (Obj.cells #[] 32)).drew) w2.heap.size 32 2 (.slice (some ⟨w2.heap.size, 0, none⟩) 0 0) 0 [] from (owns_drewN (World.ownsRow_made w2 #[] 0 (by first | omega | (simp; omega) | simp) (Nat.zero_le _) rfl))))
        | (with_reducible refine step_at (((w2.alloc (Obj.cells #[] 32)).alloc (Obj.cells #[Value.int IntKind.i64 i, Value.int IntKind.i64 d] 32)).drew) ?_
           refine step_append_run (o := { dst := some 20, op := _, type := _, pos := _, after := _, guard := _ }) (w := ((w2.alloc (Obj.cells #[] 32)).alloc (Obj.cells #[Value.int IntKind.i64 i, Value.int IntKind.i64 d] 32)).drew) rfl (.tmp 17) (.tmp 19) 24 rfl (.slice (some ⟨w2.heap.size, 0, none⟩) 0 0) (.slice a 0 cap) rfl rfl _ _ (run_app_nothing _ _ _ 32 i0 Try.underlying24 HI.out _ _ _) ?_
           have y1 : World.cell? (((w2.alloc (Obj.cells #[] 32)).alloc (Obj.cells #[Value.int IntKind.i64 i, Value.int IntKind.i64 d] 32)).drew) ⟨w.heap.size, 1, none⟩ = some (.slice a 0 cap) := (Below.cell (p := ⟨w.heap.size, 1, none⟩) (show Below w2.heap.size w2 (((w2.alloc (Obj.cells #[] 32)).alloc (Obj.cells #[Value.int IntKind.i64 i, Value.int IntKind.i64 d] 32)).drew) from (by repeat' first | with_reducible exact Below.refl _ _ | with_reducible assumption | with_reducible refine below_drewN ?_ _ | with_reducible refine balloc ?_ _ | with_reducible refine Below.drew ?_ | with_reducible refine Below.setCell ?_ (by first | (simp; done) | (simp; omega) | omega) _ | with_reducible refine bstep ?_ (by assumption))) L0).trans h1
           have y2 : World.cell? (((w2.alloc (Obj.cells #[] 32)).alloc (Obj.cells #[Value.int IntKind.i64 i, Value.int IntKind.i64 d] 32)).drew) ⟨w.heap.size + 1, 0, none⟩ = some (.int .i64 i) := (Below.cell (p := ⟨w.heap.size + 1, 0, none⟩) (show Below w2.heap.size w2 (((w2.alloc (Obj.cells #[] 32)).alloc (Obj.cells #[Value.int IntKind.i64 i, Value.int IntKind.i64 d] 32)).drew) from (by repeat' first | with_reducible exact Below.refl _ _ | with_reducible assumption | with_reducible refine below_drewN ?_ _ | with_reducible refine balloc ?_ _ | with_reducible refine Below.drew ?_ | with_reducible refine Below.setCell ?_ (by first | (simp; done) | (simp; omega) | omega) _ | with_reducible refine bstep ?_ (by assumption))) L1).trans n0
           have y3 : World.cell? (((w2.alloc (Obj.cells #[] 32)).alloc (Obj.cells #[Value.int IntKind.i64 i, Value.int IntKind.i64 d] 32)).drew) ⟨w.heap.size + 1, 1, none⟩ = some (.int .i64 d) := (Below.cell (p := ⟨w.heap.size + 1, 1, none⟩) (show Below w2.heap.size w2 (((w2.alloc (Obj.cells #[] 32)).alloc (Obj.cells #[Value.int IntKind.i64 i, Value.int IntKind.i64 d] 32)).drew) from (by repeat' first | with_reducible exact Below.refl _ _ | with_reducible assumption | with_reducible refine below_drewN ?_ _ | with_reducible refine balloc ?_ _ | with_reducible refine Below.drew ?_ | with_reducible refine Below.setCell ?_ (by first | (simp; done) | (simp; omega) | omega) _ | with_reducible refine bstep ?_ (by assumption))) L1).trans n1
           have HB5 := hide (show Below w2.heap.size w2 (((w2.alloc (Obj.cells #[] 32)).alloc (Obj.cells #[Value.int IntKind.i64 i, Value.int IntKind.i64 d] 32)).drew) from (by repeat' first | with_reducible exact Below.refl _ _ | with_reducible assumption | with_reducible refine below_drewN ?_ _ | with_reducible refine balloc ?_ _ | with_reducible refine Below.drew ?_ | with_reducible refine Below.setCell ?_ (by first | (simp; done) | (simp; omega) | omega) _ | with_reducible refine bstep ?_ (by assumption)))
           have S5 := HB5.out.size
           have HOWN5 := hide (show World.ownsRow (((w2.alloc (Obj.cells #[] 32)).alloc (Obj.cells #[Value.int IntKind.i64 i, Value.int IntKind.i64 d] 32)).drew) w2.heap.size 32 2 (.slice (some ⟨w2.heap.size, 0, none⟩) 0 0) 0 [] from (owns_drewN ((World.ownsRow_made w2 #[] 0 (by first | omega | (simp; omega) | simp) (Nat.zero_le _) rfl).alloc _)))
           have q1 : World.cell? (((w2.alloc (Obj.cells #[] 32)).alloc (Obj.cells #[Value.int IntKind.i64 i, Value.int IntKind.i64 d] 32)).drew) ⟨w2.heap.size + 1, 0, none⟩ = some (Value.int IntKind.i64 i) := (by simp [go_sem])
           have q2 : World.cell? (((w2.alloc (Obj.cells #[] 32)).alloc (Obj.cells #[Value.int IntKind.i64 i, Value.int IntKind.i64 d] 32)).drew) ⟨w2.heap.size + 1, 1, none⟩ = some (Value.int IntKind.i64 d) := (by simp [go_sem]))
        | (with_reducible refine step_at (((w2.alloc (Obj.cells #[Value.int IntKind.i64 i, Value.int IntKind.i64 d] 32)).alloc (Obj.cells #[] 32)).drew) ?_
           refine step_append_run (o := { dst := some 20, op := _, type := _, pos := _, after := _, guard := _ }) (w := ((w2.alloc (Obj.cells #[Value.int IntKind.i64 i, Value.int IntKind.i64 d] 32)).alloc (Obj.cells #[] 32)).drew) rfl (.tmp 17) (.tmp 19) 24 rfl (.slice (some ⟨w2.heap.size + 1, 0, none⟩) 0 0) (.slice a 0 cap) rfl rfl _ _ (run_app_nothing _ _ _ 32 i0 Try.underlying24 HI.out _ _ _) ?_
           have y1 : World.cell? (((w2.alloc (Obj.cells #[Value.int IntKind.i64 i, Value.int IntKind.i64 d] 32)).alloc (Obj.cells #[] 32)).drew) ⟨w.heap.size, 1, none⟩ = some (.slice a 0 cap) := (Below.cell (p := ⟨w.heap.size, 1, none⟩) (show Below w2.heap.size w2 (((w2.alloc (Obj.cells #[Value.int IntKind.i64 i, Value.int IntKind.i64 d] 32)).alloc (Obj.cells #[] 32)).drew) from (by repeat' first | with_reducible exact Below.refl _ _ | with_reducible assumption | with_reducible refine below_drewN ?_ _ | with_reducible refine balloc ?_ _ | with_reducible refine Below.drew ?_ | with_reducible refine Below.setCell ?_ (by first | (simp; done) | (simp; omega) | omega) _ | with_reducible refine bstep ?_ (by assumption))) L0).trans h1
           have y2 : World.cell? (((w2.alloc (Obj.cells #[Value.int IntKind.i64 i, Value.int IntKind.i64 d] 32)).alloc (Obj.cells #[] 32)).drew) ⟨w.heap.size + 1, 0, none⟩ = some (.int .i64 i) := (Below.cell (p := ⟨w.heap.size + 1, 0, none⟩) (show Below w2.heap.size w2 (((w2.alloc (Obj.cells #[Value.int IntKind.i64 i, Value.int IntKind.i64 d] 32)).alloc (Obj.cells #[] 32)).drew) from (by repeat' first | with_reducible exact Below.refl _ _ | with_reducible assumption | with_reducible refine below_drewN ?_ _ | with_reducible refine balloc ?_ _ | with_reducible refine Below.drew ?_ | with_reducible refine Below.setCell ?_ (by first | (simp; done) | (simp; omega) | omega) _ | with_reducible refine bstep ?_ (by assumption))) L1).trans n0
           have y3 : World.cell? (((w2.alloc (Obj.cells #[Value.int IntKind.i64 i, Value.int IntKind.i64 d] 32)).alloc (Obj.cells #[] 32)).drew) ⟨w.heap.size + 1, 1, none⟩ = some (.int .i64 d) := (Below.cell (p := ⟨w.heap.size + 1, 1, none⟩) (show Below w2.heap.size w2 (((w2.alloc (Obj.cells #[Value.int IntKind.i64 i, Value.int IntKind.i64 d] 32)).alloc (Obj.cells #[] 32)).drew) from (by repeat' first | with_reducible exact Below.refl _ _ | with_reducible assumption | with_reducible refine below_drewN ?_ _ | with_reducible refine balloc ?_ _ | with_reducible refine Below.drew ?_ | with_reducible refine Below.setCell ?_ (by first | (simp; done) | (simp; omega) | omega) _ | with_reducible refine bstep ?_ (by assumption))) L1).trans n1
           have HB5 := hide (show Below w2.heap.size w2 (((w2.alloc (Obj.cells #[Value.int IntKind.i64 i, Value.int IntKind.i64 d] 32)).alloc (Obj.cells #[] 32)).drew) from (by repeat' first | with_reducible exact Below.refl _ _ | with_reducible assumption | with_reducible refine below_drewN ?_ _ | with_reducible refine balloc ?_ _ | with_reducible refine Below.drew ?_ | with_reducible refine Below.setCell ?_ (by first | (simp; done) | (simp; omega) | omega) _ | with_reducible refine bstep ?_ (by assumption)))
           have S5 := HB5.out.size
           have HOWN5 := hide (show World.ownsRow (((w2.alloc (Obj.cells #[Value.int IntKind.i64 i, Value.int IntKind.i64 d] 32)).alloc (Obj.cells #[] 32)).drew) w2.heap.size 32 2 (.slice (some ⟨w2.heap.size + 1, 0, none⟩) 0 0) 0 [] from OWC.out)
           have q1 : World.cell? (((w2.alloc (Obj.cells #[Value.int IntKind.i64 i, Value.int IntKind.i64 d] 32)).alloc (Obj.cells #[] 32)).drew) ⟨w2.heap.size, 0, none⟩ = some (Value.int IntKind.i64 i) := (by simp [go_sem])
           have q2 : World.cell? (((w2.alloc (Obj.cells #[Value.int IntKind.i64 i, Value.int IntKind.i64 d] 32)).alloc (Obj.cells #[] 32)).drew) ⟨w2.heap.size, 1, none⟩ = some (Value.int IntKind.i64 d) := (by simp [go_sem]))
        | (refine step_append_lies (o := { dst := some 23, op := _, type := _, pos := _, after := _, guard := _ }) _ rfl (.tmp 20) (.tmp 22) 24 rfl w2.heap.size 32 i0 _ 2 16 Try.underlying24 HI.out hz0 hz1 hz2 rfl (by decide) _ 0 [] rfl (by first | exact HOWN5.out | exact HOWN5.out.alloc _) ⟨_, 0, none⟩ 1 1 [.int .i64 i, .int .i64 d] rfl rfl (by first | exact two_newN _ _ _ _ | exact two_at (by assumption) (by assumption) | exact two_at (by simp [go_sem]) (by simp [go_sem])) (by intro u hu; simp at hu; rcases hu with rfl | rfl <;> rfl) (by omega) (by unfold maxLen; omega) (by omega) (by first | omega | (simp; omega)) _ rfl ?_
           intro g6 c6 w6 hown6 hgrow6 hat6 hglt6
           have HB6 := hide (below_appN (B := w2.heap.size) (w := w2) (e := 32) (size := 2) (k := 0) (xs := []) (by first | exact HB5.out | exact balloc HB5.out _) (by first | omega | (simp; omega)) (by first | exact HOWN5.out | exact HOWN5.out.alloc _) hgrow6)
           have z1 := (HB6.out.cell (p := ⟨w.heap.size, 1, none⟩) L0).trans h1
           have z2 := (HB6.out.cell (p := ⟨w.heap.size + 1, 0, none⟩) L1).trans n0
           have z3 := (HB6.out.cell (p := ⟨w.heap.size + 1, 1, none⟩) L1).trans n1
           have HOWN6 := hide hown6
           clear hown6 hgrow6 hat6
           simp only [Act.put, List.setIfInBounds_toArray, List.set_cons_zero, List.set_cons_succ])
        )
      all_goals
        (try simp only [Act.put, List.setIfInBounds_toArray, List.set_cons_zero, List.set_cons_succ])
        go_wp2_with fail
        go_meet
        exact ⟨_, _, rfl, capOf HOWN6.out, (rowl_of (n := 0) (f := f) (g := g) HOWN6.out).1, (rowl_of (n := 0) (f := f) (g := g) HOWN6.out).2.1, (rowl_of (n := 0) (f := f) (g := g) HOWN6.out).2.2, HB6.out⟩
    · rcases HP.out.lies with q | ⟨b, off, rfl, hb, hc⟩
      · omega
      · have h1n : 1 ≤ n := by omega
        have HC := hide (fun (W : World) (hW : Below w.heap.size w W) => pcells_src (w := W) (b := b) (off := off) (n := n) (f := f) (g := g) fun k hk => ⟨(hW.cell (p := ⟨b, off + k * 2, none⟩) hb).trans (hc k hk).1, (hW.cell (p := ⟨b, off + k * 2 + 1, none⟩) hb).trans (hc k hk).2⟩)
        clear hc
        have hpl := pcells_len n f g
        have hpo := pcells_one n f g
        have HPL := hide hpl
        have HPO := hide hpo
        clear hpl hpo
        generalize hPC : pcells n f g = PC at HC HPL HPO
        have HPC := hide hPC
        clear hPC
        have HC2 := hide (fun (W : World) (hW : Below w2.heap.size w2 W) => HC.out W (B2.trans (hW.mono BS)))
        have OWC := hide (show World.ownsRow ((w2.alloc (Obj.cells #[Value.int IntKind.i64 i, Value.int IntKind.i64 d] 32)).alloc (Obj.cells #[] 32)).drew w2.heap.size 32 2 (.slice (some ⟨w2.heap.size + 1, 0, none⟩) 0 0) 0 [] from by
          have := World.ownsRow_made (base := w2.heap.size) (e := 32) (size := 2) (w2.alloc (Obj.cells #[Value.int IntKind.i64 i, Value.int IntKind.i64 d] 32)) #[] 0 (by simp) (Nat.zero_le _) rfl
          rwa [World.size_alloc] at this)
        have L0 : w.heap.size < w2.heap.size := by omega
        have L1 : w.heap.size + 1 < w2.heap.size := by omega
        go_region_held_law (fun w' => w'.cell? ⟨w.heap.size, 1, none⟩ = some (.slice (some ⟨b, off, none⟩) n cap) ∧ w'.cell? ⟨w.heap.size + 1, 0, none⟩ = some (.int .i64 i) ∧ w'.cell? ⟨w.heap.size + 1, 1, none⟩ = some (.int .i64 d)) (refine ⟨?_, ?_, ?_⟩ <;> first | assumption | (simp [go_sem, *]; done) | (rw [World.cell?_alloc_past _ _ _ (by first | omega | (simp; omega))]; first | assumption | (rw [World.cell?_alloc_past _ _ _ (by omega)]; assumption)))
          (first
          | (with_reducible refine step_at ((w2.alloc (Obj.cells #[] 32)).drew) ?_
             refine step_append_lies (o := { dst := some 20, op := _, type := _, pos := _, after := _, guard := _ }) ((w2.alloc (Obj.cells #[] 32)).drew) rfl (.tmp 17) (.tmp 19) 24 rfl w2.heap.size 32 i0 _ 2 16 Try.underlying24 HI.out hz0 hz1 hz2 rfl (by decide) (.slice (some ⟨w2.heap.size, 0, none⟩) 0 0) 0 [] rfl (owns_drewN (World.ownsRow_made w2 #[] 0 (by first | omega | (simp; omega) | simp) (Nat.zero_le _) rfl)) ⟨b, off, none⟩ n cap PC rfl HPL.out (HC2.out _ (by repeat' first | with_reducible exact Below.refl _ _ | with_reducible assumption | with_reducible refine below_drewN ?_ _ | with_reducible refine balloc ?_ _ | with_reducible refine Below.drew ?_ | with_reducible refine Below.setCell ?_ (by first | (simp; done) | (simp; omega) | omega) _ | with_reducible refine bstep ?_ (by assumption))) HPO.out (by omega) (by unfold maxLen; omega) (by omega) (by first | omega | (simp; omega) | simp) _ rfl ?_
             intro gg cc w5 hown1 hgrow hat hglt
             have HB5 := hide (below_appN (B := w2.heap.size) (w := w2) (e := 32) (size := 2) (k := 0) (xs := []) (by repeat' first | with_reducible exact Below.refl _ _ | with_reducible assumption | with_reducible refine below_drewN ?_ _ | with_reducible refine balloc ?_ _ | with_reducible refine Below.drew ?_ | with_reducible refine Below.setCell ?_ (by first | (simp; done) | (simp; omega) | omega) _ | with_reducible refine bstep ?_ (by assumption)) (by first | omega | (simp; omega) | simp) (owns_drewN (World.ownsRow_made w2 #[] 0 (by first | omega | (simp; omega) | simp) (Nat.zero_le _) rfl)) hgrow)
             have y1 := (HB5.out.cell (p := ⟨w.heap.size, 1, none⟩) L0).trans h1
             have y2 := (HB5.out.cell (p := ⟨w.heap.size + 1, 0, none⟩) L1).trans n0
             have y3 := (HB5.out.cell (p := ⟨w.heap.size + 1, 1, none⟩) L1).trans n1
             have S5 := HB5.out.size
             simp only [Nat.zero_add, List.nil_append] at hown1 ⊢
             have HOWN5 := hide hown1
             clear hown1 hgrow hat)
          | (with_reducible refine step_at (((w2.alloc (Obj.cells #[] 32)).alloc (Obj.cells #[Value.int IntKind.i64 i, Value.int IntKind.i64 d] 32)).drew) ?_
             refine step_append_lies (o := { dst := some 20, op := _, type := _, pos := _, after := _, guard := _ }) (((w2.alloc (Obj.cells #[] 32)).alloc (Obj.cells #[Value.int IntKind.i64 i, Value.int IntKind.i64 d] 32)).drew) rfl (.tmp 17) (.tmp 19) 24 rfl w2.heap.size 32 i0 _ 2 16 Try.underlying24 HI.out hz0 hz1 hz2 rfl (by decide) (.slice (some ⟨w2.heap.size, 0, none⟩) 0 0) 0 [] rfl (owns_drewN ((World.ownsRow_made w2 #[] 0 (by first | omega | (simp; omega) | simp) (Nat.zero_le _) rfl).alloc _)) ⟨b, off, none⟩ n cap PC rfl HPL.out (HC2.out _ (by repeat' first | with_reducible exact Below.refl _ _ | with_reducible assumption | with_reducible refine below_drewN ?_ _ | with_reducible refine balloc ?_ _ | with_reducible refine Below.drew ?_ | with_reducible refine Below.setCell ?_ (by first | (simp; done) | (simp; omega) | omega) _ | with_reducible refine bstep ?_ (by assumption))) HPO.out (by omega) (by unfold maxLen; omega) (by omega) (by first | omega | (simp; omega) | simp) _ rfl ?_
             intro gg cc w5 hown1 hgrow hat hglt
             have HB5 := hide (below_appN (B := w2.heap.size) (w := w2) (e := 32) (size := 2) (k := 0) (xs := []) (by repeat' first | with_reducible exact Below.refl _ _ | with_reducible assumption | with_reducible refine below_drewN ?_ _ | with_reducible refine balloc ?_ _ | with_reducible refine Below.drew ?_ | with_reducible refine Below.setCell ?_ (by first | (simp; done) | (simp; omega) | omega) _ | with_reducible refine bstep ?_ (by assumption)) (by first | omega | (simp; omega) | simp) (owns_drewN ((World.ownsRow_made w2 #[] 0 (by first | omega | (simp; omega) | simp) (Nat.zero_le _) rfl).alloc _)) hgrow)
             have y1 := (HB5.out.cell (p := ⟨w.heap.size, 1, none⟩) L0).trans h1
             have y2 := (HB5.out.cell (p := ⟨w.heap.size + 1, 0, none⟩) L1).trans n0
             have y3 := (HB5.out.cell (p := ⟨w.heap.size + 1, 1, none⟩) L1).trans n1
             have S5 := HB5.out.size
             simp only [Nat.zero_add, List.nil_append] at hown1 ⊢
             have HOWN5 := hide hown1
             have q1 := (hgrow.cell_far ⟨w2.heap.size + 1, 0, none⟩ (by first | (simp; done) | (simp; omega)) (by simp [Value.ownBlock])).trans (show World.cell? (((w2.alloc (Obj.cells #[] 32)).alloc (Obj.cells #[Value.int IntKind.i64 i, Value.int IntKind.i64 d] 32)).drew) ⟨w2.heap.size + 1, 0, none⟩ = some (Value.int IntKind.i64 i) from (by simp [go_sem]))
             have q2 := (hgrow.cell_far ⟨w2.heap.size + 1, 1, none⟩ (by first | (simp; done) | (simp; omega)) (by simp [Value.ownBlock])).trans (show World.cell? (((w2.alloc (Obj.cells #[] 32)).alloc (Obj.cells #[Value.int IntKind.i64 i, Value.int IntKind.i64 d] 32)).drew) ⟨w2.heap.size + 1, 1, none⟩ = some (Value.int IntKind.i64 d) from (by simp [go_sem]))
             clear hown1 hgrow hat)
          | (with_reducible refine step_at (((w2.alloc (Obj.cells #[Value.int IntKind.i64 i, Value.int IntKind.i64 d] 32)).alloc (Obj.cells #[] 32)).drew) ?_
             refine step_append_lies (o := { dst := some 20, op := _, type := _, pos := _, after := _, guard := _ }) (((w2.alloc (Obj.cells #[Value.int IntKind.i64 i, Value.int IntKind.i64 d] 32)).alloc (Obj.cells #[] 32)).drew) rfl (.tmp 17) (.tmp 19) 24 rfl w2.heap.size 32 i0 _ 2 16 Try.underlying24 HI.out hz0 hz1 hz2 rfl (by decide) (.slice (some ⟨w2.heap.size + 1, 0, none⟩) 0 0) 0 [] rfl OWC.out ⟨b, off, none⟩ n cap PC rfl HPL.out (HC2.out _ (by repeat' first | with_reducible exact Below.refl _ _ | with_reducible assumption | with_reducible refine below_drewN ?_ _ | with_reducible refine balloc ?_ _ | with_reducible refine Below.drew ?_ | with_reducible refine Below.setCell ?_ (by first | (simp; done) | (simp; omega) | omega) _ | with_reducible refine bstep ?_ (by assumption))) HPO.out (by omega) (by unfold maxLen; omega) (by omega) (by first | omega | (simp; omega) | simp) _ rfl ?_
             intro gg cc w5 hown1 hgrow hat hglt
             have HB5 := hide (below_appN (B := w2.heap.size) (w := w2) (e := 32) (size := 2) (k := 0) (xs := []) (by repeat' first | with_reducible exact Below.refl _ _ | with_reducible assumption | with_reducible refine below_drewN ?_ _ | with_reducible refine balloc ?_ _ | with_reducible refine Below.drew ?_ | with_reducible refine Below.setCell ?_ (by first | (simp; done) | (simp; omega) | omega) _ | with_reducible refine bstep ?_ (by assumption)) (by first | omega | (simp; omega) | simp) OWC.out hgrow)
             have y1 := (HB5.out.cell (p := ⟨w.heap.size, 1, none⟩) L0).trans h1
             have y2 := (HB5.out.cell (p := ⟨w.heap.size + 1, 0, none⟩) L1).trans n0
             have y3 := (HB5.out.cell (p := ⟨w.heap.size + 1, 1, none⟩) L1).trans n1
             have S5 := HB5.out.size
             simp only [Nat.zero_add, List.nil_append] at hown1 ⊢
             have HOWN5 := hide hown1
             have q1 := (hgrow.cell_far ⟨w2.heap.size, 0, none⟩ (by first | (simp; done) | (simp; omega)) (by simp [Value.ownBlock])).trans (show World.cell? (((w2.alloc (Obj.cells #[Value.int IntKind.i64 i, Value.int IntKind.i64 d] 32)).alloc (Obj.cells #[] 32)).drew) ⟨w2.heap.size, 0, none⟩ = some (Value.int IntKind.i64 i) from (by simp [go_sem]))
             have q2 := (hgrow.cell_far ⟨w2.heap.size, 1, none⟩ (by first | (simp; done) | (simp; omega)) (by simp [Value.ownBlock])).trans (show World.cell? (((w2.alloc (Obj.cells #[Value.int IntKind.i64 i, Value.int IntKind.i64 d] 32)).alloc (Obj.cells #[] 32)).drew) ⟨w2.heap.size, 1, none⟩ = some (Value.int IntKind.i64 d) from (by simp [go_sem]))
             clear hown1 hgrow hat)
          | (refine step_append_lies (o := { dst := some 23, op := _, type := _, pos := _, after := _, guard := _ }) _ rfl (.tmp 20) (.tmp 22) 24 rfl w2.heap.size 32 i0 _ 2 16 Try.underlying24 HI.out hz0 hz1 hz2 rfl (by decide) _ n PC rfl (by first | exact HOWN5.out | exact HOWN5.out.alloc _) ⟨_, 0, none⟩ 1 1 [.int .i64 i, .int .i64 d] rfl rfl (by first | exact two_newN _ _ _ _ | exact two_at (by assumption) (by assumption) | exact two_at (by simp [go_sem]) (by simp [go_sem])) (by intro u hu; simp at hu; rcases hu with rfl | rfl <;> rfl) (by omega) (by unfold maxLen; omega) (by omega) (by first | omega | (simp; omega)) _ rfl ?_
             intro g6 c6 w6 hown6 hgrow6 hat6 hglt6
             have HB6 := hide (below_appN (B := w2.heap.size) (w := w2) (e := 32) (size := 2) (k := n) (xs := PC) (by first | exact HB5.out | exact balloc HB5.out _) (by first | omega | (simp; omega)) (by first | exact HOWN5.out | exact HOWN5.out.alloc _) hgrow6)
             have z1 := (HB6.out.cell (p := ⟨w.heap.size, 1, none⟩) L0).trans h1
             have z2 := (HB6.out.cell (p := ⟨w.heap.size + 1, 0, none⟩) L1).trans n0
             have z3 := (HB6.out.cell (p := ⟨w.heap.size + 1, 1, none⟩) L1).trans n1
             have HOWN6 := hide hown6
             clear hown6 hgrow6 hat6
             simp only [Act.put, List.setIfInBounds_toArray, List.set_cons_zero, List.set_cons_succ])
          )
        all_goals
          (try simp only [Act.put, List.setIfInBounds_toArray, List.set_cons_zero, List.set_cons_succ])
          go_wp2_with fail
          go_meet
          exact ⟨_, _, rfl, capOf HOWN6.out, (rowl_of (f := f) (g := g) (by rw [HPC.out]; exact HOWN6.out)).1, (rowl_of (f := f) (g := g) (by rw [HPC.out]; exact HOWN6.out)).2.1, (rowl_of (f := f) (g := g) (by rw [HPC.out]; exact HOWN6.out)).2.2, HB6.out⟩
  case rest =>
    obtain ⟨b6, c6, rfl, hc6, hb6, hcm, hrow, hbel⟩ := hcut
    have P6 := P2.below hbel
    have B6 := B2.trans (hbel.mono BS)
    have hsc := hbel.size
    have hl2 := P2.lt
    have HR := hide hrow
    have hn1e : ((n : Int) + 1 - 1) = (n : Int) := by omega
    clear l0 h0 h1 n0 n1 r0 r1 f0 f1 hrow hbel
    go_wp2_with fail
    go_loopw [7] (fun iv wr => ∃ (k : Nat) (M : NL), iv = .int .i64 k ∧ k < n + 1 ∧ But b6 wc wr ∧ RowS (c6 * 2) wr b6 (n + 1) M ∧ upL k M = putL1 n f g i d) (fun iv _ => (intOf iv).toNat)
    case atStart => exact ⟨n, _, rfl, by omega, But.refl b6 wc, HR.out, rfl⟩
    case round =>
      obtain ⟨k, M, rfl, hk, hbk, hM, hup⟩ := hrel
      have HB := hide hbk
      have HM := hide hM
      have HU := hide hup
      have hkn : (k : Int) < (n : Int) + 1 := by omega
      clear hbk hM hup
      by_cases hk0 : k = 0
      · have hd : decide (0 < k) = false := by simp [hk0]
        go_upto_region 5 with fail
        refine wp_region_held_drew (S := fun wx => True) (by kernel_rfl) (trivial) (fun hH0 => ?_)
        refine wpAnyH_take (i := 0) (oi := { dst := some 27, op := _, type := _, pos := _, after := _, guard := _ }) (v := ?_) rfl (by kernel_rfl) (by kernel_rfl) (by kernel_rfl) (fun _ _ _ h => h) (Or.inl ⟨by rfl, ?_⟩) (hH0) ?_
        rotate_left
        · (intro wx hSw; obtain _ := hSw; go_simp <;> with_reducible rfl)
        simp only [Act.put, List.setIfInBounds_toArray, List.set_cons_zero, List.set_cons_succ]
        refine wpAnyH_take (i := 1) (oi := { dst := some 28, op := _, type := _, pos := _, after := _, guard := _ }) (v := ?_) rfl (by kernel_rfl) (by kernel_rfl) (by kernel_rfl) (fun _ _ _ h => h) (Or.inl ⟨by rfl, ?_⟩) (hH0) ?_
        rotate_left
        · (intro wx hSw; obtain _ := hSw; go_simp <;> with_reducible rfl)
        simp only [Act.put, List.setIfInBounds_toArray, List.set_cons_zero, List.set_cons_succ]
        refine wpAnyH_take (i := 2) (oi := { dst := some 29, op := _, type := _, pos := _, after := _, guard := _ }) (v := ?_) rfl (by kernel_rfl) (by kernel_rfl) (by kernel_rfl) (fun _ _ _ h => h) (Or.inl ⟨by rfl, ?_⟩) (hH0) ?_
        rotate_left
        · (intro wx hSw; obtain _ := hSw; go_simp <;> with_reducible rfl)
        simp only [Act.put, List.setIfInBounds_toArray, List.set_cons_zero, List.set_cons_succ]
        refine wpAnyH_take (i := 3) (oi := { dst := some 30, op := _, type := _, pos := _, after := _, guard := _ }) (v := _) rfl (by kernel_rfl) (by kernel_rfl) (by kernel_rfl) (fun _ _ _ h => h) (Or.inr ⟨by rfl, rfl⟩) (hH0) ?_
        simp only [Act.put, List.setIfInBounds_toArray, List.set_cons_zero, List.set_cons_succ]
        refine wpAnyH_take (i := 4) (oi := { dst := some 31, op := _, type := _, pos := _, after := _, guard := _ }) (v := _) rfl (by kernel_rfl) (by kernel_rfl) (by kernel_rfl) (fun _ _ _ h => h) (Or.inr ⟨by rfl, rfl⟩) (hH0) ?_
        simp only [Act.put, List.setIfInBounds_toArray, List.set_cons_zero, List.set_cons_succ]
        refine wpAnyH_take (i := 5) (oi := { dst := some 32, op := _, type := _, pos := _, after := _, guard := _ }) (v := _) rfl (by kernel_rfl) (by kernel_rfl) (by kernel_rfl) (fun _ _ _ h => h) (Or.inr ⟨by rfl, rfl⟩) (hH0) ?_
        simp only [Act.put, List.setIfInBounds_toArray, List.set_cons_zero, List.set_cons_succ]
        refine wpAnyH_take (i := 6) (oi := { dst := some 33, op := _, type := _, pos := _, after := _, guard := _ }) (v := _) rfl (by kernel_rfl) (by kernel_rfl) (by kernel_rfl) (fun _ _ _ h => h) (Or.inr ⟨by rfl, rfl⟩) (hH0) ?_
        simp only [Act.put, List.setIfInBounds_toArray, List.set_cons_zero, List.set_cons_succ]
        refine wpAnyH_take (i := 7) (oi := { dst := some 34, op := _, type := _, pos := _, after := _, guard := _ }) (v := _) rfl (by kernel_rfl) (by kernel_rfl) (by kernel_rfl) (fun _ _ _ h => h) (Or.inr ⟨by rfl, rfl⟩) (hH0) ?_
        simp only [Act.put, List.setIfInBounds_toArray, List.set_cons_zero, List.set_cons_succ]
        refine wpAnyH_take (i := 8) (oi := { dst := some 35, op := _, type := _, pos := _, after := _, guard := _ }) (v := _) rfl (by kernel_rfl) (by kernel_rfl) (by kernel_rfl) (fun _ _ _ h => h) (Or.inr ⟨by rfl, rfl⟩) (hH0) ?_
        simp only [Act.put, List.setIfInBounds_toArray, List.set_cons_zero, List.set_cons_succ]
        refine wpAnyH_take (i := 9) (oi := { dst := some 36, op := _, type := _, pos := _, after := _, guard := _ }) (v := _) rfl (by kernel_rfl) (by kernel_rfl) (by kernel_rfl) (fun _ _ _ h => h) (Or.inr ⟨by rfl, rfl⟩) (hH0) ?_
        simp only [Act.put, List.setIfInBounds_toArray, List.set_cons_zero, List.set_cons_succ]
        refine wpAnyH_take (i := 10) (oi := { dst := some 37, op := _, type := _, pos := _, after := _, guard := _ }) (v := _) rfl (by kernel_rfl) (by kernel_rfl) (by kernel_rfl) (fun _ _ _ h => h) (Or.inr ⟨by rfl, rfl⟩) (hH0) ?_
        simp only [Act.put, List.setIfInBounds_toArray, List.set_cons_zero, List.set_cons_succ]
        refine wpAnyH_take (i := 11) (oi := { dst := some 38, op := _, type := _, pos := _, after := _, guard := _ }) (v := _) rfl (by kernel_rfl) (by kernel_rfl) (by kernel_rfl) (fun _ _ _ h => h) (Or.inr ⟨by rfl, rfl⟩) (hH0) ?_
        simp only [Act.put, List.setIfInBounds_toArray, List.set_cons_zero, List.set_cons_succ]
        refine wpAnyH_take (i := 12) (oi := { dst := some 39, op := _, type := _, pos := _, after := _, guard := _ }) (v := _) rfl (by kernel_rfl) (by kernel_rfl) (by kernel_rfl) (fun _ _ _ h => h) (Or.inr ⟨by rfl, rfl⟩) (hH0) ?_
        simp only [Act.put, List.setIfInBounds_toArray, List.set_cons_zero, List.set_cons_succ]
        refine wpAnyH_take (i := 13) (oi := { dst := some 40, op := _, type := _, pos := _, after := _, guard := _ }) (v := _) rfl (by kernel_rfl) (by kernel_rfl) (by kernel_rfl) (fun _ _ _ h => h) (Or.inr ⟨by rfl, rfl⟩) (hH0) ?_
        simp only [Act.put, List.setIfInBounds_toArray, List.set_cons_zero, List.set_cons_succ]
        refine wpAnyH_take (i := 14) (oi := { dst := some 41, op := _, type := _, pos := _, after := _, guard := _ }) (v := ?_) rfl (by kernel_rfl) (by kernel_rfl) (by kernel_rfl) (fun _ _ _ h => h) (Or.inl ⟨by rfl, ?_⟩) (hH0) ?_
        rotate_left
        · (intro wx hSw; obtain _ := hSw; go_simp <;> with_reducible rfl)
        simp only [Act.put, List.setIfInBounds_toArray, List.set_cons_zero, List.set_cons_succ]
        refine wpAnyH_done (by kernel_rfl) ?_ _
        -- behind it: go_wp2_with fail, then go_meet (a cut) or go_ret; the condition at the end: hH0
        obtain ⟨wd, hwd⟩ : ∃ wd, wr.drew = wd := ⟨_, rfl⟩
        have HM1 := hide HM.out.drew
        have HB1 := hide HB.out.drew
        rw [hwd] at HM1 HB1 ⊢
        clear hH0 HM HB hwd
        have hM1 : M = putL1 n f g i d := by rw [← HU.out, hk0, upL_zero]
        have HEQ := hide hM1
        clear hM1
        have PZ := P6.low (HB1.out.low hb6 hsc) (by omega)
        have BZ : Below w.heap.size w wd := B6.trans (HB1.out.low (by omega) (by omega))
        have PZ' := PZ
        obtain ⟨l0, h0, h1, n0, n1, r0, r1, f0, f1⟩ := PZ'
        by_cases hbig : K < (n : Int) + 1
        · have hn1 : 1 ≤ n := by omega
          have e0 := HM1.out.rowl.c0 (i := n) (by omega)
          have e1 := HM1.out.rowl.c1 (i := n) (by omega)
          have e2 := HM1.out.rowl.c0 (i := 0) (by omega)
          have e3 := HM1.out.rowl.c1 (i := 0) (by omega)
          have e4 := HM1.out.rowl.froz 0
          have e5 := HM1.out.rowl.froz 1
          simp only [Nat.zero_mul, Nat.zero_add] at e2 e3
          have hset := HM1.out.set 0 (M n).1 (M n).2
          simp only [Nat.zero_mul, Nat.zero_add] at hset
          have HSET := hide hset
          clear hset
          have hnc : (n : Int) ≤ (c6 : Int) := by omega
          have hlz := HM1.out.lt
          have DN := hide (l6Down_any (c6 * 2) b6 (n + 1) n c6 _ _ HSET.out (by omega) (by omega))
          go_wp2_with fail
          refine DN.out.mono ?_
          rintro e w7 ⟨rfl, hb7, o7⟩
          have hsz := PZ.lt
          have B7 : Below w.heap.size w w7 := BZ.trans ((((But.refl b6 wd).setCell _ _).setCell _ _).trans hb7 |>.low (by omega) (by omega))
          have P7 := PZ.low ((((But.refl b6 wd).setCell _ _).setCell _ _).trans hb7 |>.low (B := w.heap.size + 3) (by omega) (by omega)) (by omega)
          have O7 := hide o7
          clear l0 h0 h1 n0 n1 r0 r1 f0 f1 e0 e1 e2 e3 e4 e5 o7 hb7 DN HSET
          obtain ⟨l0, h0, h1, n0, n1, r0, r1, f0, f1⟩ := P7
          go_wp2_with fail
          refine bodyPost_ret (v := .tuple #[.agg #[.int .i64 K, .slice (some ⟨b6, 0, none⟩) n c6], .bool true]) ?_ rfl ⟨?_, b6, c6, n, ?_, by omega, ?_, by omega, hcm, ?_⟩
          · simp [results, Try.results30, go_sem, r0, r1]
          · exact (by repeat' first | with_reducible exact Below.refl _ _ | with_reducible assumption | with_reducible refine below_drewN ?_ _ | with_reducible refine balloc ?_ _ | with_reducible refine Below.drew ?_ | with_reducible refine Below.setCell ?_ (by first | (simp; done) | (simp; omega) | omega) _ | with_reducible refine bstep ?_ (by assumption))
          · unfold putN; rw [if_pos hbig]
          · unfold putN; rw [if_pos hbig]; omega
          · unfold putL; rw [if_pos hbig, ← HEQ.out]
            refine (((O7.out.less (show n ≤ n + 1 by omega)).away _ _ (by simp; omega)).away _ _ (by simp; omega)).congr fun k hk => ?_
            refine dnL_congr n n 0 _ _ (by omega) (by omega) (fun j hj => ?_) k hk
            unfold NL.put swp
            by_cases e : j = 0
            · rw [if_pos e, if_pos e]
            · rw [if_neg e, if_neg e, if_neg (by omega)]
        · have hbig' : ¬ K < (n : Int) + 1 := hbig
          have HN := hide hbig'
          clear hbig'
          go_wp2_with fail
          refine bodyPost_ret (v := .tuple #[.agg #[.int .i64 K, .slice (some ⟨b6, 0, none⟩) (n + 1) c6], .bool true]) ?_ rfl ⟨?_, b6, c6, n + 1, ?_, by omega, ?_, by omega, hcm, ?_⟩
          · simp [results, Try.results30, go_sem, r0, r1]
          · exact (by repeat' first | with_reducible exact Below.refl _ _ | with_reducible assumption | with_reducible refine below_drewN ?_ _ | with_reducible refine balloc ?_ _ | with_reducible refine Below.drew ?_ | with_reducible refine Below.setCell ?_ (by first | (simp; done) | (simp; omega) | omega) _ | with_reducible refine bstep ?_ (by assumption))
          · unfold putN; rw [if_neg (by omega)]
          · unfold putN; rw [if_neg (by omega)]; omega
          · unfold putL; rw [if_neg (by omega), ← HEQ.out]
            exact (HM1.out.away _ _ (by simp; omega)).away _ _ (by simp; omega)
      · have hd : decide (0 < k) = true := by simp; omega
        obtain ⟨p, hp⟩ : ∃ p, (k - 1) / 2 = p := ⟨_, rfl⟩
        have hq0 : IntKind.i64.wrap ((k : Int) - 1) = (k : Int) - 1 := wrapIn _ (by omega) (by omega)
        have hqq : Int.tdiv ((k : Int) - 1) 2 = (p : Int) := by rw [Int.tdiv_eq_ediv_of_nonneg (by omega)]; omega
        have hqp : IntKind.i64.wrap (p : Int) = (p : Int) := wrapIn _ (by omega) (by omega)
        have hpn : (p : Int) < (n : Int) + 1 := by omega
        have Q := hide (HM.out.rowl.qd (i := p) (j := k) (by omega) (by omega))
        have LE := hide (l6Less_any (M p).1 (M p).2 (M k).1 (M k).2)
        obtain ⟨v, hv2⟩ : ∃ v, lt2 (M p) (M k) = v := ⟨_, rfl⟩
        rw [show lessB (M p).1 (M p).2 (M k).1 (M k).2 = v from hv2] at LE
        have HV2 := hide hv2
        clear hv2
        go_upto_region 5 with fail
        refine wp_region_held_drew (S := fun wx => Qd wx b6 p k (M p) (M k)) (by kernel_rfl) (Q.out.drew) (fun hH0 => ?_)
        refine wpAnyH_take (i := 0) (oi := { dst := some 27, op := _, type := _, pos := _, after := _, guard := _ }) (v := ?_) rfl (by kernel_rfl) (by kernel_rfl) (by kernel_rfl) (fun _ _ _ h => h) (Or.inl ⟨by rfl, ?_⟩) (hH0) ?_
        rotate_left
        · (intro wx hSw; obtain ⟨l0, q0, q1, q2, q3⟩ := hSw; go_simp <;> with_reducible rfl)
        simp only [Act.put, List.setIfInBounds_toArray, List.set_cons_zero, List.set_cons_succ]
        refine wpAnyH_take (i := 1) (oi := { dst := some 28, op := _, type := _, pos := _, after := _, guard := _ }) (v := ?_) rfl (by kernel_rfl) (by kernel_rfl) (by kernel_rfl) (fun _ _ _ h => h) (Or.inl ⟨by rfl, ?_⟩) (hH0) ?_
        rotate_left
        · (intro wx hSw; obtain ⟨l0, q0, q1, q2, q3⟩ := hSw; go_simp <;> with_reducible rfl)
        simp only [Act.put, List.setIfInBounds_toArray, List.set_cons_zero, List.set_cons_succ]
        refine wpAnyH_take (i := 2) (oi := { dst := some 29, op := _, type := _, pos := _, after := _, guard := _ }) (v := ?_) rfl (by kernel_rfl) (by kernel_rfl) (by kernel_rfl) (fun _ _ _ h => h) (Or.inl ⟨by rfl, ?_⟩) (hH0) ?_
        rotate_left
        · (intro wx hSw; obtain ⟨l0, q0, q1, q2, q3⟩ := hSw; go_simp <;> with_reducible rfl)
        simp only [Act.put, List.setIfInBounds_toArray, List.set_cons_zero, List.set_cons_succ]
        refine wpAnyH_take (i := 3) (oi := { dst := some 30, op := _, type := _, pos := _, after := _, guard := _ }) (v := ?_) rfl (by kernel_rfl) (by kernel_rfl) (by kernel_rfl) (fun _ _ _ h => h) (Or.inl ⟨by rfl, ?_⟩) (hH0) ?_
        rotate_left
        · (intro wx hSw; obtain ⟨l0, q0, q1, q2, q3⟩ := hSw; go_simp <;> with_reducible rfl)
        simp only [Act.put, List.setIfInBounds_toArray, List.set_cons_zero, List.set_cons_succ]
        refine wpAnyH_take (i := 4) (oi := { dst := some 31, op := _, type := _, pos := _, after := _, guard := _ }) (v := ?_) rfl (by kernel_rfl) (by kernel_rfl) (by kernel_rfl) (fun _ _ _ h => h) (Or.inl ⟨by rfl, ?_⟩) (hH0) ?_
        rotate_left
        · (intro wx hSw; obtain ⟨l0, q0, q1, q2, q3⟩ := hSw; go_simp <;> with_reducible rfl)
        simp only [Act.put, List.setIfInBounds_toArray, List.set_cons_zero, List.set_cons_succ]
        refine wpAnyH_take (i := 5) (oi := { dst := some 32, op := _, type := _, pos := _, after := _, guard := _ }) (v := ?_) rfl (by kernel_rfl) (by kernel_rfl) (by kernel_rfl) (fun _ _ _ h => h) (Or.inl ⟨by rfl, ?_⟩) (hH0) ?_
        rotate_left
        · (intro wx hSw; obtain ⟨l0, q0, q1, q2, q3⟩ := hSw; go_simp <;> with_reducible rfl)
        simp only [Act.put, List.setIfInBounds_toArray, List.set_cons_zero, List.set_cons_succ]
        refine wpAnyH_take (i := 6) (oi := { dst := some 33, op := _, type := _, pos := _, after := _, guard := _ }) (v := ?_) rfl (by kernel_rfl) (by kernel_rfl) (by kernel_rfl) (fun _ _ _ h => h) (Or.inl ⟨by rfl, ?_⟩) (hH0) ?_
        rotate_left
        · (intro wx hSw; obtain ⟨l0, q0, q1, q2, q3⟩ := hSw; go_simp <;> with_reducible rfl)
        simp only [Act.put, List.setIfInBounds_toArray, List.set_cons_zero, List.set_cons_succ]
        refine wpAnyH_take (i := 7) (oi := { dst := some 34, op := _, type := _, pos := _, after := _, guard := _ }) (v := ?_) rfl (by kernel_rfl) (by kernel_rfl) (by kernel_rfl) (fun _ _ _ h => h) (Or.inl ⟨by rfl, ?_⟩) (hH0) ?_
        rotate_left
        · (intro wx hSw; obtain ⟨l0, q0, q1, q2, q3⟩ := hSw; go_simp <;> with_reducible rfl)
        simp only [Act.put, List.setIfInBounds_toArray, List.set_cons_zero, List.set_cons_succ]
        refine wpAnyH_take (i := 8) (oi := { dst := some 35, op := _, type := _, pos := _, after := _, guard := _ }) (v := ?_) rfl (by kernel_rfl) (by kernel_rfl) (by kernel_rfl) (fun _ _ _ h => h) (Or.inl ⟨by rfl, ?_⟩) (hH0) ?_
        rotate_left
        · (intro wx hSw; obtain ⟨l0, q0, q1, q2, q3⟩ := hSw; go_simp <;> with_reducible rfl)
        simp only [Act.put, List.setIfInBounds_toArray, List.set_cons_zero, List.set_cons_succ]
        refine wpAnyH_take (i := 9) (oi := { dst := some 36, op := _, type := _, pos := _, after := _, guard := _ }) (v := ?_) rfl (by kernel_rfl) (by kernel_rfl) (by kernel_rfl) (fun _ _ _ h => h) (Or.inl ⟨by rfl, ?_⟩) (hH0) ?_
        rotate_left
        · (intro wx hSw; obtain ⟨l0, q0, q1, q2, q3⟩ := hSw; go_simp <;> with_reducible rfl)
        simp only [Act.put, List.setIfInBounds_toArray, List.set_cons_zero, List.set_cons_succ]
        refine wpAnyH_take (i := 10) (oi := { dst := some 37, op := _, type := _, pos := _, after := _, guard := _ }) (v := ?_) rfl (by kernel_rfl) (by kernel_rfl) (by kernel_rfl) (fun _ _ _ h => h) (Or.inl ⟨by rfl, ?_⟩) (hH0) ?_
        rotate_left
        · (intro wx hSw; obtain ⟨l0, q0, q1, q2, q3⟩ := hSw; go_simp <;> with_reducible rfl)
        simp only [Act.put, List.setIfInBounds_toArray, List.set_cons_zero, List.set_cons_succ]
        refine wpAnyH_take (i := 11) (oi := { dst := some 38, op := _, type := _, pos := _, after := _, guard := _ }) (v := ?_) rfl (by kernel_rfl) (by kernel_rfl) (by kernel_rfl) (fun _ _ _ h => h) (Or.inl ⟨by rfl, ?_⟩) (hH0) ?_
        rotate_left
        · (intro wx hSw; obtain ⟨l0, q0, q1, q2, q3⟩ := hSw; go_simp <;> with_reducible rfl)
        simp only [Act.put, List.setIfInBounds_toArray, List.set_cons_zero, List.set_cons_succ]
        refine wpAnyH_take (i := 12) (oi := { dst := some 39, op := _, type := _, pos := _, after := _, guard := _ }) (v := ?_) rfl (by kernel_rfl) (by kernel_rfl) (by kernel_rfl) (fun _ _ _ h => h) (Or.inl ⟨by rfl, ?_⟩) (hH0) ?_
        rotate_left
        · (intro wx hSw; obtain ⟨l0, q0, q1, q2, q3⟩ := hSw; go_simp <;> with_reducible rfl)
        simp only [Act.put, List.setIfInBounds_toArray, List.set_cons_zero, List.set_cons_succ]
        refine wpAnyH_ready (rs := [13]) (by kernel_rfl) (by simp) ?_
        refine AllReadyH.cons (o := { dst := some 40, op := _, type := _, pos := _, after := _, guard := _ }) rfl (fun K hK => ?_) AllReadyH.nil
        go_simp
        refine (LE.out _).mono ?_
        rintro e w_c40_1 ⟨rfl, hb_c40_1⟩
        dsimp only
        refine hK.out _ _ (Qd.below hH0 hb_c40_1) (fun hH1 => ?_)
        clear hK K
        refine wpAnyH_take (i := 14) (oi := { dst := some 41, op := _, type := _, pos := _, after := _, guard := _ }) (v := ?_) rfl (by kernel_rfl) (by kernel_rfl) (by kernel_rfl) (fun _ _ _ h => h) (Or.inl ⟨by rfl, ?_⟩) (hH1) ?_
        rotate_left
        · (intro wx hSw; obtain ⟨l0, q0, q1, q2, q3⟩ := hSw; go_simp <;> with_reducible rfl)
        simp only [Act.put, List.setIfInBounds_toArray, List.set_cons_zero, List.set_cons_succ]
        refine wpAnyH_done (by kernel_rfl) ?_ _
        -- behind it: go_wp2_with fail, then go_meet (a cut) or go_ret; the condition at the end: hH1
        have HM1 := hide (HM.out.drew.below hb_c40_1)
        have HB1 := hide ((HB.out.drew).trans (But.ofBelow hb_c40_1))
        clear hb_c40_1 hH0 hH1 HM HB
        cases v
        · have hM1 : M = putL1 n f g i d := by rw [← HU.out, upL_no (by rw [hp]; exact HV2.out)]
          have HEQ := hide hM1
          clear hM1
          have PZ := P6.low (HB1.out.low hb6 hsc) (by omega)
          have BZ : Below w.heap.size w w_c40_1 := B6.trans (HB1.out.low (by omega) (by omega))
          have PZ' := PZ
          obtain ⟨l0, h0, h1, n0, n1, r0, r1, f0, f1⟩ := PZ'
          by_cases hbig : K < (n : Int) + 1
          · have hn1 : 1 ≤ n := by omega
            have e0 := HM1.out.rowl.c0 (i := n) (by omega)
            have e1 := HM1.out.rowl.c1 (i := n) (by omega)
            have e2 := HM1.out.rowl.c0 (i := 0) (by omega)
            have e3 := HM1.out.rowl.c1 (i := 0) (by omega)
            have e4 := HM1.out.rowl.froz 0
            have e5 := HM1.out.rowl.froz 1
            simp only [Nat.zero_mul, Nat.zero_add] at e2 e3
            have hset := HM1.out.set 0 (M n).1 (M n).2
            simp only [Nat.zero_mul, Nat.zero_add] at hset
            have HSET := hide hset
            clear hset
            have hnc : (n : Int) ≤ (c6 : Int) := by omega
            have hlz := HM1.out.lt
            have DN := hide (l6Down_any (c6 * 2) b6 (n + 1) n c6 _ _ HSET.out (by omega) (by omega))
            go_wp2_with fail
            refine DN.out.mono ?_
            rintro e w7 ⟨rfl, hb7, o7⟩
            have hsz := PZ.lt
            have B7 : Below w.heap.size w w7 := BZ.trans ((((But.refl b6 w_c40_1).setCell _ _).setCell _ _).trans hb7 |>.low (by omega) (by omega))
            have P7 := PZ.low ((((But.refl b6 w_c40_1).setCell _ _).setCell _ _).trans hb7 |>.low (B := w.heap.size + 3) (by omega) (by omega)) (by omega)
            have O7 := hide o7
            clear l0 h0 h1 n0 n1 r0 r1 f0 f1 e0 e1 e2 e3 e4 e5 o7 hb7 DN HSET
            obtain ⟨l0, h0, h1, n0, n1, r0, r1, f0, f1⟩ := P7
            go_wp2_with fail
            refine bodyPost_ret (v := .tuple #[.agg #[.int .i64 K, .slice (some ⟨b6, 0, none⟩) n c6], .bool true]) ?_ rfl ⟨?_, b6, c6, n, ?_, by omega, ?_, by omega, hcm, ?_⟩
            · simp [results, Try.results30, go_sem, r0, r1]
            · exact (by repeat' first | with_reducible exact Below.refl _ _ | with_reducible assumption | with_reducible refine below_drewN ?_ _ | with_reducible refine balloc ?_ _ | with_reducible refine Below.drew ?_ | with_reducible refine Below.setCell ?_ (by first | (simp; done) | (simp; omega) | omega) _ | with_reducible refine bstep ?_ (by assumption))
            · unfold putN; rw [if_pos hbig]
            · unfold putN; rw [if_pos hbig]; omega
            · unfold putL; rw [if_pos hbig, ← HEQ.out]
              refine (((O7.out.less (show n ≤ n + 1 by omega)).away _ _ (by simp; omega)).away _ _ (by simp; omega)).congr fun k hk => ?_
              refine dnL_congr n n 0 _ _ (by omega) (by omega) (fun j hj => ?_) k hk
              unfold NL.put swp
              by_cases e : j = 0
              · rw [if_pos e, if_pos e]
              · rw [if_neg e, if_neg e, if_neg (by omega)]
          · have hbig' : ¬ K < (n : Int) + 1 := hbig
            have HN := hide hbig'
            clear hbig'
            go_wp2_with fail
            refine bodyPost_ret (v := .tuple #[.agg #[.int .i64 K, .slice (some ⟨b6, 0, none⟩) (n + 1) c6], .bool true]) ?_ rfl ⟨?_, b6, c6, n + 1, ?_, by omega, ?_, by omega, hcm, ?_⟩
            · simp [results, Try.results30, go_sem, r0, r1]
            · exact (by repeat' first | with_reducible exact Below.refl _ _ | with_reducible assumption | with_reducible refine below_drewN ?_ _ | with_reducible refine balloc ?_ _ | with_reducible refine Below.drew ?_ | with_reducible refine Below.setCell ?_ (by first | (simp; done) | (simp; omega) | omega) _ | with_reducible refine bstep ?_ (by assumption))
            · unfold putN; rw [if_neg (by omega)]
            · unfold putN; rw [if_neg (by omega)]; omega
            · unfold putL; rw [if_neg (by omega), ← HEQ.out]
              exact (HM1.out.away _ _ (by simp; omega)).away _ _ (by simp; omega)
        · have SW := hide (l6Swap_any (c6 * 2) b6 (n + 1) (n + 1) c6 M p k w_c40_1 HM1.out (by omega) (by omega) hk)
          go_wp2_with fail
          refine SW.out.mono ?_
          rintro e w3 ⟨rfl, hb3, hM3⟩
          have HM3 := hide hM3
          have HB3 := hide (HB1.out.trans hb3)
          clear hM3 hb3 SW
          go_wp2_with fail
          go_roundw
          case rel => exact ⟨p, swp M p k, rfl, by omega, HB3.out, HM3.out, by rw [← HU.out, upL_yes hk0 (by rw [hp]; exact HV2.out), hp]⟩
          case measure => simp [intOf]; omega

def SPutAny (w : World) (K : Int) (n : Nat) (f g : Nat → Int) (i d : Int) (e : Ending) (w' : World) : Prop :=
  (putB K n f g i d = false ∧ e = .returned (.tuple #[.agg #[.int .i64 0, .slice none 0 0], .bool false]) ∧ Below w.heap.size w w') ∨ (putB K n f g i d = true ∧ SPut w K n f g i d e w')

set_option maxHeartbeats 1600000 in
theorem sHeapPut_no (K : Int) (a : Option Addr) (n cap : Nat) (f g : Nat → Int) (i d : Int) (w : World) (h : PRow w a n f g) (hno : putB K n f g i d = false) :
    Calls Try.prog 30 #[.agg #[.int .i64 K, .slice a n cap], .agg #[.int .i64 i, .int .i64 d]] w fun e w' => e = .returned (.tuple #[.agg #[.int .i64 0, .slice none 0 0], .bool false]) ∧ Below w.heap.size w w' := by
  have HO := hide (fun w1 (hb : Below w.heap.size w w1) => sHeapOk_any K a n cap f g w1 (h.below hb))
  have NO := hide (sNearOk_any i d)
  clear h
  obtain ⟨v, hv⟩ : ∃ v, heapB K n f g = v := ⟨_, rfl⟩
  obtain ⟨u, hu⟩ : ∃ u, nearB i d = u := ⟨_, rfl⟩
  rw [hv] at HO
  rw [hu] at NO
  have hput : (v && u) = false := by unfold putB at hno; rwa [hv, hu] at hno
  clear hv hu hno
  go_enter Try.func30, Try.ntmps30
  go_wp2_with fail
  refine (HO.out _ (by repeat' first | with_reducible exact Below.refl _ _ | with_reducible assumption | with_reducible refine below_drewN ?_ _ | with_reducible refine balloc ?_ _ | with_reducible refine Below.drew ?_ | with_reducible refine Below.setCell ?_ (by first | (simp; done) | (simp; omega) | omega) _ | with_reducible refine bstep ?_ (by assumption))).mono ?_
  rintro e w1 ⟨rfl, hb1⟩
  have P1 : PBx w1 w.heap.size K a n cap i d := by
    refine PBx.below ⟨?_, ?_, ?_, ?_, ?_, ?_, ?_, ?_, ?_⟩ hb1 <;> simp [go_sem]
  have B1 : Below w.heap.size w w1 := (by repeat' first | with_reducible exact Below.refl _ _ | with_reducible assumption | with_reducible refine below_drewN ?_ _ | with_reducible refine balloc ?_ _ | with_reducible refine Below.drew ?_ | with_reducible refine Below.setCell ?_ (by first | (simp; done) | (simp; omega) | omega) _ | with_reducible refine bstep ?_ (by assumption))
  clear hb1 HO
  have P1' := P1
  obtain ⟨l0, h0, h1, n0, n1, r0, r1, f0, f1⟩ := P1'
  cases v
  · clear hput
    go_wp2_with fail
    refine bodyPost_ret (v := .tuple #[.agg #[.int .i64 0, .slice none 0 0], .bool false]) ?_ rfl ⟨rfl, ?_⟩
    · simp [results, Try.results30, go_sem, r0, r1]
    · exact (by repeat' first | with_reducible exact Below.refl _ _ | with_reducible assumption | with_reducible refine below_drewN ?_ _ | with_reducible refine balloc ?_ _ | with_reducible refine Below.drew ?_ | with_reducible refine Below.setCell ?_ (by first | (simp; done) | (simp; omega) | omega) _ | with_reducible refine bstep ?_ (by assumption))
  · cases u
    · clear hput
      go_wp2_with fail
      refine (NO.out _).mono ?_
      rintro e w2 ⟨rfl, hb2⟩
      have P2 := P1.below hb2
      have B2 : Below w.heap.size w w2 := (by repeat' first | with_reducible exact Below.refl _ _ | with_reducible assumption | with_reducible refine below_drewN ?_ _ | with_reducible refine balloc ?_ _ | with_reducible refine Below.drew ?_ | with_reducible refine Below.setCell ?_ (by first | (simp; done) | (simp; omega) | omega) _ | with_reducible refine bstep ?_ (by assumption))
      clear l0 h0 h1 n0 n1 r0 r1 f0 f1 hb2 P1 B1
      obtain ⟨l0, h0, h1, n0, n1, r0, r1, f0, f1⟩ := P2
      go_wp2_with fail
      refine bodyPost_ret (v := .tuple #[.agg #[.int .i64 0, .slice none 0 0], .bool false]) ?_ rfl ⟨rfl, ?_⟩
      · simp [results, Try.results30, go_sem, r0, r1]
      · exact (by repeat' first | with_reducible exact Below.refl _ _ | with_reducible assumption | with_reducible refine below_drewN ?_ _ | with_reducible refine balloc ?_ _ | with_reducible refine Below.drew ?_ | with_reducible refine Below.setCell ?_ (by first | (simp; done) | (simp; omega) | omega) _ | with_reducible refine bstep ?_ (by assumption))
    · cases hput

theorem sHeapPut_any (K : Int) (a : Option Addr) (n cap : Nat) (f g : Nat → Int) (i d : Int) (w : World) (h : PRow w a n f g) :
    Calls Try.prog 30 #[.agg #[.int .i64 K, .slice a n cap], .agg #[.int .i64 i, .int .i64 d]] w fun e w' => SPutAny w K n f g i d e w' := by
  cases hp : putB K n f g i d
  · exact (sHeapPut_no K a n cap f g i d w h hp).mono fun e w' q => .inl ⟨hp, q⟩
  · have hq := hp
    unfold putB at hq
    rw [Bool.and_eq_true] at hq
    have hK : KOk true K n := by
      intro _
      have hv := hq.1
      unfold heapB inB at hv
      simp only [Bool.and_eq_true, decide_eq_true_eq] at hv
      exact hv.1
    refine (sHeapPut_ok K a n cap f g i d w hK h (hide fun w1 hb => ?_) (hide fun w1 => ?_)).mono fun e w' q => .inr ⟨hp, q⟩
    · have := sHeapOk_any K a n cap f g w1 (h.below hb)
      rwa [hq.1] at this
    · have := sNearOk_any i d w1
      rwa [hq.2] at this
end Go.Proofs.Ytkonckgapicdfaa
