/- slices.Grow at Nears: room for n, onto nothing. -/
import Derived.Test.YtjliecggfncelaaZ27
import Derived.Deep.AppendSrc
import Derived.BigQuiet
import Derived.Deep.QuietTactic
namespace Go.Proofs.Ytjliecggfncelaa
open Go.RowKit
set_option maxRecDepth 8000
set_option linter.unusedSimpArgs false
set_option linter.unusedVariables false

/-- An append whose run is known by an equation, of two types. -/
theorem wpList_append_run2 {P : Program} {ops : Array Oper} {rest : List Oper} {o : Oper} {a : Act} {w : World} {Q : Exit → Act → World → Prop} (hgd : o.guard = none) (s x : Operand) (t tx : TypeId)
    (ho : o.op = .call { callee := .builtin .append, args := #[s, x], argTypes := #[t, tx] }) (v u : Value) (hs : a.eval s = v) (hx : a.eval x = u) (v' : Value) (w' : World)
    (hr : (Builtin.append_ #[t, tx] o.type #[v, u]).run P w = .ok v' w') (h : wpList P ops Q rest (a.put o.dst v') w') : wpList P ops Q (o :: rest) a w :=
  wpList_plain hgd fun K hK => by
    unfold Oper.wp execOp
    simp only [ho, resolve, invoke, builtin, Sem.run_bind, Sem.run_pure, Result.andThen_ok, List.map_toArray, List.map_cons, List.map_nil, hs, hx, hr]
    exact hK _ _ h

/-- An append of n zeros onto nothing. -/
theorem run_app_zeros {P : Program} (w : World) (t tx ty e : TypeId) (k : IntKind) (i : TypeInfo) (z : Value) (ht : P.underlying t = some (.slice e)) (hx : P.underlying tx = some (.int k)) (hi : P.info? e = some i) (hz : i.zero = some z) (hs : i.size = 2) (hb : i.bytes = 16) (base : Option Addr) (n : Nat) (h0 : 0 < n) (hn : n ≤ 1000) :
    (Builtin.append_ #[t, tx] ty #[.slice base 0 0, .int .i64 (n : Int)]).run P w =
      .ok (.slice (some ⟨w.heap.size, 0, none⟩) n (grownCap w n 0 e)) (w.drew.alloc (.cells (Builtin.zeroCells z.cells n ++ Builtin.zeroCells z.cells (grownCap w n 0 e - n)) e)) := by
  have hw : IntKind.i64.wrap (n : Int) = (n : Int) := wrapIn _ (by omega) (by omega)
  have h1 : ¬ ((n : Int) < 0) := by omega
  have h2 : ¬ (281474976710656 < (n : Int) * 16) := by omega
  have hcap : Builtin.nextslicecap n 0 = n := nextslicecap_zero h0
  have hne : ¬ n ≤ 0 := by omega
  have h63 : ¬ (9223372036854775807 < (n : Int)) := by omega
  have h48 : ¬ (281474976710656 < n * 16) := by omega
  have hold : ∀ w' : World, (Builtin.firstCells 2 0 (.slice base 0 0)).run P w' = .ok #[] w' := fun w' => by
    have hlc : ∀ (x : Addr), (loadCells x 0).run P w' = .ok #[] w' := fun x => by simpa using run_loadCells_list (P := P) w' x [] (by simp)
    cases base <;> simp [Builtin.firstCells, hlc]
  simp [Builtin.append_, run_underlying ht, run_underlying hx, sizeOf, typeInfo, zeroValue, hi, hz, hs, hb, asInt, asIntOf, hw, h1, h2, hcap, hne, h63, h48, Question.forced, hold, newRow, grownCap, show ¬ n * 2 = 0 by omega]
  intro h
  omega

theorem zero_size (z : Value) (hz : z.cells.size = 2) (n : Nat) : (Builtin.zeroCells z.cells n).size = n * 2 := by simp [Builtin.zeroCells, hz]

/-- Room for some Nears: a row that holds none of them yet. -/
def GrowR (w : World) (n : Nat) (e : Ending) (w' : World) : Prop :=
  ∃ c, e = .returned (.slice (some ⟨w.heap.size, 0, none⟩) 0 c) ∧ (∀ M, RC w' w.heap.size w.heap.size c 0 M) ∧ n ≤ c ∧ Below w.heap.size w w'

set_option maxHeartbeats 1600000 in
theorem grow_some (n : Nat) (w : World) (h0 : 0 < n) (hn : n ≤ 1000) :
    Calls Try.prog 42 #[.slice none 0 0, .int .i64 (n : Int)] w fun e w' => GrowR w n e w' := by
  obtain ⟨i0, hi, hz0, hz1, hz2⟩ := nearInfo2
  have hr := run_app_zeros (P := Try.prog) w 28 3 28 49 .i64 i0 _ Try.underlying28 Try.underlying3 hi hz0 hz1 hz2 none n h0 hn
  obtain ⟨c, hc⟩ : ∃ c, grownCap w n 0 49 = c := ⟨_, rfl⟩
  have hge := grownCap_ge w n 0 49
  have hle := grownCap_le_maxLen w n 0 49 (by unfold maxLen; omega)
  rw [hc] at hr hge hle
  obtain ⟨w1, hw1⟩ : ∃ w1, w.drew.alloc (.cells (Builtin.zeroCells (Value.agg #[.int .i64 0, .int .i64 0]).cells n ++ Builtin.zeroCells (Value.agg #[.int .i64 0, .int .i64 0]).cells (c - n)) 49) = w1 := ⟨_, rfl⟩
  have HRC : Hid (∀ M, RC w1 w.heap.size w.heap.size c 0 M) := hide fun M => by
    rw [← hw1]
    refine ⟨Nat.le_refl _, _, Go.Deep.blk_alloc_new w.drew _, Nat.zero_le _, hle, ?_, fun i hi => absurd hi (by omega)⟩
    rw [Array.size_append, zero_size _ rfl, zero_size _ rfl]
    omega
  have HB : Hid (Below w.heap.size w w1) := hide (by rw [← hw1]; exact balloc (Below.drew (Below.refl _ _)) _)
  rw [hw1] at hr
  have hn0 : ¬ (n : Int) < 0 := by omega
  have hn1 : (0 : Int) < (n : Int) := by omega
  have hc0 : (0 : Int) ≤ (c : Int) := by omega
  clear hw1 hc hi
  go_enter Try.func42, Try.ntmps42
  go_wp2_with (at_builtin; refine wpList_append_run2 rfl _ _ 28 3 rfl _ _ rfl rfl _ _ hr ?_)
  go_ret
  exact ⟨c, rfl, HRC.out, hge, HB.out⟩
end Go.Proofs.Ytjliecggfncelaa

/- slices.Concat at two slices of Nears. -/
namespace Go.Proofs.Ytjliecggfncelaa
open Go.RowKit
set_option maxRecDepth 8000
set_option linter.unusedSimpArgs false
set_option linter.unusedVariables false

/-- The first m of M, then those of f and g. -/
def joinL (m : Nat) (M : NL) (f g : Nat → Int) : NL := fun i => if i < m then M i else (f (i - m), g (i - m))

theorem RC.same {w : World} {base g cap k : Nat} {M N : NL} (h : RC w base g cap k M) (e : ∀ i, i < k → M i = N i) : RC w base g cap k N := by
  obtain ⟨hb, cur, h1, h2, h3, h4, h5⟩ := h
  exact ⟨hb, cur, h1, h2, h3, h4, fun i hi => e i hi ▸ h5 i hi⟩

theorem RC.ofOwns {w : World} {base g cap k : Nat} {M : NL} (h : w.ownsRow base 49 2 (.slice (some ⟨g, 0, none⟩) k cap) k (nlv M k)) : RC w base g cap k M := by
  rcases h.2 with ⟨h0, _⟩ | ⟨g', cap', cur, hv, hb, hg, hcap, hm, hsz, htake⟩
  · cases h0
  · simp only [Value.slice.injEq, Option.some.injEq, Addr.mk.injEq] at hv
    obtain ⟨⟨rfl, _⟩, _, rfl⟩ := hv
    have hat : ∀ j, j < k * 2 → cur[j]? = (nlv M k)[j]? := by
      intro j hj
      rw [← htake, List.getElem?_take_of_lt hj, Array.getElem?_toList]
    refine ⟨hb, cur, hg, hcap, hm, hsz, fun i hi => ?_⟩
    rw [hat (i * 2) (by omega), hat (i * 2 + 1) (by omega)]
    exact nlv_at M hi

theorem nlv_join (m n : Nat) (M : NL) (f g : Nat → Int) : nlv (joinL m M f g) (m + n) = nlv M m ++ pcells n f g := by
  apply List.ext_getElem?
  intro j
  by_cases h1 : j < m * 2
  · rw [List.getElem?_append_left (by rw [nlv_len]; exact h1)]
    have e1 := nlv_at (joinL m M f g) (k := m + n) (i := j / 2) (by omega)
    have e2 := nlv_at M (k := m) (i := j / 2) (by omega)
    have ej : joinL m M f g (j / 2) = M (j / 2) := by unfold joinL; rw [if_pos (by omega)]
    rw [ej] at e1
    rcases (show j % 2 = 0 ∨ j % 2 = 1 by omega) with h2 | h2
    · rw [show j = j / 2 * 2 by omega, e1.1, e2.1]
    · rw [show j = j / 2 * 2 + 1 by omega, e1.2, e2.2]
  · by_cases h2 : j < (m + n) * 2
    · rw [List.getElem?_append_right (by rw [nlv_len]; omega), nlv_len]
      have e1 := nlv_at (joinL m M f g) (k := m + n) (i := j / 2) (by omega)
      have ej : joinL m M f g (j / 2) = (f (j / 2 - m), g (j / 2 - m)) := by unfold joinL; rw [if_neg (by omega)]
      rw [ej] at e1
      have e2 : (pcells n f g)[j - m * 2]? = some (pcell f g (j - m * 2)) := by unfold pcells; rw [List.getElem?_map, List.getElem?_range (by omega)]; rfl
      rw [e2]
      rcases (show j % 2 = 0 ∨ j % 2 = 1 by omega) with h3 | h3
      · rw [show j - m * 2 = (j / 2 - m) * 2 by omega, pcell_lo]
        rw [show j = j / 2 * 2 by omega]
        rw [show j / 2 * 2 / 2 = j / 2 by omega]
        exact e1.1
      · rw [show j - m * 2 = (j / 2 - m) * 2 + 1 by omega, pcell_hi]
        rw [show j = j / 2 * 2 + 1 by omega]
        rw [show (j / 2 * 2 + 1) / 2 = j / 2 by omega]
        exact e1.2
    · rw [List.getElem?_eq_none (by rw [nlv_len]; omega), List.getElem?_eq_none (by rw [List.length_append, nlv_len, pcells_len]; omega)]

/-- A slice of Nears is appended to a row of the call's own. -/
theorem app_part {w : World} {base g cap m : Nat} {M : NL} (h : RC w base g cap m M) (hbase : base ≤ w.heap.size) (a : Option Addr) (n c : Nat) (f g' : Nat → Int) (hp : PRow w a n f g') (hn : m + n ≤ 1000) :
    ∃ g2 c2 w2, (Builtin.append_ #[28, 28] 28 #[.slice (some ⟨g, 0, none⟩) m cap, .slice a n c]).run Try.prog w = .ok (.slice (some ⟨g2, 0, none⟩) (m + n) c2) w2 ∧ RC w2 base g2 c2 (m + n) (joinL m M f g') ∧ Below base w w2 := by
  obtain ⟨i0, hi, hz0, hz1, hz2⟩ := nearInfo2
  by_cases h0 : n = 0
  · subst h0
    refine ⟨g, cap, w, ?_, h.same fun i hi => by unfold joinL; rw [if_pos (by omega)], Below.refl _ _⟩
    have hmc : m ≤ cap := by obtain ⟨_, cur, _, hk, _⟩ := h; exact hk
    have hlc : ∀ (x : Addr), (loadCells x 0).run Try.prog w = .ok #[] w := fun x => by simpa using run_loadCells_list (P := Try.prog) w x [] (by simp)
    cases a <;> simp [Builtin.append_, run_underlying Try.underlying28, sizeOf, typeInfo, hi, Builtin.firstCells, Builtin.lenOf, storeCells, hlc, hmc]
  · rcases hp.lies with q | ⟨b, off, rfl, lt, hc⟩
    · exact absurd q h0
    · obtain ⟨g2, c2, w2, hr, hown, hgrow, hat, hlt⟩ := run_append_lies (P := Try.prog) w 28 28 base 49 i0 _ 2 16 Try.underlying28 hi hz0 hz1 hz2 rfl (by decide) _ _ _ h.owns ⟨b, off, none⟩ n c (pcells n f g') (pcells_len n f g') (pcells_src hc) (pcells_one n f g') (by omega) (by unfold maxLen; omega) (by omega) hbase _ rfl
      refine ⟨g2, c2, w2, hr, RC.ofOwns (by rw [nlv_join]; exact hown), ?_⟩
      exact (Below.refl _ w).grown hgrow hbase fun k' hk' => by
        simp [Value.ownBlock] at hk'
        have := h.base
        omega

/-- Two slices of Nears, laid beside each other. -/
structure Pair2 (w : World) (pb : Nat) (a1 a2 : Option Addr) (n1 n2 c1 c2 : Nat) : Prop where
  lt : pb < w.heap.size
  p0 : w.cell? ⟨pb, 0, none⟩ = some (.slice a1 n1 c1)
  p1 : w.cell? ⟨pb, 1, none⟩ = some (.slice a2 n2 c2)

theorem Pair2.low {w w' : World} {X pb : Nat} {a1 a2 : Option Addr} {n1 n2 c1 c2 : Nat} (h : Pair2 w pb a1 a2 n1 n2 c1 c2) (hb : Below X w w') (hX : pb < X) : Pair2 w' pb a1 a2 n1 n2 c1 c2 :=
  ⟨Nat.lt_of_lt_of_le h.lt hb.size, (hb.cell (p := ⟨pb, 0, none⟩) hX).trans h.p0, (hb.cell (p := ⟨pb, 1, none⟩) hX).trans h.p1⟩

theorem PRow.low {w w' : World} {X : Nat} {a : Option Addr} {n : Nat} {f g : Nat → Int} (h : PRow w a n f g) (hX : X = w.heap.size) (hb : Below X w w') : PRow w' a n f g := by subst hX; exact h.below hb

/-- The answer of Concat. -/
def ConR (w : World) (n : Nat) (A : NL) (e : Ending) (w' : World) : Prop :=
  ∃ a cap, e = .returned (.slice a n cap) ∧ Wr w' a n A w.heap.size ∧ n ≤ cap ∧ Below w.heap.size w w'

set_option maxHeartbeats 8000000 in
set_option maxRecDepth 4000 in
theorem concat_some (pb : Nat) (a1 a2 : Option Addr) (n1 n2 c1 c2 : Nat) (f1 g1 f2 g2 : Nat → Int) (w : World) (hp : Pair2 w pb a1 a2 n1 n2 c1 c2) (h1 : PRow w a1 n1 f1 g1) (h2 : PRow w a2 n2 f2 g2) (hn1 : n1 ≤ 20) (hn2 : n2 ≤ 20) (h0 : 0 < n1 + n2) :
    Calls Try.prog 24 #[.slice (some ⟨pb, 0, none⟩) 2 2] w fun e w' => ConR w (n1 + n2) (joinL n1 (joinL 0 (fun _ => (0, 0)) f1 g1) f2 g2) e w' := by
  obtain ⟨s, hs⟩ : ∃ s, n1 + n2 = s := ⟨_, rfl⟩
  have hsi : (n1 : Int) + (n2 : Int) = (s : Int) := by omega
  have GR := hide (grow_some s w (by omega) (by omega))
  obtain ⟨_, p0, p1⟩ := id hp
  have e1 : ¬ (n1 : Int) < 0 := by omega
  have e2 : ¬ (s : Int) < 0 := by omega
  have HP := hide hp
  have HH1 := hide h1
  have HH2 := hide h2
  have HS := hide hs
  clear hp h1 h2 hs
  go_enter Try.func24, Try.ntmps24
  go_wp2_with fail
  refine wp_loop_rounds 3 ?_
  rw [rounds_succ]
  go_wp2_with fail
  rw [rounds_succ]
  go_wp2_with fail
  rw [rounds_succ]
  go_wp2_with fail
  refine GR.out.mono ?_
  rintro e w1 ⟨c, rfl, hrc, hsc, b1⟩
  have HP1 := hide (HP.out.low b1 HP.out.lt)
  obtain ⟨g3, c3, w3, hr3, hrc3, b3⟩ := app_part (hrc (fun _ => (0, 0))) b1.size a1 n1 c1 f1 g1 (HH1.out.below b1) (by omega)
  have bw3 : Below w.heap.size w w3 := b1.trans b3
  obtain ⟨g4, c4, w4, hr4, hrc4, b4⟩ := app_part hrc3 bw3.size a2 n2 c2 f2 g2 (HH2.out.below bw3) (by omega)
  have bw4 : Below w.heap.size w w4 := bw3.trans b4
  obtain ⟨_, q0, q1⟩ := HP1.out
  obtain ⟨_, r0, r1⟩ := HP.out.low bw3 HP.out.lt
  simp only [Nat.zero_add] at hr3 hr4 hrc4
  have HR4 := hide hrc4
  have HB4 := hide bw4
  clear hrc hrc3 hrc4 b1 b3 b4 bw3 bw4 p0 p1
  go_wp2_with fail
  refine wp_loop_rounds 3 ?_
  rw [rounds_succ]
  go_wp2_with (at_builtin; refine wpList_append_run2 rfl _ _ 28 28 rfl _ _ rfl rfl _ _ hr3 ?_)
  rw [rounds_succ]
  go_wp2_with (at_builtin; refine wpList_append_run2 rfl _ _ 28 28 rfl _ _ rfl rfl _ _ hr4 ?_)
  rw [rounds_succ]
  go_wp2_with fail
  go_ret
  refine ⟨some ⟨g4, 0, none⟩, c4, ?_, ?_, ?_, HB4.out⟩
  · rfl
  · exact .inr ⟨g4, rfl, HR4.out.base, HR4.out.rowl⟩
  · obtain ⟨_, cur, _, hk, _⟩ := HR4.out
    exact hk
end Go.Proofs.Ytjliecggfncelaa

/- nearsApart of the program: slices.IndexFunc, ContainsFunc; Merged of the program. -/
namespace Go.Proofs.Ytjliecggfncelaa
open Go.RowKit
set_option maxRecDepth 8000
set_option linter.unusedSimpArgs false
set_option linter.unusedVariables false

set_option maxHeartbeats 800000 in
theorem apart1_any (nb : Nat) (x : Int) (y : Int × Int) (w : World) (hl : nb < w.heap.size) (h : w.cell? ⟨nb, 0, none⟩ = some (.int .i64 x)) :
    Calls Try.prog 44 #[.agg #[.int .i64 y.1, .int .i64 y.2], .pointer (some ⟨nb, 0, none⟩)] w fun e w' => e = .returned (.bool (y.1 == x)) ∧ Below w.heap.size w w' := by
  have hne : nb ≠ w.heap.size := by omega
  go_enter Try.func44, Try.ntmps44
  go_wp2_with fail
  go_ret
  exact ⟨rfl, (by repeat' first | with_reducible exact Below.refl _ _ | with_reducible assumption | with_reducible refine below_drewN ?_ _ | with_reducible refine balloc ?_ _ | with_reducible refine Below.drew ?_ | with_reducible refine Below.setCell ?_ (by first | (simp; done) | (simp; omega) | omega) _ | with_reducible refine bstep ?_ (by assumption))⟩

/-- Whether one of the first k has that id. -/
def hasId (A : NL) (x : Int) (k : Nat) : Bool := (List.range k).any fun j => (A j).1 == x

theorem hasId_yes {A : NL} {x : Int} {k j : Nat} (hj : j < k) (h : ((A j).1 == x) = true) : hasId A x k = true := by
  unfold hasId
  rw [List.any_eq_true]
  exact ⟨j, by simpa using hj, h⟩

theorem hasId_no {A : NL} {x : Int} {k : Nat} (h : ∀ j, j < k → ((A j).1 == x) = false) : hasId A x k = false := by
  unfold hasId
  rw [List.any_eq_false]
  intro j hj
  rw [h j (by simpa using hj)]
  simp

set_option maxHeartbeats 1600000 in
theorem containsFunc_any (b off k cap nb : Nat) (x : Int) (A : NL) (w : World) (hk : k ≤ 60) (hl : nb < w.heap.size) (h : w.cell? ⟨nb, 0, none⟩ = some (.int .i64 x)) (hb : b < w.heap.size) (hc : ∀ i, i < k → w.cell? ⟨b, off + i * 2, none⟩ = some (.int .i64 (A i).1) ∧ w.cell? ⟨b, off + i * 2 + 1, none⟩ = some (.int .i64 (A i).2)) :
    Calls Try.prog 58 #[.slice (some ⟨b, off, none⟩) k cap, .func (.func 44) #[] #[.pointer (some ⟨nb, 0, none⟩)]] w fun e w' => ∃ r : Int, e = .returned (.int .i64 r) ∧ decide (0 ≤ r) = hasId A x k ∧ Below w.heap.size w w' := by
  have HC := hide hc
  clear hc
  go_enter Try.func58, Try.ntmps58
  go_wp2_with fail
  go_loopw [8] (fun i wr => ∃ j : Nat, j ≤ k ∧ i = .int .i64 j ∧ (∀ t, t < j → ((A t).1 == x) = false) ∧ Below w.heap.size w wr) (fun i _ => k - (intOf i).toNat)
  case atStart => exact ⟨0, Nat.zero_le _, rfl, fun t ht => absurd ht (by omega), (by repeat' first | with_reducible exact Below.refl _ _ | with_reducible assumption | with_reducible refine below_drewN ?_ _ | with_reducible refine balloc ?_ _ | with_reducible refine Below.drew ?_ | with_reducible refine Below.setCell ?_ (by first | (simp; done) | (simp; omega) | omega) _ | with_reducible refine bstep ?_ (by assumption))⟩
  case round =>
    obtain ⟨j, hj, rfl, hpre, hbel⟩ := hrel
    have HP := hide hpre
    have HB := hide hbel
    by_cases hlt : j < k
    · have hlt' : (j : Int) < (k : Int) := by omega
      have c0 := (hbel.cell (p := ⟨b, off + j * 2, none⟩) hb).trans (HC.out j hlt).1
      have c1 := (hbel.cell (p := ⟨b, off + j * 2 + 1, none⟩) hb).trans (HC.out j hlt).2
      have CL := hide (apart1_any nb x (A j) wr (Nat.lt_of_lt_of_le hl hbel.size) ((hbel.cell (p := ⟨nb, 0, none⟩) hl).trans h))
      obtain ⟨u, hu⟩ : ∃ u, ((A j).1 == x) = u := ⟨_, rfl⟩
      rw [hu] at CL
      have HU := hide hu
      clear hpre hbel hu h
      go_wp2_with fail
      refine CL.out.mono ?_
      rintro e w1 ⟨rfl, b1⟩
      cases u
      · go_wp2_with fail
        go_roundw
        case rel => exact ⟨j + 1, by omega, by go_num, fun t ht => (by rcases Nat.lt_succ_iff_lt_or_eq.1 ht with h | h; exact HP.out t h; rw [h]; exact HU.out), bstep HB.out b1⟩
        case measure => simp [intOf]; omega
      · have E := hide (hasId_yes hlt HU.out)
        go_wp2_with fail
        go_ret
        exact ⟨j, rfl, by rw [E.out]; exact decide_eq_true (by omega), bstep HB.out b1⟩
    · obtain rfl : j = k := by omega
      have E := hide (hasId_no hpre)
      clear hpre hbel
      go_wp2_with fail
      go_ret
      exact ⟨-1, rfl, by rw [E.out]; rfl, HB.out⟩

set_option maxHeartbeats 800000 in
theorem contains_any (b off k cap nb : Nat) (x : Int) (A : NL) (w : World) (hk : k ≤ 60) (hl : nb < w.heap.size) (h : w.cell? ⟨nb, 0, none⟩ = some (.int .i64 x)) (hb : b < w.heap.size) (hc : ∀ i, i < k → w.cell? ⟨b, off + i * 2, none⟩ = some (.int .i64 (A i).1) ∧ w.cell? ⟨b, off + i * 2 + 1, none⟩ = some (.int .i64 (A i).2)) :
    Calls Try.prog 43 #[.slice (some ⟨b, off, none⟩) k cap, .func (.func 44) #[] #[.pointer (some ⟨nb, 0, none⟩)]] w fun e w' => e = .returned (.bool (hasId A x k)) ∧ Below w.heap.size w w' := by
  have I := hide (containsFunc_any b off k cap nb x A w hk hl h hb hc)
  clear hc h
  go_enter Try.func43, Try.ntmps43
  go_wp2_with fail
  refine I.out.mono ?_
  rintro e w1 ⟨r, rfl, hr, b1⟩
  have HR := hide hr
  clear hr
  go_wp2_with fail
  go_ret
  exact ⟨by rw [← HR.out]; rfl, b1⟩

/-- Whether all are right, and no two have one id. -/
def apAt (A : NL) (i : Nat) : Bool := nearB (A i).1 (A i).2 && !hasId A (A i).1 i
def apB (A : NL) (N : Nat) : Bool := allN N (apAt A)

set_option maxHeartbeats 4000000 in
set_option maxRecDepth 4000 in
theorem nearsApart_any (b N cap : Nat) (A : NL) (w : World) (hN : N ≤ 60) (hcap : N ≤ cap) (hr : RowL w b N A) :
    Calls Try.prog 25 #[.slice (some ⟨b, 0, none⟩) N cap] w fun e w' => e = .returned (.bool (apB A N)) ∧ Below w.heap.size w w' := by
  have HR := hide hr
  have lb := hr.lt
  clear hr
  go_enter Try.func25, Try.ntmps25
  go_wp2_with fail
  go_loopw [8] (fun i wr => ∃ j : Nat, j ≤ N ∧ i = .int .i64 j ∧ (∀ t, t < j → apAt A t = true) ∧ Below w.heap.size w wr) (fun i _ => N - (intOf i).toNat)
  case atStart => exact ⟨0, Nat.zero_le _, rfl, fun t ht => absurd ht (by omega), (by repeat' first | with_reducible exact Below.refl _ _ | with_reducible assumption | with_reducible refine below_drewN ?_ _ | with_reducible refine balloc ?_ _ | with_reducible refine Below.drew ?_ | with_reducible refine Below.setCell ?_ (by first | (simp; done) | (simp; omega) | omega) _ | with_reducible refine bstep ?_ (by assumption))⟩
  case round =>
    obtain ⟨j, hj, rfl, hpre, hbel⟩ := hrel
    have HP := hide hpre
    have HB := hide hbel
    by_cases hlt : j < N
    · have hlt' : (j : Int) < (N : Int) := by omega
      have hrw := HR.out.below hbel
      have c0 := hrw.c0 hlt
      have c1 := hrw.c1 hlt
      have hjc : (j : Int) ≤ (cap : Int) := by omega
      have bb : Below wr.heap.size wr (wr.alloc (.cells #[.int .i64 (A j).1, .int .i64 (A j).2] 49)) := balloc (Below.refl _ _) _
      have CF := hide (contains_any b 0 j cap wr.heap.size (A j).1 A _ (by omega) (by simp) (by simp [go_sem]) (Nat.lt_of_lt_of_le hrw.lt bb.size) (fun i hi => by rw [Nat.zero_add]; exact ⟨(hrw.below bb).c0 (by omega), (hrw.below bb).c1 (by omega)⟩) : Calls Try.prog 43 #[.slice (some ⟨b, 0, none⟩) j cap, .func (.func 44) #[] #[.pointer (some ⟨wr.heap.size, 0, none⟩)]] (wr.alloc (.cells #[.int .i64 (A j).1, .int .i64 (A j).2] 49)) _)
      have NOK := hide (iNearOk_any (A j).1 (A j).2)
      have HBB := hide bb
      obtain ⟨u, hu⟩ : ∃ u, hasId A (A j).1 j = u := ⟨_, rfl⟩
      obtain ⟨v, hv⟩ : ∃ v, nearB (A j).1 (A j).2 = v := ⟨_, rfl⟩
      have HE := hide (show apAt A j = (v && !u) by unfold apAt; rw [hu, hv])
      rw [hu] at CF
      rw [hv] at NOK
      clear hpre hbel hrw bb hu hv
      go_wp2_with fail
      refine CF.out.mono ?_
      rintro e w1 ⟨rfl, b1⟩
      have bw1 := bstep HBB.out b1
      have q0 : w1.cell? ⟨wr.heap.size, 0, none⟩ = some (.int .i64 (A j).1) := (b1.cell (p := ⟨wr.heap.size, 0, none⟩) (by simp)).trans (by simp [go_sem])
      have q1 : w1.cell? ⟨wr.heap.size, 1, none⟩ = some (.int .i64 (A j).2) := (b1.cell (p := ⟨wr.heap.size, 1, none⟩) (by simp)).trans (by simp [go_sem])
      cases u
      · go_wp2_with fail
        refine (NOK.out _).mono ?_
        rintro e w2 ⟨rfl, b2⟩
        cases v
        · have E := hide (show apB A N = false from allN_no hlt HE.out)
          go_wp2_with fail
          go_ret
          exact ⟨by rw [E.out]; rfl, bstep (bstep HB.out bw1) b2⟩
        · go_wp2_with fail
          go_roundw
          case rel => exact ⟨j + 1, by omega, by go_num, fun t ht => (by rcases Nat.lt_succ_iff_lt_or_eq.1 ht with h | h; exact HP.out t h; rw [h]; exact HE.out), bstep (bstep HB.out bw1) b2⟩
          case measure => simp [intOf]; omega
      · have E := hide (show apB A N = false from allN_no hlt (by rw [HE.out]; cases v <;> rfl))
        go_wp2_with fail
        go_ret
        exact ⟨by rw [E.out]; rfl, bstep HB.out bw1⟩
    · obtain rfl : j = N := by omega
      have E := hide (show apB A j = true from allN_yes hpre)
      clear hpre hbel
      go_wp2_with fail
      go_ret
      exact ⟨by rw [E.out]; rfl, HB.out⟩
end Go.Proofs.Ytjliecggfncelaa

/- Merged of the program. -/
namespace Go.Proofs.Ytjliecggfncelaa
open Go.RowKit
set_option maxRecDepth 8000
set_option linter.unusedSimpArgs false
set_option linter.unusedVariables false

set_option maxHeartbeats 400000 in
theorem grow_none (w : World) :
    Calls Try.prog 42 #[.slice none 0 0, .int .i64 0] w fun e w' => e = .returned (.slice none 0 0) ∧ w' = w := by
  go_enter Try.func42, Try.ntmps42
  go_wp2_with fail
  go_ret
  exact ⟨rfl, rfl⟩

theorem app_none (w : World) (a : Option Addr) (c : Nat) : (Builtin.append_ #[28, 28] 28 #[.slice none 0 0, .slice a 0 c]).run Try.prog w = .ok (.slice none 0 0) w := by
  obtain ⟨i0, hi, hz0, hz1, hz2⟩ := nearInfo2
  have hlc : ∀ (x : Addr), (loadCells x 0).run Try.prog w = .ok #[] w := fun x => by simpa using run_loadCells_list (P := Try.prog) w x [] (by simp)
  cases a <;> simp [Builtin.append_, run_underlying Try.underlying28, sizeOf, typeInfo, hi, Builtin.firstCells, Builtin.lenOf, storeCells, hlc]

set_option maxHeartbeats 4000000 in
set_option maxRecDepth 4000 in
theorem concat_none (pb : Nat) (a1 a2 : Option Addr) (c1 c2 : Nat) (w : World) (hp : Pair2 w pb a1 a2 0 0 c1 c2) :
    Calls Try.prog 24 #[.slice (some ⟨pb, 0, none⟩) 2 2] w fun e w' => e = .returned (.slice none 0 0) ∧ w' = w := by
  have GR := hide (grow_none w)
  obtain ⟨_, p0, p1⟩ := hp
  have r1 := app_none w a1 c1
  have r2 := app_none w a2 c2
  go_enter Try.func24, Try.ntmps24
  go_wp2_with fail
  refine wp_loop_rounds 3 ?_
  rw [rounds_succ]
  go_wp2_with fail
  rw [rounds_succ]
  go_wp2_with fail
  rw [rounds_succ]
  go_wp2_with fail
  refine GR.out.mono ?_
  rintro e w1 ⟨rfl, hw⟩
  have hw' := hw.symm
  subst hw'
  go_wp2_with fail
  refine wp_loop_rounds 3 ?_
  rw [rounds_succ]
  go_wp2_with (at_builtin; refine wpList_append_run2 rfl _ _ 28 28 rfl _ _ rfl rfl _ _ r1 ?_)
  rw [rounds_succ]
  go_wp2_with (at_builtin; refine wpList_append_run2 rfl _ _ 28 28 rfl _ _ rfl rfl _ _ r2 ?_)
  rw [rounds_succ]
  go_wp2_with fail
  go_ret
  exact ⟨rfl, rfl⟩

set_option maxHeartbeats 400000 in
theorem nearsApart_none (w : World) :
    Calls Try.prog 25 #[.slice none 0 0] w fun e w' => e = .returned (.bool true) ∧ w' = w := by
  go_enter Try.func25, Try.ntmps25
  go_wp2_with fail
  refine wp_loop_rounds 1 ?_
  rw [rounds_succ]
  go_wp2_with fail
  go_ret
  exact ⟨rfl, rfl⟩

set_option maxHeartbeats 800000 in
theorem leastOf_none (K : Nat) (A : NL) (w : World) (h1 : 1 ≤ K) (h20 : K ≤ 20) :
    Calls Try.prog 26 #[.slice none 0 0, .int .i64 K] w fun e w' => LeastR w K 0 A e w' := by
  have hok := (Keep.zero K A (fun _ => (0, 0))).ok (fun t ht => absurd ht (by omega)) h1 h20
  have SO := hide (fun w1 => iHeapSorted_yes K none 0 0 (fun i => ((fun _ => (0, 0)) i : Int × Int).1) (fun i => ((fun _ => (0, 0)) i : Int × Int).2) w1 ⟨.inl rfl⟩ hok (by omega))
  go_enter Try.func26, Try.ntmps26
  go_wp2_with fail
  refine wp_loop_rounds 1 ?_
  rw [rounds_succ]
  go_wp2_with fail
  refine (SO.out _).mono ?_
  rintro e w1 ⟨b2, rfl, hle2, hown2, hb1⟩
  clear hown2
  go_wp2_with fail
  go_ret
  exact ⟨some ⟨b2, 0, none⟩, 0, by rw [Nat.min_zero]; rfl, .inl (Nat.min_zero _), (by repeat' first | with_reducible exact Below.refl _ _ | with_reducible assumption | with_reducible refine below_drewN ?_ _ | with_reducible refine balloc ?_ _ | with_reducible refine Below.drew ?_ | with_reducible refine Below.setCell ?_ (by first | (simp; done) | (simp; omega) | omega) _ | with_reducible refine bstep ?_ (by assumption))⟩

/-- Merged, plain. -/
def mrgA (n1 : Nat) (f1 g1 f2 g2 : Nat → Int) : NL := joinL n1 (joinL 0 (fun _ => (0, 0)) f1 g1) f2 g2
def mrgB (k : Int) (n1 n2 : Nat) (f1 g1 f2 g2 : Nat → Int) : Bool := inB k 1 20 && decide (n1 ≤ 20) && decide (n2 ≤ 20) && apB (mrgA n1 f1 g1 f2 g2) (n1 + n2)
def mrgM (k : Int) (n1 n2 : Nat) (f1 g1 f2 g2 : Nat → Int) : Nat := if mrgB k n1 n2 f1 g1 f2 g2 then min k.toNat (n1 + n2) else 0
/-- The answer of Merged. -/
def OutM (w : World) (m : Nat) (A : NL) (e : Ending) (w' : World) : Prop :=
  ∃ a cap, e = .returned (.slice a m cap) ∧ Wr w' a m A w.heap.size ∧ Below w.heap.size w w'

theorem outM_nil {w w' : World} {A : NL} {e : Ending} (he : e = .returned (.slice none 0 0)) (hb : Below w.heap.size w w') : OutM w 0 A e w' := ⟨none, 0, he, .inl rfl, hb⟩

theorem Pair2.new (w : World) (a1 a2 : Option Addr) (n1 n2 c1 c2 : Nat) (t : TypeId) : Pair2 (w.alloc (.cells #[.slice a1 n1 c1, .slice a2 n2 c2] t)) w.heap.size a1 a2 n1 n2 c1 c2 := ⟨by simp, by simp [go_sem], by simp [go_sem]⟩

set_option maxHeartbeats 800000 in
theorem iMerged_few (a1 a2 : Option Addr) (n1 n2 c1 c2 : Nat) (k : Int) (A : NL) (w : World) (hn1 : n1 ≤ 1048576) (hn2 : n2 ≤ 1048576) (hno : (inB k 1 20 && decide (n1 ≤ 20) && decide (n2 ≤ 20)) = false) :
    Calls Try.prog 8 #[.slice a1 n1 c1, .slice a2 n2 c2, .int .i64 k] w fun e w' => OutM w 0 A e w' := by
  have KO := hide (kOk_any k)
  cases h0 : inB k 1 20
  · rw [h0] at KO
    go_enter Try.func8, Try.ntmps8
    go_wp2_with fail
    refine (KO.out _).mono ?_
    rintro e w' ⟨rfl, rfl⟩
    go_wp2_with fail
    go_ret
    exact outM_nil rfl (Below.refl _ _)
  · rw [h0] at KO hno
    by_cases h1 : n1 ≤ 20
    · have h2 : ¬ n2 ≤ 20 := by
        intro h2
        rw [decide_eq_true h1, decide_eq_true h2] at hno
        cases hno
      have h1' : ¬ (20 : Int) < (n1 : Int) := by omega
      have h2' : (20 : Int) < (n2 : Int) := by omega
      clear hno
      go_enter Try.func8, Try.ntmps8
      go_wp2_with fail
      refine (KO.out _).mono ?_
      rintro e w' ⟨rfl, rfl⟩
      go_wp2_with fail
      go_ret
      exact outM_nil rfl (Below.refl _ _)
    · have h1' : (20 : Int) < (n1 : Int) := by omega
      clear hno
      go_enter Try.func8, Try.ntmps8
      go_wp2_with fail
      refine (KO.out _).mono ?_
      rintro e w' ⟨rfl, rfl⟩
      go_wp2_with fail
      go_ret
      exact outM_nil rfl (Below.refl _ _)

set_option maxHeartbeats 2000000 in
theorem iMerged_some (a1 a2 : Option Addr) (n1 n2 c1 c2 : Nat) (K : Nat) (f1 g1 f2 g2 : Nat → Int) (w : World) (h1 : PRow w a1 n1 f1 g1) (h2 : PRow w a2 n2 f2 g2) (hk1 : 1 ≤ K) (hk20 : K ≤ 20) (hn1 : n1 ≤ 20) (hn2 : n2 ≤ 20) :
    Calls Try.prog 8 #[.slice a1 n1 c1, .slice a2 n2 c2, .int .i64 K] w fun e w' => OutM w (if apB (mrgA n1 f1 g1 f2 g2) (n1 + n2) then min K (n1 + n2) else 0) (isortL (n1 + n2) (mrgA n1 f1 g1 f2 g2)) e w' := by
  have KO := hide (kOk_any K)
  rw [show inB (K : Int) 1 20 = true from decide_eq_true (by omega)] at KO
  have h1' : ¬ (20 : Int) < (n1 : Int) := by omega
  have h2' : ¬ (20 : Int) < (n2 : Int) := by omega
  have bb : Below w.heap.size w (w.alloc (.cells #[.slice a1 n1 c1, .slice a2 n2 c2] 28)) := balloc (Below.refl _ _) _
  by_cases h0 : n1 + n2 = 0
  · obtain rfl : n1 = 0 := by omega
    obtain rfl : n2 = 0 := by omega
    have CN := hide (concat_none w.heap.size a1 a2 c1 c2 _ (Pair2.new w a1 a2 0 0 c1 c2 28))
    have NA := hide nearsApart_none
    have LO := hide (fun w1 => leastOf_none K (mrgA 0 f1 g1 f2 g2) w1 hk1 hk20)
    rw [show apB (mrgA 0 f1 g1 f2 g2) (0 + 0) = true from rfl, if_pos rfl, Nat.min_zero]
    simp only [LeastR, Nat.min_zero] at LO
    have HBB := hide bb
    clear h1 h2 bb
    go_enter Try.func8, Try.ntmps8
    go_wp2_with fail
    refine (KO.out _).mono ?_
    rintro e w' ⟨rfl, hw'⟩
    have hw := hw'.symm
    subst hw
    go_wp2_with fail
    refine CN.out.mono ?_
    rintro e w1 ⟨rfl, hw1⟩
    subst hw1
    go_wp2_with fail
    refine (NA.out _).mono ?_
    rintro e w2 ⟨rfl, hw2⟩
    subst hw2
    go_wp2_with fail
    refine (LO.out _).mono ?_
    rintro e w3 ⟨a3, c3, rfl, hw3, b3⟩
    clear hw3
    go_wp2_with fail
    go_ret
    exact ⟨a3, c3, rfl, .inl rfl, bstep HBB.out b3⟩
  · have CN := hide (concat_some w.heap.size a1 a2 n1 n2 c1 c2 f1 g1 f2 g2 _ (Pair2.new w a1 a2 n1 n2 c1 c2 28) (h1.below bb) (h2.below bb) hn1 hn2 (by omega))
    rw [show joinL n1 (joinL 0 (fun _ => (0, 0)) f1 g1) f2 g2 = mrgA n1 f1 g1 f2 g2 from rfl] at CN
    generalize mrgA n1 f1 g1 f2 g2 = A at *
    obtain ⟨N, hN⟩ : ∃ N, n1 + n2 = N := ⟨_, rfl⟩
    rw [hN] at CN h0 ⊢
    have hN40 : N ≤ 40 := by omega
    have NA := hide (fun b cap w1 (hc : N ≤ cap) (hr : RowL w1 b N A) => nearsApart_any b N cap A w1 (by omega) hc hr)
    have LO := hide (fun b cap w1 (hap : apB A N = true) (hr : RowL w1 b N A) => leastOf_some b 0 N cap K A w1 hk1 hk20 (by omega) (fun t ht => by
      have := allN_at hap ht
      unfold apAt at this
      rw [Bool.and_eq_true] at this
      exact this.1) hr.lt (fun i hi => by rw [Nat.zero_add]; exact ⟨hr.c0 hi, hr.c1 hi⟩))
    have HBB := hide bb
    clear h1 h2 bb hN
    cases hap : apB A N
    · simp only [hap] at NA
      rw [if_neg (by decide)]
      clear hap
      go_enter Try.func8, Try.ntmps8
      go_wp2_with fail
      refine (KO.out _).mono ?_
      rintro e w' ⟨rfl, hw'⟩
      have hw := hw'.symm
      subst hw
      go_wp2_with fail
      refine CN.out.mono ?_
      rintro e w1 ⟨a3, c3, rfl, hw1, hc3, b1⟩
      rcases hw1 with hz | ⟨b, rfl, hB, hr⟩
      · exact absurd hz h0
      go_wp2_with fail
      refine (NA.out _ _ _ hc3 hr).mono ?_
      rintro e w2 ⟨rfl, b2⟩
      go_wp2_with fail
      go_ret
      exact outM_nil rfl (bstep (bstep HBB.out b1) b2)
    · simp only [hap] at NA
      have LO := hide (fun b cap w1 hr => LO.out b cap w1 hap hr)
      rw [if_pos rfl]
      obtain ⟨t, ht⟩ : ∃ t, min K N = t := ⟨_, rfl⟩
      simp only [LeastR, ht] at LO
      rw [ht]
      clear hap ht
      go_enter Try.func8, Try.ntmps8
      go_wp2_with fail
      refine (KO.out _).mono ?_
      rintro e w' ⟨rfl, hw'⟩
      have hw := hw'.symm
      subst hw
      go_wp2_with fail
      refine CN.out.mono ?_
      rintro e w1 ⟨a3, c3, rfl, hw1, hc3, b1⟩
      rcases hw1 with hz | ⟨b, rfl, hB, hr⟩
      · exact absurd hz h0
      go_wp2_with fail
      refine (NA.out _ _ _ hc3 hr).mono ?_
      rintro e w2 ⟨rfl, b2⟩
      have bw2 := bstep (bstep HBB.out b1) b2
      go_wp2_with fail
      refine (LO.out _ _ _ (hr.below b2)).mono ?_
      rintro e w3 ⟨a4, c4, rfl, hw4, b4⟩
      have HW4 := hide hw4
      clear hw4 hr b1 b2
      go_wp2_with fail
      go_ret
      refine ⟨a4, c4, rfl, ?_, bstep bw2 b4⟩
      rcases HW4.out with hz | ⟨b', e', hB', hr'⟩
      · exact .inl hz
      · exact .inr ⟨b', e', Nat.le_trans bw2.size hB', hr'⟩

theorem iMerged_any (a1 a2 : Option Addr) (n1 n2 c1 c2 : Nat) (k : Int) (f1 g1 f2 g2 : Nat → Int) (w : World) (h1 : PRow w a1 n1 f1 g1) (h2 : PRow w a2 n2 f2 g2) (hn1 : n1 ≤ 1048576) (hn2 : n2 ≤ 1048576) :
    Calls Try.prog 8 #[.slice a1 n1 c1, .slice a2 n2 c2, .int .i64 k] w fun e w' => OutM w (mrgM k n1 n2 f1 g1 f2 g2) (isortL (n1 + n2) (mrgA n1 f1 g1 f2 g2)) e w' := by
  unfold mrgM mrgB
  cases hno : (inB k 1 20 && decide (n1 ≤ 20) && decide (n2 ≤ 20))
  · exact iMerged_few a1 a2 n1 n2 c1 c2 k _ w hn1 hn2 hno
  · simp only [Bool.and_eq_true, decide_eq_true_eq] at hno
    have hk := of_decide_eq_true hno.1.1
    obtain ⟨K, rfl⟩ : ∃ K : Nat, k = (K : Int) := ⟨k.toNat, by omega⟩
    have := iMerged_some a1 a2 n1 n2 c1 c2 K f1 g1 f2 g2 w h1 h2 (by omega) (by omega) hno.1.2 hno.2
    simpa using this
end Go.Proofs.Ytjliecggfncelaa

/- Merged of the model. -/
namespace Go.Proofs.Ytjliecggfncelaa
open Go.RowKit
set_option maxRecDepth 8000
set_option linter.unusedSimpArgs false
set_option linter.unusedVariables false

theorem RC.newN (w : World) (A : NL) : RC (w.alloc (.cells #[] 49)) w.heap.size w.heap.size 0 0 A :=
  ⟨Nat.le_refl _, #[], Go.Deep.blk_alloc_new _ _, Nat.le_refl _, Nat.zero_le _, rfl, fun i hi => absurd hi (by omega)⟩

set_option maxHeartbeats 800000 in
theorem sMerged_few (a1 a2 : Option Addr) (n1 n2 c1 c2 : Nat) (k : Int) (A : NL) (w : World) (hn1 : n1 ≤ 1048576) (hn2 : n2 ≤ 1048576) (hno : (inB k 1 20 && decide (n1 ≤ 20) && decide (n2 ≤ 20)) = false) :
    Calls Try.prog 9 #[.slice a1 n1 c1, .slice a2 n2 c2, .int .i64 k] w fun e w' => OutM w 0 A e w' := by
  have KO := hide (fun w1 => l1In_any k 1 20 w1)
  cases h0 : inB k 1 20
  · rw [h0] at KO
    go_enter Try.func9, Try.ntmps9
    go_wp2_with fail
    refine (KO.out _).mono ?_
    rintro e w' ⟨rfl, rfl⟩
    go_wp2_with fail
    go_ret
    exact outM_nil rfl (Below.refl _ _)
  · rw [h0] at KO hno
    by_cases h1 : n1 ≤ 20
    · have h2 : ¬ n2 ≤ 20 := by
        intro h2
        rw [decide_eq_true h1, decide_eq_true h2] at hno
        cases hno
      have h1' : ¬ (20 : Int) < (n1 : Int) := by omega
      have h2' : (20 : Int) < (n2 : Int) := by omega
      clear hno
      go_enter Try.func9, Try.ntmps9
      go_wp2_with fail
      refine (KO.out _).mono ?_
      rintro e w' ⟨rfl, rfl⟩
      go_wp2_with fail
      go_ret
      exact outM_nil rfl (Below.refl _ _)
    · have h1' : (20 : Int) < (n1 : Int) := by omega
      clear hno
      go_enter Try.func9, Try.ntmps9
      go_wp2_with fail
      refine (KO.out _).mono ?_
      rintro e w' ⟨rfl, rfl⟩
      go_wp2_with fail
      go_ret
      exact outM_nil rfl (Below.refl _ _)

set_option maxHeartbeats 16000000 in
set_option maxRecDepth 8000 in
theorem sMerged_some (a1 a2 : Option Addr) (n1 n2 c1 c2 : Nat) (K : Nat) (f1 g1 f2 g2 : Nat → Int) (w : World) (h1 : PRow w a1 n1 f1 g1) (h2 : PRow w a2 n2 f2 g2) (hk1 : 1 ≤ K) (hk20 : K ≤ 20) (hn1 : n1 ≤ 20) (hn2 : n2 ≤ 20) :
    Calls Try.prog 9 #[.slice a1 n1 c1, .slice a2 n2 c2, .int .i64 K] w fun e w' => OutM w (if apB (mrgA n1 f1 g1 f2 g2) (n1 + n2) then min K (n1 + n2) else 0) (isortL (n1 + n2) (mrgA n1 f1 g1 f2 g2)) e w' := by
  have KO := hide (fun w1 => l1In_any (K : Int) 1 20 w1)
  rw [show inB (K : Int) 1 20 = true from decide_eq_true (by omega)] at KO
  have h1' : ¬ (20 : Int) < (n1 : Int) := by omega
  have h2' : ¬ (20 : Int) < (n2 : Int) := by omega
  obtain ⟨w1, hw1⟩ : ∃ w1, w.alloc (.cells #[] 49) = w1 := ⟨_, rfl⟩
  have b1 : Below w.heap.size w w1 := hw1 ▸ balloc (Below.refl _ _) _
  have rc1 : RC w1 w.heap.size w.heap.size 0 0 (fun _ => (0, 0)) := hw1 ▸ RC.newN w _
  obtain ⟨g3, c3, w3, hr3, hrc3, b3⟩ := app_part rc1 b1.size a1 n1 c1 f1 g1 (h1.below b1) (by omega)
  have bw3 : Below w.heap.size w w3 := b1.trans b3
  obtain ⟨g4, c4, w4, hr4, hrc4, b4⟩ := app_part hrc3 bw3.size a2 n2 c2 f2 g2 (h2.below bw3) (by omega)
  have bw4 : Below w.heap.size w w4 := bw3.trans b4
  simp only [Nat.zero_add] at hr3 hr4 hrc4
  rw [show joinL n1 (joinL 0 (fun _ => (0, 0)) f1 g1) f2 g2 = mrgA n1 f1 g1 f2 g2 from rfl] at hrc4
  generalize mrgA n1 f1 g1 f2 g2 = A at *
  obtain ⟨N, hN⟩ : ∃ N, n1 + n2 = N := ⟨_, rfl⟩
  rw [hN] at hrc4 hr4 ⊢
  have hN40 : N ≤ 40 := by omega
  obtain ⟨m, hm⟩ : ∃ m, (if apB A N then min K N else 0) = m := ⟨_, rfl⟩
  rw [hm]
  have HM := hide hm
  have HR4 := hide hrc4.rowl
  have HB4 := hide bw4
  clear h1 h2 hrc3 hrc4 b1 b3 b4 bw3 bw4 rc1 hN hm
  go_enter Try.func9, Try.ntmps9
  go_wp2_with fail
  refine (KO.out _).mono ?_
  rintro e w' ⟨rfl, hw'⟩
  have hw := hw'.symm
  subst hw
  go_wp2_with (at_builtin; first | refine wpList_append_run2 rfl _ _ 28 28 rfl _ _ rfl rfl _ _ hr3 ?_ | refine wpList_append_run2 rfl _ _ 28 28 rfl _ _ rfl rfl _ _ hr4 ?_)
  clear hw1 hr3 hr4
  go_loopw [8] (fun i wr => ∃ j : Nat, j ≤ N ∧ i = .int .i64 j ∧ (∀ t, t < j → apAt A t = true) ∧ RowL wr g4 N A ∧ Below w.heap.size w wr) (fun i _ => N - (intOf i).toNat)
  case atStart => exact ⟨0, Nat.zero_le _, rfl, fun t ht => absurd ht (by omega), HR4.out, HB4.out⟩
  case round =>
    obtain ⟨j, hj, rfl, hpre, hra, hbel⟩ := hrel
    have HP := hide hpre
    have HA := hide hra
    have HB := hide hbel
    by_cases hlt : j < N
    · have hlt' : (j : Int) < (N : Int) := by omega
      have c0 := hra.c0 hlt
      have c1 := hra.c1 hlt
      have NOK := hide (sNearOk_any (A j).1 (A j).2)
      obtain ⟨v, hv⟩ : ∃ v, nearB (A j).1 (A j).2 = v := ⟨_, rfl⟩
      rw [hv] at NOK
      have HV := hide hv
      clear hpre hra hbel hv
      go_wp2_with fail
      refine (NOK.out _).mono ?_
      rintro e w5 ⟨rfl, b5⟩
      have HB5 := hide (bstep HB.out b5)
      have HA5 := hide (HA.out.below b5)
      clear b5 c0 c1
      cases v
      · have E := hide (show apB A N = false from allN_no hlt (by unfold apAt; rw [HV.out]; rfl))
        go_wp2_with fail
        go_ret
        rw [← HM.out, E.out]
        exact outM_nil rfl HB5.out
      · go_wp2_with fail
        go_loopw [9] (fun i wv => ∃ t : Nat, t ≤ j ∧ i = .int .i64 t ∧ (∀ u, u < t → ((A u).1 == (A j).1) = false) ∧ RowL wv g4 N A ∧ Below w.heap.size w wv) (fun i _ => j - (intOf i).toNat)
        case atStart => exact ⟨0, Nat.zero_le _, rfl, fun t ht => absurd ht (by omega), HA5.out, HB5.out⟩
        case round =>
          obtain ⟨t, ht, rfl, hpre2, hra2, hbel2⟩ := hrel
          have HP2 := hide hpre2
          have HA2 := hide hra2
          have HB2 := hide hbel2
          by_cases hltt : t < j
          · have hltt' : (t : Int) < (j : Int) := by omega
            have htN : (t : Int) < (N : Int) := by omega
            have d0 := hra2.c0 (i := t) (by omega)
            have d1 := hra2.c0 (i := j) hlt
            obtain ⟨u, hu⟩ : ∃ u, ((A t).1 == (A j).1) = u := ⟨_, rfl⟩
            have HU := hide hu
            clear hpre2 hra2 hbel2
            go_wp2_with fail
            go_quiet (fail)
            cases u
            · go_wp2_with fail
              go_roundw
              case rel => exact ⟨t + 1, by omega, by go_num, fun u hu => (by rcases Nat.lt_succ_iff_lt_or_eq.1 hu with h | h; exact HP2.out u h; rw [h]; exact HU.out), HA2.out.below (below_drewN (Below.refl _ _) _), below_drewN HB2.out _⟩
              case measure => simp [intOf]; omega
            · have E := hide (show apB A N = false from allN_no hlt (by unfold apAt; rw [hasId_yes hltt HU.out]; cases nearB (A j).1 (A j).2 <;> rfl))
              go_wp2_with fail
              go_ret
              rw [← HM.out, E.out]
              exact outM_nil rfl (below_drewN HB2.out _)
          · obtain rfl : t = j := by omega
            have E := hide (show apAt A t = true by unfold apAt; rw [HV.out, hasId_no hpre2]; rfl)
            clear hpre2 hra2 hbel2
            go_wp2_with fail
            go_roundw
            case rel => exact ⟨t + 1, by omega, by go_num, fun u hu => (by rcases Nat.lt_succ_iff_lt_or_eq.1 hu with h | h; exact HP.out u h; rw [h]; exact E.out), HA2.out, HB2.out⟩
            case measure => simp [intOf]; omega
    · obtain rfl : j = N := by omega
      have hm := HM.out
      rw [show apB A j = true from allN_yes hpre, if_pos rfl] at hm
      have hmin : min (K : Int) (j : Int) = (m : Int) := by omega
      have hmj : m ≤ j := by omega
      have S := hide (l6Sorted_some g4 0 j c4 (fun i => (A i).1) (fun i => (A i).2) wr (by omega) hra.lt (fun i hi => by rw [Nat.zero_add]; exact ⟨hra.c0 hi, hra.c1 hi⟩))
      clear hpre hra hbel hm
      go_wp2_with fail
      refine S.out.mono ?_
      rintro e w5 ⟨g5, c5, M, rfl, hr5, hM, b5⟩
      have hcap5 : j ≤ c5 := by
        obtain ⟨_, cur, _, hk, _⟩ := hr5
        exact hk
      have HR5 := hide (hr5.rowl.congr fun i hi => (hM i hi).trans (isortL_ext j (fun i hi => listL_at hi) i hi))
      have HG5 := hide hr5.base
      have hmc : (m : Int) ≤ (c5 : Int) := by omega
      have hs5 := HB.out.size
      have HB6 := hide (bstep HB.out b5)
      clear hr5 hM b5 S
      go_wp2_with fail
      go_ret
      exact ⟨some ⟨g5, 0, none⟩, c5, rfl, .inr ⟨g5, rfl, Nat.le_trans hs5 HG5.out, HR5.out.less hmj⟩, HB6.out⟩

theorem sMerged_any (a1 a2 : Option Addr) (n1 n2 c1 c2 : Nat) (k : Int) (f1 g1 f2 g2 : Nat → Int) (w : World) (h1 : PRow w a1 n1 f1 g1) (h2 : PRow w a2 n2 f2 g2) (hn1 : n1 ≤ 1048576) (hn2 : n2 ≤ 1048576) :
    Calls Try.prog 9 #[.slice a1 n1 c1, .slice a2 n2 c2, .int .i64 k] w fun e w' => OutM w (mrgM k n1 n2 f1 g1 f2 g2) (isortL (n1 + n2) (mrgA n1 f1 g1 f2 g2)) e w' := by
  unfold mrgM mrgB
  cases hno : (inB k 1 20 && decide (n1 ≤ 20) && decide (n2 ≤ 20))
  · exact sMerged_few a1 a2 n1 n2 c1 c2 k _ w hn1 hn2 hno
  · simp only [Bool.and_eq_true, decide_eq_true_eq] at hno
    have hk := of_decide_eq_true hno.1.1
    obtain ⟨K, rfl⟩ : ∃ K : Nat, k = (K : Int) := ⟨k.toNat, by omega⟩
    have := sMerged_some a1 a2 n1 n2 c1 c2 K f1 g1 f2 g2 w h1 h2 (by omega) (by omega) hno.1.2 hno.2
    simpa using this
end Go.Proofs.Ytjliecggfncelaa
