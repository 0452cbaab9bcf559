/- slices.Concat at two slices of Nears. -/
import Derived.Test.YtidoajapaaoifaaMA1
namespace Go.Proofs.Ytidoajapaaoifaa
open Go.RowKit
set_option linter.unusedSimpArgs false
set_option linter.unusedVariables false

/-- The first m of M, then those of f and g. -/
def joinL (m : Nat) (M : NL) (f g : Nat → Int) : NL := fun i => if i < m then M i else (f (i - m), g (i - m))
theorem RC.same {w : World} {base g cap k : Nat} {M N : NL} (h : RC w base g cap k M) (e : ∀ i, i < k → M i = N i) : RC w base g cap k N := by
  obtain ⟨hb, cur, h1, h2, h3, h4, h5⟩ := h
  exact ⟨hb, cur, h1, h2, h3, h4, fun i hi => e i hi ▸ h5 i hi⟩
theorem RC.ofOwns {w : World} {base g cap k : Nat} {M : NL} (h : w.ownsRow base 33 2 (.slice (some ⟨g, 0, none⟩) k cap) k (nlv M k)) : RC w base g cap k M := by
  rcases h.2 with ⟨h0, _⟩ | ⟨g', cap', cur, hv, hb, hg, hcap, hm, hsz, htake⟩
  · cases h0
  · simp only [Value.slice.injEq, Option.some.injEq, Addr.mk.injEq] at hv
    obtain ⟨⟨rfl, _⟩, _, rfl⟩ := hv
    have hat : ∀ j, j < k * 2 → cur[j]? = (nlv M k)[j]? := by
      intro j hj
      rw [← htake, List.getElem?_take_of_lt hj, Array.getElem?_toList]
    refine ⟨hb, cur, hg, hcap, hm, hsz, fun i hi => ?_⟩
    rw [hat (i * 2) (by omega), hat (i * 2 + 1) (by omega)]
    exact nlv_at M hi
theorem nlv_join (m n : Nat) (M : NL) (f g : Nat → Int) : nlv (joinL m M f g) (m + n) = nlv M m ++ pcells n f g := by
  apply List.ext_getElem?
  intro j
  by_cases h1 : j < m * 2
  · rw [List.getElem?_append_left (by rw [nlv_len]; exact h1)]
    have e1 := nlv_at (joinL m M f g) (k := m + n) (i := j / 2) (by omega)
    have e2 := nlv_at M (k := m) (i := j / 2) (by omega)
    have ej : joinL m M f g (j / 2) = M (j / 2) := by unfold joinL; rw [if_pos (by omega)]
    rw [ej] at e1
    rcases (show j % 2 = 0 ∨ j % 2 = 1 by omega) with h2 | h2
    · rw [show j = j / 2 * 2 by omega, e1.1, e2.1]
    · rw [show j = j / 2 * 2 + 1 by omega, e1.2, e2.2]
  · by_cases h2 : j < (m + n) * 2
    · rw [List.getElem?_append_right (by rw [nlv_len]; omega), nlv_len]
      have e1 := nlv_at (joinL m M f g) (k := m + n) (i := j / 2) (by omega)
      have ej : joinL m M f g (j / 2) = (f (j / 2 - m), g (j / 2 - m)) := by unfold joinL; rw [if_neg (by omega)]
      rw [ej] at e1
      have e2 : (pcells n f g)[j - m * 2]? = some (pcell f g (j - m * 2)) := by unfold pcells; rw [List.getElem?_map, List.getElem?_range (by omega)]; rfl
      rw [e2]
      rcases (show j % 2 = 0 ∨ j % 2 = 1 by omega) with h3 | h3
      · rw [show j - m * 2 = (j / 2 - m) * 2 by omega, pcell_lo]
        rw [show j = j / 2 * 2 by omega]
        rw [show j / 2 * 2 / 2 = j / 2 by omega]
        exact e1.1
      · rw [show j - m * 2 = (j / 2 - m) * 2 + 1 by omega, pcell_hi]
        rw [show j = j / 2 * 2 + 1 by omega]
        rw [show (j / 2 * 2 + 1) / 2 = j / 2 by omega]
        exact e1.2
    · rw [List.getElem?_eq_none (by rw [nlv_len]; omega), List.getElem?_eq_none (by rw [List.length_append, nlv_len, pcells_len]; omega)]

/-- A slice of Nears is appended to a row of the call's own. -/
theorem app_part {w : World} {base g cap m : Nat} {M : NL} (h : RC w base g cap m M) (hbase : base ≤ w.heap.size) (a : Option Addr) (n c : Nat) (f g' : Nat → Int) (hp : PRow w a n f g') (hn : m + n ≤ 1000) :
    ∃ g2 c2 w2, (Builtin.append_ #[24, 24] 24 #[.slice (some ⟨g, 0, none⟩) m cap, .slice a n c]).run Try.prog w = .ok (.slice (some ⟨g2, 0, none⟩) (m + n) c2) w2 ∧ RC w2 base g2 c2 (m + n) (joinL m M f g') ∧ Below base w w2 := by
  obtain ⟨i0, hi, hz0, hz1, hz2⟩ := nearInfo2
  by_cases h0 : n = 0
  · subst h0
    refine ⟨g, cap, w, ?_, h.same fun i hi => by unfold joinL; rw [if_pos (by omega)], Below.refl _ _⟩
    have hmc : m ≤ cap := by obtain ⟨_, cur, _, hk, _⟩ := h; exact hk
    have hlc : ∀ (x : Addr), (loadCells x 0).run Try.prog w = .ok #[] w := fun x => by simpa using run_loadCells_list (P := Try.prog) w x [] (by simp)
    cases a <;> simp [Builtin.append_, run_underlying Try.underlying24, sizeOf, typeInfo, hi, Builtin.firstCells, Builtin.lenOf, storeCells, hlc, hmc]
  · rcases hp.lies with q | ⟨b, off, rfl, lt, hc⟩
    · exact absurd q h0
    · obtain ⟨g2, c2, w2, hr, hown, hgrow, hat, hlt⟩ := run_append_lies (P := Try.prog) w 24 24 base 33 i0 _ 2 16 Try.underlying24 hi hz0 hz1 hz2 rfl (by decide) _ _ _ h.owns ⟨b, off, none⟩ n c (pcells n f g') (pcells_len n f g') (pcells_src hc) (pcells_one n f g') (by omega) (by unfold maxLen; omega) (by omega) hbase _ rfl
      refine ⟨g2, c2, w2, hr, RC.ofOwns (by rw [nlv_join]; exact hown), ?_⟩
      exact (Below.refl _ w).grown hgrow hbase fun k' hk' => by
        simp [Value.ownBlock] at hk'
        have := h.base
        omega

/-- Two slices of Nears, laid beside each other. -/
structure Pair2 (w : World) (pb : Nat) (a1 a2 : Option Addr) (n1 n2 c1 c2 : Nat) : Prop where
  lt : pb < w.heap.size
  p0 : w.cell? ⟨pb, 0, none⟩ = some (.slice a1 n1 c1)
  p1 : w.cell? ⟨pb, 1, none⟩ = some (.slice a2 n2 c2)
theorem Pair2.low {w w' : World} {X pb : Nat} {a1 a2 : Option Addr} {n1 n2 c1 c2 : Nat} (h : Pair2 w pb a1 a2 n1 n2 c1 c2) (hb : Below X w w') (hX : pb < X) : Pair2 w' pb a1 a2 n1 n2 c1 c2 :=
  ⟨Nat.lt_of_lt_of_le h.lt hb.size, (hb.cell (p := ⟨pb, 0, none⟩) hX).trans h.p0, (hb.cell (p := ⟨pb, 1, none⟩) hX).trans h.p1⟩
theorem PRow.low {w w' : World} {X : Nat} {a : Option Addr} {n : Nat} {f g : Nat → Int} (h : PRow w a n f g) (hX : X = w.heap.size) (hb : Below X w w') : PRow w' a n f g := by subst hX; exact h.below hb

/-- The answer of Concat. -/
def ConR (w : World) (n : Nat) (A : NL) (e : Ending) (w' : World) : Prop :=
  ∃ a cap, e = .returned (.slice a n cap) ∧ Wr w' a n A w.heap.size ∧ n ≤ cap ∧ Below w.heap.size w w'

set_option maxHeartbeats 8000000 in
set_option maxRecDepth 4000 in
theorem concat_some (pb : Nat) (a1 a2 : Option Addr) (n1 n2 c1 c2 : Nat) (f1 g1 f2 g2 : Nat → Int) (w : World) (hp : Pair2 w pb a1 a2 n1 n2 c1 c2) (h1 : PRow w a1 n1 f1 g1) (h2 : PRow w a2 n2 f2 g2) (hn1 : n1 ≤ 20) (hn2 : n2 ≤ 20) (h0 : 0 < n1 + n2) :
    Calls Try.prog 16 #[.slice (some ⟨pb, 0, none⟩) 2 2] w fun e w' => ConR w (n1 + n2) (joinL n1 (joinL 0 (fun _ => (0, 0)) f1 g1) f2 g2) e w' := by
  obtain ⟨s, hs⟩ : ∃ s, n1 + n2 = s := ⟨_, rfl⟩
  have hsi : (n1 : Int) + (n2 : Int) = (s : Int) := by omega
  have GR := hide (grow_some s w (by omega) (by omega))
  obtain ⟨_, p0, p1⟩ := id hp
  have e1 : ¬ (n1 : Int) < 0 := by omega
  have e2 : ¬ (s : Int) < 0 := by omega
  have HP := hide hp
  have HH1 := hide h1
  have HH2 := hide h2
  have HS := hide hs
  clear hp h1 h2 hs
  go_enter Try.func16, Try.ntmps16
  go_wp2_with fail
  refine wp_loop_rounds 3 ?_
  rw [rounds_succ]
  go_wp2_with fail
  rw [rounds_succ]
  go_wp2_with fail
  rw [rounds_succ]
  go_wp2_with fail
  refine GR.out.mono ?_
  rintro e w1 ⟨c, rfl, hrc, hsc, b1⟩
  have HP1 := hide (HP.out.low b1 HP.out.lt)
  obtain ⟨g3, c3, w3, hr3, hrc3, b3⟩ := app_part (hrc (fun _ => (0, 0))) b1.size a1 n1 c1 f1 g1 (HH1.out.below b1) (by omega)
  have bw3 : Below w.heap.size w w3 := b1.trans b3
  obtain ⟨g4, c4, w4, hr4, hrc4, b4⟩ := app_part hrc3 bw3.size a2 n2 c2 f2 g2 (HH2.out.below bw3) (by omega)
  have bw4 : Below w.heap.size w w4 := bw3.trans b4
  obtain ⟨_, q0, q1⟩ := HP1.out
  obtain ⟨_, r0, r1⟩ := HP.out.low bw3 HP.out.lt
  simp only [Nat.zero_add] at hr3 hr4 hrc4
  have HR4 := hide hrc4
  have HB4 := hide bw4
  clear hrc hrc3 hrc4 b1 b3 b4 bw3 bw4 p0 p1
  go_wp2_with fail
  refine wp_loop_rounds 3 ?_
  rw [rounds_succ]
  go_wp2_with (at_builtin; refine wpList_append_run2 rfl _ _ 24 24 rfl _ _ rfl rfl _ _ hr3 ?_)
  rw [rounds_succ]
  go_wp2_with (at_builtin; refine wpList_append_run2 rfl _ _ 24 24 rfl _ _ rfl rfl _ _ hr4 ?_)
  rw [rounds_succ]
  go_wp2_with fail
  go_ret
  refine ⟨some ⟨g4, 0, none⟩, c4, ?_, ?_, ?_, HB4.out⟩
  · rfl
  · exact .inr ⟨g4, rfl, HR4.out.base, HR4.out.rowl⟩
  · obtain ⟨_, cur, _, hk, _⟩ := HR4.out
    exact hk
end Go.Proofs.Ytidoajapaaoifaa
