/- Rows, plain: a place of a right row; its cells lie one in another; the numbers of its cell of tier 3 have its codes. -/
import Derived.Test.YtoiaamcnmpdglaaZ26
import Derived.Test.YtoiaamcnmpdglaaZ14
import Derived.Test.YtoiaamcnmpdglaaZ7
namespace Go.Proofs.Ytoiaamcnmpdglaa
open Go.RowKit
set_option maxRecDepth 8000
set_option linter.unusedSimpArgs false
set_option linter.unusedVariables false

theorem from_monoN (lo hi N i j : Int) (hN : 0 < N) (hS : lo ≤ hi) (h : i ≤ j) : fromN lo hi N i ≤ fromN lo hi N j := by
  unfold fromN
  have := Int.ediv_le_ediv hN (Int.mul_le_mul_of_nonneg_left h (show 0 ≤ hi - lo + 1 by omega))
  omega
/-- The cell of a number that a range has. -/
theorem cell_ofN {lo hi t y : Int} (hr : rightB lo hi = true) (ht : tierB t = true) (h0 : lo ≤ y) (h1 : y ≤ hi) :
    cellLo lo hi t (codeN lo hi (cellsN t) y) = fromN lo hi (cellsN t) (codeN lo hi (cellsN t) y) ∧ cellHi lo hi t (codeN lo hi (cellsN t) y) = fromN lo hi (cellsN t) (codeN lo hi (cellsN t) y + 1) - 1 ∧
    lo ≤ fromN lo hi (cellsN t) (codeN lo hi (cellsN t) y) ∧ fromN lo hi (cellsN t) (codeN lo hi (cellsN t) y) ≤ y ∧ y ≤ fromN lo hi (cellsN t) (codeN lo hi (cellsN t) y + 1) - 1 ∧ fromN lo hi (cellsN t) (codeN lo hi (cellsN t) y + 1) - 1 ≤ hi ∧
    0 ≤ codeN lo hi (cellsN t) y := by
  obtain ⟨a1, a2, a3, a4, a5⟩ := right_nums hr
  have hN := cells_posM ht
  obtain ⟨N, hNe⟩ : ∃ N, cellsN t = N := ⟨_, rfl⟩
  rw [hNe] at hN ⊢
  have c0 := code_nonneg lo hi N y hN h0 a5
  have c1 := code_lt lo hi N y hN h1 a5
  have e1 : fromN lo hi N (codeN lo hi N y) ≤ y := (from_le lo hi N _ y hN a5).2 (Int.le_refl _)
  have e2 : ¬ fromN lo hi N (codeN lo hi N y + 1) ≤ y := fun q => by have := (from_le lo hi N _ y hN a5).1 q; omega
  have f1 := from_bounds lo hi N (codeN lo hi N y) hN c0 (by omega) a5
  have f2 := from_bounds lo hi N (codeN lo hi N y + 1) hN (by omega) (by omega) a5
  have hcB : cellB lo hi t (codeN lo hi N y) = true := by
    simp only [cellB, hr, ht, hNe, Bool.true_and, Bool.or_eq_true, Bool.and_eq_true, decide_eq_true_eq]
    exact .inr ⟨⟨c0, c1⟩, by omega⟩
  have hne : ¬ codeN lo hi N y = -1 := by omega
  simp only [cellLo, cellHi, hcB, if_true, hne, if_false, hNe]
  exact ⟨True.intro, True.intro, by omega, by omega, by omega, by omega, c0⟩
/-- A place of a right row: all codes are -1, or they are those of a number that the range has. -/
theorem row_place {lo hi a b c : Int} (hr : rightB lo hi = true) (h : rowAt lo hi a b c = true) :
    (a = -1 ∧ b = -1 ∧ c = -1) ∨ (∃ y, lo ≤ y ∧ y ≤ hi ∧ a = codeN lo hi 2 y ∧ b = codeN lo hi 16 y ∧ c = codeN lo hi 256 y) := by
  obtain ⟨a1, a2, a3, a4, a5⟩ := right_nums hr
  rw [rowAt_def] at h
  simp only [Bool.and_eq_true, beq_iff_eq] at h
  obtain ⟨h0, h1, h2, h3⟩ := h
  by_cases hc : c = -1
  · subst hc
    left
    have hy : ¬ (lo ≤ numI lo hi (-1) ∧ numI lo hi (-1) ≤ hi) := by
      unfold numIB at h0
      rw [if_pos rfl, Bool.or_eq_true, decide_eq_true_eq, decide_eq_true_eq] at h0
      unfold numI
      rw [if_pos rfl]
      split
      · omega
      · split <;> omega
    rw [codeB_off hy] at h1 h2
    exact ⟨h1.symm, h2.symm, rfl⟩
  · right
    have hB : cellB lo hi 3 c = true := by unfold numIB at h0; rwa [if_neg hc] at h0
    have hB' := hB
    simp only [cellB, hr, show tierB 3 = true from rfl, show cellsN 3 = 256 from rfl, Bool.true_and, Bool.or_eq_true, Bool.and_eq_true, decide_eq_true_eq] at hB'
    obtain ⟨⟨c0, c1⟩, c2⟩ : (0 ≤ c ∧ c < 256) ∧ fromN lo hi 256 c ≤ fromN lo hi 256 (c + 1) - 1 := by omega
    have f1 := from_bounds lo hi 256 c (by omega) c0 (by omega) a5
    have f2 := from_bounds lo hi 256 (c + 1) (by omega) (by omega) (by omega) a5
    have e : numI lo hi c = fromN lo hi 256 c := by
      unfold numI
      rw [if_neg hc]
      simp only [cellLo, hB, if_true, hc, if_false, show cellsN 3 = 256 from rfl]
    rw [e] at h1 h2 h3
    have hy : lo ≤ fromN lo hi 256 c ∧ fromN lo hi 256 c ≤ hi := by omega
    rw [codeB_in hr hy rfl] at h1 h2 h3
    exact ⟨_, hy.1, hy.2, h1.symm, h2.symm, h3.symm⟩

theorem nest_step {lo hi s t k y : Int} (hr : rightB lo hi = true) (hs : tierB s = true) (ht : tierB t = true) (hk : 0 < k) (hN : cellsN t = cellsN s * k) (h0 : lo ≤ y) (h1 : y ≤ hi) :
    leqB (cellLo lo hi t (codeN lo hi (cellsN t) y)) (cellHi lo hi t (codeN lo hi (cellsN t) y)) (cellLo lo hi s (codeN lo hi (cellsN s) y)) (cellHi lo hi s (codeN lo hi (cellsN s) y)) = true := by
  obtain ⟨a1, a2, a3, a4, a5⟩ := right_nums hr
  have n0 := cells_posM hs
  have m0 := cells_posM ht
  obtain ⟨c1, c2, c3, c4, c5, c6, c7⟩ := cell_ofN hr ht h0 h1
  obtain ⟨d1, d2, d3, d4, d5, d6, d7⟩ := cell_ofN hr hs h0 h1
  have hc := code_scale0 lo hi (cellsN s) k y n0 hk a5
  rw [← hN] at hc
  have p1 : codeN lo hi (cellsN s) y * k ≤ codeN lo hi (cellsN t) y := (Int.le_ediv_iff_mul_le hk).1 (by omega)
  have p2 : codeN lo hi (cellsN t) y < (codeN lo hi (cellsN s) y + 1) * k := (Int.ediv_lt_iff_lt_mul hk).1 (by omega)
  have q1 := from_monoN lo hi (cellsN t) _ _ m0 a5 p1
  have q2 := from_monoN lo hi (cellsN t) (codeN lo hi (cellsN t) y + 1) _ m0 a5 (show codeN lo hi (cellsN t) y + 1 ≤ (codeN lo hi (cellsN s) y + 1) * k by omega)
  have s1 := from_scale0 lo hi (cellsN s) k (codeN lo hi (cellsN s) y) hk
  have s2 := from_scale0 lo hi (cellsN s) k (codeN lo hi (cellsN s) y + 1) hk
  rw [← hN] at s1 s2
  rw [c1, c2, d1, d2]
  simp only [leqB, rightB, compB, Bool.and_eq_true, decide_eq_true_eq]
  omega

theorem out_cell {lo hi t : Int} (hr : rightB lo hi = true) (ht : tierB t = true) : cellLo lo hi t (-1) = -1048576 ∧ cellHi lo hi t (-1) = 1048576 := by
  have hcB : cellB lo hi t (-1) = true := by simp [cellB, hr, ht]
  simp only [cellLo, cellHi, hcB, if_true, and_self]
/-- The cells of a place lie one in another. -/
theorem place_nest {lo hi a b c : Int} (hr : rightB lo hi = true) (h : rowAt lo hi a b c = true) :
    leqB (cellLo lo hi 3 c) (cellHi lo hi 3 c) (cellLo lo hi 2 b) (cellHi lo hi 2 b) = true ∧ leqB (cellLo lo hi 2 b) (cellHi lo hi 2 b) (cellLo lo hi 1 a) (cellHi lo hi 1 a) = true := by
  rcases row_place hr h with ⟨rfl, rfl, rfl⟩ | ⟨y, h0, h1, rfl, rfl, rfl⟩
  · rw [(out_cell (t := 3) hr rfl).1, (out_cell (t := 3) hr rfl).2, (out_cell (t := 2) hr rfl).1, (out_cell (t := 2) hr rfl).2, (out_cell (t := 1) hr rfl).1, (out_cell (t := 1) hr rfl).2]
    decide
  · exact ⟨nest_step (s := 2) (t := 3) (k := 16) hr rfl rfl (by omega) rfl h0 h1, nest_step (s := 1) (t := 2) (k := 8) hr rfl rfl (by omega) rfl h0 h1⟩
/-- A number of the cell of tier 3 of a place has that place's codes. -/
theorem place_alike {lo hi a b c x : Int} (hr : rightB lo hi = true) (h : rowAt lo hi a b c = true) (hc : c ≠ -1) (h0 : cellLo lo hi 3 c ≤ x) (h1 : x ≤ cellHi lo hi 3 c) :
    codeB lo hi 1 x = a ∧ codeB lo hi 2 x = b ∧ codeB lo hi 3 x = c ∧ compB x = true := by
  obtain ⟨a1, a2, a3, a4, a5⟩ := right_nums hr
  rcases row_place hr h with ⟨_, _, rfl⟩ | ⟨y, y0, y1, rfl, rfl, rfl⟩
  · exact absurd rfl hc
  · obtain ⟨c1, c2, c3, c4, c5, c6, c7⟩ := cell_ofN (t := 3) hr rfl y0 y1
    rw [show cellsN 3 = 256 from rfl] at c1 c2 c3 c4 c5 c6 c7
    rw [c1] at h0
    rw [c2] at h1
    have hx : lo ≤ x ∧ x ≤ hi := by omega
    have e3 : codeN lo hi 256 x = codeN lo hi 256 y := by
      have p := (from_le lo hi 256 (codeN lo hi 256 y) x (by omega) a5).1 h0
      have q : ¬ codeN lo hi 256 y + 1 ≤ codeN lo hi 256 x := fun q => by
        have := (from_le lo hi 256 (codeN lo hi 256 y + 1) x (by omega) a5).2 q
        omega
      omega
    have e2 : codeN lo hi 16 x = codeN lo hi 16 y := by
      rw [← code_scale0 lo hi 16 16 x (by omega) (by omega) a5, ← code_scale0 lo hi 16 16 y (by omega) (by omega) a5]
      show codeN lo hi 256 x / 16 = codeN lo hi 256 y / 16
      rw [e3]
    have e1 : codeN lo hi 2 x = codeN lo hi 2 y := by
      rw [← code_scale0 lo hi 2 128 x (by omega) (by omega) a5, ← code_scale0 lo hi 2 128 y (by omega) (by omega) a5]
      show codeN lo hi 256 x / 128 = codeN lo hi 256 y / 128
      rw [e3]
    rw [codeB_in hr hx rfl, codeB_in hr hx rfl, codeB_in hr hx rfl]
    refine ⟨e1, e2, e3, ?_⟩
    unfold compB
    rw [decide_eq_true (by omega)]

theorem row_parts {n : Nat} {f g : Nat → Int} {L1 L2 L3 : List Int} (h : rowOkB n f g L1 L2 L3 = true) :
    boxB n f g = true ∧ L1.length = n ∧ L2.length = n ∧ L3.length = n ∧ ∀ i, i < n → rowAt (f i) (g i) (nth L1 i) (nth L2 i) (nth L3 i) = true := by
  unfold rowOkB at h
  simp only [Bool.and_eq_true, decide_eq_true_eq] at h
  exact ⟨h.1, h.2.1.1, h.2.1.2.1, h.2.1.2.2, fun i hi => allN_at h.2.2 hi⟩
/-- A row's box of a tier lies within that of the tier ahead. -/
theorem row_nest {n : Nat} {f g : Nat → Int} {L1 L2 L3 : List Int} (h : rowOkB n f g L1 L2 L3 = true) :
    boxLeqB n (boxF f g 3 L3) (boxG f g 3 L3) n (boxF f g 2 L2) (boxG f g 2 L2) = true ∧ boxLeqB n (boxF f g 2 L2) (boxG f g 2 L2) n (boxF f g 1 L1) (boxG f g 1 L1) = true := by
  obtain ⟨hb, l1, l2, l3, hp⟩ := row_parts h
  have P := fun i (hi : i < n) => place_nest (boxB_at' hb hi) (hp i hi)
  have go : ∀ F G F' G' : Nat → Int, (∀ i, i < n → leqB (F i) (G i) (F' i) (G' i) = true) → boxLeqB n F G n F' G' = true := fun F G F' G' q => by
    have r : ∀ i, i < n → rightB (F i) (G i) = true ∧ rightB (F' i) (G' i) = true := fun i hi => by
      have := q i hi
      unfold leqB at this
      simp only [Bool.and_eq_true] at this
      exact ⟨this.1.1.1, this.1.1.2⟩
    unfold boxLeqB alikeB leqN boxB
    rw [decide_eq_true (boxB_num' hb), allN_yes (fun i hi => (r i hi).1), allN_yes (fun i hi => (r i hi).2), allN_yes q]
    simp
  exact ⟨go _ _ _ _ fun i hi => (P i hi).1, go _ _ _ _ fun i hi => (P i hi).2⟩

theorem esc_none {c : Nat → Int} : ∀ {n : Nat}, escN c n = 0 → ∀ i, i < n → c i ≠ -1
  | 0, _, i, hi => absurd hi (by omega)
  | n + 1, h, i, hi => by
    unfold escN at h
    by_cases e : i = n
    · subst e
      intro q
      unfold outD at h
      rw [if_pos q] at h
      omega
    · exact esc_none (n := n) (by omega) i (by omega)

theorem list_eqN {n : Nat} {L : List Int} {F : Nat → Int} (hl : L.length = n) (h : ∀ i, i < n → F i = nth L i) : ints F n = L := by
  refine List.ext_getElem (by rw [ints_len, hl]) fun i h1 h2 => ?_
  have a := nth_ints F n i (by omega)
  have b := h i (by omega)
  unfold nth at a b
  rw [List.getD_eq_getElem?_getD, List.getElem?_eq_getElem h1] at a
  rw [List.getD_eq_getElem?_getD, List.getElem?_eq_getElem h2] at b
  simp only [Option.getD_some] at a b
  omega
/-- A vector of the box of tier 3 of a row without a code of -1 has that row. -/
theorem row_alike {n : Nat} {f g : Nat → Int} {L1 L2 L3 xs : List Int} (h : rowOkB n f g L1 L2 L3 = true) (he : escN (nth L3) n = 0) (hl : xs.length = n)
    (hx : ∀ i, i < n → boxF f g 3 L3 i ≤ nth xs i ∧ nth xs i ≤ boxG f g 3 L3 i) :
    formB n f g n xs = true ∧ ints (vcode f g xs 1) n = L1 ∧ ints (vcode f g xs 2) n = L2 ∧ ints (vcode f g xs 3) n = L3 := by
  obtain ⟨hb, l1, l2, l3, hp⟩ := row_parts h
  have n8 := boxB_num' hb
  have P := fun i (hi : i < n) => place_alike (boxB_at' hb hi) (hp i hi) (esc_none he i hi) (hx i hi).1 (hx i hi).2
  refine ⟨?_, list_eqN l1 fun i hi => (P i hi).1, list_eqN l2 fun i hi => (P i hi).2.1, list_eqN l3 fun i hi => (P i hi).2.2.1⟩
  have hv : vecOkB xs = true := by
    unfold vecOkB
    rw [decide_eq_true (by omega), Bool.true_and]
    exact all_nth fun j hj => (P j (by omega)).2.2.2
  unfold formB
  rw [hb, hv, decide_eq_true rfl]
  rfl
end Go.Proofs.Ytoiaamcnmpdglaa

/- BoxOf of the program at all arguments; of the model. -/
namespace Go.Proofs.Ytoiaamcnmpdglaa
open Go.RowKit
set_option maxRecDepth 8000
set_option linter.unusedSimpArgs false
set_option linter.unusedVariables false

set_option maxHeartbeats 4000000 in
theorem iBoxOf_any (a : Option Addr) (n cap : Nat) (f g : Nat → Int) (r : RowV) (L1 L2 L3 : List Int) (t : Int) (w : World) (h : PRow w a n f g) (hr : r.is w L1 L2 L3) :
    Calls Try.prog 11 #[.slice a n cap, r.v, .int .i64 t] w fun e w' => IBox w (rowOkB n f g L1 L2 L3 && tierB t) n (boxF f g t (tierL t L1 L2 L3)) (boxG f g t (tierL t L1 L2 L3)) e w' := by
  have PR' := hide (fun w1 (hb : Below w.heap.size w w1) => packRow_any a n cap f g r L1 L2 L3 w1 (h.below hb) (hr.below hb))
  have CL := hide (iCellsOf_any t)
  cases hv : rowOkB n f g L1 L2 L3
  · rw [hv] at PR'
    obtain ⟨a1, a2, a3, m1, m2, m3, k1, k2, k3⟩ := r
    unfold RowV.v at PR' ⊢
    simp only [pkV, if_false, Bool.false_eq_true, Bool.false_and] at PR' ⊢
    clear h hr hv
    go_enter Try.func11, Try.ntmps11
    go_wp2_with fail
    refine (PR'.out _ (by repeat' first | with_reducible exact Below.refl _ _ | with_reducible assumption | with_reducible refine below_drewN ?_ _ | with_reducible refine balloc ?_ _ | with_reducible refine Below.drew ?_ | with_reducible refine Below.setCell ?_ (by first | (simp; done) | (simp; omega) | omega) _ | with_reducible refine bstep ?_ (by assumption))).mono ?_
    rintro e w1 ⟨rfl, hb1⟩
    go_wp2_with fail
    refine bodyPost_ret (v := .tuple #[.slice none 0 0, .bool false]) ?_ rfl ⟨none, 0, rfl, rfl, .inl rfl, (by repeat' first | with_reducible exact Below.refl _ _ | with_reducible assumption | with_reducible refine below_drewN ?_ _ | with_reducible refine balloc ?_ _ | with_reducible refine Below.drew ?_ | with_reducible refine Below.setCell ?_ (by first | (simp; done) | (simp; omega) | omega) _ | with_reducible refine bstep ?_ (by assumption))⟩
    simp [results, Try.results11, go_sem]
  · rw [hv] at PR'
    cases ht : tierB t
    · have hcn : (cellsN t == 0) = true := by
        obtain ⟨x1, x2, x3⟩ := tier_no ht
        simp at x1 x2 x3
        simp [cellsN, x1, x2, x3]
      obtain ⟨a1, a2, a3, m1, m2, m3, k1, k2, k3⟩ := r
      unfold RowV.v at PR' ⊢
      simp only [pkV, if_true, Bool.and_false] at PR' ⊢
      obtain ⟨A, hA⟩ : ∃ x, pA (nth L1) (nth L2) (nth L3) n = x := ⟨_, rfl⟩
      obtain ⟨B, hB⟩ : ∃ x, pB (nth L1) (nth L2) (nth L3) n = x := ⟨_, rfl⟩
      obtain ⟨C, hC⟩ : ∃ x, pC (nth L1) (nth L2) (nth L3) n = x := ⟨_, rfl⟩
      obtain ⟨D, hD⟩ : ∃ x, pD (nth L1) (nth L2) (nth L3) n = x := ⟨_, rfl⟩
      simp only [PK] at PR'
      rw [hA, hB, hC, hD] at PR'
      clear h hr hv ht hA hB hC hD
      generalize cellsN t = c at CL hcn
      go_enter Try.func11, Try.ntmps11
      go_wp2_with fail
      refine (PR'.out _ (by repeat' first | with_reducible exact Below.refl _ _ | with_reducible assumption | with_reducible refine below_drewN ?_ _ | with_reducible refine balloc ?_ _ | with_reducible refine Below.drew ?_ | with_reducible refine Below.setCell ?_ (by first | (simp; done) | (simp; omega) | omega) _ | with_reducible refine bstep ?_ (by assumption))).mono ?_
      rintro e w1 ⟨rfl, hb1⟩
      go_wp2_with fail
      refine (CL.out _).mono ?_
      rintro e w2 ⟨rfl, rfl⟩
      go_wp2_with fail
      refine bodyPost_ret (v := .tuple #[.slice none 0 0, .bool false]) ?_ rfl ⟨none, 0, rfl, rfl, .inl rfl, (by repeat' first | with_reducible exact Below.refl _ _ | with_reducible assumption | with_reducible refine below_drewN ?_ _ | with_reducible refine balloc ?_ _ | with_reducible refine Below.drew ?_ | with_reducible refine Below.setCell ?_ (by first | (simp; done) | (simp; omega) | omega) _ | with_reducible refine bstep ?_ (by assumption))⟩
      simp [results, Try.results11, go_sem]
    · have hv' := hv
      simp only [rowOkB, Bool.and_eq_true, decide_eq_true_eq] at hv'
      have hn8 := boxB_num' hv'.1
      simp only [pkV, if_true] at PR'
      rcases h.lies with q | ⟨b, off, rfl, lt, hc⟩
      · omega
      exact iBoxOf_some b off n cap f g r L1 L2 L3 t w ht hn8.2 hn8.1 lt hc (fun i hi => rowAt_codes (boxB_at' hv'.1 hi) (allN_at hv'.2.2 hi)) PR'

/-- The slice of a row's codes of a tier. -/
def tierV (t : Int) (r : RowV) : Value := if t = 1 then .slice r.a1 r.m1 r.k1 else if t = 2 then .slice r.a2 r.m2 r.k2 else .slice r.a3 r.m3 r.k3

set_option maxHeartbeats 800000 in
theorem l5Tier_any (r : RowV) (t : Int) (w : World) (ht : tierB t = true) :
    Calls Try.prog 72 #[r.v, .int .i64 t] w fun e w' => e = .returned (tierV t r) ∧ Below w.heap.size w w' := by
  obtain ⟨a1, a2, a3, m1, m2, m3, k1, k2, k3⟩ := r
  unfold RowV.v tierV
  rcases tier_cases ht with rfl | rfl | rfl
  all_goals
    simp only [show ((1 : Int) = 1) = True from eq_self _, show ((2 : Int) = 1) = False from by simp, show ((2 : Int) = 2) = True from eq_self _, show ((3 : Int) = 1) = False from by simp, show ((3 : Int) = 2) = False from by simp, if_true, if_false]
    clear ht
    go_enter Try.func72, Try.ntmps72
    go_wp2
    go_ret
    exact ⟨rfl, (by repeat' first | with_reducible exact Below.refl _ _ | with_reducible assumption | with_reducible refine below_drewN ?_ _ | with_reducible refine balloc ?_ _ | with_reducible refine Below.drew ?_ | with_reducible refine Below.setCell ?_ (by first | (simp; done) | (simp; omega) | omega) _ | with_reducible refine bstep ?_ (by assumption))⟩

/-- The answer of the model's l5Box. -/
def SBox (w : World) (n : Nat) (F G : Nat → Int) (e : Ending) (w' : World) : Prop :=
  ∃ a cap, e = .returned (.slice a n cap) ∧ PRow w' a n F G ∧ Below w.heap.size w w'

set_option maxHeartbeats 8000000 in
set_option maxRecDepth 4000 in
theorem l5Box_some (b off n cap : Nat) (f g : Nat → Int) (r : RowV) (bt ot kt : Nat) (L : List Int) (t : Int) (w : World) (h8 : n ≤ 8) (hb : b < w.heap.size) (hbt : bt < w.heap.size)
    (hc : ∀ i, i < n → w.cell? ⟨b, off + i * 2, none⟩ = some (.int .i64 (f i)) ∧ w.cell? ⟨b, off + i * 2 + 1, none⟩ = some (.int .i64 (g i)))
    (hct : ∀ i, i < n → w.cell? ⟨bt, ot + i, none⟩ = some (.int .i64 (nth L i)))
    (TI : Hid (∀ w1, Calls Try.prog 72 #[r.v, .int .i64 t] w1 fun e w' => e = .returned (.slice (some ⟨bt, ot, none⟩) n kt) ∧ Below w1.heap.size w1 w')) :
    Calls Try.prog 42 #[.slice (some ⟨b, off, none⟩) n cap, r.v, .int .i64 t] w fun e w' => SBox w n (boxF f g t L) (boxG f g t L) e w' := by
  obtain ⟨i0, hi, hz0, hz1, hz2⟩ := infoRange_parts
  have HC := hide hc
  have HCT := hide hct
  obtain ⟨a1, a2, a3, m1, m2, m3, k1, k2, k3⟩ := r
  unfold RowV.v at TI ⊢
  simp only at TI ⊢
  have CL := hide (fun (k : Nat) => sCellOf_any (f k) (g k) t (nth L k))
  unfold cellT at CL
  simp only [show ∀ k, cellLo (f k) (g k) t (nth L k) = boxF f g t L k from fun _ => rfl, show ∀ k, cellHi (f k) (g k) t (nth L k) = boxG f g t L k from fun _ => rfl] at CL
  obtain ⟨F, hF⟩ : ∃ F, boxF f g t L = F := ⟨_, rfl⟩
  obtain ⟨G, hG⟩ : ∃ G, boxG f g t L = G := ⟨_, rfl⟩
  rw [hF, hG] at CL ⊢
  clear hc hct hF hG
  go_enter Try.func42, Try.ntmps42
  go_wp2_with fail
  refine (TI.out _).mono ?_
  rintro e w1 ⟨rfl, hw1⟩
  have B1 : Below w.heap.size w w1 := (by repeat' first | with_reducible exact Below.refl _ _ | with_reducible assumption | with_reducible refine below_drewN ?_ _ | with_reducible refine balloc ?_ _ | with_reducible refine Below.drew ?_ | with_reducible refine Below.setCell ?_ (by first | (simp; done) | (simp; omega) | omega) _ | with_reducible refine bstep ?_ (by assumption))
  have HB1 := hide B1
  have lw := B1.size
  clear hw1 B1
  go_wp2_with fail
  go_loopw [8, 9] (fun v i wr => ∃ k : Nat, k ≤ n ∧ i = .int .i64 k ∧ wr.ownsRow w1.heap.size 64 2 v k (pvals F G k) ∧ Below w.heap.size w wr ∧ w1.heap.size ≤ wr.heap.size) (fun _ i _ => n - (intOf i).toNat)
  case atStart =>
    have B1 := HB1.out
    exact ⟨0, Nat.zero_le _, rfl, World.ownsRow_made w1 #[] 0 (Nat.le_refl _) (Nat.zero_le _) rfl, (by repeat' first | with_reducible exact Below.refl _ _ | with_reducible assumption | with_reducible refine below_drewN ?_ _ | with_reducible refine balloc ?_ _ | with_reducible refine Below.drew ?_ | with_reducible refine Below.setCell ?_ (by first | (simp; done) | (simp; omega) | omega) _ | with_reducible refine bstep ?_ (by assumption)), by simp⟩
  case round =>
    clear HB1
    obtain ⟨k, hk, rfl, hown, hbel, hs1⟩ := hrel
    have HO := hide hown
    have HB := hide hbel
    clear hown
    by_cases hlt : k < n
    · have y1 : wr.cell? ⟨b, off + k * 2, none⟩ = some (.int .i64 (f k)) := (hbel.cell (p := ⟨b, off + k * 2, none⟩) hb).trans (HC.out k hlt).1
      have y2 : wr.cell? ⟨b, off + k * 2 + 1, none⟩ = some (.int .i64 (g k)) := (hbel.cell (p := ⟨b, off + k * 2 + 1, none⟩) hb).trans (HC.out k hlt).2
      have y3 : wr.cell? ⟨bt, ot + k, none⟩ = some (.int .i64 (nth L k)) := (hbel.cell (p := ⟨bt, ot + k, none⟩) hbt).trans (HCT.out k hlt)
      have hlt' : (k : Int) < (n : Int) := by omega
      have S0 : Hid (KS wr wr.drew ⟨b, off + k * 2, none⟩ ⟨b, off + k * 2 + 1, none⟩ ⟨bt, ot + k, none⟩ ⟨bt, ot + k, none⟩ (.int .i64 (f k)) (.int .i64 (g k)) (.int .i64 (nth L k)) (.int .i64 (nth L k))) := hide (KS.of (Below.drew (Below.refl _ _)) y1 y2 y3 y3)
      have C := hide (CL.out k)
      obtain ⟨ok, hok⟩ : ∃ v, cellB (f k) (g k) t (nth L k) = v := ⟨_, rfl⟩
      rw [hok] at C
      clear hok hbel
      go_upto_region 6 with fail
      go_cut [10, 11] from 16 to 38 (fun s10 s11 wx => ∃ z, s10 = .pointer (some ⟨z, 0, none⟩) ∧ s11 = .bool ok ∧ wr.heap.size ≤ z ∧ z < wx.heap.size ∧ wx.cell? ⟨z, 0, none⟩ = some (.int .i64 (F k)) ∧ wx.cell? ⟨z, 1, none⟩ = some (.int .i64 (G k)) ∧ Below wr.heap.size wr wx)
      case first =>
        refine wp_region_held_drew (S := fun wx => KS wr wx ⟨b, off + k * 2, none⟩ ⟨b, off + k * 2 + 1, none⟩ ⟨bt, ot + k, none⟩ ⟨bt, ot + k, none⟩ (.int .i64 (f k)) (.int .i64 (g k)) (.int .i64 (nth L k)) (.int .i64 (nth L k))) (by kernel_rfl) (S0.out) (fun hH0 => ?_)
        refine wpAnyH_take (i := 0) (oi := { dst := some 23, op := _, type := _, pos := _, after := _, guard := _ }) (v := ?_) rfl (by kernel_rfl) (by kernel_rfl) (by kernel_rfl) (fun _ _ _ h => h) (Or.inl ⟨by rfl, ?_⟩) (hH0) ?_
        rotate_left
        · (intro wx hSw; obtain ⟨_, q0, q1, q2, q3⟩ := hSw; go_simp <;> with_reducible rfl)
        simp only [Act.put, List.setIfInBounds_toArray, List.set_cons_zero, List.set_cons_succ]
        refine wpAnyH_take (i := 1) (oi := { dst := some 24, op := _, type := _, pos := _, after := _, guard := _ }) (v := ?_) rfl (by kernel_rfl) (by kernel_rfl) (by kernel_rfl) (fun _ _ _ h => h) (Or.inl ⟨by rfl, ?_⟩) (hH0) ?_
        rotate_left
        · (intro wx hSw; obtain ⟨_, q0, q1, q2, q3⟩ := hSw; go_simp <;> with_reducible rfl)
        simp only [Act.put, List.setIfInBounds_toArray, List.set_cons_zero, List.set_cons_succ]
        refine wpAnyH_take (i := 2) (oi := { dst := some 25, op := _, type := _, pos := _, after := _, guard := _ }) (v := ?_) rfl (by kernel_rfl) (by kernel_rfl) (by kernel_rfl) (fun _ _ _ h => h) (Or.inl ⟨by rfl, ?_⟩) (hH0) ?_
        rotate_left
        · (intro wx hSw; obtain ⟨_, q0, q1, q2, q3⟩ := hSw; go_simp <;> with_reducible rfl)
        simp only [Act.put, List.setIfInBounds_toArray, List.set_cons_zero, List.set_cons_succ]
        refine wpAnyH_take (i := 3) (oi := { dst := some 26, op := _, type := _, pos := _, after := _, guard := _ }) (v := ?_) rfl (by kernel_rfl) (by kernel_rfl) (by kernel_rfl) (fun _ _ _ h => h) (Or.inl ⟨by rfl, ?_⟩) (hH0) ?_
        rotate_left
        · (intro wx hSw; obtain ⟨_, q0, q1, q2, q3⟩ := hSw; go_simp <;> with_reducible rfl)
        simp only [Act.put, List.setIfInBounds_toArray, List.set_cons_zero, List.set_cons_succ]
        refine wpAnyH_take (i := 4) (oi := { dst := some 27, op := _, type := _, pos := _, after := _, guard := _ }) (v := ?_) rfl (by kernel_rfl) (by kernel_rfl) (by kernel_rfl) (fun _ _ _ h => h) (Or.inl ⟨by rfl, ?_⟩) (hH0) ?_
        rotate_left
        · (intro wx hSw; obtain ⟨_, q0, q1, q2, q3⟩ := hSw; go_simp <;> with_reducible rfl)
        simp only [Act.put, List.setIfInBounds_toArray, List.set_cons_zero, List.set_cons_succ]
        refine wpAnyH_take (i := 5) (oi := { dst := some 28, op := _, type := _, pos := _, after := _, guard := _ }) (v := ?_) rfl (by kernel_rfl) (by kernel_rfl) (by kernel_rfl) (fun _ _ _ h => h) (Or.inl ⟨by rfl, ?_⟩) (hH0) ?_
        rotate_left
        · (intro wx hSw; obtain ⟨_, q0, q1, q2, q3⟩ := hSw; go_simp <;> with_reducible rfl)
        simp only [Act.put, List.setIfInBounds_toArray, List.set_cons_zero, List.set_cons_succ]
        refine wpAnyH_take (i := 6) (oi := { dst := some 29, op := _, type := _, pos := _, after := _, guard := _ }) (v := ?_) rfl (by kernel_rfl) (by kernel_rfl) (by kernel_rfl) (fun _ _ _ h => h) (Or.inl ⟨by rfl, ?_⟩) (hH0) ?_
        rotate_left
        · (intro wx hSw; obtain ⟨_, q0, q1, q2, q3⟩ := hSw; go_simp <;> with_reducible rfl)
        simp only [Act.put, List.setIfInBounds_toArray, List.set_cons_zero, List.set_cons_succ]
        refine wpAnyH_take (i := 7) (oi := { dst := some 30, op := _, type := _, pos := _, after := _, guard := _ }) (v := ?_) rfl (by kernel_rfl) (by kernel_rfl) (by kernel_rfl) (fun _ _ _ h => h) (Or.inl ⟨by rfl, ?_⟩) (hH0) ?_
        rotate_left
        · (intro wx hSw; obtain ⟨_, q0, q1, q2, q3⟩ := hSw; go_simp <;> with_reducible rfl)
        simp only [Act.put, List.setIfInBounds_toArray, List.set_cons_zero, List.set_cons_succ]
        refine wpAnyH_take (i := 8) (oi := { dst := some 31, op := _, type := _, pos := _, after := _, guard := _ }) (v := ?_) rfl (by kernel_rfl) (by kernel_rfl) (by kernel_rfl) (fun _ _ _ h => h) (Or.inl ⟨by rfl, ?_⟩) (hH0) ?_
        rotate_left
        · (intro wx hSw; obtain ⟨_, q0, q1, q2, q3⟩ := hSw; go_simp <;> with_reducible rfl)
        simp only [Act.put, List.setIfInBounds_toArray, List.set_cons_zero, List.set_cons_succ]
        -- behind it: go_wp2_with fail, then go_meet (a cut) or go_ret; the condition at the end: hH0
        refine wpAnyH_ready (rs := [9, 13]) (by kernel_rfl) (by simp) ?_
        refine AllReadyH.cons (o := { dst := some 32, op := _, type := _, pos := _, after := _, guard := _ }) rfl (fun K hK => ?_) (AllReadyH.cons (o := { dst := some 10, op := _, type := _, pos := _, after := _, guard := _ }) rfl (fun K hK => ?_) AllReadyH.nil)
        · go_simp
          refine (C.out _).mono ?_
          rintro e wa ⟨rfl, hba⟩
          dsimp only
          refine hK.out _ _ (KS.below hH0 hba) (fun hH1 => ?_)
          clear hK K
          refine wpAnyH_take (i := 10) (oi := { dst := some 22, op := _, type := _, pos := _, after := _, guard := _ }) (v := ?_) rfl (by kernel_rfl) (by kernel_rfl) (by kernel_rfl) (fun _ _ _ h => h) (Or.inl ⟨by rfl, ?_⟩) (hH1) ?_
          rotate_left
          · (intro wx hSw; obtain ⟨_, q0, q1, q2, q3⟩ := hSw; go_simp <;> with_reducible rfl)
          simp only [Act.put, List.setIfInBounds_toArray, List.set_cons_zero, List.set_cons_succ]
          refine wpAnyH_take (i := 11) (oi := { dst := some 33, op := _, type := _, pos := _, after := _, guard := _ }) (v := ?_) rfl (by kernel_rfl) (by kernel_rfl) (by kernel_rfl) (fun _ _ _ h => h) (Or.inl ⟨by rfl, ?_⟩) (hH1) ?_
          rotate_left
          · (intro wx hSw; obtain ⟨_, q0, q1, q2, q3⟩ := hSw; go_simp <;> with_reducible rfl)
          simp only [Act.put, List.setIfInBounds_toArray, List.set_cons_zero, List.set_cons_succ]
          refine wpAnyH_take (i := 12) (oi := { dst := some 34, op := _, type := _, pos := _, after := _, guard := _ }) (v := ?_) rfl (by kernel_rfl) (by kernel_rfl) (by kernel_rfl) (fun _ _ _ h => h) (Or.inl ⟨by rfl, ?_⟩) (hH1) ?_
          rotate_left
          · (intro wx hSw; obtain ⟨_, q0, q1, q2, q3⟩ := hSw; go_simp <;> with_reducible rfl)
          simp only [Act.put, List.setIfInBounds_toArray, List.set_cons_zero, List.set_cons_succ]
          refine wpAnyH_ready (rs := [13]) (by kernel_rfl) (by simp) ?_
          refine AllReadyH.cons (o := { dst := some 10, op := _, type := _, pos := _, after := _, guard := _ }) rfl (fun K hK => ?_) AllReadyH.nil
          go_simp
          refine hK.out _ _ (KS.below hH1 (balloc (Below.refl _ _) _)) (fun hH12 => ?_)
          clear hK K
          -- behind it: go_wp2_with fail, then go_meet (a cut) or go_ret; the condition at the end: hH12
          refine wpAnyH_ready (rs := [14]) (by kernel_rfl) (by simp) ?_
          refine AllReadyH.cons (o := { dst := none, op := _, type := _, pos := _, after := _, guard := _ }) rfl (fun K hK => ?_) AllReadyH.nil
          go_simp
          refine hK.out _ _ (KS.below hH1 (balloc (Below.refl _ _) _)) (fun hH50 => ?_)
          clear hK K
          refine wpAnyH_take (i := 15) (oi := { dst := some 11, op := _, type := _, pos := _, after := _, guard := _ }) (v := ?_) rfl (by kernel_rfl) (by kernel_rfl) (by kernel_rfl) (fun _ _ _ h => h) (Or.inl ⟨by rfl, ?_⟩) (hH50) ?_
          rotate_left
          · (intro wx hSw; obtain ⟨_, q0, q1, q2, q3⟩ := hSw; go_simp <;> with_reducible rfl)
          simp only [Act.put, List.setIfInBounds_toArray, List.set_cons_zero, List.set_cons_succ]
          refine wpAnyH_done (by kernel_rfl) ?_ _
          -- behind it: go_wp2_with fail, then go_meet (a cut) or go_ret; the condition at the end: hH50
          go_wp2_with fail
          go_meet
          exact ⟨_, rfl, rfl, hH1.bel.size, by simp, by simp, by simp, hH50.bel⟩
        · go_simp
          refine hK.out _ _ (KS.below hH0 (balloc (Below.refl _ _) _)) (fun hH1 => ?_)
          clear hK K
          refine wpAnyH_ready (rs := [9]) (by kernel_rfl) (by simp) ?_
          refine AllReadyH.cons (o := { dst := some 32, op := _, type := _, pos := _, after := _, guard := _ }) rfl (fun K hK => ?_) AllReadyH.nil
          go_simp
          refine (C.out _).mono ?_
          rintro e w_c32_12 ⟨rfl, hb_c32_12⟩
          dsimp only
          refine hK.out _ _ (KS.below hH1 hb_c32_12) (fun hH12 => ?_)
          clear hK K
          refine wpAnyH_take (i := 10) (oi := { dst := some 22, op := _, type := _, pos := _, after := _, guard := _ }) (v := ?_) rfl (by kernel_rfl) (by kernel_rfl) (by kernel_rfl) (fun _ _ _ h => h) (Or.inl ⟨by rfl, ?_⟩) (hH12) ?_
          rotate_left
          · (intro wx hSw; obtain ⟨_, q0, q1, q2, q3⟩ := hSw; go_simp <;> with_reducible rfl)
          simp only [Act.put, List.setIfInBounds_toArray, List.set_cons_zero, List.set_cons_succ]
          refine wpAnyH_take (i := 11) (oi := { dst := some 33, op := _, type := _, pos := _, after := _, guard := _ }) (v := ?_) rfl (by kernel_rfl) (by kernel_rfl) (by kernel_rfl) (fun _ _ _ h => h) (Or.inl ⟨by rfl, ?_⟩) (hH12) ?_
          rotate_left
          · (intro wx hSw; obtain ⟨_, q0, q1, q2, q3⟩ := hSw; go_simp <;> with_reducible rfl)
          simp only [Act.put, List.setIfInBounds_toArray, List.set_cons_zero, List.set_cons_succ]
          refine wpAnyH_take (i := 12) (oi := { dst := some 34, op := _, type := _, pos := _, after := _, guard := _ }) (v := ?_) rfl (by kernel_rfl) (by kernel_rfl) (by kernel_rfl) (fun _ _ _ h => h) (Or.inl ⟨by rfl, ?_⟩) (hH12) ?_
          rotate_left
          · (intro wx hSw; obtain ⟨_, q0, q1, q2, q3⟩ := hSw; go_simp <;> with_reducible rfl)
          simp only [Act.put, List.setIfInBounds_toArray, List.set_cons_zero, List.set_cons_succ]
          -- behind it: go_wp2_with fail, then go_meet (a cut) or go_ret; the condition at the end: hH12
          have w0 : w_c32_12.cell? ⟨wr.heap.size, 0, none⟩ = some (.int .i64 0) := (hb_c32_12.cell (p := ⟨wr.heap.size, 0, none⟩) (by simp)).trans (by simp [go_sem])
          have w1' : w_c32_12.cell? ⟨wr.heap.size, 1, none⟩ = some (.int .i64 0) := (hb_c32_12.cell (p := ⟨wr.heap.size, 1, none⟩) (by simp)).trans (by simp [go_sem])
          have w2 : w_c32_12.frozen? ⟨wr.heap.size, 0, none⟩ = false := (hb_c32_12.frozen (p := ⟨wr.heap.size, 0, none⟩) (by simp)).trans (by simp [go_sem])
          have w3 : w_c32_12.frozen? ⟨wr.heap.size, 1, none⟩ = false := (hb_c32_12.frozen (p := ⟨wr.heap.size, 1, none⟩) (by simp)).trans (by simp [go_sem])
          refine wpAnyH_ready (rs := [14]) (by kernel_rfl) (by simp) ?_
          refine AllReadyH.cons (o := { dst := none, op := _, type := _, pos := _, after := _, guard := _ }) rfl (fun K hK => ?_) AllReadyH.nil
          go_simp
          refine hK.out _ _ (KS.of ((hH12.bel.setCell (by simp) _).setCell (by simp) _) y1 y2 y3 y3) (fun hH50 => ?_)
          clear hK K
          refine wpAnyH_take (i := 15) (oi := { dst := some 11, op := _, type := _, pos := _, after := _, guard := _ }) (v := ?_) rfl (by kernel_rfl) (by kernel_rfl) (by kernel_rfl) (fun _ _ _ h => h) (Or.inl ⟨by rfl, ?_⟩) (hH50) ?_
          rotate_left
          · (intro wx hSw; obtain ⟨_, q0, q1, q2, q3⟩ := hSw; go_simp <;> with_reducible rfl)
          simp only [Act.put, List.setIfInBounds_toArray, List.set_cons_zero, List.set_cons_succ]
          refine wpAnyH_done (by kernel_rfl) ?_ _
          -- behind it: go_wp2_with fail, then go_meet (a cut) or go_ret; the condition at the end: hH50
          go_wp2_with fail
          go_meet
          have lz : wr.heap.size < w_c32_12.heap.size := by have := hb_c32_12.size; simp at this; omega
          exact ⟨_, rfl, rfl, Nat.le_refl _, by simpa [World.setCell] using lz, by simp [go_sem, w0, w1'], by simp [go_sem, w0, w1'], hH50.bel⟩
      case rest =>
        obtain ⟨z, rfl, rfl, lz, lz', c0, c1, bc⟩ := hcut
        have hsz := bc.size
        have HOc := hide (owns_below HO.out bc)
        have HBc := hide (bstep HB.out bc)
        clear y1 y2 y3 S0 bc
        go_wp2_with (at_builtin; refine wpList_append_own _ rfl _ _ 24 rfl w1.heap.size 64 i0 _ 2 16 Try.underlying24 hi hz0 hz1 hz2 rfl (by decide) _ _ _ rfl (World.ownsRow.alloc HOc.out _) ⟨_, 0, none⟩ 1 1 [.int .i64 (F k), .int .i64 (G k)] rfl rfl ?c1 ?c2 ?c3 ?c4 ?c5 ?_)
        case c1 => exact two_new _ _ _ _
        case c2 => intro u hu; simp at hu; rcases hu with rfl | rfl <;> rfl
        case c3 => unfold maxLen; omega
        case c4 => omega
        case c5 => simp; omega
        intro v' w2 hown2 hgrow _
        have bq := hide (below_appQ (X := w1.heap.size) (w := wc) (hg := hgrow) (hb := balloc' (Below.refl _ _) (by omega) _) (hX := by simp; omega) (hXB := Nat.le_refl _) (ho := World.ownsRow.alloc HOc.out _))
        have HO2 := hide hown2
        clear hgrow hown2
        have s2 := bq.out.size
        go_wp2_with fail
        go_roundw
        case rel => exact ⟨k + 1, by omega, by go_num, HO2.out, (HBc.out).trans (bq.out.mono (by omega)), by omega⟩
        case measure => simp [intOf]; omega
    · obtain rfl : k = n := by omega
      obtain ⟨av, cv, hv, rv, nv⟩ := prow_of_owns HO.out
      subst hv
      clear hbel nv
      go_wp2_with fail
      go_ret
      exact ⟨av, cv, rfl, rv, HB.out⟩
end Go.Proofs.Ytoiaamcnmpdglaa

/- The walk of FnExactRowOk. -/
namespace Go.Proofs.Ytoiaamcnmpdglaa
open Go.RowKit
set_option maxRecDepth 8000
set_option linter.unusedSimpArgs false
set_option linter.unusedVariables false

theorem IsRow.le {w : World} {a : Option Addr} {len cap : Nat} {zs : List Int} (h : IsRow .i64 w a len cap zs) : len ≤ 9223372036854775807 := by
  rcases h with ⟨_, rfl, _, _⟩ | ⟨x, _, hl, hm, _⟩
  · omega
  · unfold maxLen at hm; omega

/-- Two boxes of three cells. -/
structure Two3 (w : World) (b c : Nat) (v0 v1 v2 u0 u1 u2 : Value) : Prop where
  one : TriW w b v0 v1 v2
  two : TriW w c u0 u1 u2

theorem Two3.below {w w' : World} {b c : Nat} {v0 v1 v2 u0 u1 u2 : Value} (h : Two3 w b c v0 v1 v2 u0 u1 u2) (hb : Below w.heap.size w w') : Two3 w' b c v0 v1 v2 u0 u1 u2 := ⟨h.one.below hb, h.two.below hb⟩

end Go.Proofs.Ytoiaamcnmpdglaa
/- BoxOf of the model at all arguments; the walk of FnExactBoxOf. -/
namespace Go.Proofs.Ytoiaamcnmpdglaa
open Go.RowKit
set_option maxRecDepth 8000
set_option linter.unusedSimpArgs false
set_option linter.unusedVariables false

/-- The answer of the model's BoxOf. -/
def SBoxT (w : World) (ok : Bool) (n : Nat) (F G : Nat → Int) (e : Ending) (w' : World) : Prop :=
  ∃ a m cap, e = .returned (.tuple #[.slice a m cap, .bool ok]) ∧ m = (if ok then n else 0) ∧ PRow w' a m F G ∧ Below w.heap.size w w'

set_option maxHeartbeats 4000000 in
theorem sBoxOf_any (a : Option Addr) (n cap : Nat) (f g : Nat → Int) (r : RowV) (L1 L2 L3 : List Int) (t : Int) (w : World) (h : PRow w a n f g) (hr : r.is w L1 L2 L3) (hn : n ≤ 1048576) :
    Calls Try.prog 15 #[.slice a n cap, r.v, .int .i64 t] w fun e w' => SBoxT w (rowOkB n f g L1 L2 L3 && tierB t) n (boxF f g t (tierL t L1 L2 L3)) (boxG f g t (tierL t L1 L2 L3)) e w' := by
  have RO := hide (fun w1 (hb : Below w.heap.size w w1) => sRowOk_any a n cap f g r L1 L2 L3 w1 (h.below hb) (hr.below hb) hn)
  have LT := hide (l3Tier_any t)
  cases hv : rowOkB n f g L1 L2 L3
  · rw [hv] at RO
    obtain ⟨a1, a2, a3, m1, m2, m3, k1, k2, k3⟩ := r
    unfold RowV.v at RO ⊢
    simp only [Bool.false_and] at RO ⊢
    clear h hr hv
    go_enter Try.func15, Try.ntmps15
    go_wp2_with fail
    refine (RO.out _ (by repeat' first | with_reducible exact Below.refl _ _ | with_reducible assumption | with_reducible refine below_drewN ?_ _ | with_reducible refine balloc ?_ _ | with_reducible refine Below.drew ?_ | with_reducible refine Below.setCell ?_ (by first | (simp; done) | (simp; omega) | omega) _ | with_reducible refine bstep ?_ (by assumption))).mono ?_
    rintro e w1 ⟨rfl, hb1⟩
    go_wp2_with fail
    refine bodyPost_ret (v := .tuple #[.slice none 0 0, .bool false]) ?_ rfl ⟨none, 0, 0, rfl, rfl, ⟨.inl rfl⟩, (by repeat' first | with_reducible exact Below.refl _ _ | with_reducible assumption | with_reducible refine below_drewN ?_ _ | with_reducible refine balloc ?_ _ | with_reducible refine Below.drew ?_ | with_reducible refine Below.setCell ?_ (by first | (simp; done) | (simp; omega) | omega) _ | with_reducible refine bstep ?_ (by assumption))⟩
    simp [results, Try.results15, go_sem]
  · rw [hv] at RO
    cases ht : tierB t
    · rw [ht] at LT
      obtain ⟨a1, a2, a3, m1, m2, m3, k1, k2, k3⟩ := r
      unfold RowV.v at RO ⊢
      simp only [Bool.and_false] at RO ⊢
      clear h hr hv ht
      go_enter Try.func15, Try.ntmps15
      go_wp2_with fail
      refine (RO.out _ (by repeat' first | with_reducible exact Below.refl _ _ | with_reducible assumption | with_reducible refine below_drewN ?_ _ | with_reducible refine balloc ?_ _ | with_reducible refine Below.drew ?_ | with_reducible refine Below.setCell ?_ (by first | (simp; done) | (simp; omega) | omega) _ | with_reducible refine bstep ?_ (by assumption))).mono ?_
      rintro e w1 ⟨rfl, hb1⟩
      go_wp2_with fail
      refine (LT.out _).mono ?_
      rintro e w2 ⟨rfl, rfl⟩
      go_wp2_with fail
      refine bodyPost_ret (v := .tuple #[.slice none 0 0, .bool false]) ?_ rfl ⟨none, 0, 0, rfl, rfl, ⟨.inl rfl⟩, (by repeat' first | with_reducible exact Below.refl _ _ | with_reducible assumption | with_reducible refine below_drewN ?_ _ | with_reducible refine balloc ?_ _ | with_reducible refine Below.drew ?_ | with_reducible refine Below.setCell ?_ (by first | (simp; done) | (simp; omega) | omega) _ | with_reducible refine bstep ?_ (by assumption))⟩
      simp [results, Try.results15, go_sem]
    · rw [ht] at LT
      have hv' := hv
      simp only [rowOkB, Bool.and_eq_true, decide_eq_true_eq] at hv'
      obtain ⟨hB, ⟨e1, e2, e3⟩, _⟩ := hv'
      have hn8 := boxB_num' hB
      have f1 := hr.r1.len
      have f2 := hr.r2.len
      have f3 := hr.r3.len
      rcases h.lies with q | ⟨b, off, rfl, lt, hc⟩
      · omega
      have LB : Hid (∀ w1, Below w.heap.size w w1 → Calls Try.prog 42 #[.slice (some ⟨b, off, none⟩) n cap, r.v, .int .i64 t] w1 fun e w' => SBox w1 n (boxF f g t (tierL t L1 L2 L3)) (boxG f g t (tierL t L1 L2 L3)) e w') := by
        refine hide fun w1 hb1 => ?_
        have TI := hide (fun w1 => l5Tier_any r t w1 ht)
        have hc1 : ∀ i, i < n → w1.cell? ⟨b, off + i * 2, none⟩ = some (.int .i64 (f i)) ∧ w1.cell? ⟨b, off + i * 2 + 1, none⟩ = some (.int .i64 (g i)) := fun i hi => ⟨(hb1.cell (p := ⟨b, off + i * 2, none⟩) lt).trans (hc i hi).1, (hb1.cell (p := ⟨b, off + i * 2 + 1, none⟩) lt).trans (hc i hi).2⟩
        have hr' := hr.below hb1
        obtain ⟨a1, a2, a3, m1, m2, m3, k1, k2, k3⟩ := r
        obtain ⟨r1, r2, r3⟩ := hr'
        simp only at r1 r2 r3 f1 f2 f3
        obtain rfl : m1 = n := by omega
        obtain rfl : m2 = m1 := by omega
        obtain rfl : m3 = m2 := by omega
        rcases r1.lies with q | ⟨b1, o1, rfl, lt1, hc1'⟩
        · omega
        rcases r2.lies with q | ⟨b2, o2, rfl, lt2, hc2'⟩
        · omega
        rcases r3.lies with q | ⟨b3, o3, rfl, lt3, hc3'⟩
        · omega
        have ltw := Nat.lt_of_lt_of_le lt hb1.size
        rcases tier_cases ht with rfl | rfl | rfl
        · exact l5Box_some b off m3 cap f g _ b1 o1 k1 L1 1 w1 hn8.2 ltw lt1 hc1 hc1' TI
        · exact l5Box_some b off m3 cap f g _ b2 o2 k2 L2 2 w1 hn8.2 ltw lt2 hc1 hc2' TI
        · exact l5Box_some b off m3 cap f g _ b3 o3 k3 L3 3 w1 hn8.2 ltw lt3 hc1 hc3' TI
      obtain ⟨a1, a2, a3, m1, m2, m3, k1, k2, k3⟩ := r
      unfold RowV.v at RO LB ⊢
      simp only [Bool.and_self] at RO LB ⊢
      generalize boxF f g t (tierL t L1 L2 L3) = F at LB ⊢
      generalize boxG f g t (tierL t L1 L2 L3) = G at LB ⊢
      clear h hr hc hv ht hB f1 f2 f3
      go_enter Try.func15, Try.ntmps15
      go_wp2_with fail
      refine (RO.out _ (by repeat' first | with_reducible exact Below.refl _ _ | with_reducible assumption | with_reducible refine below_drewN ?_ _ | with_reducible refine balloc ?_ _ | with_reducible refine Below.drew ?_ | with_reducible refine Below.setCell ?_ (by first | (simp; done) | (simp; omega) | omega) _ | with_reducible refine bstep ?_ (by assumption))).mono ?_
      rintro e w1 ⟨rfl, hb1⟩
      have T1 : TriW w1 w.heap.size (.slice a1 m1 k1) (.slice a2 m2 k2) (.slice a3 m3 k3) := (TriW.new w _ _ _ _ _ rfl).below hb1
      have B1 : Below w.heap.size w w1 := (by repeat' first | with_reducible exact Below.refl _ _ | with_reducible assumption | with_reducible refine below_drewN ?_ _ | with_reducible refine balloc ?_ _ | with_reducible refine Below.drew ?_ | with_reducible refine Below.setCell ?_ (by first | (simp; done) | (simp; omega) | omega) _ | with_reducible refine bstep ?_ (by assumption))
      obtain ⟨_, t0, t1, t2, _, _, _⟩ := T1
      clear hb1
      go_wp2_with fail
      refine (LT.out _).mono ?_
      rintro e w2 ⟨rfl, hw2⟩
      obtain rfl := hw2.symm
      clear hw2
      go_wp2_with fail
      refine (LB.out _ B1).mono ?_
      rintro e w3 ⟨a4, c4, rfl, r4, hb4⟩
      have R4 := hide r4
      clear r4
      go_wp2_with fail
      refine bodyPost_ret (v := .tuple #[.slice a4 n c4, .bool true]) ?_ rfl ⟨a4, n, c4, rfl, rfl, R4.out, bstep B1 hb4⟩
      simp [results, Try.results15, go_sem]



theorem TriW.far' {w w' : World} {b B C : Nat} {v0 v1 v2 : Value} (h : TriW w b v0 v1 v2) (hf : Far B C w w') (hne : b < B ∨ C ≤ b) : TriW w' b v0 v1 v2 := by
  have e := hf.block b h.lt hne
  obtain ⟨h0, h1, h2, h3, f0, f1, f2⟩ := h
  refine ⟨Nat.lt_of_lt_of_le h0 hf.size, ?_, ?_, ?_, ?_, ?_, ?_⟩ <;> simp only [World.cell?, World.frozen?, e] at * <;> assumption

theorem PRow.far {w w' : World} {B C : Nat} {a : Option Addr} {n : Nat} {f g : Nat → Int} (h : PRow w a n f g) (hf : Far B C w w') (hne : ∀ b off, a = some ⟨b, off, none⟩ → 0 < n → b < B ∨ C ≤ b) : PRow w' a n f g := by
  rcases h.lies with h0 | ⟨b, off, e, lt, hc⟩
  · exact ⟨.inl h0⟩
  · by_cases hn : n = 0
    · exact ⟨.inl hn⟩
    · have eb := hf.block b lt (hne b off e (by omega))
      exact ⟨.inr ⟨b, off, e, Nat.lt_of_lt_of_le lt hf.size, fun i hi => ⟨(World.cell?_of_block (w := w) eb).trans (hc i hi).1, (World.cell?_of_block (w := w) eb).trans (hc i hi).2⟩⟩⟩

theorem PRow.lt {w : World} {a : Option Addr} {n : Nat} {f g : Nat → Int} (h : PRow w a n f g) (hn : 0 < n) : ∀ b off, a = some ⟨b, off, none⟩ → b < w.heap.size := by
  intro b off e
  rcases h.lies with h0 | ⟨b', off', e', lt, _⟩
  · omega
  · rw [e] at e'; cases e'; exact lt

theorem Mine3.far {B C B' C' : Nat} {w w' : World} {g1 g2 g3 : Nat} {L1 L2 L3 : List Int} (h : Mine3 B C w g1 g2 g3 L1 L2 L3) (hf : Far B' C' w w') (hd : C ≤ B' ∨ C' ≤ B) : Mine3 B C w' g1 g2 g3 L1 L2 L3 := by
  obtain ⟨o1, o2, o3, ⟨b1, b2, b3⟩, ⟨c1, c2, c3⟩, ap⟩ := h
  exact ⟨World.rowIs.of_block o1 (hf.block _ (World.rowIs.lt o1) (by omega)), World.rowIs.of_block o2 (hf.block _ (World.rowIs.lt o2) (by omega)), World.rowIs.of_block o3 (hf.block _ (World.rowIs.lt o3) (by omega)), ⟨b1, b2, b3⟩, ⟨c1, c2, c3⟩, ap⟩

/-- What lies there once both have answered: the row's box, the model's ranges below t, the program's between B and C. -/
structure BS (w0 W : World) (u0 u1 u2 : Value) (t B C : Nat) (sa ia : Option Addr) (m : Nat) (F G F' G' : Nat → Int) : Prop where
  bel : Below w0.heap.size w0 W
  bx : TriW W w0.heap.size u0 u1 u2
  r : PRow W sa m F G
  e : ∀ b off, sa = some ⟨b, off, none⟩ → 0 < m → b < t
  o : m = 0 ∨ ∃ b, ia = some ⟨b, 0, none⟩ ∧ B ≤ b ∧ b < C ∧ OwnP W b m F' G'
  lo : w0.heap.size < t
  tB : t ≤ B

theorem BS.below {w0 W W' : World} {u0 u1 u2 : Value} {t B C : Nat} {sa ia : Option Addr} {m : Nat} {F G F' G' : Nat → Int} (h : BS w0 W u0 u1 u2 t B C sa ia m F G F' G') (hb : Below W.heap.size W W') : BS w0 W' u0 u1 u2 t B C sa ia m F G F' G' :=
  ⟨bstep h.bel hb, h.bx.below hb, h.r.below hb, h.e, h.o.imp id (fun ⟨b, e, l, l', o⟩ => ⟨b, e, l, l', o.below hb⟩), h.lo, h.tB⟩

theorem BS.far {w0 W W' : World} {u0 u1 u2 : Value} {t B C B' C' : Nat} {sa ia : Option Addr} {m : Nat} {F G F' G' : Nat → Int} (h : BS w0 W u0 u1 u2 t B C sa ia m F G F' G') (hf : Far B' C' W W') (h1 : t ≤ B') (h2 : C' ≤ B) : BS w0 W' u0 u1 u2 t B C sa ia m F G F' G' :=
  ⟨h.bel.trans (hf.below (by have := h.lo; omega) h.bel.size), h.bx.far' hf (by have := h.lo; omega), h.r.far hf (fun b off e p => by have := h.e b off e p; omega), h.e, h.o.imp id (fun ⟨b, e, l, l', o⟩ => ⟨b, e, l, l', World.rowIs.of_block o (hf.block b (World.rowIs.lt o) (by omega))⟩), h.lo, h.tB⟩

theorem BS.prow {w0 W : World} {u0 u1 u2 : Value} {t B C : Nat} {sa ia : Option Addr} {m : Nat} {F G F' G' : Nat → Int} (h : BS w0 W u0 u1 u2 t B C sa ia m F G F' G') : PRow W ia m F' G' := by
  rcases h.o with h0 | ⟨b, rfl, _, _, o⟩
  · exact ⟨.inl h0⟩
  · exact o.prow



end Go.Proofs.Ytoiaamcnmpdglaa