/- CmdText of the program. -/
import Derived.Test.YtggjcccdeaadbaaGreatDoorZ23
import Derived.Test.YtggjcccdeaadbaaGreatDoorZ26
import Derived.Test.YtggjcccdeaadbaaGreatDoorZ7
import Derived.BigQuiet
namespace Go.Proofs.YtggjcccdeaadbaaGreatDoor
open Go.RowKit
set_option maxRecDepth 8000
set_option linter.unusedSimpArgs false
set_option linter.unusedVariables false

theorem join_lenM (M : Nat) : ∀ (p : List (List UInt8)), (∀ x ∈ p, x.length ≤ M) → (Lib.join p [32]).length ≤ (M + 1) * p.length
  | [], _ => by simp [Lib.join]
  | [a], h => by
    have := h a (by simp)
    simp [Lib.join]; omega
  | a :: b :: r, h => by
    have ih := join_lenM M (b :: r) (fun x hx => h x (List.mem_cons_of_mem _ hx))
    have := h a (by simp)
    rw [join_two]
    simp only [List.length_append, List.length_cons] at ih ⊢
    have e : (M + 1) * (r.length + 1 + 1) = (M + 1) * (r.length + 1) + (M + 1) := by rw [Nat.mul_add (M + 1) (r.length + 1) 1, Nat.mul_one]
    rw [e]
    omega

theorem wdW_len (nm : List UInt8) (a b c : Int) (n : Nat) (fv : Bool) (xs : List Int) : 1 ≤ (wdW nm [a, b, c] n fv xs).length ∧ (wdW nm [a, b, c] n fv xs).length ≤ 5 := by
  unfold wdW wdN
  cases fv <;> simp <;> omega

theorem wdW_words {nm : List UInt8} {a b c : Int} {n : Nat} {fv : Bool} {xs : List Int} (hnm : nm.length ≤ 60) (hL : ∀ j, j < n → -9223372036854775808 ≤ nth [a, b, c] j ∧ nth [a, b, c] j ≤ 9223372036854775807) : ∀ x ∈ wdW nm [a, b, c] n fv xs, x.length ≤ 200 := by
  intro x hx
  unfold wdW wdN at hx
  simp only [List.mem_append, List.mem_cons, List.mem_map] at hx
  rcases hx with (rfl | ⟨y, hy, rfl⟩) | hx
  · omega
  · obtain ⟨i, hi, e⟩ := List.getElem_of_mem hy
    have hi' := hi
    rw [List.length_take] at hi'
    rw [List.getElem_take] at e
    have hb := hL i (by omega)
    have : nth [a, b, c] i = y := by unfold nth; rw [List.getD_eq_getElem?_getD, List.getElem?_eq_getElem (by omega), e]; rfl
    rw [this] at hb
    have := itoa_lenC (x := y) hb.1 hb.2; rw [bs_size] at this; omega
  · cases fv
    · simp at hx
    · simp at hx
      subst hx
      unfold vecTB
      split
      · rename_i h
        obtain ⟨⟨n1, n8⟩, hm⟩ := vecOk_mem h
        have := vecT_len _ xs rfl hm
        omega
      · simp

set_option maxHeartbeats 8000000 in
set_option maxRecDepth 4000 in
theorem iCmdTextF (fk : Int) (fn : ByteArray) (p0 q0 p1 q1 p2 q2 : Int) (fv : Bool) (k a b c : Int) (va : Option Addr) (vn vc : Nat) (xs : List Int) (w : World) (rv : Row w va vn xs) (hn : vn ≤ 1048576) (F : Forms w) (T : Tab w)
    (e1 : formR (kindN k) = #[.int .i64 fk, .string fn, .int .i64 p0, .int .i64 q0, .int .i64 p1, .int .i64 q1, .int .i64 p2, .int .i64 q2, .bool fv]) (e2 : kindB k = true) (hfn : fn.data.toList.length ≤ 60)
    (hL : fitsB p0 q0 p1 q1 p2 q2 fv a b c vn xs = true → ∀ j, j < nmN q0 q1 q2 → -9223372036854775808 ≤ nth [a, b, c] j ∧ nth [a, b, c] j ≤ 9223372036854775807) :
    Calls Tryz.prog 6 #[.agg #[.int .i64 k, .int .i64 a, .int .i64 b, .int .i64 c, .slice va vn vc]] w fun e w' => e = .returned (.string (bs (if fitsB p0 q0 p1 q1 p2 q2 fv a b c vn xs then Lib.join (wdW fn.data.toList [a, b, c] (nmN q0 q1 q2) fv xs) [32] else []))) ∧ Below w.heap.size w w' := by
  have C0 := hide (v5_new w (.int .i64 k) (.int .i64 a) (.int .i64 b) (.int .i64 c) (.slice va vn vc) 26)
  have B0 : Hid (Below w.heap.size w (w.alloc (.cells #[.int .i64 k, .int .i64 a, .int .i64 b, .int .i64 c, .slice va vn vc] 26))) := hide (balloc (Below.refl _ _) _)
  have FO := hide (fun w1 (s : Below w.heap.size w w1) => formOf_any k w1 (F.below s))
  rw [e1, e2] at FO
  have FI := hide (fun w1 (s : Below w.heap.size w w1) => fits_any fk fn p0 q0 p1 q1 p2 q2 fv k a b c va vn vc xs w1 (rv.below s) hn)
  obtain ⟨R, hR⟩ : ∃ R, fitsB p0 q0 p1 q1 p2 q2 fv a b c vn xs = R := ⟨_, rfl⟩
  rw [hR] at FI hL ⊢
  clear e1 e2 hR
  obtain ⟨_, y0, y1, y2, y3, y4, _⟩ := v5_facts C0.out
  cases R
  · rw [if_neg (by decide), show bs [] = ⟨#[]⟩ from rfl]
    clear hL rv T F
    go_enter Tryz.func6, Tryz.ntmps6
    go_wp2_with fail
    refine (FO.out _ B0.out).mono ?_
    rintro e w1 ⟨rfl, hb1⟩
    have nb := balloc (Below.refl w1.heap.size w1) (.cells #[.int .i64 fk, .string fn, .int .i64 p0, .int .i64 q0, .int .i64 p1, .int .i64 q1, .int .i64 p2, .int .i64 q2, .bool fv] 38)
    have B1 := hide (bstep (bstep B0.out hb1) nb)
    have C1 := hide (row_belowC (row_belowC C0.out hb1) nb)
    clear hb1 nb y0 y1 y2 y3 y4 C0
    obtain ⟨_, y0, y1, y2, y3, y4, _⟩ := v5_facts C1.out
    go_wp2_with fail
    refine (FI.out _ B1.out).mono ?_
    rintro e w2 ⟨rfl, hb2⟩
    have B2 := hide (bstep B1.out hb2)
    clear hb2
    go_wp2_with fail
    go_ret
    exact ⟨rfl, B2.out⟩
  · rw [if_pos rfl]
    have WD := hide (fun w1 (s : Below w.heap.size w w1) => words_any fk fn p0 q0 p1 q1 p2 q2 fv k a b c va vn vc xs w1 (rv.below s) hn (T.below s) (hL rfl))
    have WL := hide (wdW_words (xs := xs) (fv := fv) hfn (hL rfl))
    have WN := hide (wdW_len fn.data.toList a b c (nmN q0 q1 q2) fv xs)
    obtain ⟨W, hW⟩ : ∃ W, wdW fn.data.toList [a, b, c] (nmN q0 q1 q2) fv xs = W := ⟨_, rfl⟩
    rw [hW] at WD WL WN ⊢
    clear hL rv T F hW
    go_enter Tryz.func6, Tryz.ntmps6
    go_wp2_with fail
    refine (FO.out _ B0.out).mono ?_
    rintro e w1 ⟨rfl, hb1⟩
    have nb := balloc (Below.refl w1.heap.size w1) (.cells #[.int .i64 fk, .string fn, .int .i64 p0, .int .i64 q0, .int .i64 p1, .int .i64 q1, .int .i64 p2, .int .i64 q2, .bool fv] 38)
    have B1 := hide (bstep (bstep B0.out hb1) nb)
    have C1 := hide (row_belowC (row_belowC C0.out hb1) nb)
    have Z1 := hide (v9_new w1 (.int .i64 fk) (.string fn) (.int .i64 p0) (.int .i64 q0) (.int .i64 p1) (.int .i64 q1) (.int .i64 p2) (.int .i64 q2) (.bool fv) 38)
    clear hb1 nb y0 y1 y2 y3 y4 C0 B0 FO
    obtain ⟨_, y0, y1, y2, y3, y4, _⟩ := v5_facts C1.out
    go_wp2_with fail
    refine (FI.out _ B1.out).mono ?_
    rintro e w2 ⟨rfl, hb2⟩
    have B2 := hide (bstep B1.out hb2)
    have C2 := hide (row_belowC C1.out hb2)
    have Z2 := hide (row_belowC Z1.out hb2)
    clear hb2 y0 y1 y2 y3 y4 FI B1 C1 Z1
    obtain ⟨_, y0, y1, y2, y3, y4, _⟩ := v5_facts C2.out
    obtain ⟨_, z0, z1, z2, z3, z4, z5, z6, z7, z8, _⟩ := v9_facts Z2.out
    go_wp2_with fail
    refine (WD.out _ B2.out).mono ?_
    rintro e w3 ⟨v, rfl, ow, hb3⟩
    have B3 := hide (bstep B2.out hb3)
    clear hb3 y0 y1 y2 y3 y4 z0 z1 z2 z3 z4 z5 z6 z7 z8 B2 C2 Z2 WD
    have HO := hide ow
    have wn := WN.out
    rcases ow.2 with ⟨_, q⟩ | ⟨g, cap, cur, rfl, hgb, hg, hcap, _⟩
    · omega
    · have hglt : g < w3.heap.size := (Array.getElem?_eq_some_iff.1 hg).1
      obtain ⟨B, hB⟩ : ∃ B : List ByteArray, W.map bs = B := ⟨_, rfl⟩
      have bl : B.length = W.length := by rw [← hB, List.length_map]
      have f1 : B.map (·.data.toList) = W := by rw [← hB, List.map_map]; conv => rhs; rw [← List.map_id W]
                                                exact List.map_congr_left fun x _ => bs_list _
      have JN := hide (Tryz.strings_Join g 0 cap B ⟨#[32]⟩ w3 (fun i x hi' => by
          have hlt' : i < B.length := (List.getElem?_eq_some_iff.1 hi').1
          rw [Nat.zero_add, HO.out.cellAt i (by omega)]
          rw [← hB, List.getElem?_map] at hi'
          unfold strsV
          rw [List.getElem?_map]
          cases hq : W[i]? with
          | none => rw [hq] at hi'; cases hi'
          | some y => rw [hq] at hi'; simp at hi'; simp [hi']) hglt (by omega) (by omega) (by
        rw [f1]
        have := join_lenM 200 _ WL.out
        show (Lib.join _ [32]).length ≤ _
        omega))
      rw [f1, bl] at JN
      clear hB bl f1 hg hcap wn ow
      go_wp2_with fail
      refine JN.out.mono ?_
      rintro e w4 ⟨rfl, hb4⟩
      have B4 := hide (bstep B3.out hb4)
      clear hb4
      go_wp2_with fail
      go_ret
      exact ⟨rfl, B4.out⟩

theorem nth3 {a b c : Int} {n : Nat} {j : Nat} (hn : n ≤ 3) (h : j < n) (h0 : 0 < n → -9223372036854775808 ≤ a ∧ a ≤ 9223372036854775807) (h1 : 1 < n → -9223372036854775808 ≤ b ∧ b ≤ 9223372036854775807) (h2 : 2 < n → -9223372036854775808 ≤ c ∧ c ≤ 9223372036854775807) : -9223372036854775808 ≤ nth [a, b, c] j ∧ nth [a, b, c] j ≤ 9223372036854775807 := by
  rcases (show j = 0 ∨ j = 1 ∨ j = 2 from by omega) with rfl | rfl | rfl
  · exact h0 h
  · exact h1 h
  · exact h2 h

set_option maxHeartbeats 4000000 in
theorem iCmdText_any (k a b c : Int) (va : Option Addr) (vn vc : Nat) (xs : List Int) (w : World) (rv : Row w va vn xs) (hn : vn ≤ 1048576) (F : Forms w) (T : Tab w) :
    Calls Tryz.prog 6 #[.agg #[.int .i64 k, .int .i64 a, .int .i64 b, .int .i64 c, .slice va vn vc]] w fun e w' => e = .returned (.string (bs (cmdT k a b c vn xs))) ∧ Below w.heap.size w w' := by
  cases hk : kindB k
  · have C0 := hide (v5_new w (.int .i64 k) (.int .i64 a) (.int .i64 b) (.int .i64 c) (.slice va vn vc) 26)
    have B0 : Hid (Below w.heap.size w (w.alloc (.cells #[.int .i64 k, .int .i64 a, .int .i64 b, .int .i64 c, .slice va vn vc] 26))) := hide (balloc (Below.refl _ _) _)
    have FO := hide (fun w1 (s : Below w.heap.size w w1) => formOf_any k w1 (F.below s))
    have CN : cmdT k a b c vn xs = [] := by unfold cmdT; rw [cmdB_no hk, if_neg (by decide)]
    rw [CN, show bs [] = ⟨#[]⟩ from rfl]
    have e7 : formR (kindN k) = #[.int .i64 0, .string ⟨#[]⟩, .int .i64 0, .int .i64 0, .int .i64 0, .int .i64 0, .int .i64 0, .int .i64 0, .bool false] := by unfold kindN; rw [hk]; rfl
    rw [e7, hk] at FO
    clear hk e7 CN rv F T
    obtain ⟨_, y0, y1, y2, y3, y4, _⟩ := v5_facts C0.out
    go_enter Tryz.func6, Tryz.ntmps6
    go_wp2_with fail
    refine (FO.out _ B0.out).mono ?_
    rintro e w1 ⟨rfl, hb1⟩
    have B1 := hide (bstep B0.out hb1)
    clear hb1
    go_wp2_with fail
    go_ret
    exact ⟨rfl, balloc B1.out _⟩
  · have h' : 1 ≤ k ∧ k ≤ 7 := of_decide_eq_true hk
    clear hk
    rcases (show k = 1 ∨ k = 2 ∨ k = 3 ∨ k = 4 ∨ k = 5 ∨ k = 6 ∨ k = 7 from by omega) with rfl | rfl | rfl | rfl | rfl | rfl | rfl
    · have z := iCmdTextF 1 ⟨#[100, 105, 109]⟩ 1 8 0 0 0 0 false 1 a b c va vn vc xs w rv hn F T (by rw [show kindN 1 = 0 from by decide]; rfl) (by decide) (by decide) (fun h j hj => by
        obtain ⟨f0, f1, f2, _⟩ := fits_facts h
        exact nth3 (by decide) hj (fun _ => by omega) (fun _ => by omega) (fun _ => by omega))
      rw [show cmdT 1 a b c vn xs = if fitsB 1 8 0 0 0 0 false a b c vn xs then Lib.join (wdW (⟨#[100, 105, 109]⟩ : ByteArray).data.toList [a, b, c] (nmN 8 0 0) false xs) [32] else [] from rfl]
      exact z
    · have z := iCmdTextF 2 ⟨#[112, 117, 116]⟩ 1 9999 0 255 0 0 true 2 a b c va vn vc xs w rv hn F T (by rw [show kindN 2 = 1 from by decide]; rfl) (by decide) (by decide) (fun h j hj => by
        obtain ⟨f0, f1, f2, _⟩ := fits_facts h
        exact nth3 (by decide) hj (fun _ => by omega) (fun _ => by omega) (fun _ => by omega))
      rw [show cmdT 2 a b c vn xs = if fitsB 1 9999 0 255 0 0 true a b c vn xs then Lib.join (wdW (⟨#[112, 117, 116]⟩ : ByteArray).data.toList [a, b, c] (nmN 9999 255 0) true xs) [32] else [] from rfl]
      exact z
    · have z := iCmdTextF 3 ⟨#[100, 114, 111, 112]⟩ 1 9999 0 0 0 0 false 3 a b c va vn vc xs w rv hn F T (by rw [show kindN 3 = 2 from by decide]; rfl) (by decide) (by decide) (fun h j hj => by
        obtain ⟨f0, f1, f2, _⟩ := fits_facts h
        exact nth3 (by decide) hj (fun _ => by omega) (fun _ => by omega) (fun _ => by omega))
      rw [show cmdT 3 a b c vn xs = if fitsB 1 9999 0 0 0 0 false a b c vn xs then Lib.join (wdW (⟨#[100, 114, 111, 112]⟩ : ByteArray).data.toList [a, b, c] (nmN 9999 0 0) false xs) [32] else [] from rfl]
      exact z
    · have z := iCmdTextF 4 ⟨#[98, 117, 105, 108, 100]⟩ 0 0 0 0 0 0 false 4 a b c va vn vc xs w rv hn F T (by rw [show kindN 4 = 3 from by decide]; rfl) (by decide) (by decide) (fun h j hj => by
        obtain ⟨f0, f1, f2, _⟩ := fits_facts h
        exact nth3 (by decide) hj (fun _ => by omega) (fun _ => by omega) (fun _ => by omega))
      rw [show cmdT 4 a b c vn xs = if fitsB 0 0 0 0 0 0 false a b c vn xs then Lib.join (wdW (⟨#[98, 117, 105, 108, 100]⟩ : ByteArray).data.toList [a, b, c] (nmN 0 0 0) false xs) [32] else [] from rfl]
      exact z
    · have z := iCmdTextF 5 ⟨#[116, 105, 99, 107]⟩ 1 60 0 0 0 0 false 5 a b c va vn vc xs w rv hn F T (by rw [show kindN 5 = 4 from by decide]; rfl) (by decide) (by decide) (fun h j hj => by
        obtain ⟨f0, f1, f2, _⟩ := fits_facts h
        exact nth3 (by decide) hj (fun _ => by omega) (fun _ => by omega) (fun _ => by omega))
      rw [show cmdT 5 a b c vn xs = if fitsB 1 60 0 0 0 0 false a b c vn xs then Lib.join (wdW (⟨#[116, 105, 99, 107]⟩ : ByteArray).data.toList [a, b, c] (nmN 60 0 0) false xs) [32] else [] from rfl]
      exact z
    · have z := iCmdTextF 6 ⟨#[110, 101, 97, 114]⟩ 1 20 0 255 0 1000 true 6 a b c va vn vc xs w rv hn F T (by rw [show kindN 6 = 5 from by decide]; rfl) (by decide) (by decide) (fun h j hj => by
        obtain ⟨f0, f1, f2, _⟩ := fits_facts h
        exact nth3 (by decide) hj (fun _ => by omega) (fun _ => by omega) (fun _ => by omega))
      rw [show cmdT 6 a b c vn xs = if fitsB 1 20 0 255 0 1000 true a b c vn xs then Lib.join (wdW (⟨#[110, 101, 97, 114]⟩ : ByteArray).data.toList [a, b, c] (nmN 20 255 1000) true xs) [32] else [] from rfl]
      exact z
    · have z := iCmdTextF 7 ⟨#[119, 105, 116, 104, 105, 110]⟩ 0 1125899906842624 0 255 0 1000 true 7 a b c va vn vc xs w rv hn F T (by rw [show kindN 7 = 6 from by decide]; rfl) (by decide) (by decide) (fun h j hj => by
        obtain ⟨f0, f1, f2, _⟩ := fits_facts h
        exact nth3 (by decide) hj (fun _ => by omega) (fun _ => by omega) (fun _ => by omega))
      rw [show cmdT 7 a b c vn xs = if fitsB 0 1125899906842624 0 255 0 1000 true a b c vn xs then Lib.join (wdW (⟨#[119, 105, 116, 104, 105, 110]⟩ : ByteArray).data.toList [a, b, c] (nmN 1125899906842624 255 1000) true xs) [32] else [] from rfl]
      exact z
end Go.Proofs.YtggjcccdeaadbaaGreatDoor
