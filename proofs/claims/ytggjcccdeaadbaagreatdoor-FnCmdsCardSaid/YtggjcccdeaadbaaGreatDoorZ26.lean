/- words of the program: a command's words by its form. -/
import Derived.Test.YtggjcccdeaadbaaGreatDoorZ7
import Derived.Test.YtggjcccdeaadbaaGreatDoorZ19
import Derived.Test.YtggjcccdeaadbaaGreatDoorZ17
import Derived.Test.YtggjcccdeaadbaaGreatDoorZ25
import Derived.BigQuiet
namespace Go.Proofs.YtggjcccdeaadbaaGreatDoor
open Go.RowKit
set_option maxRecDepth 8000
set_option linter.unusedSimpArgs false
set_option linter.unusedVariables false

theorem Tryz.arr3 : Tryz.prog.arrayLen 66 = 3 := by kernel_rfl

theorem Tryz.arr3e : Tryz.prog.elem 66 = 2 := by kernel_rfl

theorem sliceArr3 (a : Addr) (n : Nat) (h3 : n ≤ 3) (w : World) : (Instr.sliceAt 66 (.pointer (some a)) none (some (.int .i64 n)) none).run Tryz.prog w = .ok (.slice (some a) n 3) w := by
  rw [run_sliceAt_array_h (P := Tryz.prog) w 66 a (by kernel_rfl) .i64 n (by omega) (by rw [Tryz.arr3]; omega), Tryz.arr3e, Tryz.sizeOf2, Tryz.arr3]
  simp [slicedAt, Addr.add, Result.andThen]
/-- The words. -/
def wdN (nm : List UInt8) (L : List Int) (j : Nat) : List (List UInt8) := nm :: (L.take j).map Lib.itoa
def wdW (nm : List UInt8) (L : List Int) (n : Nat) (fv : Bool) (xs : List Int) : List (List UInt8) := wdN nm L n ++ (if fv then [vecTB xs] else [])

theorem wdN_succ (nm : List UInt8) (L : List Int) (j : Nat) (h : j < L.length) : wdN nm L (j + 1) = wdN nm L j ++ [Lib.itoa (nth L j)] := by unfold wdN; rw [take_map L j h]; rfl
/-- A form and a command in their boxes, the numbers in theirs. -/
structure WdB (w0 w : World) (F G : Nat → Value) (q : Nat) (L : List Int) : Prop where
  fit : FitB w0 w F G
  num : w.rowIs q 66 3 (fun i => .int .i64 (nth L i))

theorem WdB.below {w0 w w' : World} {F G : Nat → Value} {q : Nat} {L : List Int} (h : WdB w0 w F G q L) (hb : Below w.heap.size w w') : WdB w0 w' F G q L := ⟨h.fit.below hb, row_belowC h.num hb⟩

theorem FitB.app {w0 w w' : World} {F G : Nat → Value} {v : Value} {k : Nat} {e : TypeId} {size : Nat} {xs : List Value} (h : FitB w0 w F G) (ho : w.ownsRow (w0.heap.size + 2) e size v k xs) (hg : w.grownBy w' v.ownBlock) : FitB w0 w' F G :=
  ⟨h.one.of_block (hg.block _ (World.rowIs.lt h.one) (fun q => by have := (ho.lt _ q.symm).1; omega)), h.two.of_block (hg.block _ (World.rowIs.lt h.two) (fun q => by have := (ho.lt _ q.symm).1; omega)), h.bel.grown hg h.bel.size fun k' hk' => by have := (ho.lt k' hk').1; omega⟩

theorem WdB.app {w0 w w' : World} {F G : Nat → Value} {q : Nat} {L : List Int} {v : Value} {k : Nat} {size : Nat} {xs : List Value} (h : WdB w0 w F G q L) (ho : w.ownsRow (w0.heap.size + 2) 9 size v k xs) (hg : w.grownBy w' v.ownBlock) : WdB w0 w' F G q L :=
  ⟨h.fit.app ho hg, h.num.of_block (hg.block _ (World.rowIs.lt h.num) (fun e => by
    rcases ho.2 with ⟨rfl, _⟩ | ⟨g, cap, cur, rfl, _, hgc, _⟩
    · cases e
    · obtain ⟨c, hc, _⟩ := h.num
      have e' : q = g := by simpa [Value.ownBlock] using e
      subst e'
      rw [hgc] at hc
      simp at hc))⟩

theorem owns_base {w : World} {b b' : Nat} {e : TypeId} {size : Nat} {v : Value} {n : Nat} {xs : List Value} (hb : b' ≤ b) (h : w.ownsRow b e size v n xs) : w.ownsRow b' e size v n xs := by
  refine ⟨h.1, ?_⟩
  rcases h.2 with h0 | ⟨g, cap, cur, hv, hb0, hrest⟩
  · exact .inl h0
  · exact .inr ⟨g, cap, cur, hv, Nat.le_trans hb hb0, hrest⟩

set_option maxHeartbeats 8000000 in
set_option maxRecDepth 4000 in
theorem words_any (fk : Int) (fn : ByteArray) (p0 q0 p1 q1 p2 q2 : Int) (fv : Bool) (k a b c : Int) (va : Option Addr) (vn vc : Nat) (xs : List Int) (w : World) (rv : Row w va vn xs) (hn : vn ≤ 1048576) (T : Tab w)
    (hL : ∀ j, j < nmN q0 q1 q2 → -9223372036854775808 ≤ nth [a, b, c] j ∧ nth [a, b, c] j ≤ 9223372036854775807) :
    Calls Tryz.prog 18 #[.agg #[.int .i64 fk, .string fn, .int .i64 p0, .int .i64 q0, .int .i64 p1, .int .i64 q1, .int .i64 p2, .int .i64 q2, .bool fv], .agg #[.int .i64 k, .int .i64 a, .int .i64 b, .int .i64 c, .slice va vn vc]] w fun e w' => ∃ v, e = .returned v ∧ w'.ownsRow w.heap.size 9 1 v (wdW fn.data.toList [a, b, c] (nmN q0 q1 q2) fv xs).length (strsV (wdW fn.data.toList [a, b, c] (nmN q0 q1 q2) fv xs)) ∧ Below w.heap.size w w' := by
  obtain ⟨i0, hi, hz0, hz1, hz2⟩ := info_parts Tryz.infoStr
  have NB := hide (fun w1 => numbers_any k a b c (.slice va vn vc) w1 va vn vc rfl)
  have NM := hide (fun w1 => named_any fk fn p0 q0 p1 q1 p2 q2 fv w1)
  have NT := hide (fun j (hj : j < nmN q0 q1 q2) w1 (s : Below w.heap.size w w1) => numberText_any (nth [a, b, c] j) w1 (hL j hj).1 (hL j hj).2 (T.below s))
  have VT := hide (fun w1 (s : Below w.heap.size w w1) => iVecText_any va vn vc xs w1 (rv.below s) hn (T.below s))
  have hn3 : nmN q0 q1 q2 ≤ 3 := by have := posN_le q0; have := posN_le q1; have := posN_le q2; unfold nmN; omega
  obtain ⟨n, hnn⟩ : ∃ n, nmN q0 q1 q2 = n := ⟨_, rfl⟩
  rw [hnn] at NM NT hn3 ⊢
  obtain ⟨W2, hW2⟩ : ∃ W2, (w.alloc (.cells #[.int .i64 fk, .string fn, .int .i64 p0, .int .i64 q0, .int .i64 p1, .int .i64 q1, .int .i64 p2, .int .i64 q2, .bool fv] 38)).alloc (.cells #[.int .i64 k, .int .i64 a, .int .i64 b, .int .i64 c, .slice va vn vc] 26) = W2 := ⟨_, rfl⟩
  have F1 : Hid (FitB w (W2.alloc (.cells #[.string fn] 9)) (v9 (.int .i64 fk) (.string fn) (.int .i64 p0) (.int .i64 q0) (.int .i64 p1) (.int .i64 q1) (.int .i64 p2) (.int .i64 q2) (.bool fv)) (v5 (.int .i64 k) (.int .i64 a) (.int .i64 b) (.int .i64 c) (.slice va vn vc))) := hide (by
    rw [← hW2]
    exact FitB.below ⟨World.rowIs.alloc (v9_new w _ _ _ _ _ _ _ _ _ _) _, by simpa using v5_new (w.alloc (.cells #[.int .i64 fk, .string fn, .int .i64 p0, .int .i64 q0, .int .i64 p1, .int .i64 q1, .int .i64 p2, .int .i64 q2, .bool fv] 38)) (.int .i64 k) (.int .i64 a) (.int .i64 b) (.int .i64 c) (.slice va vn vc) 26, balloc (balloc (Below.refl _ _) _) _⟩ (balloc (Below.refl _ _) _))
  have O1 : Hid (World.ownsRow (W2.alloc (.cells #[.string fn] 9)) (w.heap.size + 2) 9 1 (.slice (some ⟨w.heap.size + 1 + 1, 0, none⟩) 1 1) 1 (strsV (wdN fn.data.toList [a, b, c] 0))) := hide (by
    have := World.ownsRow_lit (base := w.heap.size + 2) (e := 9) (size := 1) W2 #[.string fn] 1 (by rw [← hW2]; simp) (by unfold maxLen; omega) rfl
    have e : strsV (wdN fn.data.toList [a, b, c] 0) = [.string fn] := by unfold wdN strsV; simp [bs_of]
    rw [e]
    rw [show W2.heap.size = w.heap.size + 1 + 1 by rw [← hW2]; simp] at this
    exact this)
  subst hW2
  clear rv hL T hnn
  go_enter Tryz.func18, Tryz.ntmps18
  go_wp2_with fail
  refine (NB.out _).mono ?_
  rintro e w1 ⟨rfl, hb1⟩
  have F2 := hide (F1.out.below hb1)
  have O2 := hide (owns_belowF O1.out hb1)
  clear F1 O1 hb1 NB
  obtain ⟨_, z0, z1, z2, z3, z4, z5, z6, z7, z8, _⟩ := v9_facts F2.out.one
  go_wp2_with fail
  refine (NM.out _).mono ?_
  rintro e w2 ⟨rfl, hb2⟩
  clear NM
  have nb := balloc (Below.refl w1.heap.size w1) (.cells #[.int .i64 a, .int .i64 b, .int .i64 c] 66)
  have F3 : Hid (WdB w w2 _ _ w1.heap.size [a, b, c]) := hide (WdB.below ⟨F2.out.below nb, (World.rowIs_alloc w1 #[.int .i64 a, .int .i64 b, .int .i64 c] 66 (fun i => .int .i64 (nth [a, b, c] i)) (by intro i hi; rcases (show i = 0 ∨ i = 1 ∨ i = 2 from by simp at hi; omega) with rfl | rfl | rfl <;> rfl))⟩ hb2)
  have O3 := hide (owns_belowF (owns_belowF O2.out nb) hb2)
  clear hb2 nb F2 O2 z0 z1 z2 z3 z4 z5 z6 z7 z8
  have hsl := fun a w => sliceArr3 a n hn3 w
  go_wp2_with fail
  clear hsl
  go_loopw [5, 8, 18] (fun v _ i wr => ∃ j : Nat, j ≤ n ∧ i = .int .i64 j ∧ Hid (wr.ownsRow (w.heap.size + 2) 9 1 v (1 + j) (strsV (wdN fn.data.toList [a, b, c] j))) ∧ Hid (WdB w wr (v9 (.int .i64 fk) (.string fn) (.int .i64 p0) (.int .i64 q0) (.int .i64 p1) (.int .i64 q1) (.int .i64 p2) (.int .i64 q2) (.bool fv)) (v5 (.int .i64 k) (.int .i64 a) (.int .i64 b) (.int .i64 c) (.slice va vn vc)) w1.heap.size [a, b, c])) (fun _ _ i _ => n - (intOf i).toNat)
  case atStart => exact ⟨0, Nat.zero_le _, rfl, O3, F3⟩
  case round =>
    obtain ⟨j, hj, rfl, HO, HB⟩ := hrel
    clear F3 O3
    by_cases hlt : j < n
    · have ck : wr.cell? ⟨w1.heap.size, j, none⟩ = some (.int .i64 (nth [a, b, c] j)) := World.rowIs.cell HB.out.num (show j < 3 by omega)
      have lk := World.rowIs.lt HB.out.num
      have DE := hide (NT.out j hlt wr HB.out.fit.bel)
      obtain ⟨E, hE⟩ : ∃ E, bs (Lib.itoa (nth [a, b, c] j)) = E := ⟨_, rfl⟩
      have EV := hide hE
      rw [hE] at DE
      clear hE
      go_wp2_with fail
      refine DE.out.mono ?_
      rintro e w3 ⟨rfl, hb3⟩
      have B3 := hide (HB.out.below hb3)
      have O4 := hide (owns_belowF HO.out hb3)
      clear hb3 ck lk DE HO HB
      go_wp2_with (at_builtin; refine wpList_append_own _ rfl _ _ 42 rfl (w.heap.size + 2) 9 i0 (.string ⟨#[]⟩) 1 16 Tryz.underlying42 hi hz0 hz1 hz2 rfl (by decide) _ _ _ rfl (O4.out.alloc _) ⟨_, 0, none⟩ 1 1 [.string E] rfl rfl ?c1 ?c2 ?c3 ?c4 ?c5 ?_)
      case c1 => exact one_newF _ _ _
      case c2 => intro u hu; simp at hu; subst hu; rfl
      case c3 => unfold maxLen; omega
      case c4 => omega
      case c5 => have := World.rowIs.lt B3.out.fit.two; simp; omega
      intro v' w4 hown2 hgrow _
      have B4 := hide ((B3.out.below (balloc (Below.refl _ _) _)).app (O4.out.alloc _) hgrow)
      have O5 := hide hown2
      clear hgrow hown2 O4 B3
      go_wp2_with fail
      go_roundw
      case rel => exact ⟨j + 1, by omega, by go_num, hide (by rw [wdN_succ _ _ _ (by show j < 3; omega), strsV_snoc, EV.out]; exact O5.out), B4⟩
      case measure => simp [intOf]; omega
    · obtain rfl : j = n := by omega
      clear hlt NT
      obtain ⟨_, z0, z1, z2, z3, z4, z5, z6, z7, z8, _⟩ := v9_facts HB.out.fit.one
      cases fv
      · go_wp2_with fail
        go_ret
        refine ⟨_, rfl, ?_, HB.out.fit.bel⟩
        have e : wdW fn.data.toList [a, b, c] j false xs = wdN fn.data.toList [a, b, c] j := by unfold wdW; simp
        rw [e, show (wdN fn.data.toList [a, b, c] j).length = 1 + j by unfold wdN; simp; omega]
        exact owns_base (by omega) HO.out
      · obtain ⟨_, y0, y1, y2, y3, y4, _⟩ := v5_facts HB.out.fit.two
        have DE := hide (VT.out wr HB.out.fit.bel)
        obtain ⟨E, hE⟩ : ∃ E, bs (vecTB xs) = E := ⟨_, rfl⟩
        have EV := hide hE
        rw [hE] at DE
        clear hE VT
        go_wp2_with fail
        refine DE.out.mono ?_
        rintro e w3 ⟨rfl, hb3⟩
        have B3 := hide (HB.out.below hb3)
        have O4 := hide (owns_belowF HO.out hb3)
        clear hb3 z0 z1 z2 z3 z4 z5 z6 z7 z8 y0 y1 y2 y3 y4 DE HO HB
        go_wp2_with (at_builtin; refine wpList_append_own _ rfl _ _ 42 rfl (w.heap.size + 2) 9 i0 (.string ⟨#[]⟩) 1 16 Tryz.underlying42 hi hz0 hz1 hz2 rfl (by decide) _ _ _ rfl (O4.out.alloc _) ⟨_, 0, none⟩ 1 1 [.string E] rfl rfl ?c1 ?c2 ?c3 ?c4 ?c5 ?_)
        case c1 => exact one_newF _ _ _
        case c2 => intro u hu; simp at hu; subst hu; rfl
        case c3 => unfold maxLen; omega
        case c4 => omega
        case c5 => have := World.rowIs.lt B3.out.fit.two; simp; omega
        intro v' w4 hown2 hgrow _
        have B4 := hide ((B3.out.below (balloc (Below.refl _ _) _)).app (O4.out.alloc _) hgrow)
        have O5 := hide hown2
        clear hgrow hown2 O4 B3
        go_wp2_with fail
        go_ret
        refine ⟨_, rfl, ?_, B4.out.fit.bel⟩
        have e : wdW fn.data.toList [a, b, c] j true xs = wdN fn.data.toList [a, b, c] j ++ [vecTB xs] := by unfold wdW; simp
        rw [e, strsV_snoc, EV.out, show (wdN fn.data.toList [a, b, c] j ++ [vecTB xs]).length = 1 + j + 1 by unfold wdN; simp; omega]
        exact owns_base (by omega) O5.out
end Go.Proofs.YtggjcccdeaadbaaGreatDoor
