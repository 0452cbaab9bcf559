/- EntriesOk of the program. -/
import Derived.Test.YthiklcldbjmgfaaZ21
import Derived.Test.YthiklcldbjmgfaaZ18
import Derived.Test.YthiklcldbjmgfaaZ12
import Derived.Test.YthiklcldbjmgfaaZ19
import Derived.BigQuiet
import Derived.BigRegion
import Derived.Deep.RegionHeld3
namespace Go.Proofs.Ythiklcldbjmgfaa
open Go.RowKit
set_option maxRecDepth 8000
set_option linter.unusedSimpArgs false
set_option linter.unusedVariables false

def inRow (n : Nat) (f g f' g' : Nat → Int) (x : En) : Bool := rowInB n (bkF x.is f f') (bkF x.is g g') x.r1 x.r2 x.r3 x.it.vec.length x.it.vec
/-- What the program's EntriesOk tells. -/
def entsP (n : Nat) (f g : Nat → Int) (n' : Nat) (f' g' : Nat → Int) (m : Nat) (E : EL) : Bool := alikeB n f g n' f' g' && (itemsB (n : Int) m (fun i => (E i).it) && allN m (fun i => inRow n f g f' g' (E i)))

/-- rowIn in an entry's own book. -/
theorem rowIn_book (x : En) (va : Option Addr) (vn vc : Nat) (r : RowV) (a a' : Option Addr) (n cap cap' : Nat) (f g f' g' : Nat → Int) (w : World) (h : PRow w a n f g) (h' : PRow w a' n f' g') (hx : Row w va vn x.it.vec) (hvn : vn ≤ 1048576) (hr : r.is w x.r1 x.r2 x.r3) :
    Calls Try.prog 20 #[.agg #[.int .i64 x.it.id, .int .i64 x.it.tags, .slice va vn vc, .slice r.a1 r.m1 r.k1, .slice r.a2 r.m2 r.k2, .slice r.a3 r.m3 r.k3, .bool x.is], if x.is then .slice a' n cap' else .slice a n cap] w fun e w' => e = .returned (.bool (inRow n f g f' g' x)) ∧ Below w.heap.size w w' := by
  have hl := hx.len
  subst hl
  unfold inRow
  cases hi : x.is
  · exact rowIn_any x.it.id x.it.tags false a n cap f g va _ vc x.it.vec r x.r1 x.r2 x.r3 w h hx hvn hr
  · exact rowIn_any x.it.id x.it.tags true a' n cap' f' g' va _ vc x.it.vec r x.r1 x.r2 x.r3 w h' hx hvn hr

theorem book_val (is : Bool) (a a' : Option Addr) (n cap cap' : Nat) : ∃ bk bc, (if is then Value.slice a' n cap' else Value.slice a n cap) = .slice bk n bc := by
  cases is
  · exact ⟨a, cap, rfl⟩
  · exact ⟨a', cap', rfl⟩
/-- The box of an entry that is looked at. -/
structure EBx (w0 : World) (q : Nat) (v0 v1 v2 v3 v4 v5 v6 : Value) (w : World) : Prop where
  lt : q < w.heap.size
  c0 : w.cell? ⟨q, 0, none⟩ = some v0
  c1 : w.cell? ⟨q, 1, none⟩ = some v1
  c2 : w.cell? ⟨q, 2, none⟩ = some v2
  c3 : w.cell? ⟨q, 3, none⟩ = some v3
  c4 : w.cell? ⟨q, 4, none⟩ = some v4
  c5 : w.cell? ⟨q, 5, none⟩ = some v5
  c6 : w.cell? ⟨q, 6, none⟩ = some v6
  bel : Below w0.heap.size w0 w

theorem EBx.below {w0 w w' : World} {q : Nat} {v0 v1 v2 v3 v4 v5 v6 : Value} (h : EBx w0 q v0 v1 v2 v3 v4 v5 v6 w) (hb : Below w.heap.size w w') : EBx w0 q v0 v1 v2 v3 v4 v5 v6 w' :=
  have r : ∀ j, w'.cell? ⟨q, j, none⟩ = w.cell? ⟨q, j, none⟩ := fun j => hb.cell (p := ⟨q, j, none⟩) h.lt
  ⟨Nat.lt_of_lt_of_le h.lt hb.size, (r 0).trans h.c0, (r 1).trans h.c1, (r 2).trans h.c2, (r 3).trans h.c3, (r 4).trans h.c4, (r 5).trans h.c5, (r 6).trans h.c6, bstep h.bel hb⟩

set_option maxHeartbeats 8000000 in
set_option maxRecDepth 4000 in
theorem iEntriesOk_any (a a' : Option Addr) (n cap n' cap' : Nat) (f g f' g' : Nat → Int) (la : Option Addr) (m lc : Nat) (E : EL) (w : World) (h : PRow w a n f g) (h' : PRow w a' n' f' g') (hl : ERow w la m E) (hm : m ≤ 1048576) (hv : ∀ i, i < m → (E i).it.vec.length ≤ 1048576) :
    Calls Try.prog 9 #[.slice a n cap, .slice a' n' cap', .slice la m lc] w fun e w' => e = .returned (.bool (entsP n f g n' f' g' m E)) ∧ Below w.heap.size w w' := by
  have BA := hide (boxesAlike_any a a' n cap n' cap' f g f' g' w h h')
  have II := hide (fun w1 (hb : Below w.heap.size w w1) => itemsIn_any la m lc E w1 (hl.below hb) hm)
  have IO := hide (fun b w1 (hr : IRow w1 (some ⟨b, 0, none⟩) m (fun i => (E i).it)) => iItemsOk_any (n : Int) (some ⟨b, 0, none⟩) m m (fun i => (E i).it) w1 hr hm hv)
  have RI := hide (fun x va vn vc r w1 (hb : Below w.heap.size w w1) (e : n = n') hx hvn hr => rowIn_book x va vn vc r a a' n cap cap' f g f' g' w1 (h.below hb) (by subst e; exact h'.below hb) hx hvn hr)
  have HL := hide hl
  have HV := hide hv
  clear h h' hl hv
  unfold entsP
  cases h1 : alikeB n f g n' f' g'
  · rw [h1] at BA
    rw [Bool.false_and]
    clear h1
    go_enter Try.func9, Try.ntmps9
    go_wp2_with fail
    refine BA.out.mono ?_
    rintro e w1 ⟨rfl, hb1⟩
    go_wp2_with fail
    go_ret
    exact ⟨rfl, hb1⟩
  · have en : n = n' := by
      unfold alikeB at h1
      simp only [Bool.and_eq_true, decide_eq_true_eq] at h1
      exact h1.2
    rw [h1] at BA
    rw [Bool.true_and]
    subst en
    clear h1
    cases h2 : itemsB (n : Int) m (fun i => (E i).it)
    · rw [h2] at IO
      rw [Bool.false_and]
      clear h2
      go_enter Try.func9, Try.ntmps9
      go_wp2_with fail
      refine BA.out.mono ?_
      rintro e w1 ⟨rfl, hb1⟩
      have B1 := hide hb1
      clear hb1 BA
      go_wp2_with fail
      refine (II.out _ B1.out).mono ?_
      rintro e w2 ⟨b, rfl, hi2, hb2⟩
      have B2 := hide (bstep B1.out hb2)
      have I2 := hide hi2
      clear hb2 hi2 II
      go_wp2_with fail
      refine (IO.out _ _ I2.out).mono ?_
      rintro e w3 ⟨rfl, hb3⟩
      have B3 := hide (bstep B2.out hb3)
      clear hb3 I2 IO
      go_wp2_with fail
      go_ret
      exact ⟨rfl, B3.out⟩
    · rw [h2] at IO
      rw [Bool.true_and]
      clear h2
      go_enter Try.func9, Try.ntmps9
      go_wp2_with fail
      refine BA.out.mono ?_
      rintro e w1 ⟨rfl, hb1⟩
      have B1 := hide hb1
      clear hb1 BA
      go_wp2_with fail
      refine (II.out _ B1.out).mono ?_
      rintro e w2 ⟨b, rfl, hi2, hb2⟩
      have B2 := hide (bstep B1.out hb2)
      have I2 := hide hi2
      clear hb2 hi2 II
      go_wp2_with fail
      refine (IO.out _ _ I2.out).mono ?_
      rintro e w3 ⟨rfl, hb3⟩
      have B3 := hide (bstep B2.out hb3)
      clear hb3 I2 IO
      go_wp2_with fail
      go_loopw [23] (fun i wr => ∃ k : Nat, k ≤ m ∧ i = .int .i64 k ∧ Hid (∀ j, j < k → inRow n f g f' g' (E j) = true) ∧ Hid (Below w.heap.size w wr)) (fun i _ => m - (intOf i).toNat)
      case atStart => exact ⟨0, Nat.zero_le _, rfl, hide (fun j hj => absurd hj (by omega)), B3⟩
      case round =>
        clear B1 B2 B3
        obtain ⟨k, hk, rfl, HP, HB⟩ := hrel
        by_cases hlt : k < m
        · have hlt' : (k : Int) < (m : Int) := by omega
          rcases HL.out.lies with h0 | ⟨b, off, rfl, hb, hc⟩
          · omega
          · have hcr := (hc k hlt).below hb HB.out
            obtain ⟨va, vn, vc, h2, hv⟩ := hcr.vec
            obtain ⟨r, h3, h4, h5, hr⟩ := hcr.row
            have h0 := hcr.c0
            have h1 := hcr.c1
            have h6 := hcr.c6
            have lb : b < wr.heap.size := Nat.lt_of_lt_of_le hb HB.out.size
            have hvn : vn ≤ 1048576 := by rw [← hv.len]; exact HV.out k hlt
            have Q0 : Hid (EBx w wr.heap.size (.int .i64 (E k).it.id) (.int .i64 (E k).it.tags) (.slice va vn vc) (.slice r.a1 r.m1 r.k1) (.slice r.a2 r.m2 r.k2) (.slice r.a3 r.m3 r.k3) (.bool (E k).is) (wr.alloc (.cells #[.int .i64 (E k).it.id, .int .i64 (E k).it.tags, .slice va vn vc, .slice r.a1 r.m1 r.k1, .slice r.a2 r.m2 r.k2, .slice r.a3 r.m3 r.k3, .bool (E k).is] 46))) := hide
              ⟨by simp, by simp, by simp, by simp, by simp, by simp, by simp, by simp, balloc HB.out _⟩
            have RK := hide (fun w1 (hb : Below wr.heap.size wr w1) => RI.out (E k) va vn vc r w1 (bstep HB.out hb) trivial (hv.below hb) hvn (hr.below hb))
            have BO := hide (fun w1 => bookOf_any (.int .i64 (E k).it.id) (.int .i64 (E k).it.tags) (.slice va vn vc) (.slice r.a1 r.m1 r.k1) (.slice r.a2 r.m2 r.k2) (.slice r.a3 r.m3 r.k3) (.slice a n cap) (.slice a' n cap') (E k).is w1 ⟨_, _, _, rfl⟩ ⟨_, _, _, rfl⟩)
            obtain ⟨bk, bc, eb⟩ := book_val (E k).is a a' n cap cap'
            rw [eb] at RK BO
            have NB : Hid (Below wr.heap.size wr (wr.alloc (.cells #[.int .i64 (E k).it.id, .int .i64 (E k).it.tags, .slice va vn vc, .slice r.a1 r.m1 r.k1, .slice r.a2 r.m2 r.k2, .slice r.a3 r.m3 r.k3, .bool (E k).is] 46))) := hide (balloc (Below.refl _ _) _)
            clear hcr hv hr hc eb
            go_wp2_with fail
            refine wp_region_held_drew (S := fun wx => EBx w wr.heap.size (.int .i64 (E k).it.id) (.int .i64 (E k).it.tags) (.slice va vn vc) (.slice r.a1 r.m1 r.k1) (.slice r.a2 r.m2 r.k2) (.slice r.a3 r.m3 r.k3) (.bool (E k).is) wx) (by kernel_rfl) ((Q0.out.below (Below.drew (Below.refl _ _)))) (fun hH0 => ?_)
            refine wpAnyH_take (i := 0) (oi := { dst := some 27, op := _, type := _, pos := _, after := _, guard := _ }) (v := ?_) rfl (by kernel_rfl) (by kernel_rfl) (by kernel_rfl) (fun _ _ _ h => h) (Or.inl ⟨by rfl, ?_⟩) (hH0) ?_
            rotate_left
            · (intro wx hSw; obtain ⟨lt, q0, q1, q2, q3, q4, q5, q6, _⟩ := hSw; go_simp <;> with_reducible rfl)
            simp only [Act.put, List.setIfInBounds_toArray, List.set_cons_zero, List.set_cons_succ]
            refine wpAnyH_take (i := 1) (oi := { dst := some 28, op := _, type := _, pos := _, after := _, guard := _ }) (v := ?_) rfl (by kernel_rfl) (by kernel_rfl) (by kernel_rfl) (fun _ _ _ h => h) (Or.inl ⟨by rfl, ?_⟩) (hH0) ?_
            rotate_left
            · (intro wx hSw; obtain ⟨lt, q0, q1, q2, q3, q4, q5, q6, _⟩ := hSw; go_simp <;> with_reducible rfl)
            simp only [Act.put, List.setIfInBounds_toArray, List.set_cons_zero, List.set_cons_succ]
            refine wpAnyH_take (i := 2) (oi := { dst := some 29, op := _, type := _, pos := _, after := _, guard := _ }) (v := ?_) rfl (by kernel_rfl) (by kernel_rfl) (by kernel_rfl) (fun _ _ _ h => h) (Or.inl ⟨by rfl, ?_⟩) (hH0) ?_
            rotate_left
            · (intro wx hSw; obtain ⟨lt, q0, q1, q2, q3, q4, q5, q6, _⟩ := hSw; go_simp <;> with_reducible rfl)
            simp only [Act.put, List.setIfInBounds_toArray, List.set_cons_zero, List.set_cons_succ]
            refine wpAnyH_take (i := 3) (oi := { dst := some 30, op := _, type := _, pos := _, after := _, guard := _ }) (v := ?_) rfl (by kernel_rfl) (by kernel_rfl) (by kernel_rfl) (fun _ _ _ h => h) (Or.inl ⟨by rfl, ?_⟩) (hH0) ?_
            rotate_left
            · (intro wx hSw; obtain ⟨lt, q0, q1, q2, q3, q4, q5, q6, _⟩ := hSw; go_simp <;> with_reducible rfl)
            simp only [Act.put, List.setIfInBounds_toArray, List.set_cons_zero, List.set_cons_succ]
            refine wpAnyH_ready (rs := [4]) (by kernel_rfl) (by simp) ?_
            refine AllReadyH.cons (o := { dst := some 31, op := _, type := _, pos := _, after := _, guard := _ }) rfl (fun K hK => ?_) AllReadyH.nil
            go_simp
            refine (BO.out _).mono ?_
            rintro e w5 ⟨rfl, hb5⟩
            dsimp only
            refine hK.out _ _ (EBx.below hH0 hb5) (fun hH1 => ?_)
            clear hK K
            refine wpAnyH_ready (rs := [5]) (by kernel_rfl) (by simp) ?_
            refine AllReadyH.cons (o := { dst := some 32, op := _, type := _, pos := _, after := _, guard := _ }) rfl (fun K hK => ?_) AllReadyH.nil
            go_simp
            refine (RK.out _ (bstep (Below.drew NB.out) hb5)).mono ?_
            rintro e w6 ⟨rfl, hb6⟩
            dsimp only
            refine hK.out _ _ (EBx.below hH1 hb6) (fun hH2 => ?_)
            clear hK K
            refine wpAnyH_take (i := 6) (oi := { dst := some 33, op := _, type := _, pos := _, after := _, guard := _ }) (v := ?_) rfl (by kernel_rfl) (by kernel_rfl) (by kernel_rfl) (fun _ _ _ h => h) (Or.inl ⟨by rfl, ?_⟩) (hH2) ?_
            rotate_left
            · (intro wx hSw; obtain ⟨lt, q0, q1, q2, q3, q4, q5, q6, _⟩ := hSw; go_simp <;> with_reducible rfl)
            simp only [Act.put, List.setIfInBounds_toArray, List.set_cons_zero, List.set_cons_succ]
            refine wpAnyH_done (by kernel_rfl) ?_ _
            -- behind it: go_wp2_with fail, then go_meet (a cut) or go_ret; the condition at the end: hH2
            cases hin : inRow n f g f' g' (E k)
            · have HN := hide (allN_no (p := fun i => inRow n f g f' g' (E i)) hlt hin)
              have BE := hide hH2.bel
              clear hin hH0 hH1 hH2 Q0 NB RK BO h0 h1 h2 h3 h4 h5 h6
              go_wp2_with fail
              go_ret
              exact ⟨by rw [HN.out]; rfl, BE.out⟩
            · have HI := hide hin
              have BE := hide hH2.bel
              clear hin hH0 hH1 hH2 Q0 NB RK BO h0 h1 h2 h3 h4 h5 h6
              go_wp2_with fail
              go_roundw
              case rel => exact ⟨k + 1, by omega, by go_num, hide (fun j hj => by rcases Nat.lt_succ_iff_lt_or_eq.1 hj with h | rfl; exact HP.out j h; exact HI.out), BE⟩
              case measure => simp [intOf]; omega
        · obtain rfl : k = m := by omega
          have HA := hide (allN_yes (p := fun i => inRow n f g f' g' (E i)) HP.out)
          go_wp2_with fail
          go_ret
          exact ⟨by rw [HA.out]; rfl, HB.out⟩
end Go.Proofs.Ythiklcldbjmgfaa

/- An entry's row: what the program holds it against, and the model; plain. -/
namespace Go.Proofs.Ythiklcldbjmgfaa
open Go.RowKit
set_option maxRecDepth 8000
set_option linter.unusedSimpArgs false
set_option linter.unusedVariables false

theorem codeB_offY {lo hi t x : Int} (h : ¬ (lo ≤ x ∧ x ≤ hi)) : codeB lo hi t x = -1 := by
  have : hasB lo hi x = false := by unfold hasB inB; rw [decide_eq_false h, Bool.and_false]
  simp [codeB, this]

theorem code_mono0Y (lo hi N x y : Int) (hN : 0 < N) (hS : lo ≤ hi) (h : x ≤ y) : codeN lo hi N x ≤ codeN lo hi N y := by
  unfold codeN
  refine Int.ediv_le_ediv (by omega) ?_
  have := Int.mul_le_mul_of_nonneg_right (show x - lo + 1 ≤ y - lo + 1 by omega) (show 0 ≤ N by omega)
  omega

theorem from_scale0Y (lo hi N k i : Int) (hk : 0 < k) : fromN lo hi (N * k) (i * k) = fromN lo hi N i := by
  unfold fromN
  rw [← Int.mul_assoc, Int.mul_ediv_mul_of_pos_left _ _ hk]

theorem code_scale0Y (lo hi N k x : Int) (hN : 0 < N) (hk : 0 < k) (hS : lo ≤ hi) : codeN lo hi (N * k) x / k = codeN lo hi N x := by
  have key : ∀ q : Int, q ≤ codeN lo hi (N * k) x / k ↔ q ≤ codeN lo hi N x := by
    intro q
    rw [Int.le_ediv_iff_mul_le hk, ← from_le lo hi (N * k) (q * k) x (Int.mul_pos hN hk) hS, from_scale0Y lo hi N k q hk, from_le lo hi N q x hN hS]
  have a := (key (codeN lo hi (N * k) x / k)).1 (Int.le_refl _)
  have b := (key (codeN lo hi N x)).2 (Int.le_refl _)
  omega

theorem codeB_inY {lo hi x t : Int} (hr : rightB lo hi = true) (h : lo ≤ x ∧ x ≤ hi) (ht : tierB t = true) : codeB lo hi t x = codeN lo hi (cellsN t) x := by
  unfold codeB hasB inB
  rw [hr, decide_eq_true h, ht]
  rfl
/-- A number's codes are those of a number. -/
theorem rowAt_codeY {lo hi x : Int} (hr : rightB lo hi = true) (hx : compB x = true) : rowAt lo hi (codeB lo hi 1 x) (codeB lo hi 2 x) (codeB lo hi 3 x) = true := by
  obtain ⟨a1, a2, a3, a4, a5⟩ := right_nums hr
  have hx' : -1048576 ≤ x ∧ x ≤ 1048576 := of_decide_eq_true hx
  by_cases h : lo ≤ x ∧ x ≤ hi
  · rw [codeB_inY hr h rfl, codeB_inY hr h rfl, codeB_inY hr h rfl]
    show rowAt lo hi (codeN lo hi 2 x) (codeN lo hi 16 x) (codeN lo hi 256 x) = true
    have c0 := code_nonneg lo hi 256 x (by omega) h.1 a5
    have c1 := code_lt lo hi 256 x (by omega) h.2 a5
    have e1 : fromN lo hi 256 (codeN lo hi 256 x) ≤ x := (from_le lo hi 256 _ x (by omega) a5).2 (Int.le_refl _)
    have e2 : ¬ fromN lo hi 256 (codeN lo hi 256 x + 1) ≤ x := fun q => by have := (from_le lo hi 256 _ x (by omega) a5).1 q; omega
    have fb := from_bounds lo hi 256 (codeN lo hi 256 x) (by omega) c0 (by omega) a5
    have hcB : cellB lo hi 3 (codeN lo hi 256 x) = true := by
      simp only [cellB, hr, show tierB 3 = true from rfl, show cellsN 3 = 256 from rfl, Bool.true_and, Bool.or_eq_true, Bool.and_eq_true, decide_eq_true_eq]
      exact .inr ⟨⟨c0, c1⟩, by omega⟩
    have hne : ¬ codeN lo hi 256 x = -1 := by omega
    have hcl : cellLo lo hi 3 (codeN lo hi 256 x) = fromN lo hi 256 (codeN lo hi 256 x) := by simp only [cellLo, hcB, if_true, hne, if_false, show cellsN 3 = 256 from rfl]
    obtain ⟨y, hy⟩ : ∃ y, fromN lo hi 256 (codeN lo hi 256 x) = y := ⟨_, rfl⟩
    have e3 : codeN lo hi 256 y = codeN lo hi 256 x := by
      have p := (from_le lo hi 256 (codeN lo hi 256 x) y (by omega) a5).1 (by omega)
      have q := code_mono0Y lo hi 256 y x (by omega) a5 (by omega)
      omega
    have e4 : codeN lo hi 16 y = codeN lo hi 16 x := by
      rw [← code_scale0Y lo hi 16 16 y (by omega) (by omega) a5, ← code_scale0Y lo hi 16 16 x (by omega) (by omega) a5]
      show codeN lo hi 256 y / 16 = codeN lo hi 256 x / 16
      rw [e3]
    have e5 : codeN lo hi 2 y = codeN lo hi 2 x := by
      rw [← code_scale0Y lo hi 2 128 y (by omega) (by omega) a5, ← code_scale0Y lo hi 2 128 x (by omega) (by omega) a5]
      show codeN lo hi 256 y / 128 = codeN lo hi 256 x / 128
      rw [e3]
    have hyi : lo ≤ y ∧ y ≤ hi := by omega
    unfold rowAt numIB numI
    rw [if_neg hne, if_neg hne, hcl, hy, hcB, codeB_inY hr hyi rfl, codeB_inY hr hyi rfl, codeB_inY hr hyi rfl]
    show (true && ((codeN lo hi 2 y == codeN lo hi 2 x) && ((codeN lo hi 16 y == codeN lo hi 16 x) && (codeN lo hi 256 y == codeN lo hi 256 x)))) = true
    rw [e3, e4, e5]
    simp
  · rw [codeB_offY h, codeB_offY h, codeB_offY h]
    unfold rowAt numIB numI
    rw [if_pos rfl, if_pos rfl]
    by_cases h1 : -1048576 < lo
    · rw [if_pos h1, codeB_offY (x := lo - 1) (by omega), codeB_offY (x := lo - 1) (by omega), codeB_offY (x := lo - 1) (by omega), decide_eq_true h1]
      simp
    · have h2 : hi < 1048576 := by omega
      rw [if_neg h1, if_pos h2, codeB_offY (x := hi + 1) (by omega), codeB_offY (x := hi + 1) (by omega), codeB_offY (x := hi + 1) (by omega), decide_eq_true h2]
      simp

theorem ints_ext {n : Nat} {L : List Int} {F : Nat → Int} (hl : L.length = n) (h : ∀ i, i < n → nth L i = F i) : ints F n = L := by
  refine List.ext_getElem (by rw [ints_len, hl]) fun i h1 h2 => ?_
  have a := nth_ints F n i (by omega)
  have b := h i (by omega)
  unfold nth at a b
  rw [List.getD_eq_getElem?_getD, List.getElem?_eq_getElem h1] at a
  rw [List.getD_eq_getElem?_getD, List.getElem?_eq_getElem h2] at b
  simp only [Option.getD_some] at a b
  omega

theorem bk_box {n n' : Nat} {f g f' g' : Nat → Int} (h : alikeB n f g n' f' g' = true) (is : Bool) : boxB n (bkF is f f') (bkF is g g') = true := by
  unfold alikeB at h
  simp only [Bool.and_eq_true, decide_eq_true_eq] at h
  obtain ⟨⟨h1, h2⟩, rfl⟩ := h
  cases is
  · exact h1
  · exact h2
/-- In right books, of a right item. -/
theorem inRow_same {n n' : Nat} {f g f' g' : Nat → Int} {x : En} (h : alikeB n f g n' f' g' = true) (hi : itemB (n : Int) x.it = true) : inRow n f g f' g' x = sameR n f g f' g' x := by
  have hb := bk_box h x.is
  unfold itemB at hi
  simp only [Bool.and_eq_true, decide_eq_true_eq] at hi
  obtain ⟨⟨_, hv⟩, hl⟩ := hi
  have hl' : x.it.vec.length = n := by omega
  unfold inRow sameR rowInB rowOkB formB
  obtain ⟨F, hF⟩ : ∃ F, bkF x.is f f' = F := ⟨_, rfl⟩
  obtain ⟨G, hG⟩ : ∃ G, bkF x.is g g' = G := ⟨_, rfl⟩
  rw [hF, hG] at hb ⊢
  rw [hb, hv, decide_eq_true hl'.symm, Bool.eq_iff_iff]
  simp only [Bool.true_and, Bool.and_eq_true, decide_eq_true_eq]
  constructor
  · rintro ⟨⟨⟨a1, a2, a3⟩, _⟩, hc⟩
    refine ⟨ints_ext a1 fun i hi => ?_, ints_ext a2 fun i hi => ?_, ints_ext a3 fun i hi => ?_⟩
    all_goals
      have := allN_at hc hi
      simp only [Bool.and_eq_true, beq_iff_eq] at this
      first | exact this.1 | exact this.2.1 | exact this.2.2
  · rintro ⟨e1, e2, e3⟩
    have n1 : ∀ i, i < n → nth x.r1 i = vcode F G x.it.vec 1 i := fun i hi => by rw [← e1]; exact nth_ints _ n i hi
    have n2 : ∀ i, i < n → nth x.r2 i = vcode F G x.it.vec 2 i := fun i hi => by rw [← e2]; exact nth_ints _ n i hi
    have n3 : ∀ i, i < n → nth x.r3 i = vcode F G x.it.vec 3 i := fun i hi => by rw [← e3]; exact nth_ints _ n i hi
    refine ⟨⟨⟨by rw [← e1, ints_len], by rw [← e2, ints_len], by rw [← e3, ints_len]⟩, allN_yes fun i hi => ?_⟩, allN_yes fun i hi => ?_⟩
    · rw [n1 i hi, n2 i hi, n3 i hi]
      exact rowAt_codeY (boxB_at hb hi) (vecOkB_at hv (by omega))
    · rw [n1 i hi, n2 i hi, n3 i hi]
      simp
/-- Of one entry. -/
theorem entsP_one {n n' : Nat} {f g f' g' : Nat → Int} {E : EL} (h : alikeB n f g n' f' g' = true) : entsP n f g n' f' g' 1 E = entryB n f g n' f' g' (E 0) := by
  have n18 : 1 ≤ n ∧ n ≤ 8 := by
    unfold alikeB at h
    simp only [Bool.and_eq_true] at h
    exact boxB_num h.1.1
  have e1 : ∀ p : Nat → Bool, allN 1 p = p 0 := fun p => by
    cases q : p 0
    · exact allN_no (Nat.lt_succ_self 0) q
    · exact allN_yes fun i hi => by rw [show i = 0 by omega]; exact q
  have e2 : itemsB (n : Int) 1 (fun i => (E i).it) = itemB (n : Int) (E 0).it := by
    unfold itemsB
    rw [e1, show inB (n : Int) 1 8 = true from decide_eq_true (by omega)]
    cases q : itemB (n : Int) (E 0).it
    · simp [okI, q]
    · simp [okI, q]
  unfold entsP entryB entB
  rw [h, e1, e2]
  cases q : itemB (n : Int) (E 0).it
  · rfl
  · rw [inRow_same h q]; rfl

theorem entsP_no {n n' : Nat} {f g f' g' : Nat → Int} {m : Nat} {E : EL} (h : alikeB n f g n' f' g' = false) : entsP n f g n' f' g' m E = false := by unfold entsP; rw [h]; rfl
end Go.Proofs.Ythiklcldbjmgfaa
