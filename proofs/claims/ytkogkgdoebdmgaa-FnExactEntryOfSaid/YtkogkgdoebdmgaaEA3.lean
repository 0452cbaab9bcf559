/- EntryOf of the model, where all is right; at all arguments. -/
import Derived.Test.YtkogkgdoebdmgaaEA2
namespace Go.Proofs.Ytkogkgdoebdmgaa
open Go.RowKit
set_option linter.unusedSimpArgs false
set_option linter.unusedVariables false

/-- A list that lies in new memory, as the caller sees it. -/
def CopyR (w : World) (i t : Int) (xs : List Int) (e : Ending) (w' : World) : Prop :=
  ∃ ya yc, e = .returned (.agg #[.int .i64 i, .int .i64 t, .slice ya xs.length yc]) ∧ Row w' ya xs.length xs ∧ (∀ b off, ya = some ⟨b, off, none⟩ → 0 < xs.length → w.heap.size ≤ b) ∧ Below w.heap.size w w'
theorem ToV.copyR {w : World} {x : It} {e : Ending} {w' : World} (h : ToV w x e w') : CopyR w x.id x.tags x.vec e w' := by
  obtain ⟨v, g, rfl, hv, hb⟩ := h
  obtain ⟨ya, yc, rfl, hr⟩ := hv.row
  refine ⟨ya, yc, rfl, hr, fun b off e p => ?_, hb⟩
  obtain ⟨a, c, ev, h0 | ⟨ea, h1, h2, ha⟩⟩ := hv
  · omega
  · cases ev
    rw [ea] at e
    cases e
    exact h1

theorem row_sev {w : World} {a : Option Addr} {n q : Nat} {xs : List Int} (h : Row w a n xs) (hne : ∀ b off, a = some ⟨b, off, none⟩ → 0 < n → b ≠ q) (u0 u1 u2 u3 u4 u5 u6 : Value) :
    Row (((((((w.setCell ⟨q, 0, none⟩ u0).setCell ⟨q, 1, none⟩ u1).setCell ⟨q, 2, none⟩ u2).setCell ⟨q, 3, none⟩ u3).setCell ⟨q, 4, none⟩ u4).setCell ⟨q, 5, none⟩ u5).setCell ⟨q, 6, none⟩ u6) a n xs := by
  by_cases hn : n = 0
  · exact ⟨h.len, .inl hn⟩
  · exact ((((((((But.refl q w).setCell 0 u0).setCell 1 u1).setCell 2 u2).setCell 3 u3).setCell 4 u4).setCell 5 u5).setCell 6 u6).row h (fun b off e => hne b off e (by omega))

set_option maxHeartbeats 8000000 in
set_option maxRecDepth 4000 in
theorem sEntryOf_yes (a a' : Option Addr) (n cap n' cap' : Nat) (x0 x1 : Int) (xs : List Int) (xa : Option Addr) (xn xc : Nat) (is : Bool) (w : World) (bk : Option Addr) (bc : Nat) (c1 c2 c3 : Nat → Int)
    (BK : Hid (∀ w1, Below w.heap.size w w1 → Calls Try.prog 18 #[.slice a n cap, .slice a' n' cap'] w1 fun e w' => e = .returned (.bool true) ∧ Below w1.heap.size w1 w'))
    (IT : Hid (∀ w1, Below w.heap.size w w1 → Calls Try.prog 19 #[.int .i64 (n : Int), .agg #[.int .i64 x0, .int .i64 x1, .slice xa xn xc]] w1 fun e w' => e = .returned (.bool true) ∧ Below w1.heap.size w1 w'))
    (CP : Hid (∀ w1, Below w.heap.size w w1 → Calls Try.prog 20 #[.agg #[.int .i64 x0, .int .i64 x1, .slice xa xn xc]] w1 fun e w' => CopyR w1 x0 x1 xs e w'))
    (LB : Hid (∀ w1, Calls Try.prog 22 #[.slice a n cap, .slice a' n' cap', .bool is] w1 fun e w' => e = .returned (.slice bk n bc) ∧ Below w1.heap.size w1 w'))
    (LR : Hid (∀ w1, Below w.heap.size w w1 → Calls Try.prog 21 #[.slice bk n bc, .slice xa xn xc] w1 fun e w' => ∃ v, e = .returned v ∧ FreshRow w1 n c1 c2 c3 v w')) :
    Calls Try.prog 6 #[.slice a n cap, .slice a' n' cap', .agg #[.int .i64 x0, .int .i64 x1, .slice xa xn xc], .bool is] w fun e w' => SEnt w true ⟨x0, x1, xs, n, c1, c2, c3, is⟩ e w' := by
  go_enter Try.func6, Try.ntmps6
  go_wp2_with fail
  refine (BK.out _ (by repeat' first | with_reducible exact Below.refl _ _ | with_reducible assumption | with_reducible refine below_drewN ?_ _ | with_reducible refine balloc ?_ _ | with_reducible refine Below.drew ?_ | with_reducible refine Below.setCell ?_ (by first | (simp; done) | (simp; omega) | omega) _ | with_reducible refine bstep ?_ (by assumption))).mono ?_
  rintro e w1 ⟨rfl, hb1⟩
  have T1 : TriW w1 w.heap.size (.int .i64 x0) (.int .i64 x1) (.slice xa xn xc) := ((TriW.new w _ _ _ _ _ rfl).alloc _).below hb1
  have A1 : Any7 w1 (w.heap.size + 1) := (Any7.new (w.alloc _) _ _ _ _ _ _ _ _ _ (by simp)).below hb1
  have B1 : Below w.heap.size w w1 := (by repeat' first | with_reducible exact Below.refl _ _ | with_reducible assumption | with_reducible refine below_drewN ?_ _ | with_reducible refine balloc ?_ _ | with_reducible refine Below.drew ?_ | with_reducible refine Below.setCell ?_ (by first | (simp; done) | (simp; omega) | omega) _ | with_reducible refine bstep ?_ (by assumption))
  have HT1 := hide T1
  obtain ⟨_, t0, t1, t2, _, _, _⟩ := T1
  clear hb1
  go_wp2_with fail
  refine (IT.out _ B1).mono ?_
  rintro e w2 ⟨rfl, hb2⟩
  have bd : Below w2.heap.size w2 w2.drew := Below.drew (Below.refl _ _)
  have A2 := hide ((A1.below hb2).below bd)
  have S2 := hide ((HT1.out.below hb2).below bd)
  have B2 := bstep (bstep B1 hb2) bd
  have lw : w.heap.size + 1 < w2.heap.size := (A1.below hb2).lt
  clear hb2 A1 t0 t1 t2 B1 HT1 bd
  go_wp2_with fail
  refine wp_region_held_drew (S := fun wx => TriW wx w.heap.size (.int .i64 x0) (.int .i64 x1) (.slice xa xn xc)) (by kernel_rfl) (S2.out) (fun hH0 => ?_)
  refine wpAnyH_take (i := 0) (oi := { dst := some 22, op := _, type := _, pos := _, after := _, guard := _ }) (v := ?_) rfl (by kernel_rfl) (by kernel_rfl) (by kernel_rfl) (fun _ _ _ h => h) (Or.inl ⟨by rfl, ?_⟩) (hH0) ?_
  rotate_left
  · (intro wx hSw; obtain ⟨_, q0, q1, q2, _, _, _⟩ := hSw; go_simp <;> with_reducible rfl)
  simp only [Act.put, List.setIfInBounds_toArray, List.set_cons_zero, List.set_cons_succ]
  refine wpAnyH_take (i := 2) (oi := { dst := some 24, op := _, type := _, pos := _, after := _, guard := _ }) (v := ?_) rfl (by kernel_rfl) (by kernel_rfl) (by kernel_rfl) (fun _ _ _ h => h) (Or.inl ⟨by rfl, ?_⟩) (hH0) ?_
  rotate_left
  · (intro wx hSw; obtain ⟨_, q0, q1, q2, _, _, _⟩ := hSw; go_simp <;> with_reducible rfl)
  simp only [Act.put, List.setIfInBounds_toArray, List.set_cons_zero, List.set_cons_succ]
  refine wpAnyH_take (i := 3) (oi := { dst := some 25, op := _, type := _, pos := _, after := _, guard := _ }) (v := ?_) rfl (by kernel_rfl) (by kernel_rfl) (by kernel_rfl) (fun _ _ _ h => h) (Or.inl ⟨by rfl, ?_⟩) (hH0) ?_
  rotate_left
  · (intro wx hSw; obtain ⟨_, q0, q1, q2, _, _, _⟩ := hSw; go_simp <;> with_reducible rfl)
  simp only [Act.put, List.setIfInBounds_toArray, List.set_cons_zero, List.set_cons_succ]
  refine wpAnyH_take (i := 4) (oi := { dst := some 26, op := _, type := _, pos := _, after := _, guard := _ }) (v := ?_) rfl (by kernel_rfl) (by kernel_rfl) (by kernel_rfl) (fun _ _ _ h => h) (Or.inl ⟨by rfl, ?_⟩) (hH0) ?_
  rotate_left
  · (intro wx hSw; obtain ⟨_, q0, q1, q2, _, _, _⟩ := hSw; go_simp <;> with_reducible rfl)
  simp only [Act.put, List.setIfInBounds_toArray, List.set_cons_zero, List.set_cons_succ]
  refine wpAnyH_take (i := 6) (oi := { dst := some 28, op := _, type := _, pos := _, after := _, guard := _ }) (v := ?_) rfl (by kernel_rfl) (by kernel_rfl) (by kernel_rfl) (fun _ _ _ h => h) (Or.inl ⟨by rfl, ?_⟩) (hH0) ?_
  rotate_left
  · (intro wx hSw; obtain ⟨_, q0, q1, q2, _, _, _⟩ := hSw; go_simp <;> with_reducible rfl)
  simp only [Act.put, List.setIfInBounds_toArray, List.set_cons_zero, List.set_cons_succ]
  refine wpAnyH_take (i := 7) (oi := { dst := some 29, op := _, type := _, pos := _, after := _, guard := _ }) (v := ?_) rfl (by kernel_rfl) (by kernel_rfl) (by kernel_rfl) (fun _ _ _ h => h) (Or.inl ⟨by rfl, ?_⟩) (hH0) ?_
  rotate_left
  · (intro wx hSw; obtain ⟨_, q0, q1, q2, _, _, _⟩ := hSw; go_simp <;> with_reducible rfl)
  simp only [Act.put, List.setIfInBounds_toArray, List.set_cons_zero, List.set_cons_succ]
  refine wpAnyH_take (i := 9) (oi := { dst := some 31, op := _, type := _, pos := _, after := _, guard := _ }) (v := ?_) rfl (by kernel_rfl) (by kernel_rfl) (by kernel_rfl) (fun _ _ _ h => h) (Or.inl ⟨by rfl, ?_⟩) (hH0) ?_
  rotate_left
  · (intro wx hSw; obtain ⟨_, q0, q1, q2, _, _, _⟩ := hSw; go_simp <;> with_reducible rfl)
  simp only [Act.put, List.setIfInBounds_toArray, List.set_cons_zero, List.set_cons_succ]
  refine wpAnyH_ready (rs := [1]) (by kernel_rfl) (by simp) ?_
  refine AllReadyH.cons (o := { dst := some 23, op := _, type := _, pos := _, after := _, guard := _ }) rfl (fun K hK => ?_) AllReadyH.nil
  go_simp
  refine (CP.out _ B2).mono ?_
  rintro e wa ⟨ya, yc, rfl, rya, nya, hba⟩
  dsimp only
  refine hK.out _ _ (TriW.below hH0 hba) (fun hH1 => ?_)
  clear hK K
  refine wpAnyH_ready (rs := [5]) (by kernel_rfl) (by simp) ?_
  refine AllReadyH.cons (o := { dst := some 27, op := _, type := _, pos := _, after := _, guard := _ }) rfl (fun K hK => ?_) AllReadyH.nil
  go_simp
  refine (LB.out _).mono ?_
  rintro e wb ⟨rfl, hbb⟩
  dsimp only
  refine hK.out _ _ (TriW.below hH1 hbb) (fun hH2 => ?_)
  clear hK K
  refine wpAnyH_ready (rs := [8]) (by kernel_rfl) (by simp) ?_
  refine AllReadyH.cons (o := { dst := some 30, op := _, type := _, pos := _, after := _, guard := _ }) rfl (fun K hK => ?_) AllReadyH.nil
  go_simp
  refine (LR.out _ (bstep (bstep B2 hba) hbb)).mono ?_
  rintro e wc ⟨v, rfl, s1, s2, s3, j1, j2, j3, rfl, r1, r2, r3, n1, n2, n3, hbc⟩
  dsimp only
  refine hK.out _ _ (TriW.below hH2 hbc) (fun hH3 => ?_)
  clear hK K
  refine wpAnyH_take (i := 10) (oi := { dst := some 32, op := _, type := _, pos := _, after := _, guard := _ }) (v := ?_) rfl (by kernel_rfl) (by kernel_rfl) (by kernel_rfl) (fun _ _ _ h => h) (Or.inl ⟨by rfl, ?_⟩) (hH3) ?_
  rotate_left
  · (intro wx hSw; obtain ⟨_, q0, q1, q2, _, _, _⟩ := hSw; go_simp <;> with_reducible rfl)
  simp only [Act.put, List.setIfInBounds_toArray, List.set_cons_zero, List.set_cons_succ]
  -- behind it: go_wp2_with fail, then go_meet (a cut) or go_ret; the condition at the end: hH3
  have A5 := ((A2.out.below hba).below hbb).below hbc
  have RY := hide ((rya.below hbb).below hbc)
  have B5 := bstep (bstep (bstep B2 hba) hbb) hbc
  have za : w2.heap.size ≤ wa.heap.size := by have := hba.size; exact this
  have zb := hbb.size
  have R1 := hide r1
  have R2 := hide r2
  have R3 := hide r3
  obtain ⟨⟨u0, z0⟩, ⟨u1, z1⟩, ⟨u2, z2⟩, ⟨u3, z3⟩, ⟨u4, z4⟩, ⟨u5, z5⟩, ⟨u6, z6⟩, f0, f1, f2, f3, f4, f5, f6⟩ := A5.at
  have A5' := hide A5
  have nya' : ∀ b off, ya = some ⟨b, off, none⟩ → 0 < xs.length → w2.heap.size ≤ b := nya
  clear rya r1 r2 r3 A5 nya
  refine wpAnyH_ready (rs := [11]) (by kernel_rfl) (by simp) ?_
  refine AllReadyH.cons (o := { dst := none, op := _, type := _, pos := _, after := _, guard := _ }) rfl (fun K hK => ?_) AllReadyH.nil
  go_simp
  refine hK.out _ _ (TriW.away (TriW.away (TriW.away (TriW.away (TriW.away (TriW.away (TriW.away hH3 _ _ (by simp)) _ _ (by simp)) _ _ (by simp)) _ _ (by simp)) _ _ (by simp)) _ _ (by simp)) _ _ (by simp)) (fun hH50 => ?_)
  clear hK K
  refine wpAnyH_take (i := 12) (oi := { dst := some 9, op := _, type := _, pos := _, after := _, guard := _ }) (v := ?_) rfl (by kernel_rfl) (by kernel_rfl) (by kernel_rfl) (fun _ _ _ h => h) (Or.inl ⟨by rfl, ?_⟩) (hH50) ?_
  rotate_left
  · (intro wx hSw; obtain ⟨_, q0, q1, q2, _, _, _⟩ := hSw; go_simp <;> with_reducible rfl)
  simp only [Act.put, List.setIfInBounds_toArray, List.set_cons_zero, List.set_cons_succ]
  refine wpAnyH_done (by kernel_rfl) ?_ _
  -- behind it: go_wp2_with fail, then go_meet (a cut) or go_ret; the condition at the end: hH50
  go_wp2_with fail
  refine bodyPost_ret (v := .tuple #[.agg #[.int .i64 x0, .int .i64 x1, .slice ya xs.length yc, .slice s1 n j1, .slice s2 n j2, .slice s3 n j3, .bool is], .bool true]) ?_ rfl ⟨ya, yc, s1, s2, s3, j1, j2, j3, rfl, ?_, ?_, ?_, ?_, ⟨fun b off e p => by have := nya' b off e p; omega, fun b off e p => by have := n1 b off e; omega, fun b off e p => by have := n2 b off e; omega, fun b off e p => by have := n3 b off e; omega⟩, ?_⟩
  · simp [results, Try.results6, go_sem, z0, z1, z2, z3, z4, z5, z6]
  · exact row_sev RY.out (fun b off e p => by have := nya' b off e p; omega) _ _ _ _ _ _ _
  · exact row_sev R1.out (fun b off e p => by have := n1 b off e; omega) _ _ _ _ _ _ _
  · exact row_sev R2.out (fun b off e p => by have := n2 b off e; omega) _ _ _ _ _ _ _
  · exact row_sev R3.out (fun b off e p => by have := n3 b off e; omega) _ _ _ _ _ _ _
  · exact ((((((B5.setCell (by simp) _).setCell (by simp) _).setCell (by simp) _).setCell (by simp) _).setCell (by simp) _).setCell (by simp) _).setCell (by simp) _

theorem sEntryOf_any (a a' : Option Addr) (n cap n' cap' : Nat) (f g f' g' : Nat → Int) (x : It) (xa : Option Addr) (xn xc : Nat) (is : Bool) (w : World) (h : PRow w a n f g) (h' : PRow w a' n' f' g') (hx : Row w xa xn x.vec) (hn : n ≤ 1048576) (hn' : n' ≤ 1048576) (hxn : xn ≤ 1048576) :
    Calls Try.prog 6 #[.slice a n cap, .slice a' n' cap', .agg #[.int .i64 x.id, .int .i64 x.tags, .slice xa xn xc], .bool is] w fun e w' => SEnt w (entB n f g n' f' g' x) (entOf (entB n f g n' f' g' x) n f g f' g' x is) e w' := by
  have BK := hide (fun w1 (hb : Below w.heap.size w w1) => l9Books_any a a' n cap n' cap' f g f' g' w1 (h.below hb) (h'.below hb) hn hn')
  have IT := hide (fun w1 (hb : Below w.heap.size w w1) => l7Item_any (n : Int) x xa xn xc w1 (hx.below hb) hxn)
  cases hv : entB n f g n' f' g' x
  · exact sEntryOf_no a a' n cap n' cap' x xa xn xc is _ _ w _ ⟨rfl, rfl, rfl, rfl, rfl⟩ hv BK IT
  · have hv' := hv
    simp only [entB, Bool.and_eq_true] at hv'
    obtain ⟨hA, hI⟩ := hv'
    rw [hA] at BK
    rw [hI] at IT
    simp only [alikeB, Bool.and_eq_true, decide_eq_true_eq] at hA
    obtain ⟨⟨hB, hB'⟩, rfl⟩ := hA
    have hI' := hI
    simp only [itemB, Bool.and_eq_true, decide_eq_true_eq] at hI'
    have hn8 := boxB_num' hB
    have hxl := hx.len
    obtain rfl : xn = n := by omega
    rcases hx.lies with q | ⟨bx, ox, rfl, ltx, hcx⟩
    · omega
    rcases h.lies with q | ⟨b, off, rfl, lt, hc⟩
    · omega
    rcases h'.lies with q | ⟨b', off', rfl, lt', hc'⟩
    · omega
    have CP := hide (fun w1 (hb : Below w.heap.size w w1) => (l7Copy_any x (some ⟨bx, ox, none⟩) xn xc w1 (hx.below hb) hxn).mono (fun e w' q => ToV.copyR q))
    cases is
    · refine sEntryOf_yes _ _ xn cap xn cap' x.id x.tags x.vec _ xn xc false w (some ⟨b, off, none⟩) cap _ _ _ BK IT CP ?_ ?_
      · exact hide fun w1 => (l9Book_any _ _ false w1 ⟨_, _, _, rfl⟩ ⟨_, _, _, rfl⟩).mono (fun e w' q => ⟨q.1, q.2 ▸ Below.refl _ _⟩)
      · exact hide fun w1 hB => l5Row_some b off xn cap bx ox xc f g x.vec w1 hn8.2 (Nat.lt_of_lt_of_le lt hB.size) (Nat.lt_of_lt_of_le ltx hB.size)
          (fun i hi => ⟨(hB.cell (p := ⟨b, off + i * 2, none⟩) lt).trans (hc i hi).1, (hB.cell (p := ⟨b, off + i * 2 + 1, none⟩) lt).trans (hc i hi).2⟩) (fun i hi => (hB.cell (p := ⟨bx, ox + i, none⟩) ltx).trans (hcx i hi))
    · refine sEntryOf_yes _ _ xn cap xn cap' x.id x.tags x.vec _ xn xc true w (some ⟨b', off', none⟩) cap' _ _ _ BK IT CP ?_ ?_
      · exact hide fun w1 => (l9Book_any _ _ true w1 ⟨_, _, _, rfl⟩ ⟨_, _, _, rfl⟩).mono (fun e w' q => ⟨q.1, q.2 ▸ Below.refl _ _⟩)
      · exact hide fun w1 hB => l5Row_some b' off' xn cap' bx ox xc f' g' x.vec w1 hn8.2 (Nat.lt_of_lt_of_le lt' hB.size) (Nat.lt_of_lt_of_le ltx hB.size)
          (fun i hi => ⟨(hB.cell (p := ⟨b', off' + i * 2, none⟩) lt').trans (hc' i hi).1, (hB.cell (p := ⟨b', off' + i * 2 + 1, none⟩) lt').trans (hc' i hi).2⟩) (fun i hi => (hB.cell (p := ⟨bx, ox + i, none⟩) ltx).trans (hcx i hi))
end Go.Proofs.Ytkogkgdoebdmgaa
