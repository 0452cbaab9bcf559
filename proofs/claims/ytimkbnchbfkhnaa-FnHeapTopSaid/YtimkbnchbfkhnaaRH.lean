/- The walk of the law FnHeapTop. -/
import Derived.Test.YtimkbnchbfkhnaaRF
import Derived.Test.YtimkbnchbfkhnaaHG
import Derived.OpenShut
namespace Go.Proofs.Ytimkbnchbfkhnaa
open Go.RowKit
set_option maxRecDepth 8000
set_option linter.unusedSimpArgs false
set_option linter.unusedVariables false

theorem top_least {m : Nat} {M : NL} (hh : HeapP m M) {i : Nat} (hi : i < m) : nlessB (M 0).1 (M 0).2 (isortL m M i).1 (isortL m M i).2 = false := by
  obtain ⟨j, hj, e⟩ := mem_isort (A := M) hi
  rw [← e]
  unfold nlessB
  rw [show lessB (M 0).1 (M 0).2 (M j).1 (M j).2 = false from hh.top j j (Nat.le_refl _) hj, Bool.and_false]
/-- A box with a Near, and two of a row. -/
structure Tz (w : World) (y : Nat) (x : Int × Int) (b o o' : Nat) (p q : Int × Int) : Prop where
  ly : y < w.heap.size
  c0 : w.cell? ⟨y, 0, none⟩ = some (.int .i64 x.1)
  c1 : w.cell? ⟨y, 1, none⟩ = some (.int .i64 x.2)
  lb : b < w.heap.size
  d0 : w.cell? ⟨b, o, none⟩ = some (.int .i64 p.1)
  d1 : w.cell? ⟨b, o + 1, none⟩ = some (.int .i64 p.2)
  e0 : w.cell? ⟨b, o', none⟩ = some (.int .i64 q.1)
  e1 : w.cell? ⟨b, o' + 1, none⟩ = some (.int .i64 q.2)

theorem Tz.below {w w' : World} {y : Nat} {x : Int × Int} {b o o' : Nat} {p q : Int × Int} (h : Tz w y x b o o' p q) (hb : Below w.heap.size w w') : Tz w' y x b o o' p q :=
  ⟨Nat.lt_of_lt_of_le h.ly hb.size, (hb.cell (p := ⟨y, 0, none⟩) h.ly).trans h.c0, (hb.cell (p := ⟨y, 1, none⟩) h.ly).trans h.c1, Nat.lt_of_lt_of_le h.lb hb.size, (hb.cell (p := ⟨b, o, none⟩) h.lb).trans h.d0, (hb.cell (p := ⟨b, o + 1, none⟩) h.lb).trans h.d1, (hb.cell (p := ⟨b, o', none⟩) h.lb).trans h.e0, (hb.cell (p := ⟨b, o' + 1, none⟩) h.lb).trans h.e1⟩

theorem Tz.drew {w : World} {y : Nat} {x : Int × Int} {b o o' : Nat} {p q : Int × Int} (h : Tz w y x b o o' p q) : Tz w.drew y x b o o' p q := h.below (Below.drew (Below.refl _ _))
/-- The heap's box, a box with a Near, and one of a row. -/
structure Uz (w : World) (z : Nat) (s : Value) (y : Nat) (x : Int × Int) (b o : Nat) : Prop where
  lz : z < w.heap.size
  s1 : w.cell? ⟨z, 1, none⟩ = some s
  ly : y < w.heap.size
  c0 : w.cell? ⟨y, 0, none⟩ = some (.int .i64 x.1)
  c1 : w.cell? ⟨y, 1, none⟩ = some (.int .i64 x.2)
  lb : b < w.heap.size
  d0 : w.cell? ⟨b, o, none⟩ = some (.int .i64 x.1)
  d1 : w.cell? ⟨b, o + 1, none⟩ = some (.int .i64 x.2)

theorem Uz.below {w w' : World} {z : Nat} {s : Value} {y : Nat} {x : Int × Int} {b o : Nat} (h : Uz w z s y x b o) (hb : Below w.heap.size w w') : Uz w' z s y x b o :=
  ⟨Nat.lt_of_lt_of_le h.lz hb.size, (hb.cell (p := ⟨z, 1, none⟩) h.lz).trans h.s1, Nat.lt_of_lt_of_le h.ly hb.size, (hb.cell (p := ⟨y, 0, none⟩) h.ly).trans h.c0, (hb.cell (p := ⟨y, 1, none⟩) h.ly).trans h.c1, Nat.lt_of_lt_of_le h.lb hb.size, (hb.cell (p := ⟨b, o, none⟩) h.lb).trans h.d0, (hb.cell (p := ⟨b, o + 1, none⟩) h.lb).trans h.d1⟩

theorem Uz.drew {w : World} {z : Nat} {s : Value} {y : Nat} {x : Int × Int} {b o : Nat} (h : Uz w z s y x b o) : Uz w.drew z s y x b o := h.below (Below.drew (Below.refl _ _))

set_option maxHeartbeats 16000000 in
theorem heapTop_walk (a : Option Addr) (n cap : Nat) (zs : List Int) (w : World) (h : IsRow .u8 w a n cap zs) :
    Calls Try.prog 3 #[.slice a n cap] w fun e w' => e = .returned (.bool true) ∧ Below w.heap.size w w' := by
  have BG := hide (big_any a n cap w)
  by_cases hn : n ≤ 1048576
  · rw [decide_eq_false (show ¬ 1048576 < n by omega)] at BG
    have DR := hide (drawHeapTop_any a n cap w (h.code hn))
    clear h
    go_enter Try.func3, Try.ntmps3
    go_wp2_with fail
    refine BG.out.mono ?_
    rintro e w' ⟨rfl, hw⟩
    obtain rfl := hw.symm
    clear BG hw
    go_wp2_with fail
    refine DR.out.mono ?_
    rintro e w1 ⟨K, ha, m, hc, M, rfl, hm, hp, _, hb1⟩
    have bw1 : Below w1.heap.size w1 (w1.alloc (.cells #[.int .i64 K, .slice ha m hc] 26)) := balloc (Below.refl _ _) _
    have X1 := hide (Bx.new w1 (.int .i64 K) (.slice ha m hc) 26)
    have P1 := hide (hp.below bw1)
    have B1 := hide (bstep hb1 bw1)
    have IT := hide (fun w1 (h : PRow w1 ha m (fun i => (M i).1) (fun i => (M i).2)) => iHeapTop_any K ha m hc _ _ w1 h)
    have ST := hide (fun w1 (h : PRow w1 ha m (fun i => (M i).1) (fun i => (M i).2)) => sHeapTop_any K ha m hc _ _ w1 h)
    have IS := hide (fun w1 h => iSortU K ha m hc M w1 h)
    obtain ⟨tb, htb⟩ : ∃ b, topB K m (fun i => (M i).1) (fun i => (M i).2) = b := ⟨_, rfl⟩
    obtain ⟨x, hx⟩ : ∃ x : Int × Int, ((if tb = true then (M 0).1 else 0), (if tb = true then (M 0).2 else 0)) = x := ⟨_, rfl⟩
    have hx1 : (if tb = true then (M 0).1 else 0) = x.1 := by rw [← hx]
    have hx2 : (if tb = true then (M 0).2 else 0) = x.2 := by rw [← hx]
    simp only [topV, htb, hx1, hx2] at IT ST
    have FACT : Hid (topB K m (fun i => (M i).1) (fun i => (M i).2) = tb ∧ (if tb = true then (M 0).1 else 0) = x.1 ∧ (if tb = true then (M 0).2 else 0) = x.2) := hide ⟨htb, hx1, hx2⟩
    have hE : ∀ w, (Op.equalIn 10000 29 (.agg #[.int .i64 x.1, .int .i64 x.2]) (.agg #[.int .i64 x.1, .int .i64 x.2])).run Try.prog w = .ok true w := fun w => by rw [eqNr, eqP]; simp
    clear hp hb1 bw1 DR htb hx hx1 hx2
    obtain ⟨_, x0, x1, _, _⟩ := X1.out
    go_wp2_with fail
    refine (IT.out _ P1.out).mono ?_
    rintro e w2 ⟨rfl, b2⟩
    have ba2 : Below w2.heap.size w2 (w2.alloc (.cells #[.int .i64 x.1, .int .i64 x.2] 29)) := balloc (Below.refl _ _) _
    have X2 := hide ((X1.out.below b2).below ba2)
    have P2 := hide ((P1.out.below b2).below ba2)
    have B2 := hide (bstep (bstep B1.out b2) ba2)
    have Y2 := hide (Bx.new w2 (.int .i64 x.1) (.int .i64 x.2) 29)
    clear x0 x1 X1 P1 B1 b2 ba2
    obtain ⟨z, hz⟩ : ∃ z, w1.heap.size = z := ⟨_, rfl⟩
    rw [hz] at X2
    rw [hz]
    clear hz
    obtain ⟨_, x0, x1, _, _⟩ := X2.out
    go_wp2_with fail
    refine (ST.out _ P2.out).mono ?_
    rintro e w3 ⟨rfl, b3⟩
    have ba3 : Below w3.heap.size w3 (w3.alloc (.cells #[.int .i64 x.1, .int .i64 x.2] 29)) := balloc (Below.refl _ _) _
    have X3 := hide ((X2.out.below b3).below ba3)
    have P3 := hide ((P2.out.below b3).below ba3)
    have B3 := hide (bstep (bstep B2.out b3) ba3)
    have Y3 := hide ((Y2.out.below b3).below ba3)
    have Z3 := hide (Bx.new w3 (.int .i64 x.1) (.int .i64 x.2) 29)
    clear x0 x1 X2 P2 B2 Y2 b3 ba3
    obtain ⟨y, hy⟩ : ∃ z, w2.heap.size = z := ⟨_, rfl⟩
    rw [hy] at Y3
    rw [hy]
    clear hy
    obtain ⟨_, y0, y1, _, _⟩ := Y3.out
    obtain ⟨_, z0, z1, _, _⟩ := Z3.out
    cases tb
    · go_wp2_with fail
      go_ret
      exact ⟨rfl, B3.out⟩
    · obtain ⟨htb, hx1, hx2⟩ := FACT.out
      unfold topB at htb
      simp only [Bool.and_eq_true, decide_eq_true_eq] at htb
      obtain ⟨hhb, h0m⟩ := htb
      have hhp : HeapP m M := by obtain ⟨_, _, _, _, _, h, _⟩ := heap_parts hhb; exact h
      rw [if_pos rfl] at hx1 hx2
      simp only [hhb] at IS
      obtain ⟨A, hA⟩ : ∃ A, isortL m M = A := ⟨_, rfl⟩
      simp only [hA, show sortN m true = m from rfl] at IS
      have SRT := hide (hA ▸ (isortL_sorted m M).1)
      have TOP := hide (fun i (hi : i < m) => show nlessB x.1 x.2 (A i).1 (A i).2 = false by rw [← hx1, ← hx2, ← hA]; exact top_least hhp hi)
      have LAST : Hid (A (m - 1) = x) := hide (by
        obtain ⟨q, rfl⟩ : ∃ q, m = q + 1 := ⟨m - 1, by omega⟩
        rw [Nat.add_sub_cancel, ← hA, isort_last hhp]
        exact Prod.ext hx1 hx2)
      clear FACT hhb hhp hx1 hx2 hA IT ST
      obtain ⟨_, x0, x1, _, _⟩ := X3.out
      go_wp2_with fail
      refine (IS.out _ P3.out).mono ?_
      rintro e w4 ⟨a4, c4, rfl, r4, b4⟩
      have X4 := hide (X3.out.below b4)
      have Y4 := hide (Y3.out.below b4)
      have B4 := hide (bstep B3.out b4)
      have R4 := hide r4
      clear x0 x1 y0 y1 z0 z1 X3 Y3 Z3 P3 B3 r4 b4 IS
      go_wp2_with fail
      go_loopw [9] (fun i wr => ∃ k : Nat, k ≤ m ∧ i = .int .i64 k ∧ Below w4.heap.size w4 wr) (fun i _ => m - (intOf i).toNat)
      case atStart => exact ⟨0, Nat.zero_le _, rfl, Below.refl _ _⟩
      case round =>
        obtain ⟨i, hi, rfl, hbel⟩ := hrel
        have HB := hide hbel
        have X := hide (X4.out.below hbel)
        have Y := hide (Y4.out.below hbel)
        have R := hide (R4.out.below hbel)
        have BB := hide (bstep B4.out hbel)
        clear hbel
        by_cases hlt : i < m
        · have hlt' : (i : Int) < (m : Int) := by omega
          obtain ⟨b, o, ea, lb, kb⟩ := R.out.twoH hlt
          cases ea
          have T0 : Hid (∀ q, q < m → Tz wr y x b (o + i * 2) (o + q * 2) (A i) (A q)) := hide fun q hq => ⟨Y.out.lt, Y.out.c0, Y.out.c1, lb, (kb i hlt).1, (kb i hlt).2, (kb q hq).1, (kb q hq).2⟩
          have NL1 := hide (fun w1 => iNearLess_any x.1 x.2 (A i).1 (A i).2 w1)
          rw [TOP.out i hlt] at NL1
          clear kb
          go_wp2_with fail
          by_cases h0 : 0 < i
          · have h0' : decide (0 < (i : Int)) = true := by simp; omega
            have hs := nless_sorted SRT.out h0 hlt
            obtain ⟨q, hq⟩ : ∃ q, i - 1 = q := ⟨_, rfl⟩
            rw [hq] at hs
            have hqn : q < m := by omega
            have hqn' : (q : Int) < (m : Int) := by omega
            have hwr : IntKind.i64.wrap ((i : Int) - 1) = (q : Int) := by rw [wrapIn _ (by omega) (by omega)]; omega
            have T := hide (T0.out q hqn)
            have NL2 := hide (fun w1 => iNearLess_any (A i).1 (A i).2 (A q).1 (A q).2 w1)
            rw [hs] at NL2
            clear hs hq T0
            go_upto_region 12 with fail
            refine wp_region_held_drew (S := fun wx => Tz wx y x b (o + i * 2) (o + q * 2) (A i) (A q)) (by kernel_rfl) (T.out.drew) (fun hH0 => ?_)
            refine wpAnyH_take (i := 0) (oi := { dst := some 52, op := _, type := _, pos := _, after := _, guard := _ }) (v := ?_) rfl (by kernel_rfl) (by kernel_rfl) (by kernel_rfl) (fun _ _ _ h => h) (Or.inl ⟨by rfl, ?_⟩) (hH0) ?_
            rotate_left
            · (intro wx hSw; obtain ⟨_, q0, q1, _, q2, q3, q4, q5⟩ := hSw; go_simp <;> with_reducible rfl)
            simp only [Act.put, List.setIfInBounds_toArray, List.set_cons_zero, List.set_cons_succ]
            refine wpAnyH_take (i := 1) (oi := { dst := some 53, op := _, type := _, pos := _, after := _, guard := _ }) (v := ?_) rfl (by kernel_rfl) (by kernel_rfl) (by kernel_rfl) (fun _ _ _ h => h) (Or.inl ⟨by rfl, ?_⟩) (hH0) ?_
            rotate_left
            · (intro wx hSw; obtain ⟨_, q0, q1, _, q2, q3, q4, q5⟩ := hSw; go_simp <;> with_reducible rfl)
            simp only [Act.put, List.setIfInBounds_toArray, List.set_cons_zero, List.set_cons_succ]
            refine wpAnyH_take (i := 2) (oi := { dst := some 54, op := _, type := _, pos := _, after := _, guard := _ }) (v := ?_) rfl (by kernel_rfl) (by kernel_rfl) (by kernel_rfl) (fun _ _ _ h => h) (Or.inl ⟨by rfl, ?_⟩) (hH0) ?_
            rotate_left
            · (intro wx hSw; obtain ⟨_, q0, q1, _, q2, q3, q4, q5⟩ := hSw; go_simp <;> with_reducible rfl)
            simp only [Act.put, List.setIfInBounds_toArray, List.set_cons_zero, List.set_cons_succ]
            refine wpAnyH_take (i := 3) (oi := { dst := some 55, op := _, type := _, pos := _, after := _, guard := _ }) (v := ?_) rfl (by kernel_rfl) (by kernel_rfl) (by kernel_rfl) (fun _ _ _ h => h) (Or.inl ⟨by rfl, ?_⟩) (hH0) ?_
            rotate_left
            · (intro wx hSw; obtain ⟨_, q0, q1, _, q2, q3, q4, q5⟩ := hSw; go_simp <;> with_reducible rfl)
            simp only [Act.put, List.setIfInBounds_toArray, List.set_cons_zero, List.set_cons_succ]
            refine wpAnyH_take (i := 4) (oi := { dst := some 56, op := _, type := _, pos := _, after := _, guard := _ }) (v := ?_) rfl (by kernel_rfl) (by kernel_rfl) (by kernel_rfl) (fun _ _ _ h => h) (Or.inl ⟨by rfl, ?_⟩) (hH0) ?_
            rotate_left
            · (intro wx hSw; obtain ⟨_, q0, q1, _, q2, q3, q4, q5⟩ := hSw; go_simp <;> with_reducible rfl)
            simp only [Act.put, List.setIfInBounds_toArray, List.set_cons_zero, List.set_cons_succ]
            refine wpAnyH_ready (rs := [5]) (by kernel_rfl) (by simp) ?_
            refine AllReadyH.cons (o := { dst := some 57, op := _, type := _, pos := _, after := _, guard := _ }) rfl (fun K hK => ?_) AllReadyH.nil
            go_simp
            refine (NL1.out _).mono ?_
            rintro e w_c57_1 ⟨rfl, hb_c57_1⟩
            dsimp only
            refine hK.out _ _ (Tz.below hH0 hb_c57_1) (fun hH1 => ?_)
            clear hK K
            refine wpAnyH_take (i := 6) (oi := { dst := some 58, op := _, type := _, pos := _, after := _, guard := _ }) (v := ?_) rfl (by kernel_rfl) (by kernel_rfl) (by kernel_rfl) (fun _ _ _ h => h) (Or.inl ⟨by rfl, ?_⟩) (hH1) ?_
            rotate_left
            · (intro wx hSw; obtain ⟨_, q0, q1, _, q2, q3, q4, q5⟩ := hSw; go_simp <;> with_reducible rfl)
            simp only [Act.put, List.setIfInBounds_toArray, List.set_cons_zero, List.set_cons_succ]
            refine wpAnyH_take (i := 7) (oi := { dst := some 59, op := _, type := _, pos := _, after := _, guard := _ }) (v := ?_) rfl (by kernel_rfl) (by kernel_rfl) (by kernel_rfl) (fun _ _ _ h => h) (Or.inl ⟨by rfl, ?_⟩) (hH1) ?_
            rotate_left
            · (intro wx hSw; obtain ⟨_, q0, q1, _, q2, q3, q4, q5⟩ := hSw; go_simp <;> with_reducible rfl)
            simp only [Act.put, List.setIfInBounds_toArray, List.set_cons_zero, List.set_cons_succ]
            refine wpAnyH_take (i := 8) (oi := { dst := some 60, op := _, type := _, pos := _, after := _, guard := _ }) (v := ?_) rfl (by kernel_rfl) (by kernel_rfl) (by kernel_rfl) (fun _ _ _ h => h) (Or.inl ⟨by rfl, ?_⟩) (hH1) ?_
            rotate_left
            · (intro wx hSw; obtain ⟨_, q0, q1, _, q2, q3, q4, q5⟩ := hSw; go_simp <;> with_reducible rfl)
            simp only [Act.put, List.setIfInBounds_toArray, List.set_cons_zero, List.set_cons_succ]
            refine wpAnyH_take (i := 9) (oi := { dst := some 61, op := _, type := _, pos := _, after := _, guard := _ }) (v := ?_) rfl (by kernel_rfl) (by kernel_rfl) (by kernel_rfl) (fun _ _ _ h => h) (Or.inl ⟨by rfl, ?_⟩) (hH1) ?_
            rotate_left
            · (intro wx hSw; obtain ⟨_, q0, q1, _, q2, q3, q4, q5⟩ := hSw; go_simp <;> with_reducible rfl)
            simp only [Act.put, List.setIfInBounds_toArray, List.set_cons_zero, List.set_cons_succ]
            refine wpAnyH_take (i := 10) (oi := { dst := some 62, op := _, type := _, pos := _, after := _, guard := _ }) (v := ?_) rfl (by kernel_rfl) (by kernel_rfl) (by kernel_rfl) (fun _ _ _ h => h) (Or.inl ⟨by rfl, ?_⟩) (hH1) ?_
            rotate_left
            · (intro wx hSw; obtain ⟨_, q0, q1, _, q2, q3, q4, q5⟩ := hSw; go_simp <;> with_reducible rfl)
            simp only [Act.put, List.setIfInBounds_toArray, List.set_cons_zero, List.set_cons_succ]
            refine wpAnyH_take (i := 11) (oi := { dst := some 63, op := _, type := _, pos := _, after := _, guard := _ }) (v := ?_) rfl (by kernel_rfl) (by kernel_rfl) (by kernel_rfl) (fun _ _ _ h => h) (Or.inl ⟨by rfl, ?_⟩) (hH1) ?_
            rotate_left
            · (intro wx hSw; obtain ⟨_, q0, q1, _, q2, q3, q4, q5⟩ := hSw; go_simp <;> with_reducible rfl)
            simp only [Act.put, List.setIfInBounds_toArray, List.set_cons_zero, List.set_cons_succ]
            refine wpAnyH_take (i := 12) (oi := { dst := some 64, op := _, type := _, pos := _, after := _, guard := _ }) (v := ?_) rfl (by kernel_rfl) (by kernel_rfl) (by kernel_rfl) (fun _ _ _ h => h) (Or.inl ⟨by rfl, ?_⟩) (hH1) ?_
            rotate_left
            · (intro wx hSw; obtain ⟨_, q0, q1, _, q2, q3, q4, q5⟩ := hSw; go_simp <;> with_reducible rfl)
            simp only [Act.put, List.setIfInBounds_toArray, List.set_cons_zero, List.set_cons_succ]
            refine wpAnyH_take (i := 13) (oi := { dst := some 65, op := _, type := _, pos := _, after := _, guard := _ }) (v := ?_) rfl (by kernel_rfl) (by kernel_rfl) (by kernel_rfl) (fun _ _ _ h => h) (Or.inl ⟨by rfl, ?_⟩) (hH1) ?_
            rotate_left
            · (intro wx hSw; obtain ⟨_, q0, q1, _, q2, q3, q4, q5⟩ := hSw; go_simp <;> with_reducible rfl)
            simp only [Act.put, List.setIfInBounds_toArray, List.set_cons_zero, List.set_cons_succ]
            refine wpAnyH_take (i := 14) (oi := { dst := some 66, op := _, type := _, pos := _, after := _, guard := _ }) (v := ?_) rfl (by kernel_rfl) (by kernel_rfl) (by kernel_rfl) (fun _ _ _ h => h) (Or.inl ⟨by rfl, ?_⟩) (hH1) ?_
            rotate_left
            · (intro wx hSw; obtain ⟨_, q0, q1, _, q2, q3, q4, q5⟩ := hSw; go_simp <;> with_reducible rfl)
            simp only [Act.put, List.setIfInBounds_toArray, List.set_cons_zero, List.set_cons_succ]
            refine wpAnyH_take (i := 15) (oi := { dst := some 67, op := _, type := _, pos := _, after := _, guard := _ }) (v := ?_) rfl (by kernel_rfl) (by kernel_rfl) (by kernel_rfl) (fun _ _ _ h => h) (Or.inl ⟨by rfl, ?_⟩) (hH1) ?_
            rotate_left
            · (intro wx hSw; obtain ⟨_, q0, q1, _, q2, q3, q4, q5⟩ := hSw; go_simp <;> with_reducible rfl)
            simp only [Act.put, List.setIfInBounds_toArray, List.set_cons_zero, List.set_cons_succ]
            refine wpAnyH_take (i := 16) (oi := { dst := some 68, op := _, type := _, pos := _, after := _, guard := _ }) (v := ?_) rfl (by kernel_rfl) (by kernel_rfl) (by kernel_rfl) (fun _ _ _ h => h) (Or.inl ⟨by rfl, ?_⟩) (hH1) ?_
            rotate_left
            · (intro wx hSw; obtain ⟨_, q0, q1, _, q2, q3, q4, q5⟩ := hSw; go_simp <;> with_reducible rfl)
            simp only [Act.put, List.setIfInBounds_toArray, List.set_cons_zero, List.set_cons_succ]
            refine wpAnyH_take (i := 17) (oi := { dst := some 69, op := _, type := _, pos := _, after := _, guard := _ }) (v := ?_) rfl (by kernel_rfl) (by kernel_rfl) (by kernel_rfl) (fun _ _ _ h => h) (Or.inl ⟨by rfl, ?_⟩) (hH1) ?_
            rotate_left
            · (intro wx hSw; obtain ⟨_, q0, q1, _, q2, q3, q4, q5⟩ := hSw; go_simp <;> with_reducible rfl)
            simp only [Act.put, List.setIfInBounds_toArray, List.set_cons_zero, List.set_cons_succ]
            refine wpAnyH_take (i := 18) (oi := { dst := some 70, op := _, type := _, pos := _, after := _, guard := _ }) (v := ?_) rfl (by kernel_rfl) (by kernel_rfl) (by kernel_rfl) (fun _ _ _ h => h) (Or.inl ⟨by rfl, ?_⟩) (hH1) ?_
            rotate_left
            · (intro wx hSw; obtain ⟨_, q0, q1, _, q2, q3, q4, q5⟩ := hSw; go_simp <;> with_reducible rfl)
            simp only [Act.put, List.setIfInBounds_toArray, List.set_cons_zero, List.set_cons_succ]
            refine wpAnyH_ready (rs := [19]) (by kernel_rfl) (by simp) ?_
            refine AllReadyH.cons (o := { dst := some 71, op := _, type := _, pos := _, after := _, guard := _ }) rfl (fun K hK => ?_) AllReadyH.nil
            go_simp
            refine (NL2.out _).mono ?_
            rintro e w_c71_2 ⟨rfl, hb_c71_2⟩
            dsimp only
            refine hK.out _ _ (Tz.below hH1 hb_c71_2) (fun hH2 => ?_)
            clear hK K
            refine wpAnyH_take (i := 20) (oi := { dst := some 72, op := _, type := _, pos := _, after := _, guard := _ }) (v := ?_) rfl (by kernel_rfl) (by kernel_rfl) (by kernel_rfl) (fun _ _ _ h => h) (Or.inl ⟨by rfl, ?_⟩) (hH2) ?_
            rotate_left
            · (intro wx hSw; obtain ⟨_, q0, q1, _, q2, q3, q4, q5⟩ := hSw; go_simp <;> with_reducible rfl)
            simp only [Act.put, List.setIfInBounds_toArray, List.set_cons_zero, List.set_cons_succ]
            refine wpAnyH_take (i := 21) (oi := { dst := some 73, op := _, type := _, pos := _, after := _, guard := _ }) (v := ?_) rfl (by kernel_rfl) (by kernel_rfl) (by kernel_rfl) (fun _ _ _ h => h) (Or.inl ⟨by rfl, ?_⟩) (hH2) ?_
            rotate_left
            · (intro wx hSw; obtain ⟨_, q0, q1, _, q2, q3, q4, q5⟩ := hSw; go_simp <;> with_reducible rfl)
            simp only [Act.put, List.setIfInBounds_toArray, List.set_cons_zero, List.set_cons_succ]
            refine wpAnyH_done (by kernel_rfl) ?_ _
            -- behind it: go_wp2_with fail, then go_meet (a cut) or go_ret; the condition at the end: hH2
            go_wp2_with fail
            go_roundw
            case rel =>
              have hbt := HB.out
              exact ⟨i + 1, by omega, by go_num, (by repeat' first | with_reducible exact Below.refl _ _ | with_reducible assumption | with_reducible refine below_drewN ?_ _ | with_reducible refine balloc ?_ _ | with_reducible refine Below.drew ?_ | with_reducible refine Below.setCell ?_ (by first | (simp; done) | (simp; omega) | omega) _ | with_reducible refine bstep ?_ (by assumption))⟩
            case measure => simp [intOf]; omega
          · have h0' : decide (0 < (i : Int)) = false := by simp; omega
            have T := hide (T0.out i hlt)
            clear T0
            go_upto_region 12 with fail
            refine wp_region_held_drew (S := fun wx => Tz wx y x b (o + i * 2) (o + i * 2) (A i) (A i)) (by kernel_rfl) (T.out.drew) (fun hH0 => ?_)
            refine wpAnyH_take (i := 0) (oi := { dst := some 52, op := _, type := _, pos := _, after := _, guard := _ }) (v := ?_) rfl (by kernel_rfl) (by kernel_rfl) (by kernel_rfl) (fun _ _ _ h => h) (Or.inl ⟨by rfl, ?_⟩) (hH0) ?_
            rotate_left
            · (intro wx hSw; obtain ⟨_, q0, q1, _, q2, q3, q4, q5⟩ := hSw; go_simp <;> with_reducible rfl)
            simp only [Act.put, List.setIfInBounds_toArray, List.set_cons_zero, List.set_cons_succ]
            refine wpAnyH_take (i := 1) (oi := { dst := some 53, op := _, type := _, pos := _, after := _, guard := _ }) (v := ?_) rfl (by kernel_rfl) (by kernel_rfl) (by kernel_rfl) (fun _ _ _ h => h) (Or.inl ⟨by rfl, ?_⟩) (hH0) ?_
            rotate_left
            · (intro wx hSw; obtain ⟨_, q0, q1, _, q2, q3, q4, q5⟩ := hSw; go_simp <;> with_reducible rfl)
            simp only [Act.put, List.setIfInBounds_toArray, List.set_cons_zero, List.set_cons_succ]
            refine wpAnyH_take (i := 2) (oi := { dst := some 54, op := _, type := _, pos := _, after := _, guard := _ }) (v := ?_) rfl (by kernel_rfl) (by kernel_rfl) (by kernel_rfl) (fun _ _ _ h => h) (Or.inl ⟨by rfl, ?_⟩) (hH0) ?_
            rotate_left
            · (intro wx hSw; obtain ⟨_, q0, q1, _, q2, q3, q4, q5⟩ := hSw; go_simp <;> with_reducible rfl)
            simp only [Act.put, List.setIfInBounds_toArray, List.set_cons_zero, List.set_cons_succ]
            refine wpAnyH_take (i := 3) (oi := { dst := some 55, op := _, type := _, pos := _, after := _, guard := _ }) (v := ?_) rfl (by kernel_rfl) (by kernel_rfl) (by kernel_rfl) (fun _ _ _ h => h) (Or.inl ⟨by rfl, ?_⟩) (hH0) ?_
            rotate_left
            · (intro wx hSw; obtain ⟨_, q0, q1, _, q2, q3, q4, q5⟩ := hSw; go_simp <;> with_reducible rfl)
            simp only [Act.put, List.setIfInBounds_toArray, List.set_cons_zero, List.set_cons_succ]
            refine wpAnyH_take (i := 4) (oi := { dst := some 56, op := _, type := _, pos := _, after := _, guard := _ }) (v := ?_) rfl (by kernel_rfl) (by kernel_rfl) (by kernel_rfl) (fun _ _ _ h => h) (Or.inl ⟨by rfl, ?_⟩) (hH0) ?_
            rotate_left
            · (intro wx hSw; obtain ⟨_, q0, q1, _, q2, q3, q4, q5⟩ := hSw; go_simp <;> with_reducible rfl)
            simp only [Act.put, List.setIfInBounds_toArray, List.set_cons_zero, List.set_cons_succ]
            refine wpAnyH_ready (rs := [5]) (by kernel_rfl) (by simp) ?_
            refine AllReadyH.cons (o := { dst := some 57, op := _, type := _, pos := _, after := _, guard := _ }) rfl (fun K hK => ?_) AllReadyH.nil
            go_simp
            refine (NL1.out _).mono ?_
            rintro e w_c57_1 ⟨rfl, hb_c57_1⟩
            dsimp only
            refine hK.out _ _ (Tz.below hH0 hb_c57_1) (fun hH1 => ?_)
            clear hK K
            refine wpAnyH_take (i := 6) (oi := { dst := some 58, op := _, type := _, pos := _, after := _, guard := _ }) (v := ?_) rfl (by kernel_rfl) (by kernel_rfl) (by kernel_rfl) (fun _ _ _ h => h) (Or.inl ⟨by rfl, ?_⟩) (hH1) ?_
            rotate_left
            · (intro wx hSw; obtain ⟨_, q0, q1, _, q2, q3, q4, q5⟩ := hSw; go_simp <;> with_reducible rfl)
            simp only [Act.put, List.setIfInBounds_toArray, List.set_cons_zero, List.set_cons_succ]
            refine wpAnyH_take (i := 7) (oi := { dst := some 59, op := _, type := _, pos := _, after := _, guard := _ }) (v := ?_) rfl (by kernel_rfl) (by kernel_rfl) (by kernel_rfl) (fun _ _ _ h => h) (Or.inl ⟨by rfl, ?_⟩) (hH1) ?_
            rotate_left
            · (intro wx hSw; obtain ⟨_, q0, q1, _, q2, q3, q4, q5⟩ := hSw; go_simp <;> with_reducible rfl)
            simp only [Act.put, List.setIfInBounds_toArray, List.set_cons_zero, List.set_cons_succ]
            refine wpAnyH_take (i := 8) (oi := { dst := some 60, op := _, type := _, pos := _, after := _, guard := _ }) (v := ?_) rfl (by kernel_rfl) (by kernel_rfl) (by kernel_rfl) (fun _ _ _ h => h) (Or.inl ⟨by rfl, ?_⟩) (hH1) ?_
            rotate_left
            · (intro wx hSw; obtain ⟨_, q0, q1, _, q2, q3, q4, q5⟩ := hSw; go_simp <;> with_reducible rfl)
            simp only [Act.put, List.setIfInBounds_toArray, List.set_cons_zero, List.set_cons_succ]
            refine wpAnyH_take (i := 9) (oi := { dst := some 61, op := _, type := _, pos := _, after := _, guard := _ }) (v := ?_) rfl (by kernel_rfl) (by kernel_rfl) (by kernel_rfl) (fun _ _ _ h => h) (Or.inl ⟨by rfl, ?_⟩) (hH1) ?_
            rotate_left
            · (intro wx hSw; obtain ⟨_, q0, q1, _, q2, q3, q4, q5⟩ := hSw; go_simp <;> with_reducible rfl)
            simp only [Act.put, List.setIfInBounds_toArray, List.set_cons_zero, List.set_cons_succ]
            refine wpAnyH_take (i := 10) (oi := { dst := some 62, op := _, type := _, pos := _, after := _, guard := _ }) (v := _) rfl (by kernel_rfl) (by kernel_rfl) (by kernel_rfl) (fun _ _ _ h => h) (Or.inr ⟨by rfl, rfl⟩) (hH1) ?_
            simp only [Act.put, List.setIfInBounds_toArray, List.set_cons_zero, List.set_cons_succ]
            refine wpAnyH_take (i := 11) (oi := { dst := some 63, op := _, type := _, pos := _, after := _, guard := _ }) (v := _) rfl (by kernel_rfl) (by kernel_rfl) (by kernel_rfl) (fun _ _ _ h => h) (Or.inr ⟨by rfl, rfl⟩) (hH1) ?_
            simp only [Act.put, List.setIfInBounds_toArray, List.set_cons_zero, List.set_cons_succ]
            refine wpAnyH_take (i := 12) (oi := { dst := some 64, op := _, type := _, pos := _, after := _, guard := _ }) (v := _) rfl (by kernel_rfl) (by kernel_rfl) (by kernel_rfl) (fun _ _ _ h => h) (Or.inr ⟨by rfl, rfl⟩) (hH1) ?_
            simp only [Act.put, List.setIfInBounds_toArray, List.set_cons_zero, List.set_cons_succ]
            refine wpAnyH_take (i := 13) (oi := { dst := some 65, op := _, type := _, pos := _, after := _, guard := _ }) (v := _) rfl (by kernel_rfl) (by kernel_rfl) (by kernel_rfl) (fun _ _ _ h => h) (Or.inr ⟨by rfl, rfl⟩) (hH1) ?_
            simp only [Act.put, List.setIfInBounds_toArray, List.set_cons_zero, List.set_cons_succ]
            refine wpAnyH_take (i := 14) (oi := { dst := some 66, op := _, type := _, pos := _, after := _, guard := _ }) (v := _) rfl (by kernel_rfl) (by kernel_rfl) (by kernel_rfl) (fun _ _ _ h => h) (Or.inr ⟨by rfl, rfl⟩) (hH1) ?_
            simp only [Act.put, List.setIfInBounds_toArray, List.set_cons_zero, List.set_cons_succ]
            refine wpAnyH_take (i := 15) (oi := { dst := some 67, op := _, type := _, pos := _, after := _, guard := _ }) (v := _) rfl (by kernel_rfl) (by kernel_rfl) (by kernel_rfl) (fun _ _ _ h => h) (Or.inr ⟨by rfl, rfl⟩) (hH1) ?_
            simp only [Act.put, List.setIfInBounds_toArray, List.set_cons_zero, List.set_cons_succ]
            refine wpAnyH_take (i := 16) (oi := { dst := some 68, op := _, type := _, pos := _, after := _, guard := _ }) (v := _) rfl (by kernel_rfl) (by kernel_rfl) (by kernel_rfl) (fun _ _ _ h => h) (Or.inr ⟨by rfl, rfl⟩) (hH1) ?_
            simp only [Act.put, List.setIfInBounds_toArray, List.set_cons_zero, List.set_cons_succ]
            refine wpAnyH_take (i := 17) (oi := { dst := some 69, op := _, type := _, pos := _, after := _, guard := _ }) (v := _) rfl (by kernel_rfl) (by kernel_rfl) (by kernel_rfl) (fun _ _ _ h => h) (Or.inr ⟨by rfl, rfl⟩) (hH1) ?_
            simp only [Act.put, List.setIfInBounds_toArray, List.set_cons_zero, List.set_cons_succ]
            refine wpAnyH_take (i := 18) (oi := { dst := some 70, op := _, type := _, pos := _, after := _, guard := _ }) (v := _) rfl (by kernel_rfl) (by kernel_rfl) (by kernel_rfl) (fun _ _ _ h => h) (Or.inr ⟨by rfl, rfl⟩) (hH1) ?_
            simp only [Act.put, List.setIfInBounds_toArray, List.set_cons_zero, List.set_cons_succ]
            refine wpAnyH_take (i := 19) (oi := { dst := some 71, op := _, type := _, pos := _, after := _, guard := _ }) (v := _) rfl (by kernel_rfl) (by kernel_rfl) (by kernel_rfl) (fun _ _ _ h => h) (Or.inr ⟨by rfl, rfl⟩) (hH1) ?_
            simp only [Act.put, List.setIfInBounds_toArray, List.set_cons_zero, List.set_cons_succ]
            refine wpAnyH_take (i := 20) (oi := { dst := some 72, op := _, type := _, pos := _, after := _, guard := _ }) (v := ?_) rfl (by kernel_rfl) (by kernel_rfl) (by kernel_rfl) (fun _ _ _ h => h) (Or.inl ⟨by rfl, ?_⟩) (hH1) ?_
            rotate_left
            · (intro wx hSw; obtain ⟨_, q0, q1, _, q2, q3, q4, q5⟩ := hSw; go_simp <;> with_reducible rfl)
            simp only [Act.put, List.setIfInBounds_toArray, List.set_cons_zero, List.set_cons_succ]
            refine wpAnyH_take (i := 21) (oi := { dst := some 73, op := _, type := _, pos := _, after := _, guard := _ }) (v := ?_) rfl (by kernel_rfl) (by kernel_rfl) (by kernel_rfl) (fun _ _ _ h => h) (Or.inl ⟨by rfl, ?_⟩) (hH1) ?_
            rotate_left
            · (intro wx hSw; obtain ⟨_, q0, q1, _, q2, q3, q4, q5⟩ := hSw; go_simp <;> with_reducible rfl)
            simp only [Act.put, List.setIfInBounds_toArray, List.set_cons_zero, List.set_cons_succ]
            refine wpAnyH_done (by kernel_rfl) ?_ _
            -- behind it: go_wp2_with fail, then go_meet (a cut) or go_ret; the condition at the end: hH1
            go_wp2_with fail
            go_roundw
            case rel =>
              have hbt := HB.out
              exact ⟨i + 1, by omega, by go_num, (by repeat' first | with_reducible exact Below.refl _ _ | with_reducible assumption | with_reducible refine below_drewN ?_ _ | with_reducible refine balloc ?_ _ | with_reducible refine Below.drew ?_ | with_reducible refine Below.setCell ?_ (by first | (simp; done) | (simp; omega) | omega) _ | with_reducible refine bstep ?_ (by assumption))⟩
            case measure => simp [intOf]; omega
        · obtain rfl : i = m := by omega
          obtain ⟨q, hq⟩ : ∃ q, i - 1 = q := ⟨_, rfl⟩
          have hqn : q < i := by omega
          have hqn' : (q : Int) < (i : Int) := by omega
          have hwr : IntKind.i64.wrap ((i : Int) - 1) = (q : Int) := by rw [wrapIn _ (by omega) (by omega)]; omega
          have tm : ((i : Int) == (i : Int)) = true := by simp
          have hl := LAST.out
          rw [hq] at hl
          obtain ⟨b, o, ea, lb, kb⟩ := R.out.twoH hqn
          cases ea
          have k0 := (kb q hqn).1
          have k1 := (kb q hqn).2
          rw [hl] at k0 k1
          have T : Hid (Uz wr z (.slice ha i hc) y x b (o + q * 2)) := hide ⟨X.out.lt, X.out.c1, Y.out.lt, Y.out.c0, Y.out.c1, lb, k0, k1⟩
          clear kb k0 k1 hl hq
          go_wp2_with fail
          go_upto_region 14 with fail
          refine wp_region_held_drew (S := fun wx => Uz wx z (.slice ha i hc) y x b (o + q * 2)) (by kernel_rfl) (T.out.drew) (fun hH0 => ?_)
          refine wpAnyH_take (i := 0) (oi := { dst := some 74, op := _, type := _, pos := _, after := _, guard := _ }) (v := ?_) rfl (by kernel_rfl) (by kernel_rfl) (by kernel_rfl) (fun _ _ _ h => h) (Or.inl ⟨by rfl, ?_⟩) (hH0) ?_
          rotate_left
          · (intro wx hSw; obtain ⟨_, q0, _, q1, q2, _, q3, q4⟩ := hSw; go_simp <;> with_reducible rfl)
          simp only [Act.put, List.setIfInBounds_toArray, List.set_cons_zero, List.set_cons_succ]
          refine wpAnyH_take (i := 1) (oi := { dst := some 75, op := _, type := _, pos := _, after := _, guard := _ }) (v := ?_) rfl (by kernel_rfl) (by kernel_rfl) (by kernel_rfl) (fun _ _ _ h => h) (Or.inl ⟨by rfl, ?_⟩) (hH0) ?_
          rotate_left
          · (intro wx hSw; obtain ⟨_, q0, _, q1, q2, _, q3, q4⟩ := hSw; go_simp <;> with_reducible rfl)
          simp only [Act.put, List.setIfInBounds_toArray, List.set_cons_zero, List.set_cons_succ]
          refine wpAnyH_take (i := 2) (oi := { dst := some 76, op := _, type := _, pos := _, after := _, guard := _ }) (v := ?_) rfl (by kernel_rfl) (by kernel_rfl) (by kernel_rfl) (fun _ _ _ h => h) (Or.inl ⟨by rfl, ?_⟩) (hH0) ?_
          rotate_left
          · (intro wx hSw; obtain ⟨_, q0, _, q1, q2, _, q3, q4⟩ := hSw; go_simp <;> with_reducible rfl)
          simp only [Act.put, List.setIfInBounds_toArray, List.set_cons_zero, List.set_cons_succ]
          refine wpAnyH_take (i := 3) (oi := { dst := some 77, op := _, type := _, pos := _, after := _, guard := _ }) (v := ?_) rfl (by kernel_rfl) (by kernel_rfl) (by kernel_rfl) (fun _ _ _ h => h) (Or.inl ⟨by rfl, ?_⟩) (hH0) ?_
          rotate_left
          · (intro wx hSw; obtain ⟨_, q0, _, q1, q2, _, q3, q4⟩ := hSw; go_simp <;> with_reducible rfl)
          simp only [Act.put, List.setIfInBounds_toArray, List.set_cons_zero, List.set_cons_succ]
          refine wpAnyH_take (i := 4) (oi := { dst := some 78, op := _, type := _, pos := _, after := _, guard := _ }) (v := ?_) rfl (by kernel_rfl) (by kernel_rfl) (by kernel_rfl) (fun _ _ _ h => h) (Or.inl ⟨by rfl, ?_⟩) (hH0) ?_
          rotate_left
          · (intro wx hSw; obtain ⟨_, q0, _, q1, q2, _, q3, q4⟩ := hSw; go_simp <;> with_reducible rfl)
          simp only [Act.put, List.setIfInBounds_toArray, List.set_cons_zero, List.set_cons_succ]
          refine wpAnyH_take (i := 5) (oi := { dst := some 79, op := _, type := _, pos := _, after := _, guard := _ }) (v := ?_) rfl (by kernel_rfl) (by kernel_rfl) (by kernel_rfl) (fun _ _ _ h => h) (Or.inl ⟨by rfl, ?_⟩) (hH0) ?_
          rotate_left
          · (intro wx hSw; obtain ⟨_, q0, _, q1, q2, _, q3, q4⟩ := hSw; go_simp <;> with_reducible rfl)
          simp only [Act.put, List.setIfInBounds_toArray, List.set_cons_zero, List.set_cons_succ]
          refine wpAnyH_take (i := 6) (oi := { dst := some 80, op := _, type := _, pos := _, after := _, guard := _ }) (v := ?_) rfl (by kernel_rfl) (by kernel_rfl) (by kernel_rfl) (fun _ _ _ h => h) (Or.inl ⟨by rfl, ?_⟩) (hH0) ?_
          rotate_left
          · (intro wx hSw; obtain ⟨_, q0, _, q1, q2, _, q3, q4⟩ := hSw; go_simp <;> with_reducible rfl)
          simp only [Act.put, List.setIfInBounds_toArray, List.set_cons_zero, List.set_cons_succ]
          refine wpAnyH_take (i := 7) (oi := { dst := some 81, op := _, type := _, pos := _, after := _, guard := _ }) (v := ?_) rfl (by kernel_rfl) (by kernel_rfl) (by kernel_rfl) (fun _ _ _ h => h) (Or.inl ⟨by rfl, ?_⟩) (hH0) ?_
          rotate_left
          · (intro wx hSw; obtain ⟨_, q0, _, q1, q2, _, q3, q4⟩ := hSw; go_simp <;> with_reducible rfl)
          simp only [Act.put, List.setIfInBounds_toArray, List.set_cons_zero, List.set_cons_succ]
          refine wpAnyH_take (i := 8) (oi := { dst := some 82, op := _, type := _, pos := _, after := _, guard := _ }) (v := ?_) rfl (by kernel_rfl) (by kernel_rfl) (by kernel_rfl) (fun _ _ _ h => h) (Or.inl ⟨by rfl, ?_⟩) (hH0) ?_
          rotate_left
          · (intro wx hSw; obtain ⟨_, q0, _, q1, q2, _, q3, q4⟩ := hSw; go_simp <;> with_reducible rfl)
          simp only [Act.put, List.setIfInBounds_toArray, List.set_cons_zero, List.set_cons_succ]
          refine wpAnyH_take (i := 9) (oi := { dst := some 83, op := _, type := _, pos := _, after := _, guard := _ }) (v := ?_) rfl (by kernel_rfl) (by kernel_rfl) (by kernel_rfl) (fun _ _ _ h => h) (Or.inl ⟨by rfl, ?_⟩) (hH0) ?_
          rotate_left
          · (intro wx hSw; obtain ⟨_, q0, _, q1, q2, _, q3, q4⟩ := hSw; go_simp <;> with_reducible rfl)
          simp only [Act.put, List.setIfInBounds_toArray, List.set_cons_zero, List.set_cons_succ]
          refine wpAnyH_take (i := 10) (oi := { dst := some 84, op := _, type := _, pos := _, after := _, guard := _ }) (v := ?_) rfl (by kernel_rfl) (by kernel_rfl) (by kernel_rfl) (fun _ _ _ h => h) (Or.inl ⟨by rfl, ?_⟩) (hH0) ?_
          rotate_left
          · (intro wx hSw; obtain ⟨_, q0, _, q1, q2, _, q3, q4⟩ := hSw; go_simp <;> with_reducible rfl)
          simp only [Act.put, List.setIfInBounds_toArray, List.set_cons_zero, List.set_cons_succ]
          refine wpAnyH_take (i := 11) (oi := { dst := some 85, op := _, type := _, pos := _, after := _, guard := _ }) (v := ?_) rfl (by kernel_rfl) (by kernel_rfl) (by kernel_rfl) (fun _ _ _ h => h) (Or.inl ⟨by rfl, ?_⟩) (hH0) ?_
          rotate_left
          · (intro wx hSw; obtain ⟨_, q0, _, q1, q2, _, q3, q4⟩ := hSw; go_simp <;> with_reducible rfl)
          simp only [Act.put, List.setIfInBounds_toArray, List.set_cons_zero, List.set_cons_succ]
          refine wpAnyH_take (i := 12) (oi := { dst := some 86, op := _, type := _, pos := _, after := _, guard := _ }) (v := ?_) rfl (by kernel_rfl) (by kernel_rfl) (by kernel_rfl) (fun _ _ _ h => h) (Or.inl ⟨by rfl, ?_⟩) (hH0) ?_
          rotate_left
          · (intro wx hSw; obtain ⟨_, q0, _, q1, q2, _, q3, q4⟩ := hSw; go_simp <;> with_reducible rfl)
          simp only [Act.put, List.setIfInBounds_toArray, List.set_cons_zero, List.set_cons_succ]
          refine wpAnyH_take (i := 13) (oi := { dst := some 87, op := _, type := _, pos := _, after := _, guard := _ }) (v := ?_) rfl (by kernel_rfl) (by kernel_rfl) (by kernel_rfl) (fun _ _ _ h => h) (Or.inl ⟨by rfl, ?_⟩) (hH0) ?_
          rotate_left
          · (intro wx hSw; obtain ⟨_, q0, _, q1, q2, _, q3, q4⟩ := hSw; go_simp <;> with_reducible rfl)
          simp only [Act.put, List.setIfInBounds_toArray, List.set_cons_zero, List.set_cons_succ]
          refine wpAnyH_take (i := 14) (oi := { dst := some 88, op := _, type := _, pos := _, after := _, guard := _ }) (v := ?_) rfl (by kernel_rfl) (by kernel_rfl) (by kernel_rfl) (fun _ _ _ h => h) (Or.inl ⟨by rfl, ?_⟩) (hH0) ?_
          rotate_left
          · (intro wx hSw; obtain ⟨_, q0, _, q1, q2, _, q3, q4⟩ := hSw; go_simp <;> with_reducible rfl)
          simp only [Act.put, List.setIfInBounds_toArray, List.set_cons_zero, List.set_cons_succ]
          refine wpAnyH_take (i := 15) (oi := { dst := some 89, op := _, type := _, pos := _, after := _, guard := _ }) (v := ?_) rfl (by kernel_rfl) (by kernel_rfl) (by kernel_rfl) (fun _ _ _ h => h) (Or.inl ⟨by rfl, ?_⟩) (hH0) ?_
          rotate_left
          · (intro wx hSw; obtain ⟨_, q0, _, q1, q2, _, q3, q4⟩ := hSw; go_simp <;> with_reducible rfl)
          simp only [Act.put, List.setIfInBounds_toArray, List.set_cons_zero, List.set_cons_succ]
          refine wpAnyH_take (i := 16) (oi := { dst := some 2, op := _, type := _, pos := _, after := _, guard := _ }) (v := ?_) rfl (by kernel_rfl) (by kernel_rfl) (by kernel_rfl) (fun _ _ _ h => h) (Or.inl ⟨by rfl, ?_⟩) (hH0) ?_
          rotate_left
          · (intro wx hSw; obtain ⟨_, q0, _, q1, q2, _, q3, q4⟩ := hSw; go_simp <;> with_reducible rfl)
          simp only [Act.put, List.setIfInBounds_toArray, List.set_cons_zero, List.set_cons_succ]
          refine wpAnyH_done (by kernel_rfl) ?_ _
          -- behind it: go_wp2_with fail, then go_meet (a cut) or go_ret; the condition at the end: hH0
          go_wp2_with fail
          go_ret
          have hbt := BB.out
          exact ⟨rfl, (by repeat' first | with_reducible exact Below.refl _ _ | with_reducible assumption | with_reducible refine below_drewN ?_ _ | with_reducible refine balloc ?_ _ | with_reducible refine Below.drew ?_ | with_reducible refine Below.setCell ?_ (by first | (simp; done) | (simp; omega) | omega) _ | with_reducible refine bstep ?_ (by assumption))⟩
  · rw [decide_eq_true (show 1048576 < n by omega)] at BG
    go_enter Try.func3, Try.ntmps3
    go_wp2_with fail
    refine BG.out.mono ?_
    rintro e w' ⟨rfl, rfl⟩
    go_wp2
    go_ret
    exact ⟨rfl, (by repeat' first | with_reducible exact Below.refl _ _ | with_reducible assumption | with_reducible refine below_drewN ?_ _ | with_reducible refine balloc ?_ _ | with_reducible refine Below.drew ?_ | with_reducible refine Below.setCell ?_ (by first | (simp; done) | (simp; omega) | omega) _ | with_reducible refine bstep ?_ (by assumption))⟩
end Go.Proofs.Ytimkbnchbfkhnaa
