/- The walk of the law FnHeapSorted. -/
import Derived.Test.YtkonckgapicdfaaRE0
import Derived.Test.YtkonckgapicdfaaDP
import Derived.OpenShut
namespace Go.Proofs.Ytkonckgapicdfaa
open Go.RowKit
set_option maxRecDepth 8000
set_option linter.unusedSimpArgs false
set_option linter.unusedVariables false

theorem cnt_up (L : NL) (n : Nat) (x : Int × Int) : cnt L (n + 1) x = cnt L n x + if L n = x then 1 else 0 := rfl

theorem cnt_bound (L : NL) (x : Int × Int) : ∀ n, cnt L n x ≤ n
  | 0 => Nat.le_refl _
  | n + 1 => by rw [cnt_up]; have := cnt_bound L x n; split <;> omega

theorem eqP (p x : Int × Int) : (p.1 == x.1 && p.2 == x.2) = decide (p = x) := by
  obtain ⟨p1, p2⟩ := p
  obtain ⟨x1, x2⟩ := x
  by_cases h1 : p1 = x1 <;> by_cases h2 : p2 = x2 <;> simp [h1, h2]
/-- Of a row two that are read, and the box that leads to it. -/
structure Bz5 (w : World) (z : Nat) (s : Value) (b o b' o' : Nat) (x y : Int × Int) : Prop where
  lz : z < w.heap.size
  c : w.cell? ⟨z, 1, none⟩ = some s
  lb : b < w.heap.size
  c0 : w.cell? ⟨b, o, none⟩ = some (.int .i64 x.1)
  c1 : w.cell? ⟨b, o + 1, none⟩ = some (.int .i64 x.2)
  lb' : b' < w.heap.size
  d0 : w.cell? ⟨b', o', none⟩ = some (.int .i64 y.1)
  d1 : w.cell? ⟨b', o' + 1, none⟩ = some (.int .i64 y.2)

theorem Bz5.below {w w' : World} {z : Nat} {s : Value} {b o b' o' : Nat} {x y : Int × Int} (h : Bz5 w z s b o b' o' x y) (hb : Below w.heap.size w w') : Bz5 w' z s b o b' o' x y :=
  ⟨Nat.lt_of_lt_of_le h.lz hb.size, (hb.cell (p := ⟨z, 1, none⟩) h.lz).trans h.c, Nat.lt_of_lt_of_le h.lb hb.size, (hb.cell (p := ⟨b, o, none⟩) h.lb).trans h.c0, (hb.cell (p := ⟨b, o + 1, none⟩) h.lb).trans h.c1, Nat.lt_of_lt_of_le h.lb' hb.size, (hb.cell (p := ⟨b', o', none⟩) h.lb').trans h.d0, (hb.cell (p := ⟨b', o' + 1, none⟩) h.lb').trans h.d1⟩

theorem Bz5.drew {w : World} {z : Nat} {s : Value} {b o b' o' : Nat} {x y : Int × Int} (h : Bz5 w z s b o b' o' x y) : Bz5 w.drew z s b o b' o' x y := h.below (Below.drew (Below.refl _ _))

theorem PRow.twoH {w : World} {a : Option Addr} {n : Nat} {f g : Nat → Int} (h : PRow w a n f g) {i : Nat} (hi : i < n) : ∃ b off, a = some ⟨b, off, none⟩ ∧ b < w.heap.size ∧ ∀ j, j < n → w.cell? ⟨b, off + j * 2, none⟩ = some (.int .i64 (f j)) ∧ w.cell? ⟨b, off + j * 2 + 1, none⟩ = some (.int .i64 (g j)) := by
  rcases h.lies with h0 | ⟨b, off, e, lt, hc⟩
  · omega
  · exact ⟨b, off, e, lt, hc⟩

theorem nless_sorted {n : Nat} {A : NL} (h : SortedP n A) {i : Nat} (h0 : 0 < i) (hi : i < n) : nlessB (A i).1 (A i).2 (A (i - 1)).1 (A (i - 1)).2 = false := by
  have := h (i - 1) (by omega)
  rw [show i - 1 + 1 = i by omega] at this
  unfold nlessB
  rw [show lessB (A i).1 (A i).2 (A (i - 1)).1 (A (i - 1)).2 = false from this, Bool.and_false]

set_option maxHeartbeats 16000000 in
theorem heapSorted_walk (a : Option Addr) (n cap : Nat) (zs : List Int) (w : World) (h : IsRow .u8 w a n cap zs) :
    Calls Try.prog 3 #[.slice a n cap] w fun e w' => e = .returned (.bool true) ∧ Below w.heap.size w w' := by
  have BG := hide (big_any a n cap w)
  by_cases hn : n ≤ 1048576
  · rw [decide_eq_false (show ¬ 1048576 < n by omega)] at BG
    have DR := hide (drawHeapSorted_any a n cap w (h.code hn))
    clear h
    go_enter Try.func3, Try.ntmps3
    go_wp2_with fail
    refine BG.out.mono ?_
    rintro e w' ⟨rfl, hw⟩
    obtain rfl := hw.symm
    clear BG hw
    go_wp2_with fail
    refine DR.out.mono ?_
    rintro e w1 ⟨K, ha, m, hc, M, rfl, hm, hp, _, hb1⟩
    have bw1 : Below w1.heap.size w1 (w1.alloc (.cells #[.int .i64 K, .slice ha m hc] 26)) := balloc (Below.refl _ _) _
    have X1 := hide (Bx.new w1 (.int .i64 K) (.slice ha m hc) 26)
    have P1 := hide (hp.below bw1)
    have B1 := hide (bstep hb1 bw1)
    have IS := hide (fun w1 h => iSortU K ha m hc M w1 h)
    have SS := hide (fun w1 h => sSortU K ha m hc M w1 h)
    have SO := hide (fun w1 (h : PRow w1 ha m (fun i => (M i).1) (fun i => (M i).2)) => sHeapOk_any K ha m hc _ _ w1 h)
    obtain ⟨hb, hhb⟩ : ∃ b, heapB K m (fun i => (M i).1) (fun i => (M i).2) = b := ⟨_, rfl⟩
    rw [hhb] at SO
    simp only [hhb] at IS SS
    have HHB := hide hhb
    have hN : sortN m hb ≤ m := by unfold sortN; split <;> omega
    have HNE := hide (fun (q : hb = true) => show sortN m hb = m from by rw [q]; rfl)
    obtain ⟨N, hNe⟩ : ∃ N, sortN m hb = N := ⟨_, rfl⟩
    obtain ⟨A, hA⟩ : ∃ A, isortL m M = A := ⟨_, rfl⟩
    simp only [hNe, hA] at IS SS HNE hN
    have SRT := hide (hA ▸ (isortL_sorted m M).1)
    have CNT := hide (fun x => hA ▸ (isortL_sorted m M).2 x)
    have EQ := hide (fun a1 k1 a2 k2 w1 (h : PRow w1 a1 N (fun i => (A i).1) (fun i => (A i).2)) (h' : PRow w1 a2 N (fun i => (A i).1) (fun i => (A i).2)) => sameNears_self a1 a2 N k1 k2 A w1 h h' (by omega))
    clear hp hb1 bw1 DR hhb hNe hA
    obtain ⟨_, x0, x1, _, _⟩ := X1.out
    go_wp2_with fail
    refine (IS.out _ P1.out).mono ?_
    rintro e w2 ⟨a2, c2, rfl, r2, b2⟩
    have X2 := hide (X1.out.below b2)
    have P2 := hide (P1.out.below b2)
    have B2 := hide (bstep B1.out b2)
    have R2 := hide r2
    clear x0 x1 X1 P1 B1 r2 b2
    obtain ⟨z, hz⟩ : ∃ z, w1.heap.size = z := ⟨_, rfl⟩
    rw [hz] at X2
    rw [hz]
    clear hz
    obtain ⟨_, x0, x1, _, _⟩ := X2.out
    go_wp2_with fail
    refine (SS.out _ P2.out).mono ?_
    rintro e w3 ⟨a3, c3, rfl, r3, b3⟩
    have X3 := hide (X2.out.below b3)
    have P3 := hide (P2.out.below b3)
    have B3 := hide (bstep B2.out b3)
    have R3 := hide (R2.out.below b3)
    have Q3 := hide r3
    clear x0 x1 X2 P2 B2 R2 r3 b3
    go_wp2_with fail
    refine (EQ.out _ _ _ _ _ R3.out Q3.out).mono ?_
    rintro e w4 ⟨rfl, b4⟩
    have X4 := hide (X3.out.below b4)
    have P4 := hide (P3.out.below b4)
    have B4 := hide (bstep B3.out b4)
    have R4 := hide (R3.out.below b4)
    clear X3 P3 B3 R3 Q3 b4
    obtain ⟨_, x0, x1, _, _⟩ := X4.out
    go_wp2_with fail
    refine (SO.out _ P4.out).mono ?_
    rintro e w5 ⟨rfl, b5⟩
    have X5 := hide (X4.out.below b5)
    have P5 := hide (P4.out.below b5)
    have B5 := hide (bstep B4.out b5)
    have R5 := hide (R4.out.below b5)
    clear x0 x1 X4 P4 B4 R4 b5
    cases hb
    · obtain ⟨_, x0, x1, _, _⟩ := X5.out
      go_wp2_with fail
      refine (SS.out _ P5.out).mono ?_
      rintro e w6 ⟨a6, c6, rfl, r6, b6⟩
      have B6 := hide (bstep B5.out b6)
      have R6 := hide (R5.out.below b6)
      have Q6 := hide r6
      clear x0 x1 X5 r6 b6
      go_wp2_with fail
      refine (EQ.out _ _ _ _ _ R6.out Q6.out).mono ?_
      rintro e w7 ⟨rfl, b7⟩
      have B7 := hide (bstep B6.out b7)
      clear b7
      go_wp2_with fail
      go_ret
      exact ⟨rfl, B7.out⟩
    · obtain rfl : N = m := HNE.out rfl
      clear HNE IS SS SO EQ
      obtain ⟨_, x0, x1, _, _⟩ := X5.out
      go_wp2_with fail
      go_loopw [5] (fun i wr => ∃ k : Nat, k ≤ N ∧ i = .int .i64 k ∧ Below w5.heap.size w5 wr) (fun i _ => N - (intOf i).toNat)
      case atStart => exact ⟨0, Nat.zero_le _, rfl, Below.refl _ _⟩
      case round =>
        obtain ⟨i, hi, rfl, hbel⟩ := hrel
        have HB := hide hbel
        have X := hide (X5.out.below hbel)
        have P := hide (P5.out.below hbel)
        have R := hide (R5.out.below hbel)
        have BB := hide (bstep B5.out hbel)
        clear x0 x1 hbel
        obtain ⟨_, x0, x1, _, _⟩ := X.out
        by_cases hlt : i < N
        · have hlt' : (i : Int) < (N : Int) := by omega
          obtain ⟨x, hx⟩ : ∃ x, M i = x := ⟨_, rfl⟩
          have HX := hide hx
          have C0 := hide (CNT.out x)
          have CB1 := hide (cnt_bound M x)
          have CB2 := hide (cnt_bound A x)
          have U1 := hide (fun k => cnt_up M k x)
          have U2 := hide (fun k => cnt_up A k x)
          have hz1 : cnt M 0 x = 0 := rfl
          have hz2 : cnt A 0 x = 0 := rfl
          obtain ⟨cM, hcM⟩ : ∃ c, (fun k => cnt M k x) = c := ⟨_, rfl⟩
          obtain ⟨cA, hcA⟩ : ∃ c, (fun k => cnt A k x) = c := ⟨_, rfl⟩
          have e1 : ∀ k, cnt M k x = cM k := fun k => by rw [← hcM]
          have e2 : ∀ k, cnt A k x = cA k := fun k => by rw [← hcA]
          simp only [e1, e2] at C0 CB1 CB2 U1 U2 hz1 hz2
          clear hcM hcA e1 e2 hx
          have hw0 : ((cM 0 : Nat) : Int) - ((cA 0 : Nat) : Int) = 0 := by omega
          obtain ⟨bM, oM, rfl, lM, kM⟩ := P.out.twoH hlt
          obtain ⟨bA, oA, rfl, lA, kA⟩ := R.out.twoH hlt
          have KM := hide kM
          have KA := hide kA
          clear kM kA hz1 hz2
          go_wp2_with fail
          go_loopw [6, 7] (fun c k wx => ∃ t : Nat, t ≤ N ∧ k = .int .i64 t ∧ c = .int .i64 ((cM t : Int) - (cA t : Int)) ∧ Below wr.heap.size wr wx) (fun _ k _ => N - (intOf k).toNat)
          case atStart => exact ⟨0, Nat.zero_le _, rfl, by rw [hw0], Below.refl _ _⟩
          case round =>
            obtain ⟨t, ht, rfl, rfl, hbt⟩ := hrel
            have HBT := hide hbt
            have X' := X.out.below hbt
            clear x0 x1
            obtain ⟨lz', y0, y1, _, _⟩ := id X'
            have b1 := CB1.out t
            have b2 := CB2.out t
            by_cases htn : t < N
            · have htn' : (t : Int) < (N : Int) := by omega
              have m0 := (hbt.cell (p := ⟨bM, oM + t * 2, none⟩) lM).trans (KM.out t htn).1
              have m1 := (hbt.cell (p := ⟨bM, oM + t * 2 + 1, none⟩) lM).trans (KM.out t htn).2
              have n0 := (hbt.cell (p := ⟨bM, oM + i * 2, none⟩) lM).trans (KM.out i hlt).1
              have n1 := (hbt.cell (p := ⟨bM, oM + i * 2 + 1, none⟩) lM).trans (KM.out i hlt).2
              have a0 := (hbt.cell (p := ⟨bA, oA + t * 2, none⟩) lA).trans (KA.out t htn).1
              have a1 := (hbt.cell (p := ⟨bA, oA + t * 2 + 1, none⟩) lA).trans (KA.out t htn).2
              rw [HX.out] at n0 n1
              have lM' := Nat.lt_of_lt_of_le lM hbt.size
              have lA' := Nat.lt_of_lt_of_le lA hbt.size
              have T1 : Hid (Bz5 wr z (.slice (some ⟨bM, oM, none⟩) N hc) bM (oM + t * 2) bM (oM + i * 2) (M t) x) := hide ⟨lz', y1, lM', m0, m1, lM', n0, n1⟩
              have T2 : Hid (Bz5 wr z (.slice (some ⟨bM, oM, none⟩) N hc) bA (oA + t * 2) bM (oM + i * 2) (A t) x) := hide ⟨lz', y1, lA', a0, a1, lM', n0, n1⟩
              have u1 := U1.out t
              have u2 := U2.out t
              obtain ⟨p, hp⟩ : ∃ p, M t = p := ⟨_, rfl⟩
              obtain ⟨r, hr⟩ : ∃ r, A t = r := ⟨_, rfl⟩
              rw [hp] at T1 u1
              rw [hr] at T2 u2
              obtain ⟨v, hv⟩ : ∃ v, decide (p = x) = v := ⟨_, rfl⟩
              obtain ⟨v', hv'⟩ : ∃ v, decide (r = x) = v := ⟨_, rfl⟩
              have hE1 : ∀ w, (Op.equalIn 10000 32 (.agg #[.int .i64 p.1, .int .i64 p.2]) (.agg #[.int .i64 x.1, .int .i64 x.2])).run Try.prog w = .ok v w := fun w => by rw [eqNr, eqP, hv]
              have hE2 : ∀ w, (Op.equalIn 10000 32 (.agg #[.int .i64 r.1, .int .i64 r.2]) (.agg #[.int .i64 x.1, .int .i64 x.2])).run Try.prog w = .ok v' w := fun w => by rw [eqNr, eqP, hv']
              have V1 : cM (t + 1) = cM t + if v = true then 1 else 0 := by rw [u1, ← hv]; simp
              have V2 : cA (t + 1) = cA t + if v' = true then 1 else 0 := by rw [u2, ← hv']; simp
              have HV1 := hide V1
              have HV2 := hide V2
              clear m0 m1 n0 n1 a0 a1 y0 hbt u1 u2 hp hr hv hv' V1 V2
              go_upto_region 14 with fail
              refine wp_region_held_drew (S := fun wx => Bz5 wx z (.slice (some ⟨bM, oM, none⟩) N hc) bM (oM + t * 2) bM (oM + i * 2) p x) (by kernel_rfl) (T1.out.drew) (fun hH0 => ?_)
              refine wpAnyH_take (i := 0) (oi := { dst := some 42, op := _, type := _, pos := _, after := _, guard := _ }) (v := ?_) rfl (by kernel_rfl) (by kernel_rfl) (by kernel_rfl) (fun _ _ _ h => h) (Or.inl ⟨by rfl, ?_⟩) (hH0) ?_
              rotate_left
              · (intro wx hSw; obtain ⟨_, q0, _, q1, q2, _, q3, q4⟩ := hSw; go_simp <;> with_reducible rfl)
              simp only [Act.put, List.setIfInBounds_toArray, List.set_cons_zero, List.set_cons_succ]
              refine wpAnyH_take (i := 1) (oi := { dst := some 43, op := _, type := _, pos := _, after := _, guard := _ }) (v := ?_) rfl (by kernel_rfl) (by kernel_rfl) (by kernel_rfl) (fun _ _ _ h => h) (Or.inl ⟨by rfl, ?_⟩) (hH0) ?_
              rotate_left
              · (intro wx hSw; obtain ⟨_, q0, _, q1, q2, _, q3, q4⟩ := hSw; go_simp <;> with_reducible rfl)
              simp only [Act.put, List.setIfInBounds_toArray, List.set_cons_zero, List.set_cons_succ]
              refine wpAnyH_take (i := 2) (oi := { dst := some 44, op := _, type := _, pos := _, after := _, guard := _ }) (v := ?_) rfl (by kernel_rfl) (by kernel_rfl) (by kernel_rfl) (fun _ _ _ h => h) (Or.inl ⟨by rfl, ?_⟩) (hH0) ?_
              rotate_left
              · (intro wx hSw; obtain ⟨_, q0, _, q1, q2, _, q3, q4⟩ := hSw; go_simp <;> with_reducible rfl)
              simp only [Act.put, List.setIfInBounds_toArray, List.set_cons_zero, List.set_cons_succ]
              refine wpAnyH_take (i := 3) (oi := { dst := some 45, op := _, type := _, pos := _, after := _, guard := _ }) (v := ?_) rfl (by kernel_rfl) (by kernel_rfl) (by kernel_rfl) (fun _ _ _ h => h) (Or.inl ⟨by rfl, ?_⟩) (hH0) ?_
              rotate_left
              · (intro wx hSw; obtain ⟨_, q0, _, q1, q2, _, q3, q4⟩ := hSw; go_simp <;> with_reducible rfl)
              simp only [Act.put, List.setIfInBounds_toArray, List.set_cons_zero, List.set_cons_succ]
              refine wpAnyH_take (i := 4) (oi := { dst := some 46, op := _, type := _, pos := _, after := _, guard := _ }) (v := ?_) rfl (by kernel_rfl) (by kernel_rfl) (by kernel_rfl) (fun _ _ _ h => h) (Or.inl ⟨by rfl, ?_⟩) (hH0) ?_
              rotate_left
              · (intro wx hSw; obtain ⟨_, q0, _, q1, q2, _, q3, q4⟩ := hSw; go_simp <;> with_reducible rfl)
              simp only [Act.put, List.setIfInBounds_toArray, List.set_cons_zero, List.set_cons_succ]
              refine wpAnyH_take (i := 5) (oi := { dst := some 47, op := _, type := _, pos := _, after := _, guard := _ }) (v := ?_) rfl (by kernel_rfl) (by kernel_rfl) (by kernel_rfl) (fun _ _ _ h => h) (Or.inl ⟨by rfl, ?_⟩) (hH0) ?_
              rotate_left
              · (intro wx hSw; obtain ⟨_, q0, _, q1, q2, _, q3, q4⟩ := hSw; go_simp <;> with_reducible rfl)
              simp only [Act.put, List.setIfInBounds_toArray, List.set_cons_zero, List.set_cons_succ]
              refine wpAnyH_take (i := 6) (oi := { dst := some 48, op := _, type := _, pos := _, after := _, guard := _ }) (v := ?_) rfl (by kernel_rfl) (by kernel_rfl) (by kernel_rfl) (fun _ _ _ h => h) (Or.inl ⟨by rfl, ?_⟩) (hH0) ?_
              rotate_left
              · (intro wx hSw; obtain ⟨_, q0, _, q1, q2, _, q3, q4⟩ := hSw; go_simp <;> with_reducible rfl)
              simp only [Act.put, List.setIfInBounds_toArray, List.set_cons_zero, List.set_cons_succ]
              refine wpAnyH_take (i := 7) (oi := { dst := some 49, op := _, type := _, pos := _, after := _, guard := _ }) (v := ?_) rfl (by kernel_rfl) (by kernel_rfl) (by kernel_rfl) (fun _ _ _ h => h) (Or.inl ⟨by rfl, ?_⟩) (hH0) ?_
              rotate_left
              · (intro wx hSw; obtain ⟨_, q0, _, q1, q2, _, q3, q4⟩ := hSw; go_simp <;> with_reducible rfl)
              simp only [Act.put, List.setIfInBounds_toArray, List.set_cons_zero, List.set_cons_succ]
              refine wpAnyH_take (i := 8) (oi := { dst := some 50, op := _, type := _, pos := _, after := _, guard := _ }) (v := ?_) rfl (by kernel_rfl) (by kernel_rfl) (by kernel_rfl) (fun _ _ _ h => h) (Or.inl ⟨by rfl, ?_⟩) (hH0) ?_
              rotate_left
              · (intro wx hSw; obtain ⟨_, q0, _, q1, q2, _, q3, q4⟩ := hSw; go_simp <;> with_reducible rfl)
              simp only [Act.put, List.setIfInBounds_toArray, List.set_cons_zero, List.set_cons_succ]
              refine wpAnyH_take (i := 9) (oi := { dst := some 51, op := _, type := _, pos := _, after := _, guard := _ }) (v := ?_) rfl (by kernel_rfl) (by kernel_rfl) (by kernel_rfl) (fun _ _ _ h => h) (Or.inl ⟨by rfl, ?_⟩) (hH0) ?_
              rotate_left
              · (intro wx hSw; obtain ⟨_, q0, _, q1, q2, _, q3, q4⟩ := hSw; go_simp <;> with_reducible rfl)
              simp only [Act.put, List.setIfInBounds_toArray, List.set_cons_zero, List.set_cons_succ]
              refine wpAnyH_take (i := 10) (oi := { dst := some 52, op := _, type := _, pos := _, after := _, guard := _ }) (v := ?_) rfl (by kernel_rfl) (by kernel_rfl) (by kernel_rfl) (fun _ _ _ h => h) (Or.inl ⟨by rfl, ?_⟩) (hH0) ?_
              rotate_left
              · (intro wx hSw; obtain ⟨_, q0, _, q1, q2, _, q3, q4⟩ := hSw; go_simp <;> with_reducible rfl)
              simp only [Act.put, List.setIfInBounds_toArray, List.set_cons_zero, List.set_cons_succ]
              refine wpAnyH_done (by kernel_rfl) ?_ _
              -- behind it: go_wp2_with fail, then go_meet (a cut) or go_ret; the condition at the end: hH0
              have T3 := hide (T2.out.drew.drew)
              cases v
              · go_upto_region 16 with fail
                refine wp_region_held_drew (S := fun wx => Bz5 wx z (.slice (some ⟨bM, oM, none⟩) N hc) bA (oA + t * 2) bM (oM + i * 2) r x) (by kernel_rfl) (T3.out) (fun hH0 => ?_)
                refine wpAnyH_take (i := 0) (oi := { dst := some 55, op := _, type := _, pos := _, after := _, guard := _ }) (v := ?_) rfl (by kernel_rfl) (by kernel_rfl) (by kernel_rfl) (fun _ _ _ h => h) (Or.inl ⟨by rfl, ?_⟩) (hH0) ?_
                rotate_left
                · (intro wx hSw; obtain ⟨_, q0, _, q1, q2, _, q3, q4⟩ := hSw; go_simp <;> with_reducible rfl)
                simp only [Act.put, List.setIfInBounds_toArray, List.set_cons_zero, List.set_cons_succ]
                refine wpAnyH_take (i := 1) (oi := { dst := some 56, op := _, type := _, pos := _, after := _, guard := _ }) (v := ?_) rfl (by kernel_rfl) (by kernel_rfl) (by kernel_rfl) (fun _ _ _ h => h) (Or.inl ⟨by rfl, ?_⟩) (hH0) ?_
                rotate_left
                · (intro wx hSw; obtain ⟨_, q0, _, q1, q2, _, q3, q4⟩ := hSw; go_simp <;> with_reducible rfl)
                simp only [Act.put, List.setIfInBounds_toArray, List.set_cons_zero, List.set_cons_succ]
                refine wpAnyH_take (i := 2) (oi := { dst := some 57, op := _, type := _, pos := _, after := _, guard := _ }) (v := ?_) rfl (by kernel_rfl) (by kernel_rfl) (by kernel_rfl) (fun _ _ _ h => h) (Or.inl ⟨by rfl, ?_⟩) (hH0) ?_
                rotate_left
                · (intro wx hSw; obtain ⟨_, q0, _, q1, q2, _, q3, q4⟩ := hSw; go_simp <;> with_reducible rfl)
                simp only [Act.put, List.setIfInBounds_toArray, List.set_cons_zero, List.set_cons_succ]
                refine wpAnyH_take (i := 3) (oi := { dst := some 58, op := _, type := _, pos := _, after := _, guard := _ }) (v := ?_) rfl (by kernel_rfl) (by kernel_rfl) (by kernel_rfl) (fun _ _ _ h => h) (Or.inl ⟨by rfl, ?_⟩) (hH0) ?_
                rotate_left
                · (intro wx hSw; obtain ⟨_, q0, _, q1, q2, _, q3, q4⟩ := hSw; go_simp <;> with_reducible rfl)
                simp only [Act.put, List.setIfInBounds_toArray, List.set_cons_zero, List.set_cons_succ]
                refine wpAnyH_take (i := 4) (oi := { dst := some 59, op := _, type := _, pos := _, after := _, guard := _ }) (v := ?_) rfl (by kernel_rfl) (by kernel_rfl) (by kernel_rfl) (fun _ _ _ h => h) (Or.inl ⟨by rfl, ?_⟩) (hH0) ?_
                rotate_left
                · (intro wx hSw; obtain ⟨_, q0, _, q1, q2, _, q3, q4⟩ := hSw; go_simp <;> with_reducible rfl)
                simp only [Act.put, List.setIfInBounds_toArray, List.set_cons_zero, List.set_cons_succ]
                refine wpAnyH_take (i := 5) (oi := { dst := some 60, op := _, type := _, pos := _, after := _, guard := _ }) (v := ?_) rfl (by kernel_rfl) (by kernel_rfl) (by kernel_rfl) (fun _ _ _ h => h) (Or.inl ⟨by rfl, ?_⟩) (hH0) ?_
                rotate_left
                · (intro wx hSw; obtain ⟨_, q0, _, q1, q2, _, q3, q4⟩ := hSw; go_simp <;> with_reducible rfl)
                simp only [Act.put, List.setIfInBounds_toArray, List.set_cons_zero, List.set_cons_succ]
                refine wpAnyH_take (i := 6) (oi := { dst := some 61, op := _, type := _, pos := _, after := _, guard := _ }) (v := ?_) rfl (by kernel_rfl) (by kernel_rfl) (by kernel_rfl) (fun _ _ _ h => h) (Or.inl ⟨by rfl, ?_⟩) (hH0) ?_
                rotate_left
                · (intro wx hSw; obtain ⟨_, q0, _, q1, q2, _, q3, q4⟩ := hSw; go_simp <;> with_reducible rfl)
                simp only [Act.put, List.setIfInBounds_toArray, List.set_cons_zero, List.set_cons_succ]
                refine wpAnyH_take (i := 7) (oi := { dst := some 62, op := _, type := _, pos := _, after := _, guard := _ }) (v := ?_) rfl (by kernel_rfl) (by kernel_rfl) (by kernel_rfl) (fun _ _ _ h => h) (Or.inl ⟨by rfl, ?_⟩) (hH0) ?_
                rotate_left
                · (intro wx hSw; obtain ⟨_, q0, _, q1, q2, _, q3, q4⟩ := hSw; go_simp <;> with_reducible rfl)
                simp only [Act.put, List.setIfInBounds_toArray, List.set_cons_zero, List.set_cons_succ]
                refine wpAnyH_take (i := 8) (oi := { dst := some 63, op := _, type := _, pos := _, after := _, guard := _ }) (v := ?_) rfl (by kernel_rfl) (by kernel_rfl) (by kernel_rfl) (fun _ _ _ h => h) (Or.inl ⟨by rfl, ?_⟩) (hH0) ?_
                rotate_left
                · (intro wx hSw; obtain ⟨_, q0, _, q1, q2, _, q3, q4⟩ := hSw; go_simp <;> with_reducible rfl)
                simp only [Act.put, List.setIfInBounds_toArray, List.set_cons_zero, List.set_cons_succ]
                refine wpAnyH_take (i := 9) (oi := { dst := some 64, op := _, type := _, pos := _, after := _, guard := _ }) (v := ?_) rfl (by kernel_rfl) (by kernel_rfl) (by kernel_rfl) (fun _ _ _ h => h) (Or.inl ⟨by rfl, ?_⟩) (hH0) ?_
                rotate_left
                · (intro wx hSw; obtain ⟨_, q0, _, q1, q2, _, q3, q4⟩ := hSw; go_simp <;> with_reducible rfl)
                simp only [Act.put, List.setIfInBounds_toArray, List.set_cons_zero, List.set_cons_succ]
                refine wpAnyH_done (by kernel_rfl) ?_ _
                -- behind it: go_wp2_with fail, then go_meet (a cut) or go_ret; the condition at the end: hH0
                cases v'
                all_goals
                  go_wp2_with fail
                  go_roundw
                  case rel =>
                    have hbt := HBT.out
                    have g1 := HV1.out
                    have g2 := HV2.out
                    exact ⟨t + 1, by omega, by go_num, by rw [g1, g2]; simp; try omega, (by repeat' first | with_reducible exact Below.refl _ _ | with_reducible assumption | with_reducible refine below_drewN ?_ _ | with_reducible refine balloc ?_ _ | with_reducible refine Below.drew ?_ | with_reducible refine Below.setCell ?_ (by first | (simp; done) | (simp; omega) | omega) _ | with_reducible refine bstep ?_ (by assumption))⟩
                  case measure => simp [intOf]; omega
              · go_upto_region 16 with fail
                refine wp_region_held_drew (S := fun wx => Bz5 wx z (.slice (some ⟨bM, oM, none⟩) N hc) bA (oA + t * 2) bM (oM + i * 2) r x) (by kernel_rfl) (T3.out) (fun hH0 => ?_)
                refine wpAnyH_take (i := 0) (oi := { dst := some 55, op := _, type := _, pos := _, after := _, guard := _ }) (v := ?_) rfl (by kernel_rfl) (by kernel_rfl) (by kernel_rfl) (fun _ _ _ h => h) (Or.inl ⟨by rfl, ?_⟩) (hH0) ?_
                rotate_left
                · (intro wx hSw; obtain ⟨_, q0, _, q1, q2, _, q3, q4⟩ := hSw; go_simp <;> with_reducible rfl)
                simp only [Act.put, List.setIfInBounds_toArray, List.set_cons_zero, List.set_cons_succ]
                refine wpAnyH_take (i := 1) (oi := { dst := some 56, op := _, type := _, pos := _, after := _, guard := _ }) (v := ?_) rfl (by kernel_rfl) (by kernel_rfl) (by kernel_rfl) (fun _ _ _ h => h) (Or.inl ⟨by rfl, ?_⟩) (hH0) ?_
                rotate_left
                · (intro wx hSw; obtain ⟨_, q0, _, q1, q2, _, q3, q4⟩ := hSw; go_simp <;> with_reducible rfl)
                simp only [Act.put, List.setIfInBounds_toArray, List.set_cons_zero, List.set_cons_succ]
                refine wpAnyH_take (i := 2) (oi := { dst := some 57, op := _, type := _, pos := _, after := _, guard := _ }) (v := ?_) rfl (by kernel_rfl) (by kernel_rfl) (by kernel_rfl) (fun _ _ _ h => h) (Or.inl ⟨by rfl, ?_⟩) (hH0) ?_
                rotate_left
                · (intro wx hSw; obtain ⟨_, q0, _, q1, q2, _, q3, q4⟩ := hSw; go_simp <;> with_reducible rfl)
                simp only [Act.put, List.setIfInBounds_toArray, List.set_cons_zero, List.set_cons_succ]
                refine wpAnyH_take (i := 3) (oi := { dst := some 58, op := _, type := _, pos := _, after := _, guard := _ }) (v := ?_) rfl (by kernel_rfl) (by kernel_rfl) (by kernel_rfl) (fun _ _ _ h => h) (Or.inl ⟨by rfl, ?_⟩) (hH0) ?_
                rotate_left
                · (intro wx hSw; obtain ⟨_, q0, _, q1, q2, _, q3, q4⟩ := hSw; go_simp <;> with_reducible rfl)
                simp only [Act.put, List.setIfInBounds_toArray, List.set_cons_zero, List.set_cons_succ]
                refine wpAnyH_take (i := 4) (oi := { dst := some 59, op := _, type := _, pos := _, after := _, guard := _ }) (v := ?_) rfl (by kernel_rfl) (by kernel_rfl) (by kernel_rfl) (fun _ _ _ h => h) (Or.inl ⟨by rfl, ?_⟩) (hH0) ?_
                rotate_left
                · (intro wx hSw; obtain ⟨_, q0, _, q1, q2, _, q3, q4⟩ := hSw; go_simp <;> with_reducible rfl)
                simp only [Act.put, List.setIfInBounds_toArray, List.set_cons_zero, List.set_cons_succ]
                refine wpAnyH_take (i := 5) (oi := { dst := some 60, op := _, type := _, pos := _, after := _, guard := _ }) (v := ?_) rfl (by kernel_rfl) (by kernel_rfl) (by kernel_rfl) (fun _ _ _ h => h) (Or.inl ⟨by rfl, ?_⟩) (hH0) ?_
                rotate_left
                · (intro wx hSw; obtain ⟨_, q0, _, q1, q2, _, q3, q4⟩ := hSw; go_simp <;> with_reducible rfl)
                simp only [Act.put, List.setIfInBounds_toArray, List.set_cons_zero, List.set_cons_succ]
                refine wpAnyH_take (i := 6) (oi := { dst := some 61, op := _, type := _, pos := _, after := _, guard := _ }) (v := ?_) rfl (by kernel_rfl) (by kernel_rfl) (by kernel_rfl) (fun _ _ _ h => h) (Or.inl ⟨by rfl, ?_⟩) (hH0) ?_
                rotate_left
                · (intro wx hSw; obtain ⟨_, q0, _, q1, q2, _, q3, q4⟩ := hSw; go_simp <;> with_reducible rfl)
                simp only [Act.put, List.setIfInBounds_toArray, List.set_cons_zero, List.set_cons_succ]
                refine wpAnyH_take (i := 7) (oi := { dst := some 62, op := _, type := _, pos := _, after := _, guard := _ }) (v := ?_) rfl (by kernel_rfl) (by kernel_rfl) (by kernel_rfl) (fun _ _ _ h => h) (Or.inl ⟨by rfl, ?_⟩) (hH0) ?_
                rotate_left
                · (intro wx hSw; obtain ⟨_, q0, _, q1, q2, _, q3, q4⟩ := hSw; go_simp <;> with_reducible rfl)
                simp only [Act.put, List.setIfInBounds_toArray, List.set_cons_zero, List.set_cons_succ]
                refine wpAnyH_take (i := 8) (oi := { dst := some 63, op := _, type := _, pos := _, after := _, guard := _ }) (v := ?_) rfl (by kernel_rfl) (by kernel_rfl) (by kernel_rfl) (fun _ _ _ h => h) (Or.inl ⟨by rfl, ?_⟩) (hH0) ?_
                rotate_left
                · (intro wx hSw; obtain ⟨_, q0, _, q1, q2, _, q3, q4⟩ := hSw; go_simp <;> with_reducible rfl)
                simp only [Act.put, List.setIfInBounds_toArray, List.set_cons_zero, List.set_cons_succ]
                refine wpAnyH_take (i := 9) (oi := { dst := some 64, op := _, type := _, pos := _, after := _, guard := _ }) (v := ?_) rfl (by kernel_rfl) (by kernel_rfl) (by kernel_rfl) (fun _ _ _ h => h) (Or.inl ⟨by rfl, ?_⟩) (hH0) ?_
                rotate_left
                · (intro wx hSw; obtain ⟨_, q0, _, q1, q2, _, q3, q4⟩ := hSw; go_simp <;> with_reducible rfl)
                simp only [Act.put, List.setIfInBounds_toArray, List.set_cons_zero, List.set_cons_succ]
                refine wpAnyH_done (by kernel_rfl) ?_ _
                -- behind it: go_wp2_with fail, then go_meet (a cut) or go_ret; the condition at the end: hH0
                cases v'
                all_goals
                  go_wp2_with fail
                  go_roundw
                  case rel =>
                    have hbt := HBT.out
                    have g1 := HV1.out
                    have g2 := HV2.out
                    exact ⟨t + 1, by omega, by go_num, by rw [g1, g2]; simp; try omega, (by repeat' first | with_reducible exact Below.refl _ _ | with_reducible assumption | with_reducible refine below_drewN ?_ _ | with_reducible refine balloc ?_ _ | with_reducible refine Below.drew ?_ | with_reducible refine Below.setCell ?_ (by first | (simp; done) | (simp; omega) | omega) _ | with_reducible refine bstep ?_ (by assumption))⟩
                  case measure => simp [intOf]; omega
            · obtain rfl : t = N := by omega
              have hw : ((cM t : Int) - (cA t : Int)) = 0 := by have := C0.out; omega
              rw [hw]
              have BB' := hide (bstep HB.out hbt)
              have P' := hide (R.out.below hbt)
              clear hbt y0 HBT b1 b2
              by_cases h0 : 0 < i
              · have h0' : decide (0 < (i : Int)) = true := by simp; omega
                have hs := nless_sorted SRT.out h0 hlt
                obtain ⟨q, hq⟩ : ∃ q, i - 1 = q := ⟨_, rfl⟩
                rw [hq] at hs
                have hqn : q < t := by omega
                have hqn' : (q : Int) < (t : Int) := by omega
                have hwr : IntKind.i64.wrap ((i : Int) - 1) = (q : Int) := by rw [wrapIn _ (by omega) (by omega)]; omega
                obtain ⟨bn, on, en, ln, kn⟩ := P'.out.twoH hlt
                cases en
                have T := hide (Bz5.mk (z := z) lz' X'.c1 ln (kn i hlt).1 (kn i hlt).2 ln (kn q hqn).1 (kn q hqn).2)
                have RN := hide (fun w1 => iNearLess_any (A i).1 (A i).2 (A q).1 (A q).2 w1)
                rw [hs] at RN
                have BL : Hid (Bz5 wr.drew z (.slice (some ⟨bM, oM, none⟩) t hc) bA (oA + i * 2) bA (oA + q * 2) (A i) (A q)) := hide T.out.drew
                clear kn hs hq T hw
                go_upto_region 18 with fail
                refine wp_region_held_drew (S := fun wx => Bz5 wx z (.slice (some ⟨bM, oM, none⟩) t hc) bA (oA + i * 2) bA (oA + q * 2) (A i) (A q)) (by kernel_rfl) (BL.out) (fun hH0 => ?_)
                refine wpAnyH_take (i := 0) (oi := { dst := some 67, op := _, type := _, pos := _, after := _, guard := _ }) (v := ?_) rfl (by kernel_rfl) (by kernel_rfl) (by kernel_rfl) (fun _ _ _ h => h) (Or.inl ⟨by rfl, ?_⟩) (hH0) ?_
                rotate_left
                · (intro wx hSw; obtain ⟨_, q0, _, q1, q2, _, q3, q4⟩ := hSw; go_simp <;> with_reducible rfl)
                simp only [Act.put, List.setIfInBounds_toArray, List.set_cons_zero, List.set_cons_succ]
                refine wpAnyH_take (i := 1) (oi := { dst := some 68, op := _, type := _, pos := _, after := _, guard := _ }) (v := ?_) rfl (by kernel_rfl) (by kernel_rfl) (by kernel_rfl) (fun _ _ _ h => h) (Or.inl ⟨by rfl, ?_⟩) (hH0) ?_
                rotate_left
                · (intro wx hSw; obtain ⟨_, q0, _, q1, q2, _, q3, q4⟩ := hSw; go_simp <;> with_reducible rfl)
                simp only [Act.put, List.setIfInBounds_toArray, List.set_cons_zero, List.set_cons_succ]
                refine wpAnyH_take (i := 2) (oi := { dst := some 69, op := _, type := _, pos := _, after := _, guard := _ }) (v := ?_) rfl (by kernel_rfl) (by kernel_rfl) (by kernel_rfl) (fun _ _ _ h => h) (Or.inl ⟨by rfl, ?_⟩) (hH0) ?_
                rotate_left
                · (intro wx hSw; obtain ⟨_, q0, _, q1, q2, _, q3, q4⟩ := hSw; go_simp <;> with_reducible rfl)
                simp only [Act.put, List.setIfInBounds_toArray, List.set_cons_zero, List.set_cons_succ]
                refine wpAnyH_take (i := 3) (oi := { dst := some 70, op := _, type := _, pos := _, after := _, guard := _ }) (v := ?_) rfl (by kernel_rfl) (by kernel_rfl) (by kernel_rfl) (fun _ _ _ h => h) (Or.inl ⟨by rfl, ?_⟩) (hH0) ?_
                rotate_left
                · (intro wx hSw; obtain ⟨_, q0, _, q1, q2, _, q3, q4⟩ := hSw; go_simp <;> with_reducible rfl)
                simp only [Act.put, List.setIfInBounds_toArray, List.set_cons_zero, List.set_cons_succ]
                refine wpAnyH_take (i := 4) (oi := { dst := some 71, op := _, type := _, pos := _, after := _, guard := _ }) (v := ?_) rfl (by kernel_rfl) (by kernel_rfl) (by kernel_rfl) (fun _ _ _ h => h) (Or.inl ⟨by rfl, ?_⟩) (hH0) ?_
                rotate_left
                · (intro wx hSw; obtain ⟨_, q0, _, q1, q2, _, q3, q4⟩ := hSw; go_simp <;> with_reducible rfl)
                simp only [Act.put, List.setIfInBounds_toArray, List.set_cons_zero, List.set_cons_succ]
                refine wpAnyH_take (i := 5) (oi := { dst := some 72, op := _, type := _, pos := _, after := _, guard := _ }) (v := ?_) rfl (by kernel_rfl) (by kernel_rfl) (by kernel_rfl) (fun _ _ _ h => h) (Or.inl ⟨by rfl, ?_⟩) (hH0) ?_
                rotate_left
                · (intro wx hSw; obtain ⟨_, q0, _, q1, q2, _, q3, q4⟩ := hSw; go_simp <;> with_reducible rfl)
                simp only [Act.put, List.setIfInBounds_toArray, List.set_cons_zero, List.set_cons_succ]
                refine wpAnyH_take (i := 6) (oi := { dst := some 73, op := _, type := _, pos := _, after := _, guard := _ }) (v := ?_) rfl (by kernel_rfl) (by kernel_rfl) (by kernel_rfl) (fun _ _ _ h => h) (Or.inl ⟨by rfl, ?_⟩) (hH0) ?_
                rotate_left
                · (intro wx hSw; obtain ⟨_, q0, _, q1, q2, _, q3, q4⟩ := hSw; go_simp <;> with_reducible rfl)
                simp only [Act.put, List.setIfInBounds_toArray, List.set_cons_zero, List.set_cons_succ]
                refine wpAnyH_take (i := 7) (oi := { dst := some 74, op := _, type := _, pos := _, after := _, guard := _ }) (v := ?_) rfl (by kernel_rfl) (by kernel_rfl) (by kernel_rfl) (fun _ _ _ h => h) (Or.inl ⟨by rfl, ?_⟩) (hH0) ?_
                rotate_left
                · (intro wx hSw; obtain ⟨_, q0, _, q1, q2, _, q3, q4⟩ := hSw; go_simp <;> with_reducible rfl)
                simp only [Act.put, List.setIfInBounds_toArray, List.set_cons_zero, List.set_cons_succ]
                refine wpAnyH_take (i := 8) (oi := { dst := some 75, op := _, type := _, pos := _, after := _, guard := _ }) (v := ?_) rfl (by kernel_rfl) (by kernel_rfl) (by kernel_rfl) (fun _ _ _ h => h) (Or.inl ⟨by rfl, ?_⟩) (hH0) ?_
                rotate_left
                · (intro wx hSw; obtain ⟨_, q0, _, q1, q2, _, q3, q4⟩ := hSw; go_simp <;> with_reducible rfl)
                simp only [Act.put, List.setIfInBounds_toArray, List.set_cons_zero, List.set_cons_succ]
                refine wpAnyH_take (i := 9) (oi := { dst := some 76, op := _, type := _, pos := _, after := _, guard := _ }) (v := ?_) rfl (by kernel_rfl) (by kernel_rfl) (by kernel_rfl) (fun _ _ _ h => h) (Or.inl ⟨by rfl, ?_⟩) (hH0) ?_
                rotate_left
                · (intro wx hSw; obtain ⟨_, q0, _, q1, q2, _, q3, q4⟩ := hSw; go_simp <;> with_reducible rfl)
                simp only [Act.put, List.setIfInBounds_toArray, List.set_cons_zero, List.set_cons_succ]
                refine wpAnyH_take (i := 10) (oi := { dst := some 77, op := _, type := _, pos := _, after := _, guard := _ }) (v := ?_) rfl (by kernel_rfl) (by kernel_rfl) (by kernel_rfl) (fun _ _ _ h => h) (Or.inl ⟨by rfl, ?_⟩) (hH0) ?_
                rotate_left
                · (intro wx hSw; obtain ⟨_, q0, _, q1, q2, _, q3, q4⟩ := hSw; go_simp <;> with_reducible rfl)
                simp only [Act.put, List.setIfInBounds_toArray, List.set_cons_zero, List.set_cons_succ]
                refine wpAnyH_take (i := 11) (oi := { dst := some 78, op := _, type := _, pos := _, after := _, guard := _ }) (v := ?_) rfl (by kernel_rfl) (by kernel_rfl) (by kernel_rfl) (fun _ _ _ h => h) (Or.inl ⟨by rfl, ?_⟩) (hH0) ?_
                rotate_left
                · (intro wx hSw; obtain ⟨_, q0, _, q1, q2, _, q3, q4⟩ := hSw; go_simp <;> with_reducible rfl)
                simp only [Act.put, List.setIfInBounds_toArray, List.set_cons_zero, List.set_cons_succ]
                refine wpAnyH_take (i := 12) (oi := { dst := some 79, op := _, type := _, pos := _, after := _, guard := _ }) (v := ?_) rfl (by kernel_rfl) (by kernel_rfl) (by kernel_rfl) (fun _ _ _ h => h) (Or.inl ⟨by rfl, ?_⟩) (hH0) ?_
                rotate_left
                · (intro wx hSw; obtain ⟨_, q0, _, q1, q2, _, q3, q4⟩ := hSw; go_simp <;> with_reducible rfl)
                simp only [Act.put, List.setIfInBounds_toArray, List.set_cons_zero, List.set_cons_succ]
                refine wpAnyH_take (i := 13) (oi := { dst := some 80, op := _, type := _, pos := _, after := _, guard := _ }) (v := ?_) rfl (by kernel_rfl) (by kernel_rfl) (by kernel_rfl) (fun _ _ _ h => h) (Or.inl ⟨by rfl, ?_⟩) (hH0) ?_
                rotate_left
                · (intro wx hSw; obtain ⟨_, q0, _, q1, q2, _, q3, q4⟩ := hSw; go_simp <;> with_reducible rfl)
                simp only [Act.put, List.setIfInBounds_toArray, List.set_cons_zero, List.set_cons_succ]
                refine wpAnyH_take (i := 14) (oi := { dst := some 81, op := _, type := _, pos := _, after := _, guard := _ }) (v := ?_) rfl (by kernel_rfl) (by kernel_rfl) (by kernel_rfl) (fun _ _ _ h => h) (Or.inl ⟨by rfl, ?_⟩) (hH0) ?_
                rotate_left
                · (intro wx hSw; obtain ⟨_, q0, _, q1, q2, _, q3, q4⟩ := hSw; go_simp <;> with_reducible rfl)
                simp only [Act.put, List.setIfInBounds_toArray, List.set_cons_zero, List.set_cons_succ]
                refine wpAnyH_ready (rs := [15]) (by kernel_rfl) (by simp) ?_
                refine AllReadyH.cons (o := { dst := some 82, op := _, type := _, pos := _, after := _, guard := _ }) rfl (fun K hK => ?_) AllReadyH.nil
                go_simp
                refine (RN.out _).mono ?_
                rintro e w_c82_1 ⟨rfl, hb_c82_1⟩
                dsimp only
                refine hK.out _ _ (Bz5.below hH0 hb_c82_1) (fun hH1 => ?_)
                clear hK K
                refine wpAnyH_take (i := 16) (oi := { dst := some 83, op := _, type := _, pos := _, after := _, guard := _ }) (v := ?_) rfl (by kernel_rfl) (by kernel_rfl) (by kernel_rfl) (fun _ _ _ h => h) (Or.inl ⟨by rfl, ?_⟩) (hH1) ?_
                rotate_left
                · (intro wx hSw; obtain ⟨_, q0, _, q1, q2, _, q3, q4⟩ := hSw; go_simp <;> with_reducible rfl)
                simp only [Act.put, List.setIfInBounds_toArray, List.set_cons_zero, List.set_cons_succ]
                refine wpAnyH_take (i := 17) (oi := { dst := some 84, op := _, type := _, pos := _, after := _, guard := _ }) (v := ?_) rfl (by kernel_rfl) (by kernel_rfl) (by kernel_rfl) (fun _ _ _ h => h) (Or.inl ⟨by rfl, ?_⟩) (hH1) ?_
                rotate_left
                · (intro wx hSw; obtain ⟨_, q0, _, q1, q2, _, q3, q4⟩ := hSw; go_simp <;> with_reducible rfl)
                simp only [Act.put, List.setIfInBounds_toArray, List.set_cons_zero, List.set_cons_succ]
                refine wpAnyH_done (by kernel_rfl) ?_ _
                -- behind it: go_wp2_with fail, then go_meet (a cut) or go_ret; the condition at the end: hH1
                go_wp2_with fail
                go_roundw
                case rel =>
                  have hbt := BB'.out
                  exact ⟨i + 1, by omega, by go_num, (by repeat' first | with_reducible exact Below.refl _ _ | with_reducible assumption | with_reducible refine below_drewN ?_ _ | with_reducible refine balloc ?_ _ | with_reducible refine Below.drew ?_ | with_reducible refine Below.setCell ?_ (by first | (simp; done) | (simp; omega) | omega) _ | with_reducible refine bstep ?_ (by assumption))⟩
                case measure => simp [intOf]; omega
              · have h0' : decide (0 < (i : Int)) = false := by simp; omega
                clear hw
                go_upto_region 18 with fail
                refine wp_region_held_drew (S := fun wx => True) (by kernel_rfl) (trivial) (fun hH0 => ?_)
                refine wpAnyH_take (i := 0) (oi := { dst := some 67, op := _, type := _, pos := _, after := _, guard := _ }) (v := ?_) rfl (by kernel_rfl) (by kernel_rfl) (by kernel_rfl) (fun _ _ _ h => h) (Or.inl ⟨by rfl, ?_⟩) (hH0) ?_
                rotate_left
                · (intro wx hSw; obtain _ := hSw; go_simp <;> with_reducible rfl)
                simp only [Act.put, List.setIfInBounds_toArray, List.set_cons_zero, List.set_cons_succ]
                refine wpAnyH_take (i := 1) (oi := { dst := some 68, op := _, type := _, pos := _, after := _, guard := _ }) (v := ?_) rfl (by kernel_rfl) (by kernel_rfl) (by kernel_rfl) (fun _ _ _ h => h) (Or.inl ⟨by rfl, ?_⟩) (hH0) ?_
                rotate_left
                · (intro wx hSw; obtain _ := hSw; go_simp <;> with_reducible rfl)
                simp only [Act.put, List.setIfInBounds_toArray, List.set_cons_zero, List.set_cons_succ]
                refine wpAnyH_take (i := 2) (oi := { dst := some 69, op := _, type := _, pos := _, after := _, guard := _ }) (v := ?_) rfl (by kernel_rfl) (by kernel_rfl) (by kernel_rfl) (fun _ _ _ h => h) (Or.inl ⟨by rfl, ?_⟩) (hH0) ?_
                rotate_left
                · (intro wx hSw; obtain _ := hSw; go_simp <;> with_reducible rfl)
                simp only [Act.put, List.setIfInBounds_toArray, List.set_cons_zero, List.set_cons_succ]
                refine wpAnyH_take (i := 3) (oi := { dst := some 70, op := _, type := _, pos := _, after := _, guard := _ }) (v := ?_) rfl (by kernel_rfl) (by kernel_rfl) (by kernel_rfl) (fun _ _ _ h => h) (Or.inl ⟨by rfl, ?_⟩) (hH0) ?_
                rotate_left
                · (intro wx hSw; obtain _ := hSw; go_simp <;> with_reducible rfl)
                simp only [Act.put, List.setIfInBounds_toArray, List.set_cons_zero, List.set_cons_succ]
                refine wpAnyH_take (i := 4) (oi := { dst := some 71, op := _, type := _, pos := _, after := _, guard := _ }) (v := ?_) rfl (by kernel_rfl) (by kernel_rfl) (by kernel_rfl) (fun _ _ _ h => h) (Or.inl ⟨by rfl, ?_⟩) (hH0) ?_
                rotate_left
                · (intro wx hSw; obtain _ := hSw; go_simp <;> with_reducible rfl)
                simp only [Act.put, List.setIfInBounds_toArray, List.set_cons_zero, List.set_cons_succ]
                refine wpAnyH_take (i := 5) (oi := { dst := some 72, op := _, type := _, pos := _, after := _, guard := _ }) (v := ?_) rfl (by kernel_rfl) (by kernel_rfl) (by kernel_rfl) (fun _ _ _ h => h) (Or.inl ⟨by rfl, ?_⟩) (hH0) ?_
                rotate_left
                · (intro wx hSw; obtain _ := hSw; go_simp <;> with_reducible rfl)
                simp only [Act.put, List.setIfInBounds_toArray, List.set_cons_zero, List.set_cons_succ]
                refine wpAnyH_take (i := 6) (oi := { dst := some 73, op := _, type := _, pos := _, after := _, guard := _ }) (v := _) rfl (by kernel_rfl) (by kernel_rfl) (by kernel_rfl) (fun _ _ _ h => h) (Or.inr ⟨by rfl, rfl⟩) (hH0) ?_
                simp only [Act.put, List.setIfInBounds_toArray, List.set_cons_zero, List.set_cons_succ]
                refine wpAnyH_take (i := 7) (oi := { dst := some 74, op := _, type := _, pos := _, after := _, guard := _ }) (v := _) rfl (by kernel_rfl) (by kernel_rfl) (by kernel_rfl) (fun _ _ _ h => h) (Or.inr ⟨by rfl, rfl⟩) (hH0) ?_
                simp only [Act.put, List.setIfInBounds_toArray, List.set_cons_zero, List.set_cons_succ]
                refine wpAnyH_take (i := 8) (oi := { dst := some 75, op := _, type := _, pos := _, after := _, guard := _ }) (v := _) rfl (by kernel_rfl) (by kernel_rfl) (by kernel_rfl) (fun _ _ _ h => h) (Or.inr ⟨by rfl, rfl⟩) (hH0) ?_
                simp only [Act.put, List.setIfInBounds_toArray, List.set_cons_zero, List.set_cons_succ]
                refine wpAnyH_take (i := 9) (oi := { dst := some 76, op := _, type := _, pos := _, after := _, guard := _ }) (v := _) rfl (by kernel_rfl) (by kernel_rfl) (by kernel_rfl) (fun _ _ _ h => h) (Or.inr ⟨by rfl, rfl⟩) (hH0) ?_
                simp only [Act.put, List.setIfInBounds_toArray, List.set_cons_zero, List.set_cons_succ]
                refine wpAnyH_take (i := 10) (oi := { dst := some 77, op := _, type := _, pos := _, after := _, guard := _ }) (v := _) rfl (by kernel_rfl) (by kernel_rfl) (by kernel_rfl) (fun _ _ _ h => h) (Or.inr ⟨by rfl, rfl⟩) (hH0) ?_
                simp only [Act.put, List.setIfInBounds_toArray, List.set_cons_zero, List.set_cons_succ]
                refine wpAnyH_take (i := 11) (oi := { dst := some 78, op := _, type := _, pos := _, after := _, guard := _ }) (v := _) rfl (by kernel_rfl) (by kernel_rfl) (by kernel_rfl) (fun _ _ _ h => h) (Or.inr ⟨by rfl, rfl⟩) (hH0) ?_
                simp only [Act.put, List.setIfInBounds_toArray, List.set_cons_zero, List.set_cons_succ]
                refine wpAnyH_take (i := 12) (oi := { dst := some 79, op := _, type := _, pos := _, after := _, guard := _ }) (v := _) rfl (by kernel_rfl) (by kernel_rfl) (by kernel_rfl) (fun _ _ _ h => h) (Or.inr ⟨by rfl, rfl⟩) (hH0) ?_
                simp only [Act.put, List.setIfInBounds_toArray, List.set_cons_zero, List.set_cons_succ]
                refine wpAnyH_take (i := 13) (oi := { dst := some 80, op := _, type := _, pos := _, after := _, guard := _ }) (v := _) rfl (by kernel_rfl) (by kernel_rfl) (by kernel_rfl) (fun _ _ _ h => h) (Or.inr ⟨by rfl, rfl⟩) (hH0) ?_
                simp only [Act.put, List.setIfInBounds_toArray, List.set_cons_zero, List.set_cons_succ]
                refine wpAnyH_take (i := 14) (oi := { dst := some 81, op := _, type := _, pos := _, after := _, guard := _ }) (v := _) rfl (by kernel_rfl) (by kernel_rfl) (by kernel_rfl) (fun _ _ _ h => h) (Or.inr ⟨by rfl, rfl⟩) (hH0) ?_
                simp only [Act.put, List.setIfInBounds_toArray, List.set_cons_zero, List.set_cons_succ]
                refine wpAnyH_take (i := 15) (oi := { dst := some 82, op := _, type := _, pos := _, after := _, guard := _ }) (v := _) rfl (by kernel_rfl) (by kernel_rfl) (by kernel_rfl) (fun _ _ _ h => h) (Or.inr ⟨by rfl, rfl⟩) (hH0) ?_
                simp only [Act.put, List.setIfInBounds_toArray, List.set_cons_zero, List.set_cons_succ]
                refine wpAnyH_take (i := 16) (oi := { dst := some 83, op := _, type := _, pos := _, after := _, guard := _ }) (v := ?_) rfl (by kernel_rfl) (by kernel_rfl) (by kernel_rfl) (fun _ _ _ h => h) (Or.inl ⟨by rfl, ?_⟩) (hH0) ?_
                rotate_left
                · (intro wx hSw; obtain _ := hSw; go_simp <;> with_reducible rfl)
                simp only [Act.put, List.setIfInBounds_toArray, List.set_cons_zero, List.set_cons_succ]
                refine wpAnyH_take (i := 17) (oi := { dst := some 84, op := _, type := _, pos := _, after := _, guard := _ }) (v := ?_) rfl (by kernel_rfl) (by kernel_rfl) (by kernel_rfl) (fun _ _ _ h => h) (Or.inl ⟨by rfl, ?_⟩) (hH0) ?_
                rotate_left
                · (intro wx hSw; obtain _ := hSw; go_simp <;> with_reducible rfl)
                simp only [Act.put, List.setIfInBounds_toArray, List.set_cons_zero, List.set_cons_succ]
                refine wpAnyH_done (by kernel_rfl) ?_ _
                -- behind it: go_wp2_with fail, then go_meet (a cut) or go_ret; the condition at the end: hH0
                go_wp2_with fail
                go_roundw
                case rel =>
                  have hbt := BB'.out
                  exact ⟨i + 1, by omega, by go_num, (by repeat' first | with_reducible exact Below.refl _ _ | with_reducible assumption | with_reducible refine below_drewN ?_ _ | with_reducible refine balloc ?_ _ | with_reducible refine Below.drew ?_ | with_reducible refine Below.setCell ?_ (by first | (simp; done) | (simp; omega) | omega) _ | with_reducible refine bstep ?_ (by assumption))⟩
                case measure => simp [intOf]; omega
        · obtain rfl : i = N := by omega
          go_wp2_with fail
          go_ret
          exact ⟨rfl, BB.out⟩
  · rw [decide_eq_true (show 1048576 < n by omega)] at BG
    go_enter Try.func3, Try.ntmps3
    go_wp2_with fail
    refine BG.out.mono ?_
    rintro e w' ⟨rfl, rfl⟩
    go_wp2
    go_ret
    exact ⟨rfl, (by repeat' first | with_reducible exact Below.refl _ _ | with_reducible assumption | with_reducible refine below_drewN ?_ _ | with_reducible refine balloc ?_ _ | with_reducible refine Below.drew ?_ | with_reducible refine Below.setCell ?_ (by first | (simp; done) | (simp; omega) | omega) _ | with_reducible refine bstep ?_ (by assumption))⟩
end Go.Proofs.Ytkonckgapicdfaa
