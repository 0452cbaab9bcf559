/- The walk of the law FnHeap. -/
import Derived.Test.YthfkpgnpfhkfpaaRG0
import Derived.Test.YthfkpgnpfhkfpaaDP
import Derived.OpenShut
namespace Go.Proofs.Ythfkpgnpfhkfpaa
open Go.RowKit
set_option maxRecDepth 8000
set_option linter.unusedSimpArgs false
set_option linter.unusedVariables false

/-- Three boxes that are read, and nothing old has turned. -/
structure Y3 (W w : World) (p q r : Nat) (K1 : Int) (s1 : Value) (K2 : Int) (s2 : Value) (K3 : Int) (s3 : Value) : Prop where
  bel : Below W.heap.size W w
  a0 : w.cell? ⟨p, 0, none⟩ = some (.int .i64 K1)
  a1 : w.cell? ⟨p, 1, none⟩ = some s1
  b0 : w.cell? ⟨q, 0, none⟩ = some (.int .i64 K2)
  b1 : w.cell? ⟨q, 1, none⟩ = some s2
  c0 : w.cell? ⟨r, 0, none⟩ = some (.int .i64 K3)
  c1 : w.cell? ⟨r, 1, none⟩ = some s3

theorem Y3.below {W w w' : World} {p q r : Nat} {K1 : Int} {s1 : Value} {K2 : Int} {s2 : Value} {K3 : Int} {s3 : Value} (h : Y3 W w p q r K1 s1 K2 s2 K3 s3) (hb : Below w.heap.size w w') : Y3 W w' p q r K1 s1 K2 s2 K3 s3 := by
  have l1 : p < w.heap.size := cellLt (a := ⟨p, 0, none⟩) h.a0
  have l2 : q < w.heap.size := cellLt (a := ⟨q, 0, none⟩) h.b0
  have l3 : r < w.heap.size := cellLt (a := ⟨r, 0, none⟩) h.c0
  exact ⟨bstep h.bel hb, (hb.cell (p := ⟨p, 0, none⟩) l1).trans h.a0, (hb.cell (p := ⟨p, 1, none⟩) l1).trans h.a1, (hb.cell (p := ⟨q, 0, none⟩) l2).trans h.b0, (hb.cell (p := ⟨q, 1, none⟩) l2).trans h.b1, (hb.cell (p := ⟨r, 0, none⟩) l3).trans h.c0, (hb.cell (p := ⟨r, 1, none⟩) l3).trans h.c1⟩

theorem Y3.mkB {W : World} {p q r : Nat} {K1 : Int} {s1 : Value} {K2 : Int} {s2 : Value} {K3 : Int} {s3 : Value} (x : Bx W p (.int .i64 K1) s1) (y : Bx W q (.int .i64 K2) s2) (z : Bx W r (.int .i64 K3) s3) : Y3 W W.drew p q r K1 s1 K2 s2 K3 s3 := ⟨Below.drew (Below.refl _ _), x.c0, x.c1, y.c0, y.c1, z.c0, z.c1⟩

/-- A box with a Near, and nothing old has turned. -/
structure Y1n (W w : World) (q : Nat) (i d : Int) : Prop where
  bel : Below W.heap.size W w
  c0 : w.cell? ⟨q, 0, none⟩ = some (.int .i64 i)
  c1 : w.cell? ⟨q, 1, none⟩ = some (.int .i64 d)

theorem Y1n.of {W w : World} {q : Nat} {i d : Int} (h : Bx W q (.int .i64 i) (.int .i64 d)) (hb : Below W.heap.size W w) : Y1n W w q i d := ⟨hb, (hb.cell (p := ⟨q, 0, none⟩) h.lt).trans h.c0, (hb.cell (p := ⟨q, 1, none⟩) h.lt).trans h.c1⟩

theorem Y1n.below {W w w' : World} {q : Nat} {i d : Int} (h : Y1n W w q i d) (hb : Below w.heap.size w w') : Y1n W w' q i d := by
  have l1 : q < w.heap.size := cellLt (a := ⟨q, 0, none⟩) h.c0
  exact ⟨bstep h.bel hb, (hb.cell (p := ⟨q, 0, none⟩) l1).trans h.c0, (hb.cell (p := ⟨q, 1, none⟩) l1).trans h.c1⟩
/-- The same, and one of a row. -/
structure Y2n (W w : World) (q b o : Nat) (x y : Int × Int) : Prop where
  bel : Below W.heap.size W w
  c0 : w.cell? ⟨q, 0, none⟩ = some (.int .i64 x.1)
  c1 : w.cell? ⟨q, 1, none⟩ = some (.int .i64 x.2)
  d0 : w.cell? ⟨b, o, none⟩ = some (.int .i64 y.1)
  d1 : w.cell? ⟨b, o + 1, none⟩ = some (.int .i64 y.2)

theorem Y2n.below {W w w' : World} {q b o : Nat} {x y : Int × Int} (h : Y2n W w q b o x y) (hb : Below w.heap.size w w') : Y2n W w' q b o x y := by
  have l1 : q < w.heap.size := cellLt (a := ⟨q, 0, none⟩) h.c0
  have l2 : b < w.heap.size := cellLt (a := ⟨b, o, none⟩) h.d0
  exact ⟨bstep h.bel hb, (hb.cell (p := ⟨q, 0, none⟩) l1).trans h.c0, (hb.cell (p := ⟨q, 1, none⟩) l1).trans h.c1, (hb.cell (p := ⟨b, o, none⟩) l2).trans h.d0, (hb.cell (p := ⟨b, o + 1, none⟩) l2).trans h.d1⟩

theorem RC.newH (w : World) (A : NL) : RC (w.alloc (.cells #[] 28)) w.heap.size w.heap.size 0 0 A :=
  ⟨Nat.le_refl _, #[], Go.Deep.blk_alloc_new _ _, Nat.le_refl _, Nat.zero_le _, rfl, fun i hi => absurd hi (by omega)⟩

theorem RC.congrH {w : World} {base g cap k : Nat} {M N : NL} (h : RC w base g cap k M) (e : ∀ i, i < k → M i = N i) : RC w base g cap k N := by
  obtain ⟨cur, h1, h2, h3, h4, hv⟩ := h.row
  exact ⟨h.base, cur, h1, h2, h3, h4, fun i hi => e i hi ▸ hv i hi⟩

theorem RC.ofOwnsH {w : World} {base g cap k : Nat} {M : NL} (h : w.ownsRow base 28 2 (.slice (some ⟨g, 0, none⟩) k cap) k (nlv M k)) : RC w base g cap k M := by
  rcases h.2 with ⟨h0, _⟩ | ⟨g', cap', cur, hv, hb, hg, hcap, hm, hsz, htake⟩
  · cases h0
  · simp only [Value.slice.injEq, Option.some.injEq, Addr.mk.injEq] at hv
    obtain ⟨⟨rfl, _⟩, _, rfl⟩ := hv
    have hat : ∀ j, j < k * 2 → cur[j]? = (nlv M k)[j]? := by
      intro j hj
      rw [← htake, List.getElem?_take_of_lt hj, Array.getElem?_toList]
    refine ⟨hb, cur, hg, hcap, hm, hsz, fun i hi => ?_⟩
    rw [hat (i * 2) (by omega), hat (i * 2 + 1) (by omega)]
    exact nlv_at M hi

theorem nlv_cells {w : World} {b m p : Nat} {A : NL} (h : ∀ j, j < m → w.cell? ⟨b, j * 2, none⟩ = some (.int .i64 (A j).1) ∧ w.cell? ⟨b, j * 2 + 1, none⟩ = some (.int .i64 (A j).2)) (hp : p ≤ m) {j : Nat} {u : Value} (hu : (nlv (shL A p) (m - p))[j]? = some u) : w.cell? ((⟨b, p * 2, none⟩ : Addr).add j) = some u := by
  have hj : j < (m - p) * 2 := by
    rcases Nat.lt_or_ge j ((m - p) * 2) with q | q
    · exact q
    · rw [List.getElem?_eq_none (by rw [nlv_len]; exact q)] at hu; cases hu
  have e : (⟨b, p * 2, none⟩ : Addr).add j = ⟨b, p * 2 + j, none⟩ := by simp [Addr.add]
  rw [e]
  rcases (show j % 2 = 0 ∨ j % 2 = 1 by omega) with h2 | h2
  · have q := (nlv_at (shL A p) (k := m - p) (i := j / 2) (by omega)).1
    rw [show j / 2 * 2 = j by omega, hu] at q
    rw [q, show p * 2 + j = (p + j / 2) * 2 by omega]
    exact (h (p + j / 2) (by omega)).1
  · have q := (nlv_at (shL A p) (k := m - p) (i := j / 2) (by omega)).2
    rw [show j / 2 * 2 + 1 = j by omega, hu] at q
    rw [q, show p * 2 + j = (p + j / 2) * 2 + 1 by omega]
    exact (h (p + j / 2) (by omega)).2

set_option maxHeartbeats 16000000 in
theorem heap_walk (a : Option Addr) (n cap : Nat) (zs : List Int) (w : World) (h : IsRow .u8 w a n cap zs) :
    Calls Try.prog 3 #[.slice a n cap] w fun e w' => e = .returned (.bool true) ∧ Below w.heap.size w w' := by
  have BG := hide (big_any a n cap w)
  by_cases hn : n ≤ 1048576
  · rw [decide_eq_false (show ¬ 1048576 < n by omega)] at BG
    have DR := hide (drawHeapPut_any a n cap w (h.code hn))
    clear h
    go_enter Try.func3, Try.ntmps3
    go_wp2_with fail
    refine BG.out.mono ?_
    rintro e w' ⟨rfl, hw⟩
    obtain rfl := hw.symm
    clear BG hw
    go_wp2_with fail
    refine DR.out.mono ?_
    rintro e w1 ⟨K, ha, m, hc, M, i, d, rfl, hm, hp, hb1⟩
    have X1 := (Bx.new w1 (.int .i64 K) (.slice ha m hc) 26).alloc (.cells #[.int .i64 i, .int .i64 d] 28)
    have Y1 : Bx ((w1.alloc (.cells #[.int .i64 K, .slice ha m hc] 26)).alloc (.cells #[.int .i64 i, .int .i64 d] 28)) (w1.heap.size + 1) (.int .i64 i) (.int .i64 d) := by
      have := Bx.new (w1.alloc (.cells #[.int .i64 K, .slice ha m hc] 26)) (.int .i64 i) (.int .i64 d) 28
      rwa [World.size_alloc] at this
    have bw1 : Below w1.heap.size w1 ((w1.alloc (.cells #[.int .i64 K, .slice ha m hc] 26)).alloc (.cells #[.int .i64 i, .int .i64 d] 28)) := balloc (balloc (Below.refl _ _) _) _
    have X := hide X1
    have Y := hide Y1
    have P := hide (hp.below bw1)
    have B := hide (bstep hb1 bw1)
    clear hp X1 Y1 bw1 hb1 DR
    have IP1 := hide (fun w1 h => iPutU K ha m hc M i d w1 h)
    have SP1 := hide (fun w1 h => sPutU K ha m hc M i d w1 h)
    have IO := hide (fun w1 (h : PRow w1 ha m (fun i => (M i).1) (fun i => (M i).2)) => iHeapOk_any K ha m hc _ _ w1 h)
    have SO := hide (fun w1 (h : PRow w1 ha m (fun i => (M i).1) (fun i => (M i).2)) => sHeapOk_any K ha m hc _ _ w1 h)
    have IS := hide (fun w1 h => iSortU K ha m hc M w1 h)
    obtain ⟨p1, hp1⟩ : ∃ b, putB K m (fun i => (M i).1) (fun i => (M i).2) i d = b := ⟨_, rfl⟩
    obtain ⟨hb, hhb⟩ : ∃ b, heapB K m (fun i => (M i).1) (fun i => (M i).2) = b := ⟨_, rfl⟩
    obtain ⟨K1, hK1⟩ : ∃ b, putK K p1 = b := ⟨_, rfl⟩
    obtain ⟨n1, hn1⟩ : ∃ b, putC K m p1 = b := ⟨_, rfl⟩
    obtain ⟨M1, hM1⟩ : ∃ b, putL K m (fun i => (M i).1) (fun i => (M i).2) i d = b := ⟨_, rfl⟩
    simp only [hp1, hK1, hn1, hM1] at IP1 SP1
    simp only [hhb] at IO SO IS
    have hn1l : n1 ≤ 22 := by rw [← hn1]; unfold putC putN; split <;> (try split) <;> omega
    have EQ1 := hide (fun a1 k1 a2 k2 w1 (h : PRow w1 a1 n1 (fun i => (M1 i).1) (fun i => (M1 i).2)) (h' : PRow w1 a2 n1 (fun i => (M1 i).1) (fun i => (M1 i).2)) => sameNears_self a1 a2 n1 k1 k2 M1 w1 h h' (by omega))
    have FACT : Hid (putB K m (fun i => (M i).1) (fun i => (M i).2) i d = p1 ∧ heapB K m (fun i => (M i).1) (fun i => (M i).2) = hb ∧ putK K p1 = K1 ∧ putC K m p1 = n1 ∧ putL K m (fun i => (M i).1) (fun i => (M i).2) i d = M1) := hide ⟨hp1, hhb, hK1, hn1, hM1⟩
    clear hp1 hhb hK1 hn1 hM1
    have tb : (hb != hb) = false := by cases hb <;> rfl
    have te : (hb == hb) = true := by cases hb <;> rfl
    have tk : (K1 != K1) = false := by simp
    have tl : (K1 == K1) = true := by simp
    obtain ⟨lbX, bX0, bX1, bXf0, bXf1⟩ := X.out
    obtain ⟨lbY, bY0, bY1, bYf0, bYf1⟩ := Y.out
    go_wp2_with fail
    refine (IP1.out _ P.out).mono ?_
    rintro e w3 ⟨a3, c3, rfl, r3, b3⟩
    clear lbX bX0 bX1 bXf0 bXf1
    clear lbY bY0 bY1 bYf0 bYf1
    have R := hide r3
    clear r3
    have bX_1 := hide (X.out.below b3)
    clear X
    have bY_1 := hide (Y.out.below b3)
    clear Y
    have P_1 := hide (P.out.below b3)
    clear P
    have B_1 := hide (bstep B.out b3)
    clear B
    clear b3
    obtain ⟨z, hz⟩ : ∃ z, w1.heap.size = z := ⟨_, rfl⟩
    rw [hz] at bX_1 bY_1
    rw [hz]
    clear hz
    have ba_bU : Below w3.heap.size w3 (w3.alloc (.cells #[.int .i64 K1, .slice a3 n1 c3] 26)) := balloc (Below.refl _ _) _
    have bX_2 := hide (bX_1.out.below ba_bU)
    clear bX_1
    have bY_2 := hide (bY_1.out.below ba_bU)
    clear bY_1
    have P_2 := hide (P_1.out.below ba_bU)
    clear P_1
    have B_2 := hide (bstep B_1.out ba_bU)
    clear B_1
    have R_2 := hide (R.out.below ba_bU)
    clear R
    clear ba_bU
    have N_bU := hide (Bx.new w3 (.int .i64 K1) (.slice a3 n1 c3) 26)
    obtain ⟨lbX, bX0, bX1, bXf0, bXf1⟩ := bX_2.out
    obtain ⟨lbY, bY0, bY1, bYf0, bYf1⟩ := bY_2.out
    go_wp2_with fail
    refine (SP1.out _ P_2.out).mono ?_
    rintro e w4 ⟨a4, c4, rfl, r4, b4⟩
    clear lbX bX0 bX1 bXf0 bXf1
    clear lbY bY0 bY1 bYf0 bYf1
    have R2 := hide r4
    clear r4
    have bX_3 := hide (bX_2.out.below b4)
    clear bX_2
    have bY_3 := hide (bY_2.out.below b4)
    clear bY_2
    have P_3 := hide (P_2.out.below b4)
    clear P_2
    have B_3 := hide (bstep B_2.out b4)
    clear B_2
    have R_3 := hide (R_2.out.below b4)
    clear R_2
    have bU_3 := hide (N_bU.out.below b4)
    clear N_bU
    clear b4
    have ba_bV : Below w4.heap.size w4 (w4.alloc (.cells #[.int .i64 K1, .slice a4 n1 c4] 26)) := balloc (Below.refl _ _) _
    have bX_4 := hide (bX_3.out.below ba_bV)
    clear bX_3
    have bY_4 := hide (bY_3.out.below ba_bV)
    clear bY_3
    have P_4 := hide (P_3.out.below ba_bV)
    clear P_3
    have B_4 := hide (bstep B_3.out ba_bV)
    clear B_3
    have R_4 := hide (R_3.out.below ba_bV)
    clear R_3
    have bU_4 := hide (bU_3.out.below ba_bV)
    clear bU_3
    have R2_4 := hide (R2.out.below ba_bV)
    clear R2
    clear ba_bV
    have N_bV := hide (Bx.new w4 (.int .i64 K1) (.slice a4 n1 c4) 26)
    have T0 := hide (Y3.mkB bX_4.out bU_4.out N_bV.out)
    have EQH := hide (fun w1 (h : Below (w4.alloc (.cells #[.int .i64 K1, .slice a4 n1 c4] 26)).heap.size (w4.alloc (.cells #[.int .i64 K1, .slice a4 n1 c4] 26)) w1) => EQ1.out a3 c3 a4 c4 w1 (R_4.out.below h) (R2_4.out.below h))
    have IOH := hide (fun w1 (h : Below (w4.alloc (.cells #[.int .i64 K1, .slice a4 n1 c4] 26)).heap.size (w4.alloc (.cells #[.int .i64 K1, .slice a4 n1 c4] 26)) w1) => IO.out w1 (P_4.out.below h))
    have SOH := hide (fun w1 (h : Below (w4.alloc (.cells #[.int .i64 K1, .slice a4 n1 c4] 26)).heap.size (w4.alloc (.cells #[.int .i64 K1, .slice a4 n1 c4] 26)) w1) => SO.out w1 (P_4.out.below h))
    clear IP1 SP1 IO SO EQ1
    cases p1
    · go_upto_region 6 with fail
      refine wp_region_held_drew (S := fun wx => Y3 (w4.alloc (.cells #[.int .i64 K1, .slice a4 n1 c4] 26)) wx z w3.heap.size w4.heap.size K (.slice ha m hc) K1 (.slice a3 n1 c3) K1 (.slice a4 n1 c4)) (by kernel_rfl) (T0.out) (fun hH0 => ?_)
      refine wpAnyH_take (i := 0) (oi := { dst := some 31, op := _, type := _, pos := _, after := _, guard := _ }) (v := ?_) rfl (by kernel_rfl) (by kernel_rfl) (by kernel_rfl) (fun _ _ _ h => h) (Or.inl ⟨by rfl, ?_⟩) (hH0) ?_
      rotate_left
      · (intro wx hSw; obtain ⟨_, q0, q1, q2, q3, q4, q5⟩ := hSw; go_simp <;> with_reducible rfl)
      simp only [Act.put, List.setIfInBounds_toArray, List.set_cons_zero, List.set_cons_succ]
      refine wpAnyH_take (i := 1) (oi := { dst := some 32, op := _, type := _, pos := _, after := _, guard := _ }) (v := ?_) rfl (by kernel_rfl) (by kernel_rfl) (by kernel_rfl) (fun _ _ _ h => h) (Or.inl ⟨by rfl, ?_⟩) (hH0) ?_
      rotate_left
      · (intro wx hSw; obtain ⟨_, q0, q1, q2, q3, q4, q5⟩ := hSw; go_simp <;> with_reducible rfl)
      simp only [Act.put, List.setIfInBounds_toArray, List.set_cons_zero, List.set_cons_succ]
      refine wpAnyH_take (i := 2) (oi := { dst := some 33, op := _, type := _, pos := _, after := _, guard := _ }) (v := ?_) rfl (by kernel_rfl) (by kernel_rfl) (by kernel_rfl) (fun _ _ _ h => h) (Or.inl ⟨by rfl, ?_⟩) (hH0) ?_
      rotate_left
      · (intro wx hSw; obtain ⟨_, q0, q1, q2, q3, q4, q5⟩ := hSw; go_simp <;> with_reducible rfl)
      simp only [Act.put, List.setIfInBounds_toArray, List.set_cons_zero, List.set_cons_succ]
      refine wpAnyH_take (i := 3) (oi := { dst := some 34, op := _, type := _, pos := _, after := _, guard := _ }) (v := ?_) rfl (by kernel_rfl) (by kernel_rfl) (by kernel_rfl) (fun _ _ _ h => h) (Or.inl ⟨by rfl, ?_⟩) (hH0) ?_
      rotate_left
      · (intro wx hSw; obtain ⟨_, q0, q1, q2, q3, q4, q5⟩ := hSw; go_simp <;> with_reducible rfl)
      simp only [Act.put, List.setIfInBounds_toArray, List.set_cons_zero, List.set_cons_succ]
      refine wpAnyH_take (i := 4) (oi := { dst := some 35, op := _, type := _, pos := _, after := _, guard := _ }) (v := ?_) rfl (by kernel_rfl) (by kernel_rfl) (by kernel_rfl) (fun _ _ _ h => h) (Or.inl ⟨by rfl, ?_⟩) (hH0) ?_
      rotate_left
      · (intro wx hSw; obtain ⟨_, q0, q1, q2, q3, q4, q5⟩ := hSw; go_simp <;> with_reducible rfl)
      simp only [Act.put, List.setIfInBounds_toArray, List.set_cons_zero, List.set_cons_succ]
      refine wpAnyH_take (i := 5) (oi := { dst := some 36, op := _, type := _, pos := _, after := _, guard := _ }) (v := ?_) rfl (by kernel_rfl) (by kernel_rfl) (by kernel_rfl) (fun _ _ _ h => h) (Or.inl ⟨by rfl, ?_⟩) (hH0) ?_
      rotate_left
      · (intro wx hSw; obtain ⟨_, q0, q1, q2, q3, q4, q5⟩ := hSw; go_simp <;> with_reducible rfl)
      simp only [Act.put, List.setIfInBounds_toArray, List.set_cons_zero, List.set_cons_succ]
      refine wpAnyH_take (i := 6) (oi := { dst := some 37, op := _, type := _, pos := _, after := _, guard := _ }) (v := ?_) rfl (by kernel_rfl) (by kernel_rfl) (by kernel_rfl) (fun _ _ _ h => h) (Or.inl ⟨by rfl, ?_⟩) (hH0) ?_
      rotate_left
      · (intro wx hSw; obtain ⟨_, q0, q1, q2, q3, q4, q5⟩ := hSw; go_simp <;> with_reducible rfl)
      simp only [Act.put, List.setIfInBounds_toArray, List.set_cons_zero, List.set_cons_succ]
      refine wpAnyH_take (i := 7) (oi := { dst := some 38, op := _, type := _, pos := _, after := _, guard := _ }) (v := ?_) rfl (by kernel_rfl) (by kernel_rfl) (by kernel_rfl) (fun _ _ _ h => h) (Or.inl ⟨by rfl, ?_⟩) (hH0) ?_
      rotate_left
      · (intro wx hSw; obtain ⟨_, q0, q1, q2, q3, q4, q5⟩ := hSw; go_simp <;> with_reducible rfl)
      simp only [Act.put, List.setIfInBounds_toArray, List.set_cons_zero, List.set_cons_succ]
      refine wpAnyH_take (i := 8) (oi := { dst := some 39, op := _, type := _, pos := _, after := _, guard := _ }) (v := ?_) rfl (by kernel_rfl) (by kernel_rfl) (by kernel_rfl) (fun _ _ _ h => h) (Or.inl ⟨by rfl, ?_⟩) (hH0) ?_
      rotate_left
      · (intro wx hSw; obtain ⟨_, q0, q1, q2, q3, q4, q5⟩ := hSw; go_simp <;> with_reducible rfl)
      simp only [Act.put, List.setIfInBounds_toArray, List.set_cons_zero, List.set_cons_succ]
      refine wpAnyH_take (i := 9) (oi := { dst := some 40, op := _, type := _, pos := _, after := _, guard := _ }) (v := ?_) rfl (by kernel_rfl) (by kernel_rfl) (by kernel_rfl) (fun _ _ _ h => h) (Or.inl ⟨by rfl, ?_⟩) (hH0) ?_
      rotate_left
      · (intro wx hSw; obtain ⟨_, q0, q1, q2, q3, q4, q5⟩ := hSw; go_simp <;> with_reducible rfl)
      simp only [Act.put, List.setIfInBounds_toArray, List.set_cons_zero, List.set_cons_succ]
      refine wpAnyH_take (i := 10) (oi := { dst := some 41, op := _, type := _, pos := _, after := _, guard := _ }) (v := ?_) rfl (by kernel_rfl) (by kernel_rfl) (by kernel_rfl) (fun _ _ _ h => h) (Or.inl ⟨by rfl, ?_⟩) (hH0) ?_
      rotate_left
      · (intro wx hSw; obtain ⟨_, q0, q1, q2, q3, q4, q5⟩ := hSw; go_simp <;> with_reducible rfl)
      simp only [Act.put, List.setIfInBounds_toArray, List.set_cons_zero, List.set_cons_succ]
      refine wpAnyH_take (i := 11) (oi := { dst := some 42, op := _, type := _, pos := _, after := _, guard := _ }) (v := ?_) rfl (by kernel_rfl) (by kernel_rfl) (by kernel_rfl) (fun _ _ _ h => h) (Or.inl ⟨by rfl, ?_⟩) (hH0) ?_
      rotate_left
      · (intro wx hSw; obtain ⟨_, q0, q1, q2, q3, q4, q5⟩ := hSw; go_simp <;> with_reducible rfl)
      simp only [Act.put, List.setIfInBounds_toArray, List.set_cons_zero, List.set_cons_succ]
      refine wpAnyH_take (i := 12) (oi := { dst := some 43, op := _, type := _, pos := _, after := _, guard := _ }) (v := ?_) rfl (by kernel_rfl) (by kernel_rfl) (by kernel_rfl) (fun _ _ _ h => h) (Or.inl ⟨by rfl, ?_⟩) (hH0) ?_
      rotate_left
      · (intro wx hSw; obtain ⟨_, q0, q1, q2, q3, q4, q5⟩ := hSw; go_simp <;> with_reducible rfl)
      simp only [Act.put, List.setIfInBounds_toArray, List.set_cons_zero, List.set_cons_succ]
      refine wpAnyH_take (i := 13) (oi := { dst := some 44, op := _, type := _, pos := _, after := _, guard := _ }) (v := ?_) rfl (by kernel_rfl) (by kernel_rfl) (by kernel_rfl) (fun _ _ _ h => h) (Or.inl ⟨by rfl, ?_⟩) (hH0) ?_
      rotate_left
      · (intro wx hSw; obtain ⟨_, q0, q1, q2, q3, q4, q5⟩ := hSw; go_simp <;> with_reducible rfl)
      simp only [Act.put, List.setIfInBounds_toArray, List.set_cons_zero, List.set_cons_succ]
      refine wpAnyH_take (i := 14) (oi := { dst := some 45, op := _, type := _, pos := _, after := _, guard := _ }) (v := ?_) rfl (by kernel_rfl) (by kernel_rfl) (by kernel_rfl) (fun _ _ _ h => h) (Or.inl ⟨by rfl, ?_⟩) (hH0) ?_
      rotate_left
      · (intro wx hSw; obtain ⟨_, q0, q1, q2, q3, q4, q5⟩ := hSw; go_simp <;> with_reducible rfl)
      simp only [Act.put, List.setIfInBounds_toArray, List.set_cons_zero, List.set_cons_succ]
      refine wpAnyH_ready (rs := [15]) (by kernel_rfl) (by simp) ?_
      refine AllReadyH.cons (o := { dst := some 46, op := _, type := _, pos := _, after := _, guard := _ }) rfl (fun K hK => ?_) AllReadyH.nil
      go_simp
      refine (EQH.out _ hH0.bel).mono ?_
      rintro e wa ⟨rfl, ba⟩
      dsimp only
      refine hK.out _ _ (Y3.below hH0 ba) (fun hH1 => ?_)
      clear hK K
      refine wpAnyH_take (i := 16) (oi := { dst := some 47, op := _, type := _, pos := _, after := _, guard := _ }) (v := ?_) rfl (by kernel_rfl) (by kernel_rfl) (by kernel_rfl) (fun _ _ _ h => h) (Or.inl ⟨by rfl, ?_⟩) (hH1) ?_
      rotate_left
      · (intro wx hSw; obtain ⟨_, q0, q1, q2, q3, q4, q5⟩ := hSw; go_simp <;> with_reducible rfl)
      simp only [Act.put, List.setIfInBounds_toArray, List.set_cons_zero, List.set_cons_succ]
      refine wpAnyH_take (i := 17) (oi := { dst := some 48, op := _, type := _, pos := _, after := _, guard := _ }) (v := ?_) rfl (by kernel_rfl) (by kernel_rfl) (by kernel_rfl) (fun _ _ _ h => h) (Or.inl ⟨by rfl, ?_⟩) (hH1) ?_
      rotate_left
      · (intro wx hSw; obtain ⟨_, q0, q1, q2, q3, q4, q5⟩ := hSw; go_simp <;> with_reducible rfl)
      simp only [Act.put, List.setIfInBounds_toArray, List.set_cons_zero, List.set_cons_succ]
      refine wpAnyH_take (i := 18) (oi := { dst := some 49, op := _, type := _, pos := _, after := _, guard := _ }) (v := ?_) rfl (by kernel_rfl) (by kernel_rfl) (by kernel_rfl) (fun _ _ _ h => h) (Or.inl ⟨by rfl, ?_⟩) (hH1) ?_
      rotate_left
      · (intro wx hSw; obtain ⟨_, q0, q1, q2, q3, q4, q5⟩ := hSw; go_simp <;> with_reducible rfl)
      simp only [Act.put, List.setIfInBounds_toArray, List.set_cons_zero, List.set_cons_succ]
      refine wpAnyH_take (i := 19) (oi := { dst := some 50, op := _, type := _, pos := _, after := _, guard := _ }) (v := ?_) rfl (by kernel_rfl) (by kernel_rfl) (by kernel_rfl) (fun _ _ _ h => h) (Or.inl ⟨by rfl, ?_⟩) (hH1) ?_
      rotate_left
      · (intro wx hSw; obtain ⟨_, q0, q1, q2, q3, q4, q5⟩ := hSw; go_simp <;> with_reducible rfl)
      simp only [Act.put, List.setIfInBounds_toArray, List.set_cons_zero, List.set_cons_succ]
      refine wpAnyH_take (i := 21) (oi := { dst := some 52, op := _, type := _, pos := _, after := _, guard := _ }) (v := ?_) rfl (by kernel_rfl) (by kernel_rfl) (by kernel_rfl) (fun _ _ _ h => h) (Or.inl ⟨by rfl, ?_⟩) (hH1) ?_
      rotate_left
      · (intro wx hSw; obtain ⟨_, q0, q1, q2, q3, q4, q5⟩ := hSw; go_simp <;> with_reducible rfl)
      simp only [Act.put, List.setIfInBounds_toArray, List.set_cons_zero, List.set_cons_succ]
      refine wpAnyH_ready (rs := [20]) (by kernel_rfl) (by simp) ?_
      refine AllReadyH.cons (o := { dst := some 51, op := _, type := _, pos := _, after := _, guard := _ }) rfl (fun K hK => ?_) AllReadyH.nil
      go_simp
      refine (IOH.out _ hH1.bel).mono ?_
      rintro e wb ⟨rfl, bb⟩
      dsimp only
      refine hK.out _ _ (Y3.below hH1 bb) (fun hH2 => ?_)
      clear hK K
      refine wpAnyH_ready (rs := [22]) (by kernel_rfl) (by simp) ?_
      refine AllReadyH.cons (o := { dst := some 53, op := _, type := _, pos := _, after := _, guard := _ }) rfl (fun K hK => ?_) AllReadyH.nil
      go_simp
      refine (SOH.out _ hH2.bel).mono ?_
      rintro e wd ⟨rfl, bd⟩
      dsimp only
      refine hK.out _ _ (Y3.below hH2 bd) (fun hH3 => ?_)
      clear hK K
      refine wpAnyH_take (i := 23) (oi := { dst := some 54, op := _, type := _, pos := _, after := _, guard := _ }) (v := ?_) rfl (by kernel_rfl) (by kernel_rfl) (by kernel_rfl) (fun _ _ _ h => h) (Or.inl ⟨by rfl, ?_⟩) (hH3) ?_
      rotate_left
      · (intro wx hSw; obtain ⟨_, q0, q1, q2, q3, q4, q5⟩ := hSw; go_simp <;> with_reducible rfl)
      simp only [Act.put, List.setIfInBounds_toArray, List.set_cons_zero, List.set_cons_succ]
      refine wpAnyH_take (i := 24) (oi := { dst := some 55, op := _, type := _, pos := _, after := _, guard := _ }) (v := ?_) rfl (by kernel_rfl) (by kernel_rfl) (by kernel_rfl) (fun _ _ _ h => h) (Or.inl ⟨by rfl, ?_⟩) (hH3) ?_
      rotate_left
      · (intro wx hSw; obtain ⟨_, q0, q1, q2, q3, q4, q5⟩ := hSw; go_simp <;> with_reducible rfl)
      simp only [Act.put, List.setIfInBounds_toArray, List.set_cons_zero, List.set_cons_succ]
      refine wpAnyH_take (i := 25) (oi := { dst := some 56, op := _, type := _, pos := _, after := _, guard := _ }) (v := ?_) rfl (by kernel_rfl) (by kernel_rfl) (by kernel_rfl) (fun _ _ _ h => h) (Or.inl ⟨by rfl, ?_⟩) (hH3) ?_
      rotate_left
      · (intro wx hSw; obtain ⟨_, q0, q1, q2, q3, q4, q5⟩ := hSw; go_simp <;> with_reducible rfl)
      simp only [Act.put, List.setIfInBounds_toArray, List.set_cons_zero, List.set_cons_succ]
      refine wpAnyH_take (i := 26) (oi := { dst := some 57, op := _, type := _, pos := _, after := _, guard := _ }) (v := ?_) rfl (by kernel_rfl) (by kernel_rfl) (by kernel_rfl) (fun _ _ _ h => h) (Or.inl ⟨by rfl, ?_⟩) (hH3) ?_
      rotate_left
      · (intro wx hSw; obtain ⟨_, q0, q1, q2, q3, q4, q5⟩ := hSw; go_simp <;> with_reducible rfl)
      simp only [Act.put, List.setIfInBounds_toArray, List.set_cons_zero, List.set_cons_succ]
      refine wpAnyH_take (i := 27) (oi := { dst := some 58, op := _, type := _, pos := _, after := _, guard := _ }) (v := ?_) rfl (by kernel_rfl) (by kernel_rfl) (by kernel_rfl) (fun _ _ _ h => h) (Or.inl ⟨by rfl, ?_⟩) (hH3) ?_
      rotate_left
      · (intro wx hSw; obtain ⟨_, q0, q1, q2, q3, q4, q5⟩ := hSw; go_simp <;> with_reducible rfl)
      simp only [Act.put, List.setIfInBounds_toArray, List.set_cons_zero, List.set_cons_succ]
      refine wpAnyH_take (i := 28) (oi := { dst := some 59, op := _, type := _, pos := _, after := _, guard := _ }) (v := ?_) rfl (by kernel_rfl) (by kernel_rfl) (by kernel_rfl) (fun _ _ _ h => h) (Or.inl ⟨by rfl, ?_⟩) (hH3) ?_
      rotate_left
      · (intro wx hSw; obtain ⟨_, q0, q1, q2, q3, q4, q5⟩ := hSw; go_simp <;> with_reducible rfl)
      simp only [Act.put, List.setIfInBounds_toArray, List.set_cons_zero, List.set_cons_succ]
      refine wpAnyH_done (by kernel_rfl) ?_ _
      -- behind it: go_wp2_with fail, then go_meet (a cut) or go_ret; the condition at the end: hH3
      have T1 := hide (Y3.below hH3 (Below.drew (Below.refl _ _)))
      have BZ := B_4
      clear hH0 hH1 hH2 ba bb bd
      go_upto_region 7 with fail
      refine wp_region_held_drew (S := fun wx => Y3 (w4.alloc (.cells #[.int .i64 K1, .slice a4 n1 c4] 26)) wx z w3.heap.size w4.heap.size K (.slice ha m hc) K1 (.slice a3 n1 c3) K1 (.slice a4 n1 c4)) (by kernel_rfl) (T1.out) (fun hH0 => ?_)
      refine wpAnyH_take (i := 0) (oi := { dst := some 60, op := _, type := _, pos := _, after := _, guard := _ }) (v := ?_) rfl (by kernel_rfl) (by kernel_rfl) (by kernel_rfl) (fun _ _ _ h => h) (Or.inl ⟨by rfl, ?_⟩) (hH0) ?_
      rotate_left
      · (intro wx hSw; obtain ⟨_, q0, q1, q2, q3, q4, q5⟩ := hSw; go_simp <;> with_reducible rfl)
      simp only [Act.put, List.setIfInBounds_toArray, List.set_cons_zero, List.set_cons_succ]
      refine wpAnyH_take (i := 1) (oi := { dst := some 61, op := _, type := _, pos := _, after := _, guard := _ }) (v := ?_) rfl (by kernel_rfl) (by kernel_rfl) (by kernel_rfl) (fun _ _ _ h => h) (Or.inl ⟨by rfl, ?_⟩) (hH0) ?_
      rotate_left
      · (intro wx hSw; obtain ⟨_, q0, q1, q2, q3, q4, q5⟩ := hSw; go_simp <;> with_reducible rfl)
      simp only [Act.put, List.setIfInBounds_toArray, List.set_cons_zero, List.set_cons_succ]
      refine wpAnyH_take (i := 2) (oi := { dst := some 62, op := _, type := _, pos := _, after := _, guard := _ }) (v := ?_) rfl (by kernel_rfl) (by kernel_rfl) (by kernel_rfl) (fun _ _ _ h => h) (Or.inl ⟨by rfl, ?_⟩) (hH0) ?_
      rotate_left
      · (intro wx hSw; obtain ⟨_, q0, q1, q2, q3, q4, q5⟩ := hSw; go_simp <;> with_reducible rfl)
      simp only [Act.put, List.setIfInBounds_toArray, List.set_cons_zero, List.set_cons_succ]
      refine wpAnyH_take (i := 3) (oi := { dst := some 63, op := _, type := _, pos := _, after := _, guard := _ }) (v := ?_) rfl (by kernel_rfl) (by kernel_rfl) (by kernel_rfl) (fun _ _ _ h => h) (Or.inl ⟨by rfl, ?_⟩) (hH0) ?_
      rotate_left
      · (intro wx hSw; obtain ⟨_, q0, q1, q2, q3, q4, q5⟩ := hSw; go_simp <;> with_reducible rfl)
      simp only [Act.put, List.setIfInBounds_toArray, List.set_cons_zero, List.set_cons_succ]
      refine wpAnyH_take (i := 4) (oi := { dst := some 64, op := _, type := _, pos := _, after := _, guard := _ }) (v := ?_) rfl (by kernel_rfl) (by kernel_rfl) (by kernel_rfl) (fun _ _ _ h => h) (Or.inl ⟨by rfl, ?_⟩) (hH0) ?_
      rotate_left
      · (intro wx hSw; obtain ⟨_, q0, q1, q2, q3, q4, q5⟩ := hSw; go_simp <;> with_reducible rfl)
      simp only [Act.put, List.setIfInBounds_toArray, List.set_cons_zero, List.set_cons_succ]
      refine wpAnyH_take (i := 5) (oi := { dst := some 65, op := _, type := _, pos := _, after := _, guard := _ }) (v := ?_) rfl (by kernel_rfl) (by kernel_rfl) (by kernel_rfl) (fun _ _ _ h => h) (Or.inl ⟨by rfl, ?_⟩) (hH0) ?_
      rotate_left
      · (intro wx hSw; obtain ⟨_, q0, q1, q2, q3, q4, q5⟩ := hSw; go_simp <;> with_reducible rfl)
      simp only [Act.put, List.setIfInBounds_toArray, List.set_cons_zero, List.set_cons_succ]
      refine wpAnyH_take (i := 6) (oi := { dst := some 66, op := _, type := _, pos := _, after := _, guard := _ }) (v := ?_) rfl (by kernel_rfl) (by kernel_rfl) (by kernel_rfl) (fun _ _ _ h => h) (Or.inl ⟨by rfl, ?_⟩) (hH0) ?_
      rotate_left
      · (intro wx hSw; obtain ⟨_, q0, q1, q2, q3, q4, q5⟩ := hSw; go_simp <;> with_reducible rfl)
      simp only [Act.put, List.setIfInBounds_toArray, List.set_cons_zero, List.set_cons_succ]
      refine wpAnyH_take (i := 7) (oi := { dst := some 67, op := _, type := _, pos := _, after := _, guard := _ }) (v := ?_) rfl (by kernel_rfl) (by kernel_rfl) (by kernel_rfl) (fun _ _ _ h => h) (Or.inl ⟨by rfl, ?_⟩) (hH0) ?_
      rotate_left
      · (intro wx hSw; obtain ⟨_, q0, q1, q2, q3, q4, q5⟩ := hSw; go_simp <;> with_reducible rfl)
      simp only [Act.put, List.setIfInBounds_toArray, List.set_cons_zero, List.set_cons_succ]
      refine wpAnyH_take (i := 8) (oi := { dst := some 68, op := _, type := _, pos := _, after := _, guard := _ }) (v := ?_) rfl (by kernel_rfl) (by kernel_rfl) (by kernel_rfl) (fun _ _ _ h => h) (Or.inl ⟨by rfl, ?_⟩) (hH0) ?_
      rotate_left
      · (intro wx hSw; obtain ⟨_, q0, q1, q2, q3, q4, q5⟩ := hSw; go_simp <;> with_reducible rfl)
      simp only [Act.put, List.setIfInBounds_toArray, List.set_cons_zero, List.set_cons_succ]
      refine wpAnyH_take (i := 9) (oi := { dst := some 69, op := _, type := _, pos := _, after := _, guard := _ }) (v := ?_) rfl (by kernel_rfl) (by kernel_rfl) (by kernel_rfl) (fun _ _ _ h => h) (Or.inl ⟨by rfl, ?_⟩) (hH0) ?_
      rotate_left
      · (intro wx hSw; obtain ⟨_, q0, q1, q2, q3, q4, q5⟩ := hSw; go_simp <;> with_reducible rfl)
      simp only [Act.put, List.setIfInBounds_toArray, List.set_cons_zero, List.set_cons_succ]
      refine wpAnyH_take (i := 10) (oi := { dst := some 70, op := _, type := _, pos := _, after := _, guard := _ }) (v := ?_) rfl (by kernel_rfl) (by kernel_rfl) (by kernel_rfl) (fun _ _ _ h => h) (Or.inl ⟨by rfl, ?_⟩) (hH0) ?_
      rotate_left
      · (intro wx hSw; obtain ⟨_, q0, q1, q2, q3, q4, q5⟩ := hSw; go_simp <;> with_reducible rfl)
      simp only [Act.put, List.setIfInBounds_toArray, List.set_cons_zero, List.set_cons_succ]
      refine wpAnyH_take (i := 11) (oi := { dst := some 71, op := _, type := _, pos := _, after := _, guard := _ }) (v := ?_) rfl (by kernel_rfl) (by kernel_rfl) (by kernel_rfl) (fun _ _ _ h => h) (Or.inl ⟨by rfl, ?_⟩) (hH0) ?_
      rotate_left
      · (intro wx hSw; obtain ⟨_, q0, q1, q2, q3, q4, q5⟩ := hSw; go_simp <;> with_reducible rfl)
      simp only [Act.put, List.setIfInBounds_toArray, List.set_cons_zero, List.set_cons_succ]
      refine wpAnyH_take (i := 12) (oi := { dst := some 72, op := _, type := _, pos := _, after := _, guard := _ }) (v := ?_) rfl (by kernel_rfl) (by kernel_rfl) (by kernel_rfl) (fun _ _ _ h => h) (Or.inl ⟨by rfl, ?_⟩) (hH0) ?_
      rotate_left
      · (intro wx hSw; obtain ⟨_, q0, q1, q2, q3, q4, q5⟩ := hSw; go_simp <;> with_reducible rfl)
      simp only [Act.put, List.setIfInBounds_toArray, List.set_cons_zero, List.set_cons_succ]
      refine wpAnyH_take (i := 13) (oi := { dst := some 73, op := _, type := _, pos := _, after := _, guard := _ }) (v := ?_) rfl (by kernel_rfl) (by kernel_rfl) (by kernel_rfl) (fun _ _ _ h => h) (Or.inl ⟨by rfl, ?_⟩) (hH0) ?_
      rotate_left
      · (intro wx hSw; obtain ⟨_, q0, q1, q2, q3, q4, q5⟩ := hSw; go_simp <;> with_reducible rfl)
      simp only [Act.put, List.setIfInBounds_toArray, List.set_cons_zero, List.set_cons_succ]
      refine wpAnyH_take (i := 14) (oi := { dst := some 74, op := _, type := _, pos := _, after := _, guard := _ }) (v := ?_) rfl (by kernel_rfl) (by kernel_rfl) (by kernel_rfl) (fun _ _ _ h => h) (Or.inl ⟨by rfl, ?_⟩) (hH0) ?_
      rotate_left
      · (intro wx hSw; obtain ⟨_, q0, q1, q2, q3, q4, q5⟩ := hSw; go_simp <;> with_reducible rfl)
      simp only [Act.put, List.setIfInBounds_toArray, List.set_cons_zero, List.set_cons_succ]
      refine wpAnyH_ready (rs := [15]) (by kernel_rfl) (by simp) ?_
      refine AllReadyH.cons (o := { dst := some 75, op := _, type := _, pos := _, after := _, guard := _ }) rfl (fun K hK => ?_) AllReadyH.nil
      go_simp
      refine (EQH.out _ hH0.bel).mono ?_
      rintro e wa ⟨rfl, ba⟩
      dsimp only
      refine hK.out _ _ (Y3.below hH0 ba) (fun hH1 => ?_)
      clear hK K
      refine wpAnyH_take (i := 16) (oi := { dst := some 76, op := _, type := _, pos := _, after := _, guard := _ }) (v := ?_) rfl (by kernel_rfl) (by kernel_rfl) (by kernel_rfl) (fun _ _ _ h => h) (Or.inl ⟨by rfl, ?_⟩) (hH1) ?_
      rotate_left
      · (intro wx hSw; obtain ⟨_, q0, q1, q2, q3, q4, q5⟩ := hSw; go_simp <;> with_reducible rfl)
      simp only [Act.put, List.setIfInBounds_toArray, List.set_cons_zero, List.set_cons_succ]
      refine wpAnyH_take (i := 17) (oi := { dst := some 77, op := _, type := _, pos := _, after := _, guard := _ }) (v := ?_) rfl (by kernel_rfl) (by kernel_rfl) (by kernel_rfl) (fun _ _ _ h => h) (Or.inl ⟨by rfl, ?_⟩) (hH1) ?_
      rotate_left
      · (intro wx hSw; obtain ⟨_, q0, q1, q2, q3, q4, q5⟩ := hSw; go_simp <;> with_reducible rfl)
      simp only [Act.put, List.setIfInBounds_toArray, List.set_cons_zero, List.set_cons_succ]
      refine wpAnyH_take (i := 18) (oi := { dst := some 78, op := _, type := _, pos := _, after := _, guard := _ }) (v := ?_) rfl (by kernel_rfl) (by kernel_rfl) (by kernel_rfl) (fun _ _ _ h => h) (Or.inl ⟨by rfl, ?_⟩) (hH1) ?_
      rotate_left
      · (intro wx hSw; obtain ⟨_, q0, q1, q2, q3, q4, q5⟩ := hSw; go_simp <;> with_reducible rfl)
      simp only [Act.put, List.setIfInBounds_toArray, List.set_cons_zero, List.set_cons_succ]
      refine wpAnyH_take (i := 20) (oi := { dst := some 80, op := _, type := _, pos := _, after := _, guard := _ }) (v := ?_) rfl (by kernel_rfl) (by kernel_rfl) (by kernel_rfl) (fun _ _ _ h => h) (Or.inl ⟨by rfl, ?_⟩) (hH1) ?_
      rotate_left
      · (intro wx hSw; obtain ⟨_, q0, q1, q2, q3, q4, q5⟩ := hSw; go_simp <;> with_reducible rfl)
      simp only [Act.put, List.setIfInBounds_toArray, List.set_cons_zero, List.set_cons_succ]
      refine wpAnyH_ready (rs := [19]) (by kernel_rfl) (by simp) ?_
      refine AllReadyH.cons (o := { dst := some 79, op := _, type := _, pos := _, after := _, guard := _ }) rfl (fun K hK => ?_) AllReadyH.nil
      go_simp
      refine (IOH.out _ hH1.bel).mono ?_
      rintro e wb ⟨rfl, bb⟩
      dsimp only
      refine hK.out _ _ (Y3.below hH1 bb) (fun hH2 => ?_)
      clear hK K
      refine wpAnyH_ready (rs := [21]) (by kernel_rfl) (by simp) ?_
      refine AllReadyH.cons (o := { dst := some 81, op := _, type := _, pos := _, after := _, guard := _ }) rfl (fun K hK => ?_) AllReadyH.nil
      go_simp
      refine (SOH.out _ hH2.bel).mono ?_
      rintro e wd ⟨rfl, bd⟩
      dsimp only
      refine hK.out _ _ (Y3.below hH2 bd) (fun hH3 => ?_)
      clear hK K
      refine wpAnyH_take (i := 22) (oi := { dst := some 82, op := _, type := _, pos := _, after := _, guard := _ }) (v := ?_) rfl (by kernel_rfl) (by kernel_rfl) (by kernel_rfl) (fun _ _ _ h => h) (Or.inl ⟨by rfl, ?_⟩) (hH3) ?_
      rotate_left
      · (intro wx hSw; obtain ⟨_, q0, q1, q2, q3, q4, q5⟩ := hSw; go_simp <;> with_reducible rfl)
      simp only [Act.put, List.setIfInBounds_toArray, List.set_cons_zero, List.set_cons_succ]
      refine wpAnyH_take (i := 23) (oi := { dst := some 83, op := _, type := _, pos := _, after := _, guard := _ }) (v := ?_) rfl (by kernel_rfl) (by kernel_rfl) (by kernel_rfl) (fun _ _ _ h => h) (Or.inl ⟨by rfl, ?_⟩) (hH3) ?_
      rotate_left
      · (intro wx hSw; obtain ⟨_, q0, q1, q2, q3, q4, q5⟩ := hSw; go_simp <;> with_reducible rfl)
      simp only [Act.put, List.setIfInBounds_toArray, List.set_cons_zero, List.set_cons_succ]
      refine wpAnyH_take (i := 24) (oi := { dst := some 2, op := _, type := _, pos := _, after := _, guard := _ }) (v := ?_) rfl (by kernel_rfl) (by kernel_rfl) (by kernel_rfl) (fun _ _ _ h => h) (Or.inl ⟨by rfl, ?_⟩) (hH3) ?_
      rotate_left
      · (intro wx hSw; obtain ⟨_, q0, q1, q2, q3, q4, q5⟩ := hSw; go_simp <;> with_reducible rfl)
      simp only [Act.put, List.setIfInBounds_toArray, List.set_cons_zero, List.set_cons_succ]
      refine wpAnyH_done (by kernel_rfl) ?_ _
      -- behind it: go_wp2_with fail, then go_meet (a cut) or go_ret; the condition at the end: hH3
      go_wp2_with fail
      go_ret
      exact ⟨rfl, bstep BZ.out (Y3.bel ‹_›)⟩
    · go_upto_region 6 with fail
      refine wp_region_held_drew (S := fun wx => Y3 (w4.alloc (.cells #[.int .i64 K1, .slice a4 n1 c4] 26)) wx z w3.heap.size w4.heap.size K (.slice ha m hc) K1 (.slice a3 n1 c3) K1 (.slice a4 n1 c4)) (by kernel_rfl) (T0.out) (fun hH0 => ?_)
      refine wpAnyH_take (i := 0) (oi := { dst := some 31, op := _, type := _, pos := _, after := _, guard := _ }) (v := ?_) rfl (by kernel_rfl) (by kernel_rfl) (by kernel_rfl) (fun _ _ _ h => h) (Or.inl ⟨by rfl, ?_⟩) (hH0) ?_
      rotate_left
      · (intro wx hSw; obtain ⟨_, q0, q1, q2, q3, q4, q5⟩ := hSw; go_simp <;> with_reducible rfl)
      simp only [Act.put, List.setIfInBounds_toArray, List.set_cons_zero, List.set_cons_succ]
      refine wpAnyH_take (i := 1) (oi := { dst := some 32, op := _, type := _, pos := _, after := _, guard := _ }) (v := ?_) rfl (by kernel_rfl) (by kernel_rfl) (by kernel_rfl) (fun _ _ _ h => h) (Or.inl ⟨by rfl, ?_⟩) (hH0) ?_
      rotate_left
      · (intro wx hSw; obtain ⟨_, q0, q1, q2, q3, q4, q5⟩ := hSw; go_simp <;> with_reducible rfl)
      simp only [Act.put, List.setIfInBounds_toArray, List.set_cons_zero, List.set_cons_succ]
      refine wpAnyH_take (i := 2) (oi := { dst := some 33, op := _, type := _, pos := _, after := _, guard := _ }) (v := ?_) rfl (by kernel_rfl) (by kernel_rfl) (by kernel_rfl) (fun _ _ _ h => h) (Or.inl ⟨by rfl, ?_⟩) (hH0) ?_
      rotate_left
      · (intro wx hSw; obtain ⟨_, q0, q1, q2, q3, q4, q5⟩ := hSw; go_simp <;> with_reducible rfl)
      simp only [Act.put, List.setIfInBounds_toArray, List.set_cons_zero, List.set_cons_succ]
      refine wpAnyH_take (i := 3) (oi := { dst := some 34, op := _, type := _, pos := _, after := _, guard := _ }) (v := ?_) rfl (by kernel_rfl) (by kernel_rfl) (by kernel_rfl) (fun _ _ _ h => h) (Or.inl ⟨by rfl, ?_⟩) (hH0) ?_
      rotate_left
      · (intro wx hSw; obtain ⟨_, q0, q1, q2, q3, q4, q5⟩ := hSw; go_simp <;> with_reducible rfl)
      simp only [Act.put, List.setIfInBounds_toArray, List.set_cons_zero, List.set_cons_succ]
      refine wpAnyH_take (i := 4) (oi := { dst := some 35, op := _, type := _, pos := _, after := _, guard := _ }) (v := ?_) rfl (by kernel_rfl) (by kernel_rfl) (by kernel_rfl) (fun _ _ _ h => h) (Or.inl ⟨by rfl, ?_⟩) (hH0) ?_
      rotate_left
      · (intro wx hSw; obtain ⟨_, q0, q1, q2, q3, q4, q5⟩ := hSw; go_simp <;> with_reducible rfl)
      simp only [Act.put, List.setIfInBounds_toArray, List.set_cons_zero, List.set_cons_succ]
      refine wpAnyH_take (i := 5) (oi := { dst := some 36, op := _, type := _, pos := _, after := _, guard := _ }) (v := ?_) rfl (by kernel_rfl) (by kernel_rfl) (by kernel_rfl) (fun _ _ _ h => h) (Or.inl ⟨by rfl, ?_⟩) (hH0) ?_
      rotate_left
      · (intro wx hSw; obtain ⟨_, q0, q1, q2, q3, q4, q5⟩ := hSw; go_simp <;> with_reducible rfl)
      simp only [Act.put, List.setIfInBounds_toArray, List.set_cons_zero, List.set_cons_succ]
      refine wpAnyH_take (i := 6) (oi := { dst := some 37, op := _, type := _, pos := _, after := _, guard := _ }) (v := ?_) rfl (by kernel_rfl) (by kernel_rfl) (by kernel_rfl) (fun _ _ _ h => h) (Or.inl ⟨by rfl, ?_⟩) (hH0) ?_
      rotate_left
      · (intro wx hSw; obtain ⟨_, q0, q1, q2, q3, q4, q5⟩ := hSw; go_simp <;> with_reducible rfl)
      simp only [Act.put, List.setIfInBounds_toArray, List.set_cons_zero, List.set_cons_succ]
      refine wpAnyH_take (i := 7) (oi := { dst := some 38, op := _, type := _, pos := _, after := _, guard := _ }) (v := ?_) rfl (by kernel_rfl) (by kernel_rfl) (by kernel_rfl) (fun _ _ _ h => h) (Or.inl ⟨by rfl, ?_⟩) (hH0) ?_
      rotate_left
      · (intro wx hSw; obtain ⟨_, q0, q1, q2, q3, q4, q5⟩ := hSw; go_simp <;> with_reducible rfl)
      simp only [Act.put, List.setIfInBounds_toArray, List.set_cons_zero, List.set_cons_succ]
      refine wpAnyH_take (i := 8) (oi := { dst := some 39, op := _, type := _, pos := _, after := _, guard := _ }) (v := ?_) rfl (by kernel_rfl) (by kernel_rfl) (by kernel_rfl) (fun _ _ _ h => h) (Or.inl ⟨by rfl, ?_⟩) (hH0) ?_
      rotate_left
      · (intro wx hSw; obtain ⟨_, q0, q1, q2, q3, q4, q5⟩ := hSw; go_simp <;> with_reducible rfl)
      simp only [Act.put, List.setIfInBounds_toArray, List.set_cons_zero, List.set_cons_succ]
      refine wpAnyH_take (i := 9) (oi := { dst := some 40, op := _, type := _, pos := _, after := _, guard := _ }) (v := ?_) rfl (by kernel_rfl) (by kernel_rfl) (by kernel_rfl) (fun _ _ _ h => h) (Or.inl ⟨by rfl, ?_⟩) (hH0) ?_
      rotate_left
      · (intro wx hSw; obtain ⟨_, q0, q1, q2, q3, q4, q5⟩ := hSw; go_simp <;> with_reducible rfl)
      simp only [Act.put, List.setIfInBounds_toArray, List.set_cons_zero, List.set_cons_succ]
      refine wpAnyH_take (i := 10) (oi := { dst := some 41, op := _, type := _, pos := _, after := _, guard := _ }) (v := ?_) rfl (by kernel_rfl) (by kernel_rfl) (by kernel_rfl) (fun _ _ _ h => h) (Or.inl ⟨by rfl, ?_⟩) (hH0) ?_
      rotate_left
      · (intro wx hSw; obtain ⟨_, q0, q1, q2, q3, q4, q5⟩ := hSw; go_simp <;> with_reducible rfl)
      simp only [Act.put, List.setIfInBounds_toArray, List.set_cons_zero, List.set_cons_succ]
      refine wpAnyH_take (i := 11) (oi := { dst := some 42, op := _, type := _, pos := _, after := _, guard := _ }) (v := ?_) rfl (by kernel_rfl) (by kernel_rfl) (by kernel_rfl) (fun _ _ _ h => h) (Or.inl ⟨by rfl, ?_⟩) (hH0) ?_
      rotate_left
      · (intro wx hSw; obtain ⟨_, q0, q1, q2, q3, q4, q5⟩ := hSw; go_simp <;> with_reducible rfl)
      simp only [Act.put, List.setIfInBounds_toArray, List.set_cons_zero, List.set_cons_succ]
      refine wpAnyH_take (i := 12) (oi := { dst := some 43, op := _, type := _, pos := _, after := _, guard := _ }) (v := ?_) rfl (by kernel_rfl) (by kernel_rfl) (by kernel_rfl) (fun _ _ _ h => h) (Or.inl ⟨by rfl, ?_⟩) (hH0) ?_
      rotate_left
      · (intro wx hSw; obtain ⟨_, q0, q1, q2, q3, q4, q5⟩ := hSw; go_simp <;> with_reducible rfl)
      simp only [Act.put, List.setIfInBounds_toArray, List.set_cons_zero, List.set_cons_succ]
      refine wpAnyH_take (i := 13) (oi := { dst := some 44, op := _, type := _, pos := _, after := _, guard := _ }) (v := ?_) rfl (by kernel_rfl) (by kernel_rfl) (by kernel_rfl) (fun _ _ _ h => h) (Or.inl ⟨by rfl, ?_⟩) (hH0) ?_
      rotate_left
      · (intro wx hSw; obtain ⟨_, q0, q1, q2, q3, q4, q5⟩ := hSw; go_simp <;> with_reducible rfl)
      simp only [Act.put, List.setIfInBounds_toArray, List.set_cons_zero, List.set_cons_succ]
      refine wpAnyH_take (i := 14) (oi := { dst := some 45, op := _, type := _, pos := _, after := _, guard := _ }) (v := ?_) rfl (by kernel_rfl) (by kernel_rfl) (by kernel_rfl) (fun _ _ _ h => h) (Or.inl ⟨by rfl, ?_⟩) (hH0) ?_
      rotate_left
      · (intro wx hSw; obtain ⟨_, q0, q1, q2, q3, q4, q5⟩ := hSw; go_simp <;> with_reducible rfl)
      simp only [Act.put, List.setIfInBounds_toArray, List.set_cons_zero, List.set_cons_succ]
      refine wpAnyH_ready (rs := [15]) (by kernel_rfl) (by simp) ?_
      refine AllReadyH.cons (o := { dst := some 46, op := _, type := _, pos := _, after := _, guard := _ }) rfl (fun K hK => ?_) AllReadyH.nil
      go_simp
      refine (EQH.out _ hH0.bel).mono ?_
      rintro e wa ⟨rfl, ba⟩
      dsimp only
      refine hK.out _ _ (Y3.below hH0 ba) (fun hH1 => ?_)
      clear hK K
      refine wpAnyH_take (i := 16) (oi := { dst := some 47, op := _, type := _, pos := _, after := _, guard := _ }) (v := ?_) rfl (by kernel_rfl) (by kernel_rfl) (by kernel_rfl) (fun _ _ _ h => h) (Or.inl ⟨by rfl, ?_⟩) (hH1) ?_
      rotate_left
      · (intro wx hSw; obtain ⟨_, q0, q1, q2, q3, q4, q5⟩ := hSw; go_simp <;> with_reducible rfl)
      simp only [Act.put, List.setIfInBounds_toArray, List.set_cons_zero, List.set_cons_succ]
      refine wpAnyH_take (i := 17) (oi := { dst := some 48, op := _, type := _, pos := _, after := _, guard := _ }) (v := ?_) rfl (by kernel_rfl) (by kernel_rfl) (by kernel_rfl) (fun _ _ _ h => h) (Or.inl ⟨by rfl, ?_⟩) (hH1) ?_
      rotate_left
      · (intro wx hSw; obtain ⟨_, q0, q1, q2, q3, q4, q5⟩ := hSw; go_simp <;> with_reducible rfl)
      simp only [Act.put, List.setIfInBounds_toArray, List.set_cons_zero, List.set_cons_succ]
      refine wpAnyH_take (i := 18) (oi := { dst := some 49, op := _, type := _, pos := _, after := _, guard := _ }) (v := ?_) rfl (by kernel_rfl) (by kernel_rfl) (by kernel_rfl) (fun _ _ _ h => h) (Or.inl ⟨by rfl, ?_⟩) (hH1) ?_
      rotate_left
      · (intro wx hSw; obtain ⟨_, q0, q1, q2, q3, q4, q5⟩ := hSw; go_simp <;> with_reducible rfl)
      simp only [Act.put, List.setIfInBounds_toArray, List.set_cons_zero, List.set_cons_succ]
      refine wpAnyH_take (i := 19) (oi := { dst := some 50, op := _, type := _, pos := _, after := _, guard := _ }) (v := ?_) rfl (by kernel_rfl) (by kernel_rfl) (by kernel_rfl) (fun _ _ _ h => h) (Or.inl ⟨by rfl, ?_⟩) (hH1) ?_
      rotate_left
      · (intro wx hSw; obtain ⟨_, q0, q1, q2, q3, q4, q5⟩ := hSw; go_simp <;> with_reducible rfl)
      simp only [Act.put, List.setIfInBounds_toArray, List.set_cons_zero, List.set_cons_succ]
      refine wpAnyH_take (i := 21) (oi := { dst := some 52, op := _, type := _, pos := _, after := _, guard := _ }) (v := ?_) rfl (by kernel_rfl) (by kernel_rfl) (by kernel_rfl) (fun _ _ _ h => h) (Or.inl ⟨by rfl, ?_⟩) (hH1) ?_
      rotate_left
      · (intro wx hSw; obtain ⟨_, q0, q1, q2, q3, q4, q5⟩ := hSw; go_simp <;> with_reducible rfl)
      simp only [Act.put, List.setIfInBounds_toArray, List.set_cons_zero, List.set_cons_succ]
      refine wpAnyH_ready (rs := [20]) (by kernel_rfl) (by simp) ?_
      refine AllReadyH.cons (o := { dst := some 51, op := _, type := _, pos := _, after := _, guard := _ }) rfl (fun K hK => ?_) AllReadyH.nil
      go_simp
      refine (IOH.out _ hH1.bel).mono ?_
      rintro e wb ⟨rfl, bb⟩
      dsimp only
      refine hK.out _ _ (Y3.below hH1 bb) (fun hH2 => ?_)
      clear hK K
      refine wpAnyH_ready (rs := [22]) (by kernel_rfl) (by simp) ?_
      refine AllReadyH.cons (o := { dst := some 53, op := _, type := _, pos := _, after := _, guard := _ }) rfl (fun K hK => ?_) AllReadyH.nil
      go_simp
      refine (SOH.out _ hH2.bel).mono ?_
      rintro e wd ⟨rfl, bd⟩
      dsimp only
      refine hK.out _ _ (Y3.below hH2 bd) (fun hH3 => ?_)
      clear hK K
      refine wpAnyH_take (i := 23) (oi := { dst := some 54, op := _, type := _, pos := _, after := _, guard := _ }) (v := ?_) rfl (by kernel_rfl) (by kernel_rfl) (by kernel_rfl) (fun _ _ _ h => h) (Or.inl ⟨by rfl, ?_⟩) (hH3) ?_
      rotate_left
      · (intro wx hSw; obtain ⟨_, q0, q1, q2, q3, q4, q5⟩ := hSw; go_simp <;> with_reducible rfl)
      simp only [Act.put, List.setIfInBounds_toArray, List.set_cons_zero, List.set_cons_succ]
      refine wpAnyH_take (i := 24) (oi := { dst := some 55, op := _, type := _, pos := _, after := _, guard := _ }) (v := ?_) rfl (by kernel_rfl) (by kernel_rfl) (by kernel_rfl) (fun _ _ _ h => h) (Or.inl ⟨by rfl, ?_⟩) (hH3) ?_
      rotate_left
      · (intro wx hSw; obtain ⟨_, q0, q1, q2, q3, q4, q5⟩ := hSw; go_simp <;> with_reducible rfl)
      simp only [Act.put, List.setIfInBounds_toArray, List.set_cons_zero, List.set_cons_succ]
      refine wpAnyH_take (i := 25) (oi := { dst := some 56, op := _, type := _, pos := _, after := _, guard := _ }) (v := ?_) rfl (by kernel_rfl) (by kernel_rfl) (by kernel_rfl) (fun _ _ _ h => h) (Or.inl ⟨by rfl, ?_⟩) (hH3) ?_
      rotate_left
      · (intro wx hSw; obtain ⟨_, q0, q1, q2, q3, q4, q5⟩ := hSw; go_simp <;> with_reducible rfl)
      simp only [Act.put, List.setIfInBounds_toArray, List.set_cons_zero, List.set_cons_succ]
      refine wpAnyH_take (i := 26) (oi := { dst := some 57, op := _, type := _, pos := _, after := _, guard := _ }) (v := ?_) rfl (by kernel_rfl) (by kernel_rfl) (by kernel_rfl) (fun _ _ _ h => h) (Or.inl ⟨by rfl, ?_⟩) (hH3) ?_
      rotate_left
      · (intro wx hSw; obtain ⟨_, q0, q1, q2, q3, q4, q5⟩ := hSw; go_simp <;> with_reducible rfl)
      simp only [Act.put, List.setIfInBounds_toArray, List.set_cons_zero, List.set_cons_succ]
      refine wpAnyH_take (i := 27) (oi := { dst := some 58, op := _, type := _, pos := _, after := _, guard := _ }) (v := ?_) rfl (by kernel_rfl) (by kernel_rfl) (by kernel_rfl) (fun _ _ _ h => h) (Or.inl ⟨by rfl, ?_⟩) (hH3) ?_
      rotate_left
      · (intro wx hSw; obtain ⟨_, q0, q1, q2, q3, q4, q5⟩ := hSw; go_simp <;> with_reducible rfl)
      simp only [Act.put, List.setIfInBounds_toArray, List.set_cons_zero, List.set_cons_succ]
      refine wpAnyH_take (i := 28) (oi := { dst := some 59, op := _, type := _, pos := _, after := _, guard := _ }) (v := ?_) rfl (by kernel_rfl) (by kernel_rfl) (by kernel_rfl) (fun _ _ _ h => h) (Or.inl ⟨by rfl, ?_⟩) (hH3) ?_
      rotate_left
      · (intro wx hSw; obtain ⟨_, q0, q1, q2, q3, q4, q5⟩ := hSw; go_simp <;> with_reducible rfl)
      simp only [Act.put, List.setIfInBounds_toArray, List.set_cons_zero, List.set_cons_succ]
      refine wpAnyH_done (by kernel_rfl) ?_ _
      -- behind it: go_wp2_with fail, then go_meet (a cut) or go_ret; the condition at the end: hH3
      have BR := hide hH3.bel
      clear hH0 hH1 hH2 ba bb bd
      obtain ⟨f1, f2, f3, f4, f5⟩ := FACT.out
      have hbt : hb = true ∧ nearB i d = true := by
        unfold putB at f1
        rw [f2] at f1
        simpa using f1
      obtain ⟨rfl, hx⟩ := hbt
      obtain ⟨k, ek, k1, k20, mk, hh, hN⟩ := heap_parts f2
      subst ek
      have e1 : (k : Int) = K1 := f3
      have e2 : putN k m = n1 := f4
      subst e1
      have KP := put_keep (keep0 mk hh) (i, d)
      rw [e2] at KP
      have hnum := KP.num
      have okG := KP.ok (fun t ht => by
        by_cases q : t = m
        · subst q; rw [put_at]; exact hx
        · rw [put_off _ _ q]; exact hN t (by omega)) k1 k20
      simp only at okG KP
      rw [f5] at okG KP
      have ALL := hide (fun p (hp : p ≤ m) h1 h2 => keep_all (x := (i, d)) mk hh hp h1 h2)
      simp only [e2, f5] at ALL
      have NEAR : Hid (∀ j, j < m → nearB (isortL m M j).1 (isortL m M j).2 = true) := hide (fun j hj => by
        obtain ⟨t, ht, e⟩ := mem_isort (A := M) hj
        rw [← e]; exact hN t ht)
      obtain ⟨A, hA⟩ : ∃ A, isortL m M = A := ⟨_, rfl⟩
      have ISY := hide (fun w1 (h : PRow w1 ha m (fun i => (M i).1) (fun i => (M i).2)) => show Calls Try.prog 11 #[.agg #[.int .i64 k, .slice ha m hc]] w1 (fun e w' => ∃ b, e = Ending.returned (.slice (some ⟨b, 0, none⟩) m m) ∧ RowL w' b m A ∧ Below w1.heap.size w1 w') from (iHeapSorted_yes (k : Int) ha m hc _ _ w1 h f2 (by omega)).mono fun e w' ⟨b, he, hB, ho, hb⟩ => ⟨b, he, ho.rowl.congr (fun t ht => by rw [← hA, ← listL_sort t ht]; exact sorts_alike m _ (listL_heap f2) t ht), hb⟩)
      rw [hA] at ALL NEAR
      have IOG := hide (fun a3 c3 w1 (h : PRow w1 a3 n1 (fun i => (M1 i).1) (fun i => (M1 i).2)) => iHeapOk_any (k : Int) a3 n1 c3 _ _ w1 h)
      simp only [okG] at IOG
      have ISG := hide (fun a3 c3 w1 (h : PRow w1 a3 n1 (fun i => (M1 i).1) (fun i => (M1 i).2)) => iSortU (k : Int) a3 n1 c3 M1 w1 h)
      simp only [okG, sortN, if_true] at ISG
      have n1m : n1 ≤ m + 1 := by omega
      have hmin : min (k : Int) ((m : Int) + 1) = (n1 : Int) := by omega
      have HMIN := hide hmin
      have PD := hide (P_4.out.below BR.out)
      have RD := hide (R_4.out.below BR.out)
      have XD := hide (bX_4.out.below BR.out)
      have YD := hide (bY_4.out.below BR.out)
      have UD := hide (bU_4.out.below BR.out)
      have BD := hide (bstep B_4.out BR.out)
      clear f1 f2 f3 f4 f5 e2 KP okG hA hh hN mk hnum IS EQH IOH SOH T0 FACT tb te tk tl BR hH3 hmin
      obtain ⟨_, x0, x1, _, _⟩ := XD.out
      go_wp2_with fail
      refine (ISY.out _ PD.out).mono ?_
      rintro e w8 ⟨b8, rfl, r8, b8'⟩
      have ROW8 := hide r8
      have l8 := r8.lt
      have RD8 := hide (RD.out.below b8')
      have XD8 := hide (XD.out.below b8')
      have YD8 := hide (YD.out.below b8')
      have UD8 := hide (UD.out.below b8')
      have BD8 := hide (bstep BD.out b8')
      clear x0 x1 r8 b8' PD RD XD YD UD BD ISY
      obtain ⟨i0, hi, hz0, hz1, hz2⟩ := nearInfo
      have HI := hide hi
      clear hi
      go_wp2_with fail
      go_loopw [10, 11] (fun v at_ wr => ∃ p g cp, p ≤ m ∧ at_ = .int .i64 ((p : Nat) : Int) ∧ v = .slice (some ⟨g, 0, none⟩) p cp ∧ RC wr w8.heap.size g cp p A ∧ (∀ j, j < p → lt2 (i, d) (A j) = false) ∧ Below w8.heap.size w8 wr) (fun _ at_ _ => m - (intOf at_).toNat)
      case atStart => exact ⟨0, w8.heap.size, 0, Nat.zero_le _, rfl, rfl, RC.newH _ _, fun j hj => absurd hj (by omega), (by repeat' first | with_reducible exact Below.refl _ _ | with_reducible assumption | with_reducible refine below_drewN ?_ _ | with_reducible refine balloc ?_ _ | with_reducible refine Below.drew ?_ | with_reducible refine Below.setCell ?_ (by first | (simp; done) | (simp; omega) | omega) _ | with_reducible refine bstep ?_ (by assumption))⟩
      case round =>
        obtain ⟨p, g, cp, hp, rfl, rfl, hrc, hless, hbel⟩ := hrel
        have HRC := hide hrc
        have HL := hide hless
        have HB := hide hbel
        have hs := hbel.size
        have hcp : p ≤ cp := by obtain ⟨_, _, q, _⟩ := hrc.row; exact q
        have K0 := hide (fun W (h : Below w8.heap.size w8 W) => Y1n.of (i := i) (d := d) YD8.out h)
        have RW8 := hide (fun W (h : Below w8.heap.size w8 W) j (hj : j < m) => And.intro ((h.cell (p := ⟨b8, j * 2, none⟩) l8).trans (ROW8.out.c0 hj)) ((h.cell (p := ⟨b8, j * 2 + 1, none⟩) l8).trans (ROW8.out.c1 hj)))
        clear hrc hless hbel
        by_cases hlt : p < m
        · have hlt' : decide ((p : Int) < (m : Int)) = true := by simp; omega
          have hlt2 : (p : Int) < (m : Int) := by omega
          have RN := hide (fun w1 => iNearLess_any i d (A p).1 (A p).2 w1)
          obtain ⟨v, hv⟩ : ∃ v, lt2 (i, d) (A p) = v := ⟨_, rfl⟩
          have hnl : nlessB i d (A p).1 (A p).2 = v := by
            unfold nlessB
            rw [hx, NEAR.out p hlt, ← hv]; rfl
          rw [hnl] at RN
          have HV := hide hv
          obtain ⟨d0, d1⟩ := RW8.out wr HB.out p hlt
          have S0 : Hid (Y2n w8 wr.drew (z + 1) b8 (p * 2) (i, d) (A p)) := hide ⟨(K0.out _ HB.out.drew).bel, (K0.out _ HB.out.drew).c0, (K0.out _ HB.out.drew).c1, d0, d1⟩
          clear hv hnl d0 d1
          go_upto_region 11 with fail
          refine wp_region_held_drew (S := fun wx => Y2n w8 wx (z + 1) b8 (p * 2) (i, d) (A p)) (by kernel_rfl) (S0.out) (fun hH0 => ?_)
          refine wpAnyH_take (i := 0) (oi := { dst := some 87, op := _, type := _, pos := _, after := _, guard := _ }) (v := ?_) rfl (by kernel_rfl) (by kernel_rfl) (by kernel_rfl) (fun _ _ _ h => h) (Or.inl ⟨by rfl, ?_⟩) (hH0) ?_
          rotate_left
          · (intro wx hSw; obtain ⟨_, q0, q1, q2, q3⟩ := hSw; go_simp <;> with_reducible rfl)
          simp only [Act.put, List.setIfInBounds_toArray, List.set_cons_zero, List.set_cons_succ]
          refine wpAnyH_take (i := 1) (oi := { dst := some 88, op := _, type := _, pos := _, after := _, guard := _ }) (v := ?_) rfl (by kernel_rfl) (by kernel_rfl) (by kernel_rfl) (fun _ _ _ h => h) (Or.inl ⟨by rfl, ?_⟩) (hH0) ?_
          rotate_left
          · (intro wx hSw; obtain ⟨_, q0, q1, q2, q3⟩ := hSw; go_simp <;> with_reducible rfl)
          simp only [Act.put, List.setIfInBounds_toArray, List.set_cons_zero, List.set_cons_succ]
          refine wpAnyH_take (i := 2) (oi := { dst := some 89, op := _, type := _, pos := _, after := _, guard := _ }) (v := ?_) rfl (by kernel_rfl) (by kernel_rfl) (by kernel_rfl) (fun _ _ _ h => h) (Or.inl ⟨by rfl, ?_⟩) (hH0) ?_
          rotate_left
          · (intro wx hSw; obtain ⟨_, q0, q1, q2, q3⟩ := hSw; go_simp <;> with_reducible rfl)
          simp only [Act.put, List.setIfInBounds_toArray, List.set_cons_zero, List.set_cons_succ]
          refine wpAnyH_take (i := 3) (oi := { dst := some 90, op := _, type := _, pos := _, after := _, guard := _ }) (v := ?_) rfl (by kernel_rfl) (by kernel_rfl) (by kernel_rfl) (fun _ _ _ h => h) (Or.inl ⟨by rfl, ?_⟩) (hH0) ?_
          rotate_left
          · (intro wx hSw; obtain ⟨_, q0, q1, q2, q3⟩ := hSw; go_simp <;> with_reducible rfl)
          simp only [Act.put, List.setIfInBounds_toArray, List.set_cons_zero, List.set_cons_succ]
          refine wpAnyH_take (i := 4) (oi := { dst := some 91, op := _, type := _, pos := _, after := _, guard := _ }) (v := ?_) rfl (by kernel_rfl) (by kernel_rfl) (by kernel_rfl) (fun _ _ _ h => h) (Or.inl ⟨by rfl, ?_⟩) (hH0) ?_
          rotate_left
          · (intro wx hSw; obtain ⟨_, q0, q1, q2, q3⟩ := hSw; go_simp <;> with_reducible rfl)
          simp only [Act.put, List.setIfInBounds_toArray, List.set_cons_zero, List.set_cons_succ]
          refine wpAnyH_take (i := 5) (oi := { dst := some 92, op := _, type := _, pos := _, after := _, guard := _ }) (v := ?_) rfl (by kernel_rfl) (by kernel_rfl) (by kernel_rfl) (fun _ _ _ h => h) (Or.inl ⟨by rfl, ?_⟩) (hH0) ?_
          rotate_left
          · (intro wx hSw; obtain ⟨_, q0, q1, q2, q3⟩ := hSw; go_simp <;> with_reducible rfl)
          simp only [Act.put, List.setIfInBounds_toArray, List.set_cons_zero, List.set_cons_succ]
          refine wpAnyH_take (i := 6) (oi := { dst := some 93, op := _, type := _, pos := _, after := _, guard := _ }) (v := ?_) rfl (by kernel_rfl) (by kernel_rfl) (by kernel_rfl) (fun _ _ _ h => h) (Or.inl ⟨by rfl, ?_⟩) (hH0) ?_
          rotate_left
          · (intro wx hSw; obtain ⟨_, q0, q1, q2, q3⟩ := hSw; go_simp <;> with_reducible rfl)
          simp only [Act.put, List.setIfInBounds_toArray, List.set_cons_zero, List.set_cons_succ]
          refine wpAnyH_take (i := 7) (oi := { dst := some 94, op := _, type := _, pos := _, after := _, guard := _ }) (v := ?_) rfl (by kernel_rfl) (by kernel_rfl) (by kernel_rfl) (fun _ _ _ h => h) (Or.inl ⟨by rfl, ?_⟩) (hH0) ?_
          rotate_left
          · (intro wx hSw; obtain ⟨_, q0, q1, q2, q3⟩ := hSw; go_simp <;> with_reducible rfl)
          simp only [Act.put, List.setIfInBounds_toArray, List.set_cons_zero, List.set_cons_succ]
          refine wpAnyH_take (i := 8) (oi := { dst := some 95, op := _, type := _, pos := _, after := _, guard := _ }) (v := ?_) rfl (by kernel_rfl) (by kernel_rfl) (by kernel_rfl) (fun _ _ _ h => h) (Or.inl ⟨by rfl, ?_⟩) (hH0) ?_
          rotate_left
          · (intro wx hSw; obtain ⟨_, q0, q1, q2, q3⟩ := hSw; go_simp <;> with_reducible rfl)
          simp only [Act.put, List.setIfInBounds_toArray, List.set_cons_zero, List.set_cons_succ]
          refine wpAnyH_take (i := 9) (oi := { dst := some 96, op := _, type := _, pos := _, after := _, guard := _ }) (v := ?_) rfl (by kernel_rfl) (by kernel_rfl) (by kernel_rfl) (fun _ _ _ h => h) (Or.inl ⟨by rfl, ?_⟩) (hH0) ?_
          rotate_left
          · (intro wx hSw; obtain ⟨_, q0, q1, q2, q3⟩ := hSw; go_simp <;> with_reducible rfl)
          simp only [Act.put, List.setIfInBounds_toArray, List.set_cons_zero, List.set_cons_succ]
          refine wpAnyH_ready (rs := [10]) (by kernel_rfl) (by simp) ?_
          refine AllReadyH.cons (o := { dst := some 97, op := _, type := _, pos := _, after := _, guard := _ }) rfl (fun K hK => ?_) AllReadyH.nil
          go_simp
          refine (RN.out _).mono ?_
          rintro e we ⟨rfl, be⟩
          dsimp only
          refine hK.out _ _ (Y2n.below hH0 be) (fun hH1 => ?_)
          clear hK K
          refine wpAnyH_take (i := 11) (oi := { dst := some 98, op := _, type := _, pos := _, after := _, guard := _ }) (v := ?_) rfl (by kernel_rfl) (by kernel_rfl) (by kernel_rfl) (fun _ _ _ h => h) (Or.inl ⟨by rfl, ?_⟩) (hH1) ?_
          rotate_left
          · (intro wx hSw; obtain ⟨_, q0, q1, q2, q3⟩ := hSw; go_simp <;> with_reducible rfl)
          simp only [Act.put, List.setIfInBounds_toArray, List.set_cons_zero, List.set_cons_succ]
          refine wpAnyH_take (i := 12) (oi := { dst := some 99, op := _, type := _, pos := _, after := _, guard := _ }) (v := ?_) rfl (by kernel_rfl) (by kernel_rfl) (by kernel_rfl) (fun _ _ _ h => h) (Or.inl ⟨by rfl, ?_⟩) (hH1) ?_
          rotate_left
          · (intro wx hSw; obtain ⟨_, q0, q1, q2, q3⟩ := hSw; go_simp <;> with_reducible rfl)
          simp only [Act.put, List.setIfInBounds_toArray, List.set_cons_zero, List.set_cons_succ]
          refine wpAnyH_done (by kernel_rfl) ?_ _
          -- behind it: go_wp2_with fail, then go_meet (a cut) or go_ret; the condition at the end: hH1
          have BE := hide hH1.bel
          have RCE := hide ((HRC.out.drew).below be)
          have dm0 := hH1.d0
          have dm1 := hH1.d1
          have hse := BE.out.size
          clear hH0 hH1 be HRC HB
          cases v
          · have howns := hide (RCE.out.owns.alloc (.cells #[.int .i64 (A p).1, .int .i64 (A p).2] 28))
            generalize hNV : nlv A p = NV at howns
            have HNV := hide hNV
            clear hNV
            go_wp2_with (at_builtin; refine wpList_append_lies _ rfl _ _ 24 rfl w8.heap.size 28 i0 _ 2 16 Try.underlying24 HI.out hz0 hz1 hz2 rfl (by decide) _ _ _ rfl howns.out ⟨_, 0, none⟩ 1 1 [.int .i64 (A p).1, .int .i64 (A p).2] rfl rfl (two_newN _ _ _ _) (two_oneH _ _) (by omega) (by unfold maxLen; omega) (by omega) (by simp; omega) _ rfl ?_)
            intro g5 c5 w5 hown5 hgrow hat5 hglt
            rw [← HNV.out] at hown5
            have R5 := hide ((RC.grown hown5).congrH (N := A) (fun t ht => by
              by_cases q : t = p
              · subst q; rw [put_at]
              · rw [put_off _ _ q]))
            have B5 := hide (below_appN (balloc BE.out (.cells #[.int .i64 (A p).1, .int .i64 (A p).2] 28)) (by simp; omega) howns.out hgrow)
            have L5 : Hid (∀ j, j < p + 1 → lt2 (i, d) (A j) = false) := hide (fun j hj => by
              by_cases q : j = p
              · subst q; exact HV.out
              · exact HL.out j (by omega))
            clear hown5 hgrow hat5 howns BE RCE dm0 dm1
            go_wp2_with fail
            go_roundw
            case rel => exact ⟨p + 1, g5, c5, by omega, by go_num, rfl, R5.out, L5.out, B5.out⟩
            case measure => simp [intOf]; omega
          · have H2 : Hid (p < m → lt2 (i, d) (A p) = true) := hide (fun _ => HV.out)
            have K1H := hide ((K0.out _ BE.out).below (Below.drew (Below.refl _ _)))
            have howns := hide ((RCE.out.drew).owns.alloc (.cells #[.int .i64 i, .int .i64 d] 28))
            generalize hNV : nlv A p = NV at howns
            have HNV := hide hNV
            clear hNV
            obtain ⟨a2, ha2⟩ : ∃ a2, (if m = p then some (⟨b8, 0, none⟩ : Addr) else some ⟨b8, p * 2, none⟩) = a2 := ⟨_, rfl⟩
            go_upto_region 14 with fail
            refine wp_region_held_drew (S := fun wx => Y1n w8 wx (z + 1) i d) (by kernel_rfl) (K1H.out) (fun hH0 => ?_)
            refine wpAnyH_take (i := 0) (oi := { dst := some 109, op := _, type := _, pos := _, after := _, guard := _ }) (v := ?_) rfl (by kernel_rfl) (by kernel_rfl) (by kernel_rfl) (fun _ _ _ h => h) (Or.inl ⟨by rfl, ?_⟩) (hH0) ?_
            rotate_left
            · (intro wx hSw; obtain ⟨_, q0, q1⟩ := hSw; go_simp <;> with_reducible rfl)
            simp only [Act.put, List.setIfInBounds_toArray, List.set_cons_zero, List.set_cons_succ]
            refine wpAnyH_take (i := 1) (oi := { dst := some 110, op := _, type := _, pos := _, after := _, guard := _ }) (v := ?_) rfl (by kernel_rfl) (by kernel_rfl) (by kernel_rfl) (fun _ _ _ h => h) (Or.inl ⟨by rfl, ?_⟩) (hH0) ?_
            rotate_left
            · (intro wx hSw; obtain ⟨_, q0, q1⟩ := hSw; go_simp <;> with_reducible rfl)
            simp only [Act.put, List.setIfInBounds_toArray, List.set_cons_zero, List.set_cons_succ]
            refine wpAnyH_take (i := 4) (oi := { dst := some 113, op := _, type := _, pos := _, after := _, guard := _ }) (v := ?_) rfl (by kernel_rfl) (by kernel_rfl) (by kernel_rfl) (fun _ _ _ h => h) (Or.inl ⟨by rfl, ?_⟩) (hH0) ?_
            rotate_left
            · (intro wx hSw; obtain ⟨_, q0, q1⟩ := hSw; go_simp <;> with_reducible rfl)
            simp only [Act.put, List.setIfInBounds_toArray, List.set_cons_zero, List.set_cons_succ]
            refine wpAnyH_take (i := 5) (oi := { dst := some 114, op := _, type := _, pos := _, after := _, guard := _ }) (v := ?_) rfl (by kernel_rfl) (by kernel_rfl) (by kernel_rfl) (fun _ _ _ h => h) (Or.inl ⟨by rfl, ?_⟩) (hH0) ?_
            rotate_left
            · (intro wx hSw; obtain ⟨_, q0, q1⟩ := hSw; go_simp <;> with_reducible rfl)
            simp only [Act.put, List.setIfInBounds_toArray, List.set_cons_zero, List.set_cons_succ]
            refine wpAnyH_take (i := 6) (oi := { dst := some 115, op := _, type := _, pos := _, after := _, guard := _ }) (v := ?_) rfl (by kernel_rfl) (by kernel_rfl) (by kernel_rfl) (fun _ _ _ h => h) (Or.inl ⟨by rfl, ?_⟩) (hH0) ?_
            rotate_left
            · (intro wx hSw; obtain ⟨_, q0, q1⟩ := hSw; go_simp <;> with_reducible rfl)
            simp only [Act.put, List.setIfInBounds_toArray, List.set_cons_zero, List.set_cons_succ]
            refine wpAnyH_ready (rs := [2]) (by kernel_rfl) (by simp) ?_
            refine AllReadyH.cons (o := { dst := some 111, op := _, type := _, pos := _, after := _, guard := _ }) rfl (fun K hK => ?_) AllReadyH.nil
            go_simp
            refine hK.out _ _ (Y1n.below hH0 (balloc (Below.refl _ _) _)) (fun hH1 => ?_)
            clear hK K
            -- behind it: go_wp2_with fail, then go_meet (a cut) or go_ret; the condition at the end: hH1
            refine wpAnyH_ready (rs := [3]) (by kernel_rfl) (by simp) ?_
            refine AllReadyH.cons (o := { dst := some 112, op := _, type := _, pos := _, after := _, guard := _ }) rfl (fun KK hK => ?_) AllReadyH.nil
            refine step_append_lies _ rfl _ _ 24 rfl w8.heap.size 28 i0 _ 2 16 Try.underlying24 HI.out hz0 hz1 hz2 rfl (by decide) _ _ _ rfl howns.out ⟨_, 0, none⟩ 1 1 [.int .i64 i, .int .i64 d] rfl rfl (two_newN _ _ _ _) (two_oneH _ _) (by omega) (by unfold maxLen; omega) (by omega) (by simp; omega) _ rfl ?_
            intro g5 c5 w5 hown5 hgrow hat5 hglt
            rw [← HNV.out] at hown5
            have B5 := hide (below_appN (balloc BE.out.drew (.cells #[.int .i64 i, .int .i64 d] 28)) (by simp; omega) howns.out hgrow)
            have OW5 := hide hown5
            have s5 := B5.out.size
            clear hown5 hgrow hat5 howns BE RCE
            refine hK.out _ _ (K0.out _ B5.out) (fun hH20 => ?_)
            clear hK KK
            simp only [Act.put, List.setIfInBounds_toArray, List.set_cons_zero, List.set_cons_succ]
            refine wpAnyH_ready (rs := [7]) (by kernel_rfl) (by simp) ?_
            refine AllReadyH.cons (o := { dst := some 116, op := _, type := _, pos := _, after := _, guard := _ }) rfl (fun KK hK => ?_) AllReadyH.nil
            have hne : ¬ m = p := by omega
            rw [if_neg hne] at ha2
            subst ha2
            have news : ∀ (j : Nat) (u : Value), (nlv (shL A p) (m - p))[j]? = some u → w5.cell? ((⟨b8, p * 2, none⟩ : Addr).add j) = some u := fun j u hu => nlv_cells (RW8.out w5 B5.out) hp hu
            refine step_append_lies _ rfl _ _ 24 rfl w8.heap.size 28 i0 _ 2 16 Try.underlying24 HI.out hz0 hz1 hz2 rfl (by decide) _ _ _ rfl OW5.out ⟨b8, p * 2, none⟩ (m - p) (m - p) (nlv (shL A p) (m - p)) rfl (nlv_len _ _) news (nlv_one _ _) (by omega) (by unfold maxLen; omega) (by omega) (by omega) _ rfl ?_
            intro g6 c6 w6 hown6 hgrow hat6 hglt6
            have B6 := hide (below_appN B5.out (by omega) OW5.out hgrow)
            rw [nlv_split A (i, d) m p hp, show p + 1 + (m - p) = m + 1 by omega] at hown6
            rw [show p + 1 + (m - p) = m + 1 by omega]
            have FIN6 : Hid (RC w6 w8.heap.size g6 c6 (m + 1) (allL p A (i, d))) := hide (RC.ofOwnsH hown6)
            clear hown6 hgrow hat6 OW5 B5 news
            refine hK.out _ _ (K0.out _ B6.out) (fun hH21 => ?_)
            clear hK KK
            simp only [Act.put, List.setIfInBounds_toArray, List.set_cons_zero, List.set_cons_succ]
            refine wpAnyH_take (i := 8) (oi := { dst := some 10, op := _, type := _, pos := _, after := _, guard := _ }) (v := ?_) rfl (by kernel_rfl) (by kernel_rfl) (by kernel_rfl) (fun _ _ _ h => h) (Or.inl ⟨by rfl, ?_⟩) (hH21) ?_
            rotate_left
            · (intro wx hSw; obtain ⟨_, q0, q1⟩ := hSw; go_simp <;> with_reducible rfl)
            simp only [Act.put, List.setIfInBounds_toArray, List.set_cons_zero, List.set_cons_succ]
            refine wpAnyH_done (by kernel_rfl) ?_ _
            clear hH0 hH1 hH20 hH21
            have ALLP := hide (ALL.out p hp HL.out H2.out)
            have hcap6 : n1 ≤ c6 := by obtain ⟨_, _, q, _⟩ := FIN6.out.row; omega
            have RF := hide (RD8.out.below B6.out)
            have UF := hide (UD8.out.below B6.out)
            have XF := hide (XD8.out.below B6.out)
            have BF := hide (bstep BD8.out B6.out)
            have T5 : Hid (Y3 w6 w6.drew z w3.heap.size w3.heap.size (k : Int) (.slice ha m hc) (k : Int) (.slice a3 n1 c3) (k : Int) (.slice a3 n1 c3)) := hide (Y3.mkB XF.out UF.out UF.out)
            have IOF := hide (fun w1 (h : Below w6.heap.size w6 w1) => IOG.out a3 c3 w1 (RF.out.below h))
            have ISF := hide (fun w1 (h : Below w6.heap.size w6 w1) => ISG.out a3 c3 w1 (RF.out.below h))
            have EQF := hide (fun a1 k1 a2 k2 w1 (h : PRow w1 a1 n1 (fun i => (isortL n1 M1 i).1) (fun i => (isortL n1 M1 i).2)) (h' : PRow w1 a2 n1 (fun i => (isortL n1 M1 i).1) (fun i => (isortL n1 M1 i).2)) => sameNears_self a1 a2 n1 k1 k2 _ w1 h h' (by omega))
            have LAST : Hid (∀ w1, Below w6.heap.size w6 w1 → PRow w1 (some ⟨g6, 0, none⟩) n1 (fun i => (isortL n1 M1 i).1) (fun i => (isortL n1 M1 i).2)) := hide (fun w1 h => ((FIN6.out.rowl.less n1m).prow.below h).congrH fun t ht => (ALLP.out t ht).symm)
            have hmin := HMIN.out
            clear RF UF XF FIN6 ALLP ALL K0 RW8 HL H2 IOG ISG HMIN RD8 UD8 XD8 YD8 ROW8 NEAR
            go_upto_region 15 with fail
            refine wp_region_held_drew (S := fun wx => Y3 w6 wx z w3.heap.size w3.heap.size (k : Int) (.slice ha m hc) (k : Int) (.slice a3 n1 c3) (k : Int) (.slice a3 n1 c3)) (by kernel_rfl) (T5.out) (fun hH0 => ?_)
            refine wpAnyH_take (i := 0) (oi := { dst := some 117, op := _, type := _, pos := _, after := _, guard := _ }) (v := ?_) rfl (by kernel_rfl) (by kernel_rfl) (by kernel_rfl) (fun _ _ _ h => h) (Or.inl ⟨by rfl, ?_⟩) (hH0) ?_
            rotate_left
            · (intro wx hSw; obtain ⟨_, q0, q1, q2, q3, q4, q5⟩ := hSw; go_simp <;> with_reducible rfl)
            simp only [Act.put, List.setIfInBounds_toArray, List.set_cons_zero, List.set_cons_succ]
            refine wpAnyH_ready (rs := [1]) (by kernel_rfl) (by simp) ?_
            refine AllReadyH.cons (o := { dst := some 118, op := _, type := _, pos := _, after := _, guard := _ }) rfl (fun K hK => ?_) AllReadyH.nil
            go_simp
            refine (IOF.out _ hH0.bel).mono ?_
            rintro e wg ⟨rfl, bg⟩
            dsimp only
            refine hK.out _ _ (Y3.below hH0 bg) (fun hH1 => ?_)
            clear hK K
            refine wpAnyH_take (i := 2) (oi := { dst := some 119, op := _, type := _, pos := _, after := _, guard := _ }) (v := ?_) rfl (by kernel_rfl) (by kernel_rfl) (by kernel_rfl) (fun _ _ _ h => h) (Or.inl ⟨by rfl, ?_⟩) (hH1) ?_
            rotate_left
            · (intro wx hSw; obtain ⟨_, q0, q1, q2, q3, q4, q5⟩ := hSw; go_simp <;> with_reducible rfl)
            simp only [Act.put, List.setIfInBounds_toArray, List.set_cons_zero, List.set_cons_succ]
            refine wpAnyH_take (i := 3) (oi := { dst := some 120, op := _, type := _, pos := _, after := _, guard := _ }) (v := ?_) rfl (by kernel_rfl) (by kernel_rfl) (by kernel_rfl) (fun _ _ _ h => h) (Or.inl ⟨by rfl, ?_⟩) (hH1) ?_
            rotate_left
            · (intro wx hSw; obtain ⟨_, q0, q1, q2, q3, q4, q5⟩ := hSw; go_simp <;> with_reducible rfl)
            simp only [Act.put, List.setIfInBounds_toArray, List.set_cons_zero, List.set_cons_succ]
            refine wpAnyH_take (i := 5) (oi := { dst := some 122, op := _, type := _, pos := _, after := _, guard := _ }) (v := ?_) rfl (by kernel_rfl) (by kernel_rfl) (by kernel_rfl) (fun _ _ _ h => h) (Or.inl ⟨by rfl, ?_⟩) (hH1) ?_
            rotate_left
            · (intro wx hSw; obtain ⟨_, q0, q1, q2, q3, q4, q5⟩ := hSw; go_simp <;> with_reducible rfl)
            simp only [Act.put, List.setIfInBounds_toArray, List.set_cons_zero, List.set_cons_succ]
            refine wpAnyH_take (i := 6) (oi := { dst := some 123, op := _, type := _, pos := _, after := _, guard := _ }) (v := ?_) rfl (by kernel_rfl) (by kernel_rfl) (by kernel_rfl) (fun _ _ _ h => h) (Or.inl ⟨by rfl, ?_⟩) (hH1) ?_
            rotate_left
            · (intro wx hSw; obtain ⟨_, q0, q1, q2, q3, q4, q5⟩ := hSw; go_simp <;> with_reducible rfl)
            simp only [Act.put, List.setIfInBounds_toArray, List.set_cons_zero, List.set_cons_succ]
            refine wpAnyH_take (i := 7) (oi := { dst := some 124, op := _, type := _, pos := _, after := _, guard := _ }) (v := ?_) rfl (by kernel_rfl) (by kernel_rfl) (by kernel_rfl) (fun _ _ _ h => h) (Or.inl ⟨by rfl, ?_⟩) (hH1) ?_
            rotate_left
            · (intro wx hSw; obtain ⟨_, q0, q1, q2, q3, q4, q5⟩ := hSw; go_simp <;> with_reducible rfl)
            simp only [Act.put, List.setIfInBounds_toArray, List.set_cons_zero, List.set_cons_succ]
            refine wpAnyH_take (i := 8) (oi := { dst := some 125, op := _, type := _, pos := _, after := _, guard := _ }) (v := ?_) rfl (by kernel_rfl) (by kernel_rfl) (by kernel_rfl) (fun _ _ _ h => h) (Or.inl ⟨by rfl, ?_⟩) (hH1) ?_
            rotate_left
            · (intro wx hSw; obtain ⟨_, q0, q1, q2, q3, q4, q5⟩ := hSw; go_simp <;> with_reducible rfl)
            simp only [Act.put, List.setIfInBounds_toArray, List.set_cons_zero, List.set_cons_succ]
            refine wpAnyH_take (i := 9) (oi := { dst := some 126, op := _, type := _, pos := _, after := _, guard := _ }) (v := ?_) rfl (by kernel_rfl) (by kernel_rfl) (by kernel_rfl) (fun _ _ _ h => h) (Or.inl ⟨by rfl, ?_⟩) (hH1) ?_
            rotate_left
            · (intro wx hSw; obtain ⟨_, q0, q1, q2, q3, q4, q5⟩ := hSw; go_simp <;> with_reducible rfl)
            simp only [Act.put, List.setIfInBounds_toArray, List.set_cons_zero, List.set_cons_succ]
            refine wpAnyH_take (i := 10) (oi := { dst := some 127, op := _, type := _, pos := _, after := _, guard := _ }) (v := ?_) rfl (by kernel_rfl) (by kernel_rfl) (by kernel_rfl) (fun _ _ _ h => h) (Or.inl ⟨by rfl, ?_⟩) (hH1) ?_
            rotate_left
            · (intro wx hSw; obtain ⟨_, q0, q1, q2, q3, q4, q5⟩ := hSw; go_simp <;> with_reducible rfl)
            simp only [Act.put, List.setIfInBounds_toArray, List.set_cons_zero, List.set_cons_succ]
            refine wpAnyH_take (i := 11) (oi := { dst := some 128, op := _, type := _, pos := _, after := _, guard := _ }) (v := ?_) rfl (by kernel_rfl) (by kernel_rfl) (by kernel_rfl) (fun _ _ _ h => h) (Or.inl ⟨by rfl, ?_⟩) (hH1) ?_
            rotate_left
            · (intro wx hSw; obtain ⟨_, q0, q1, q2, q3, q4, q5⟩ := hSw; go_simp <;> with_reducible rfl)
            simp only [Act.put, List.setIfInBounds_toArray, List.set_cons_zero, List.set_cons_succ]
            refine wpAnyH_ready (rs := [4]) (by kernel_rfl) (by simp) ?_
            refine AllReadyH.cons (o := { dst := some 121, op := _, type := _, pos := _, after := _, guard := _ }) rfl (fun K hK => ?_) AllReadyH.nil
            go_simp
            refine (ISF.out _ hH1.bel).mono ?_
            rintro e wh ⟨ah, ch, rfl, rh, bh⟩
            dsimp only
            refine hK.out _ _ (Y3.below hH1 bh) (fun hH2 => ?_)
            clear hK K
            refine wpAnyH_ready (rs := [12]) (by kernel_rfl) (by simp) ?_
            refine AllReadyH.cons (o := { dst := some 129, op := _, type := _, pos := _, after := _, guard := _ }) rfl (fun K hK => ?_) AllReadyH.nil
            go_simp
            refine (EQF.out _ _ _ _ _ rh (LAST.out _ hH2.bel)).mono ?_
            rintro e wi ⟨rfl, bi⟩
            dsimp only
            refine hK.out _ _ (Y3.below hH2 bi) (fun hH3 => ?_)
            clear hK K
            refine wpAnyH_take (i := 13) (oi := { dst := some 130, op := _, type := _, pos := _, after := _, guard := _ }) (v := ?_) rfl (by kernel_rfl) (by kernel_rfl) (by kernel_rfl) (fun _ _ _ h => h) (Or.inl ⟨by rfl, ?_⟩) (hH3) ?_
            rotate_left
            · (intro wx hSw; obtain ⟨_, q0, q1, q2, q3, q4, q5⟩ := hSw; go_simp <;> with_reducible rfl)
            simp only [Act.put, List.setIfInBounds_toArray, List.set_cons_zero, List.set_cons_succ]
            refine wpAnyH_take (i := 14) (oi := { dst := some 2, op := _, type := _, pos := _, after := _, guard := _ }) (v := ?_) rfl (by kernel_rfl) (by kernel_rfl) (by kernel_rfl) (fun _ _ _ h => h) (Or.inl ⟨by rfl, ?_⟩) (hH3) ?_
            rotate_left
            · (intro wx hSw; obtain ⟨_, q0, q1, q2, q3, q4, q5⟩ := hSw; go_simp <;> with_reducible rfl)
            simp only [Act.put, List.setIfInBounds_toArray, List.set_cons_zero, List.set_cons_succ]
            refine wpAnyH_done (by kernel_rfl) ?_ _
            -- behind it: go_wp2_with fail, then go_meet (a cut) or go_ret; the condition at the end: hH3
            go_wp2_with fail
            go_ret
            exact ⟨rfl, bstep BF.out hH3.bel⟩
        · obtain rfl : p = m := by omega
          have hlt' : decide ((p : Int) < (p : Int)) = false := by simp
          go_upto_region 11 with fail
          refine wp_region_held_drew (S := fun wx => True) (by kernel_rfl) (trivial) (fun hH0 => ?_)
          refine wpAnyH_take (i := 0) (oi := { dst := some 87, op := _, type := _, pos := _, after := _, guard := _ }) (v := ?_) rfl (by kernel_rfl) (by kernel_rfl) (by kernel_rfl) (fun _ _ _ h => h) (Or.inl ⟨by rfl, ?_⟩) (hH0) ?_
          rotate_left
          · (intro wx hSw; obtain _ := hSw; go_simp <;> with_reducible rfl)
          simp only [Act.put, List.setIfInBounds_toArray, List.set_cons_zero, List.set_cons_succ]
          refine wpAnyH_take (i := 1) (oi := { dst := some 88, op := _, type := _, pos := _, after := _, guard := _ }) (v := ?_) rfl (by kernel_rfl) (by kernel_rfl) (by kernel_rfl) (fun _ _ _ h => h) (Or.inl ⟨by rfl, ?_⟩) (hH0) ?_
          rotate_left
          · (intro wx hSw; obtain _ := hSw; go_simp <;> with_reducible rfl)
          simp only [Act.put, List.setIfInBounds_toArray, List.set_cons_zero, List.set_cons_succ]
          refine wpAnyH_take (i := 2) (oi := { dst := some 89, op := _, type := _, pos := _, after := _, guard := _ }) (v := ?_) rfl (by kernel_rfl) (by kernel_rfl) (by kernel_rfl) (fun _ _ _ h => h) (Or.inl ⟨by rfl, ?_⟩) (hH0) ?_
          rotate_left
          · (intro wx hSw; obtain _ := hSw; go_simp <;> with_reducible rfl)
          simp only [Act.put, List.setIfInBounds_toArray, List.set_cons_zero, List.set_cons_succ]
          refine wpAnyH_take (i := 3) (oi := { dst := some 90, op := _, type := _, pos := _, after := _, guard := _ }) (v := ?_) rfl (by kernel_rfl) (by kernel_rfl) (by kernel_rfl) (fun _ _ _ h => h) (Or.inl ⟨by rfl, ?_⟩) (hH0) ?_
          rotate_left
          · (intro wx hSw; obtain _ := hSw; go_simp <;> with_reducible rfl)
          simp only [Act.put, List.setIfInBounds_toArray, List.set_cons_zero, List.set_cons_succ]
          refine wpAnyH_take (i := 4) (oi := { dst := some 91, op := _, type := _, pos := _, after := _, guard := _ }) (v := ?_) rfl (by kernel_rfl) (by kernel_rfl) (by kernel_rfl) (fun _ _ _ h => h) (Or.inl ⟨by rfl, ?_⟩) (hH0) ?_
          rotate_left
          · (intro wx hSw; obtain _ := hSw; go_simp <;> with_reducible rfl)
          simp only [Act.put, List.setIfInBounds_toArray, List.set_cons_zero, List.set_cons_succ]
          refine wpAnyH_take (i := 5) (oi := { dst := some 92, op := _, type := _, pos := _, after := _, guard := _ }) (v := _) rfl (by kernel_rfl) (by kernel_rfl) (by kernel_rfl) (fun _ _ _ h => h) (Or.inr ⟨by rfl, rfl⟩) (hH0) ?_
          simp only [Act.put, List.setIfInBounds_toArray, List.set_cons_zero, List.set_cons_succ]
          refine wpAnyH_take (i := 6) (oi := { dst := some 93, op := _, type := _, pos := _, after := _, guard := _ }) (v := _) rfl (by kernel_rfl) (by kernel_rfl) (by kernel_rfl) (fun _ _ _ h => h) (Or.inr ⟨by rfl, rfl⟩) (hH0) ?_
          simp only [Act.put, List.setIfInBounds_toArray, List.set_cons_zero, List.set_cons_succ]
          refine wpAnyH_take (i := 7) (oi := { dst := some 94, op := _, type := _, pos := _, after := _, guard := _ }) (v := _) rfl (by kernel_rfl) (by kernel_rfl) (by kernel_rfl) (fun _ _ _ h => h) (Or.inr ⟨by rfl, rfl⟩) (hH0) ?_
          simp only [Act.put, List.setIfInBounds_toArray, List.set_cons_zero, List.set_cons_succ]
          refine wpAnyH_take (i := 8) (oi := { dst := some 95, op := _, type := _, pos := _, after := _, guard := _ }) (v := _) rfl (by kernel_rfl) (by kernel_rfl) (by kernel_rfl) (fun _ _ _ h => h) (Or.inr ⟨by rfl, rfl⟩) (hH0) ?_
          simp only [Act.put, List.setIfInBounds_toArray, List.set_cons_zero, List.set_cons_succ]
          refine wpAnyH_take (i := 9) (oi := { dst := some 96, op := _, type := _, pos := _, after := _, guard := _ }) (v := _) rfl (by kernel_rfl) (by kernel_rfl) (by kernel_rfl) (fun _ _ _ h => h) (Or.inr ⟨by rfl, rfl⟩) (hH0) ?_
          simp only [Act.put, List.setIfInBounds_toArray, List.set_cons_zero, List.set_cons_succ]
          refine wpAnyH_take (i := 10) (oi := { dst := some 97, op := _, type := _, pos := _, after := _, guard := _ }) (v := _) rfl (by kernel_rfl) (by kernel_rfl) (by kernel_rfl) (fun _ _ _ h => h) (Or.inr ⟨by rfl, rfl⟩) (hH0) ?_
          simp only [Act.put, List.setIfInBounds_toArray, List.set_cons_zero, List.set_cons_succ]
          refine wpAnyH_take (i := 11) (oi := { dst := some 98, op := _, type := _, pos := _, after := _, guard := _ }) (v := _) rfl (by kernel_rfl) (by kernel_rfl) (by kernel_rfl) (fun _ _ _ h => h) (Or.inr ⟨by rfl, rfl⟩) (hH0) ?_
          simp only [Act.put, List.setIfInBounds_toArray, List.set_cons_zero, List.set_cons_succ]
          refine wpAnyH_take (i := 12) (oi := { dst := some 99, op := _, type := _, pos := _, after := _, guard := _ }) (v := ?_) rfl (by kernel_rfl) (by kernel_rfl) (by kernel_rfl) (fun _ _ _ h => h) (Or.inl ⟨by rfl, ?_⟩) (hH0) ?_
          rotate_left
          · (intro wx hSw; obtain _ := hSw; go_simp <;> with_reducible rfl)
          simp only [Act.put, List.setIfInBounds_toArray, List.set_cons_zero, List.set_cons_succ]
          refine wpAnyH_done (by kernel_rfl) ?_ _
          -- behind it: go_wp2_with fail, then go_meet (a cut) or go_ret; the condition at the end: hH0
          have H2 : Hid (p < p → lt2 (i, d) (A p) = true) := hide (fun h => absurd h (by omega))
          have BE := hide HB.out.drew
          have RCE := hide HRC.out.drew
          have hse := BE.out.size
          clear HRC HB
          have K1H := hide ((K0.out _ BE.out).below (Below.drew (Below.refl _ _)))
          have howns := hide ((RCE.out.drew).owns.alloc (.cells #[.int .i64 i, .int .i64 d] 28))
          generalize hNV : nlv A p = NV at howns
          have HNV := hide hNV
          clear hNV
          go_upto_region 14 with fail
          refine wp_region_held_drew (S := fun wx => Y1n w8 wx (z + 1) i d) (by kernel_rfl) (K1H.out) (fun hH0 => ?_)
          refine wpAnyH_take (i := 0) (oi := { dst := some 109, op := _, type := _, pos := _, after := _, guard := _ }) (v := ?_) rfl (by kernel_rfl) (by kernel_rfl) (by kernel_rfl) (fun _ _ _ h => h) (Or.inl ⟨by rfl, ?_⟩) (hH0) ?_
          rotate_left
          · (intro wx hSw; obtain ⟨_, q0, q1⟩ := hSw; go_simp <;> with_reducible rfl)
          simp only [Act.put, List.setIfInBounds_toArray, List.set_cons_zero, List.set_cons_succ]
          refine wpAnyH_take (i := 1) (oi := { dst := some 110, op := _, type := _, pos := _, after := _, guard := _ }) (v := ?_) rfl (by kernel_rfl) (by kernel_rfl) (by kernel_rfl) (fun _ _ _ h => h) (Or.inl ⟨by rfl, ?_⟩) (hH0) ?_
          rotate_left
          · (intro wx hSw; obtain ⟨_, q0, q1⟩ := hSw; go_simp <;> with_reducible rfl)
          simp only [Act.put, List.setIfInBounds_toArray, List.set_cons_zero, List.set_cons_succ]
          refine wpAnyH_take (i := 4) (oi := { dst := some 113, op := _, type := _, pos := _, after := _, guard := _ }) (v := ?_) rfl (by kernel_rfl) (by kernel_rfl) (by kernel_rfl) (fun _ _ _ h => h) (Or.inl ⟨by rfl, ?_⟩) (hH0) ?_
          rotate_left
          · (intro wx hSw; obtain ⟨_, q0, q1⟩ := hSw; go_simp <;> with_reducible rfl)
          simp only [Act.put, List.setIfInBounds_toArray, List.set_cons_zero, List.set_cons_succ]
          refine wpAnyH_take (i := 5) (oi := { dst := some 114, op := _, type := _, pos := _, after := _, guard := _ }) (v := ?_) rfl (by kernel_rfl) (by kernel_rfl) (by kernel_rfl) (fun _ _ _ h => h) (Or.inl ⟨by rfl, ?_⟩) (hH0) ?_
          rotate_left
          · (intro wx hSw; obtain ⟨_, q0, q1⟩ := hSw; go_simp <;> with_reducible rfl)
          simp only [Act.put, List.setIfInBounds_toArray, List.set_cons_zero, List.set_cons_succ]
          refine wpAnyH_take (i := 6) (oi := { dst := some 115, op := _, type := _, pos := _, after := _, guard := _ }) (v := ?_) rfl (by kernel_rfl) (by kernel_rfl) (by kernel_rfl) (fun _ _ _ h => h) (Or.inl ⟨by rfl, ?_⟩) (hH0) ?_
          rotate_left
          · (intro wx hSw; obtain ⟨_, q0, q1⟩ := hSw; go_simp <;> with_reducible rfl)
          simp only [Act.put, List.setIfInBounds_toArray, List.set_cons_zero, List.set_cons_succ]
          refine wpAnyH_ready (rs := [2]) (by kernel_rfl) (by simp) ?_
          refine AllReadyH.cons (o := { dst := some 111, op := _, type := _, pos := _, after := _, guard := _ }) rfl (fun K hK => ?_) AllReadyH.nil
          go_simp
          refine hK.out _ _ (Y1n.below hH0 (balloc (Below.refl _ _) _)) (fun hH1 => ?_)
          clear hK K
          -- behind it: go_wp2_with fail, then go_meet (a cut) or go_ret; the condition at the end: hH1
          refine wpAnyH_ready (rs := [3]) (by kernel_rfl) (by simp) ?_
          refine AllReadyH.cons (o := { dst := some 112, op := _, type := _, pos := _, after := _, guard := _ }) rfl (fun KK hK => ?_) AllReadyH.nil
          refine step_append_lies _ rfl _ _ 24 rfl w8.heap.size 28 i0 _ 2 16 Try.underlying24 HI.out hz0 hz1 hz2 rfl (by decide) _ _ _ rfl howns.out ⟨_, 0, none⟩ 1 1 [.int .i64 i, .int .i64 d] rfl rfl (two_newN _ _ _ _) (two_oneH _ _) (by omega) (by unfold maxLen; omega) (by omega) (by simp; omega) _ rfl ?_
          intro g5 c5 w5 hown5 hgrow hat5 hglt
          rw [← HNV.out] at hown5
          have B5 := hide (below_appN (balloc BE.out.drew (.cells #[.int .i64 i, .int .i64 d] 28)) (by simp; omega) howns.out hgrow)
          have OW5 := hide hown5
          have s5 := B5.out.size
          clear hown5 hgrow hat5 howns BE RCE
          refine hK.out _ _ (K0.out _ B5.out) (fun hH20 => ?_)
          clear hK KK
          simp only [Act.put, List.setIfInBounds_toArray, List.set_cons_zero, List.set_cons_succ]
          refine wpAnyH_ready (rs := [7]) (by kernel_rfl) (by simp) ?_
          refine AllReadyH.cons (o := { dst := some 116, op := _, type := _, pos := _, after := _, guard := _ }) rfl (fun KK hK => ?_) AllReadyH.nil
          have hcap5 := capOf OW5.out
          refine step_append_run rfl _ _ 24 rfl _ _ rfl rfl _ _ (run_app_empty _ _ _ _ i0 Try.underlying24 HI.out _ _ _ _ _ hcap5) ?_
          obtain ⟨g6, hg6⟩ : ∃ g, g5 = g := ⟨_, rfl⟩
          obtain ⟨c6, hc6⟩ : ∃ c, c5 = c := ⟨_, rfl⟩
          obtain ⟨w6, hw6⟩ : ∃ w, w5 = w := ⟨_, rfl⟩
          subst hg6 hc6 hw6
          have OW6 := OW5
          have B6 := B5
          have FIN6 : Hid (RC w5 w8.heap.size g5 c5 (p + 1) (allL p A (i, d))) := hide (RC.ofOwnsH (by
            have := nlv_split A (i, d) p p (Nat.le_refl _)
            rw [Nat.sub_self] at this
            rw [← this, show nlv (shL A p) 0 = [] from rfl, List.append_nil]
            exact OW5.out))
          clear OW5 B5 OW6
          refine hK.out _ _ (K0.out _ B6.out) (fun hH21 => ?_)
          clear hK KK
          simp only [Act.put, List.setIfInBounds_toArray, List.set_cons_zero, List.set_cons_succ]
          refine wpAnyH_take (i := 8) (oi := { dst := some 10, op := _, type := _, pos := _, after := _, guard := _ }) (v := ?_) rfl (by kernel_rfl) (by kernel_rfl) (by kernel_rfl) (fun _ _ _ h => h) (Or.inl ⟨by rfl, ?_⟩) (hH21) ?_
          rotate_left
          · (intro wx hSw; obtain ⟨_, q0, q1⟩ := hSw; go_simp <;> with_reducible rfl)
          simp only [Act.put, List.setIfInBounds_toArray, List.set_cons_zero, List.set_cons_succ]
          refine wpAnyH_done (by kernel_rfl) ?_ _
          clear hH0 hH1 hH20 hH21
          have ALLP := hide (ALL.out p hp HL.out H2.out)
          have hcap6 : n1 ≤ c5 := by obtain ⟨_, _, q, _⟩ := FIN6.out.row; omega
          have RF := hide (RD8.out.below B6.out)
          have UF := hide (UD8.out.below B6.out)
          have XF := hide (XD8.out.below B6.out)
          have BF := hide (bstep BD8.out B6.out)
          have T5 : Hid (Y3 w5 w5.drew z w3.heap.size w3.heap.size (k : Int) (.slice ha p hc) (k : Int) (.slice a3 n1 c3) (k : Int) (.slice a3 n1 c3)) := hide (Y3.mkB XF.out UF.out UF.out)
          have IOF := hide (fun w1 (h : Below w5.heap.size w5 w1) => IOG.out a3 c3 w1 (RF.out.below h))
          have ISF := hide (fun w1 (h : Below w5.heap.size w5 w1) => ISG.out a3 c3 w1 (RF.out.below h))
          have EQF := hide (fun a1 k1 a2 k2 w1 (h : PRow w1 a1 n1 (fun i => (isortL n1 M1 i).1) (fun i => (isortL n1 M1 i).2)) (h' : PRow w1 a2 n1 (fun i => (isortL n1 M1 i).1) (fun i => (isortL n1 M1 i).2)) => sameNears_self a1 a2 n1 k1 k2 _ w1 h h' (by omega))
          have LAST : Hid (∀ w1, Below w5.heap.size w5 w1 → PRow w1 (some ⟨g5, 0, none⟩) n1 (fun i => (isortL n1 M1 i).1) (fun i => (isortL n1 M1 i).2)) := hide (fun w1 h => ((FIN6.out.rowl.less n1m).prow.below h).congrH fun t ht => (ALLP.out t ht).symm)
          have hmin := HMIN.out
          clear RF UF XF FIN6 ALLP ALL K0 RW8 HL H2 IOG ISG HMIN RD8 UD8 XD8 YD8 ROW8 NEAR
          go_upto_region 15 with fail
          refine wp_region_held_drew (S := fun wx => Y3 w5 wx z w3.heap.size w3.heap.size (k : Int) (.slice ha p hc) (k : Int) (.slice a3 n1 c3) (k : Int) (.slice a3 n1 c3)) (by kernel_rfl) (T5.out) (fun hH0 => ?_)
          refine wpAnyH_take (i := 0) (oi := { dst := some 117, op := _, type := _, pos := _, after := _, guard := _ }) (v := ?_) rfl (by kernel_rfl) (by kernel_rfl) (by kernel_rfl) (fun _ _ _ h => h) (Or.inl ⟨by rfl, ?_⟩) (hH0) ?_
          rotate_left
          · (intro wx hSw; obtain ⟨_, q0, q1, q2, q3, q4, q5⟩ := hSw; go_simp <;> with_reducible rfl)
          simp only [Act.put, List.setIfInBounds_toArray, List.set_cons_zero, List.set_cons_succ]
          refine wpAnyH_ready (rs := [1]) (by kernel_rfl) (by simp) ?_
          refine AllReadyH.cons (o := { dst := some 118, op := _, type := _, pos := _, after := _, guard := _ }) rfl (fun K hK => ?_) AllReadyH.nil
          go_simp
          refine (IOF.out _ hH0.bel).mono ?_
          rintro e wg ⟨rfl, bg⟩
          dsimp only
          refine hK.out _ _ (Y3.below hH0 bg) (fun hH1 => ?_)
          clear hK K
          refine wpAnyH_take (i := 2) (oi := { dst := some 119, op := _, type := _, pos := _, after := _, guard := _ }) (v := ?_) rfl (by kernel_rfl) (by kernel_rfl) (by kernel_rfl) (fun _ _ _ h => h) (Or.inl ⟨by rfl, ?_⟩) (hH1) ?_
          rotate_left
          · (intro wx hSw; obtain ⟨_, q0, q1, q2, q3, q4, q5⟩ := hSw; go_simp <;> with_reducible rfl)
          simp only [Act.put, List.setIfInBounds_toArray, List.set_cons_zero, List.set_cons_succ]
          refine wpAnyH_take (i := 3) (oi := { dst := some 120, op := _, type := _, pos := _, after := _, guard := _ }) (v := ?_) rfl (by kernel_rfl) (by kernel_rfl) (by kernel_rfl) (fun _ _ _ h => h) (Or.inl ⟨by rfl, ?_⟩) (hH1) ?_
          rotate_left
          · (intro wx hSw; obtain ⟨_, q0, q1, q2, q3, q4, q5⟩ := hSw; go_simp <;> with_reducible rfl)
          simp only [Act.put, List.setIfInBounds_toArray, List.set_cons_zero, List.set_cons_succ]
          refine wpAnyH_take (i := 5) (oi := { dst := some 122, op := _, type := _, pos := _, after := _, guard := _ }) (v := ?_) rfl (by kernel_rfl) (by kernel_rfl) (by kernel_rfl) (fun _ _ _ h => h) (Or.inl ⟨by rfl, ?_⟩) (hH1) ?_
          rotate_left
          · (intro wx hSw; obtain ⟨_, q0, q1, q2, q3, q4, q5⟩ := hSw; go_simp <;> with_reducible rfl)
          simp only [Act.put, List.setIfInBounds_toArray, List.set_cons_zero, List.set_cons_succ]
          refine wpAnyH_take (i := 6) (oi := { dst := some 123, op := _, type := _, pos := _, after := _, guard := _ }) (v := ?_) rfl (by kernel_rfl) (by kernel_rfl) (by kernel_rfl) (fun _ _ _ h => h) (Or.inl ⟨by rfl, ?_⟩) (hH1) ?_
          rotate_left
          · (intro wx hSw; obtain ⟨_, q0, q1, q2, q3, q4, q5⟩ := hSw; go_simp <;> with_reducible rfl)
          simp only [Act.put, List.setIfInBounds_toArray, List.set_cons_zero, List.set_cons_succ]
          refine wpAnyH_take (i := 7) (oi := { dst := some 124, op := _, type := _, pos := _, after := _, guard := _ }) (v := ?_) rfl (by kernel_rfl) (by kernel_rfl) (by kernel_rfl) (fun _ _ _ h => h) (Or.inl ⟨by rfl, ?_⟩) (hH1) ?_
          rotate_left
          · (intro wx hSw; obtain ⟨_, q0, q1, q2, q3, q4, q5⟩ := hSw; go_simp <;> with_reducible rfl)
          simp only [Act.put, List.setIfInBounds_toArray, List.set_cons_zero, List.set_cons_succ]
          refine wpAnyH_take (i := 8) (oi := { dst := some 125, op := _, type := _, pos := _, after := _, guard := _ }) (v := ?_) rfl (by kernel_rfl) (by kernel_rfl) (by kernel_rfl) (fun _ _ _ h => h) (Or.inl ⟨by rfl, ?_⟩) (hH1) ?_
          rotate_left
          · (intro wx hSw; obtain ⟨_, q0, q1, q2, q3, q4, q5⟩ := hSw; go_simp <;> with_reducible rfl)
          simp only [Act.put, List.setIfInBounds_toArray, List.set_cons_zero, List.set_cons_succ]
          refine wpAnyH_take (i := 9) (oi := { dst := some 126, op := _, type := _, pos := _, after := _, guard := _ }) (v := ?_) rfl (by kernel_rfl) (by kernel_rfl) (by kernel_rfl) (fun _ _ _ h => h) (Or.inl ⟨by rfl, ?_⟩) (hH1) ?_
          rotate_left
          · (intro wx hSw; obtain ⟨_, q0, q1, q2, q3, q4, q5⟩ := hSw; go_simp <;> with_reducible rfl)
          simp only [Act.put, List.setIfInBounds_toArray, List.set_cons_zero, List.set_cons_succ]
          refine wpAnyH_take (i := 10) (oi := { dst := some 127, op := _, type := _, pos := _, after := _, guard := _ }) (v := ?_) rfl (by kernel_rfl) (by kernel_rfl) (by kernel_rfl) (fun _ _ _ h => h) (Or.inl ⟨by rfl, ?_⟩) (hH1) ?_
          rotate_left
          · (intro wx hSw; obtain ⟨_, q0, q1, q2, q3, q4, q5⟩ := hSw; go_simp <;> with_reducible rfl)
          simp only [Act.put, List.setIfInBounds_toArray, List.set_cons_zero, List.set_cons_succ]
          refine wpAnyH_take (i := 11) (oi := { dst := some 128, op := _, type := _, pos := _, after := _, guard := _ }) (v := ?_) rfl (by kernel_rfl) (by kernel_rfl) (by kernel_rfl) (fun _ _ _ h => h) (Or.inl ⟨by rfl, ?_⟩) (hH1) ?_
          rotate_left
          · (intro wx hSw; obtain ⟨_, q0, q1, q2, q3, q4, q5⟩ := hSw; go_simp <;> with_reducible rfl)
          simp only [Act.put, List.setIfInBounds_toArray, List.set_cons_zero, List.set_cons_succ]
          refine wpAnyH_ready (rs := [4]) (by kernel_rfl) (by simp) ?_
          refine AllReadyH.cons (o := { dst := some 121, op := _, type := _, pos := _, after := _, guard := _ }) rfl (fun K hK => ?_) AllReadyH.nil
          go_simp
          refine (ISF.out _ hH1.bel).mono ?_
          rintro e wh ⟨ah, ch, rfl, rh, bh⟩
          dsimp only
          refine hK.out _ _ (Y3.below hH1 bh) (fun hH2 => ?_)
          clear hK K
          refine wpAnyH_ready (rs := [12]) (by kernel_rfl) (by simp) ?_
          refine AllReadyH.cons (o := { dst := some 129, op := _, type := _, pos := _, after := _, guard := _ }) rfl (fun K hK => ?_) AllReadyH.nil
          go_simp
          refine (EQF.out _ _ _ _ _ rh (LAST.out _ hH2.bel)).mono ?_
          rintro e wi ⟨rfl, bi⟩
          dsimp only
          refine hK.out _ _ (Y3.below hH2 bi) (fun hH3 => ?_)
          clear hK K
          refine wpAnyH_take (i := 13) (oi := { dst := some 130, op := _, type := _, pos := _, after := _, guard := _ }) (v := ?_) rfl (by kernel_rfl) (by kernel_rfl) (by kernel_rfl) (fun _ _ _ h => h) (Or.inl ⟨by rfl, ?_⟩) (hH3) ?_
          rotate_left
          · (intro wx hSw; obtain ⟨_, q0, q1, q2, q3, q4, q5⟩ := hSw; go_simp <;> with_reducible rfl)
          simp only [Act.put, List.setIfInBounds_toArray, List.set_cons_zero, List.set_cons_succ]
          refine wpAnyH_take (i := 14) (oi := { dst := some 2, op := _, type := _, pos := _, after := _, guard := _ }) (v := ?_) rfl (by kernel_rfl) (by kernel_rfl) (by kernel_rfl) (fun _ _ _ h => h) (Or.inl ⟨by rfl, ?_⟩) (hH3) ?_
          rotate_left
          · (intro wx hSw; obtain ⟨_, q0, q1, q2, q3, q4, q5⟩ := hSw; go_simp <;> with_reducible rfl)
          simp only [Act.put, List.setIfInBounds_toArray, List.set_cons_zero, List.set_cons_succ]
          refine wpAnyH_done (by kernel_rfl) ?_ _
          -- behind it: go_wp2_with fail, then go_meet (a cut) or go_ret; the condition at the end: hH3
          go_wp2_with fail
          go_ret
          exact ⟨rfl, bstep BF.out hH3.bel⟩
  · rw [decide_eq_true (show 1048576 < n by omega)] at BG
    go_enter Try.func3, Try.ntmps3
    go_wp2_with fail
    refine BG.out.mono ?_
    rintro e w' ⟨rfl, rfl⟩
    go_wp2
    go_ret
    exact ⟨rfl, (by repeat' first | with_reducible exact Below.refl _ _ | with_reducible assumption | with_reducible refine below_drewN ?_ _ | with_reducible refine balloc ?_ _ | with_reducible refine Below.drew ?_ | with_reducible refine Below.setCell ?_ (by first | (simp; done) | (simp; omega) | omega) _ | with_reducible refine bstep ?_ (by assumption))⟩
end Go.Proofs.Ythfkpgnpfhkfpaa
