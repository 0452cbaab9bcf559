/- The walk of the law FnRowNested. -/
import Derived.Test.YtoiaamcnmpdglaaZ27
import Derived.Test.YtoiaamcnmpdglaaZ28
import Derived.Test.YtoiaamcnmpdglaaZ25
import Derived.Test.YtoiaamcnmpdglaaZ26
import Derived.Test.YtoiaamcnmpdglaaZ14
import Derived.Test.YtoiaamcnmpdglaaZ18
import Derived.Test.YtoiaamcnmpdglaaZ17
import Derived.OpenShut
namespace Go.Proofs.Ytoiaamcnmpdglaa
open Go.RowKit
set_option maxRecDepth 8000
set_option linter.unusedSimpArgs false
set_option linter.unusedVariables false

/-- What the law holds: the row's box, the book, the row, two boxes that are the same. -/
structure NQ (w0 w : World) (z : Nat) (ba : Option Addr) (d : Nat) (F G : Nat → Int) (r : RowV) (x1 x2 x3 : List Int) (b1 b2 : Option Addr) (m : Nat) (F1 G1 : Nat → Int) : Prop where
  box : TriW w z (.slice r.a1 r.m1 r.k1) (.slice r.a2 r.m2 r.k2) (.slice r.a3 r.m3 r.k3)
  book : PRow w ba d F G
  row : r.is w x1 x2 x3
  one : PRow w b1 m F1 G1
  two : PRow w b2 m F1 G1
  bel : Below w0.heap.size w0 w

theorem NQ.below {w0 w w' : World} {z : Nat} {ba : Option Addr} {d : Nat} {F G : Nat → Int} {r : RowV} {x1 x2 x3 : List Int} {b1 b2 : Option Addr} {m : Nat} {F1 G1 : Nat → Int} (h : NQ w0 w z ba d F G r x1 x2 x3 b1 b2 m F1 G1) (hb : Below w.heap.size w w') : NQ w0 w' z ba d F G r x1 x2 x3 b1 b2 m F1 G1 :=
  ⟨h.box.below hb, h.book.below hb, h.row.below hb, h.one.below hb, h.two.below hb, bstep h.bel hb⟩

theorem NQ.drew {w0 w : World} {z : Nat} {ba : Option Addr} {d : Nat} {F G : Nat → Int} {r : RowV} {x1 x2 x3 : List Int} {b1 b2 : Option Addr} {m : Nat} {F1 G1 : Nat → Int} (h : NQ w0 w z ba d F G r x1 x2 x3 b1 b2 m F1 G1) : NQ w0 w.drew z ba d F G r x1 x2 x3 b1 b2 m F1 G1 := h.below (Below.drew (Below.refl _ _))

theorem ibox_prow {w w' : World} {a : Option Addr} {m : Nat} {F G : Nat → Int} (h : m = 0 ∨ ∃ b, a = some ⟨b, 0, none⟩ ∧ w.heap.size ≤ b ∧ b < w'.heap.size ∧ OwnP w' b m F G) : PRow w' a m F G := by
  rcases h with h0 | ⟨b5, e5, _, _, o5⟩
  · exact ⟨.inl h0⟩
  · rw [e5]; exact o5.prow

theorem same_all (n : Nat) (f g : Nat → Int) : sameB n f g f g = true := allN_yes fun i _ => by simp

set_option maxHeartbeats 16000000 in
set_option maxRecDepth 4000 in
theorem rowNested_walk (a : Option Addr) (n cap : Nat) (zs : List Int) (w : World) (h : IsRow .u8 w a n cap zs) :
    Calls Try.prog 4 #[.slice a n cap] w fun e w' => e = .returned (.bool true) ∧ Below w.heap.size w w' := by
  have BG := hide (big_any a n cap w)
  by_cases hn : n ≤ 1048576
  · rw [decide_eq_false (show ¬ 1048576 < n by omega)] at BG
    have DR := hide (drawBoxOf_any a n cap w (h.code hn))
    clear h
    go_enter Try.func4, Try.ntmps4
    go_wp2_with fail
    refine BG.out.mono ?_
    rintro e w' ⟨rfl, hw⟩
    obtain rfl := hw.symm
    clear BG hw
    go_wp2_with fail
    refine DR.out.mono ?_
    rintro e w1 ⟨ba, d, cp, F, G, a1, n1, k1, x1, a2, n2, k2, x2, a3, n3, k3, x3, t, rfl, hd, hp, _, _, _, r1, r2, r3, hb1⟩
    have ba1 : Below w1.heap.size w1 (w1.alloc (.cells #[.slice a1 n1 k1, .slice a2 n2 k2, .slice a3 n3 k3] 29)) := balloc (Below.refl _ _) _
    have P1 := hide (hp.below ba1)
    have V1 : Hid (RowV.is ⟨a1, a2, a3, n1, n2, n3, k1, k2, k3⟩ _ _ _ _) := hide (RowV.is.below (⟨r1, r2, r3⟩ : RowV.is ⟨a1, a2, a3, n1, n2, n3, k1, k2, k3⟩ w1 _ _ _) ba1)
    have X1 := hide (TriW.new w1 (.slice a1 n1 k1) (.slice a2 n2 k2) (.slice a3 n3 k3) 29 _ rfl)
    have B1 := hide (bstep hb1 ba1)
    have IB := hide (fun t w1 hp hr => iBoxOf_any ba d cp F G ⟨a1, a2, a3, n1, n2, n3, k1, k2, k3⟩ x1 x2 x3 t w1 hp hr)
    have SB := hide (fun w1 hp hr => sBoxOf_any ba d cp F G ⟨a1, a2, a3, n1, n2, n3, k1, k2, k3⟩ x1 x2 x3 t w1 hp hr (by omega))
    have IO := hide (fun w1 hp hr => iRowOk_any ba d cp F G ⟨a1, a2, a3, n1, n2, n3, k1, k2, k3⟩ x1 x2 x3 w1 hp hr)
    have SO := hide (fun w1 hp hr => sRowOk_any ba d cp F G ⟨a1, a2, a3, n1, n2, n3, k1, k2, k3⟩ x1 x2 x3 w1 hp hr (by omega))
    have NE := hide (fun h => row_nest (n := d) (f := F) (g := G) (L1 := x1) (L2 := x2) (L3 := x3) h)
    obtain ⟨rk, hrk⟩ : ∃ v, rowOkB d F G x1 x2 x3 = v := ⟨_, rfl⟩
    simp only [hrk] at IB SB IO SO NE
    unfold RowV.v at IB SB IO SO
    simp only at IB SB IO SO
    have u1 : (rk != rk) = false := by cases rk <;> rfl
    have u2 : (rk == rk) = true := by cases rk <;> rfl
    obtain ⟨ok, hok⟩ : ∃ v, (rk && tierB t) = v := ⟨_, rfl⟩
    have SB1 := SB.out
    simp only [hok] at SB1
    have SBH := hide SB1
    have IB1 := IB.out t
    simp only [hok] at IB1
    have IBH := hide IB1
    have HOK : Hid (ok = true → rk = true) := hide (fun q => by rw [q] at hok; cases rk <;> simp_all)
    clear hp r1 r2 r3 hb1 ba1 hrk hok DR SB SB1 IB1
    obtain ⟨z, hz⟩ : ∃ z, w1.heap.size = z := ⟨_, rfl⟩
    rw [hz] at X1
    obtain ⟨W1, hW1⟩ : ∃ W, w1.alloc (.cells #[.slice a1 n1 k1, .slice a2 n2 k2, .slice a3 n3 k3] 29) = W := ⟨_, rfl⟩
    rw [hW1] at P1 V1 X1 B1
    obtain ⟨_, t0, t1, t2, _, _, _⟩ := X1.out
    have HZ := hide hz
    have HW1 := hide hW1
    clear hz hW1
    go_wp2_with fail
    rw [HZ.out, HW1.out]
    clear HZ HW1
    go_wp2_with fail
    refine (IBH.out _ P1.out V1.out).mono ?_
    rintro e w2 ⟨bx, m, rfl, hm, hbl, hb2⟩
    have P2 := hide (P1.out.below hb2)
    have V2 := hide (V1.out.below hb2)
    have X2 := hide (X1.out.below hb2)
    have B2 := hide (bstep B1.out hb2)
    have O2 := hide (ibox_prow hbl)
    have HM := hide hm
    clear t0 t1 t2 hb2 P1 V1 X1 B1 hbl hm IBH
    obtain ⟨_, t0, t1, t2, _, _, _⟩ := X2.out
    go_wp2_with fail
    refine (SBH.out _ P2.out V2.out).mono ?_
    rintro e w3 ⟨by', m', cy, rfl, hm', hp3, hb3⟩
    have em : m' = m := by rw [hm', HM.out]
    rw [em] at hp3 ⊢
    have Q3 : Hid (NQ w w3 z ba d F G ⟨a1, a2, a3, n1, n2, n3, k1, k2, k3⟩ x1 x2 x3 bx by' m _ _) := hide ⟨X2.out.below hb3, P2.out.below hb3, V2.out.below hb3, O2.out.below hb3, hp3, bstep B2.out hb3⟩
    clear t0 t1 t2 hb3 hp3 P2 V2 X2 B2 O2 hm' em SBH
    have hm8 : m ≤ 1048576 := by have := HM.out; rw [this]; split <;> omega
    have SR := hide (fun w1 (q : NQ w w1 z ba d F G ⟨a1, a2, a3, n1, n2, n3, k1, k2, k3⟩ x1 x2 x3 bx by' m (boxF F G t (tierL t x1 x2 x3)) (boxG F G t (tierL t x1 x2 x3))) => sameRanges_any bx by' m m m cy _ _ _ _ w1 q.one q.two hm8)
    simp only [same_all, decide_true, Bool.and_true] at SR
    have IOQ := hide (fun w1 (q : NQ w w1 z ba d F G ⟨a1, a2, a3, n1, n2, n3, k1, k2, k3⟩ x1 x2 x3 bx by' m (boxF F G t (tierL t x1 x2 x3)) (boxG F G t (tierL t x1 x2 x3))) => IO.out w1 q.book q.row)
    have SOQ := hide (fun w1 (q : NQ w w1 z ba d F G ⟨a1, a2, a3, n1, n2, n3, k1, k2, k3⟩ x1 x2 x3 bx by' m (boxF F G t (tierL t x1 x2 x3)) (boxG F G t (tierL t x1 x2 x3))) => SO.out w1 q.book q.row)
    clear IO SO
    cases ok
    · go_wp2_with fail
      refine wp_region_held_drew (S := fun wx => NQ w wx z ba d F G ⟨a1, a2, a3, n1, n2, n3, k1, k2, k3⟩ x1 x2 x3 bx by' m (boxF F G t (tierL t x1 x2 x3)) (boxG F G t (tierL t x1 x2 x3))) (by kernel_rfl) (Q3.out.drew) (fun hH0 => ?_)
      refine wpAnyH_take (i := 0) (oi := { dst := some 38, op := _, type := _, pos := _, after := _, guard := _ }) (v := ?_) rfl (by kernel_rfl) (by kernel_rfl) (by kernel_rfl) (fun _ _ _ h => h) (Or.inl ⟨by rfl, ?_⟩) (hH0) ?_
      rotate_left
      · (intro wx hSw; obtain ⟨⟨_, y0, y1, y2, _, _, _⟩, _, _, _, _, _⟩ := hSw; go_simp <;> with_reducible rfl)
      simp only [Act.put, List.setIfInBounds_toArray, List.set_cons_zero, List.set_cons_succ]
      refine wpAnyH_take (i := 1) (oi := { dst := some 39, op := _, type := _, pos := _, after := _, guard := _ }) (v := ?_) rfl (by kernel_rfl) (by kernel_rfl) (by kernel_rfl) (fun _ _ _ h => h) (Or.inl ⟨by rfl, ?_⟩) (hH0) ?_
      rotate_left
      · (intro wx hSw; obtain ⟨⟨_, y0, y1, y2, _, _, _⟩, _, _, _, _, _⟩ := hSw; go_simp <;> with_reducible rfl)
      simp only [Act.put, List.setIfInBounds_toArray, List.set_cons_zero, List.set_cons_succ]
      refine wpAnyH_take (i := 2) (oi := { dst := some 40, op := _, type := _, pos := _, after := _, guard := _ }) (v := ?_) rfl (by kernel_rfl) (by kernel_rfl) (by kernel_rfl) (fun _ _ _ h => h) (Or.inl ⟨by rfl, ?_⟩) (hH0) ?_
      rotate_left
      · (intro wx hSw; obtain ⟨⟨_, y0, y1, y2, _, _, _⟩, _, _, _, _, _⟩ := hSw; go_simp <;> with_reducible rfl)
      simp only [Act.put, List.setIfInBounds_toArray, List.set_cons_zero, List.set_cons_succ]
      refine wpAnyH_take (i := 3) (oi := { dst := some 41, op := _, type := _, pos := _, after := _, guard := _ }) (v := ?_) rfl (by kernel_rfl) (by kernel_rfl) (by kernel_rfl) (fun _ _ _ h => h) (Or.inl ⟨by rfl, ?_⟩) (hH0) ?_
      rotate_left
      · (intro wx hSw; obtain ⟨⟨_, y0, y1, y2, _, _, _⟩, _, _, _, _, _⟩ := hSw; go_simp <;> with_reducible rfl)
      simp only [Act.put, List.setIfInBounds_toArray, List.set_cons_zero, List.set_cons_succ]
      refine wpAnyH_take (i := 4) (oi := { dst := some 42, op := _, type := _, pos := _, after := _, guard := _ }) (v := ?_) rfl (by kernel_rfl) (by kernel_rfl) (by kernel_rfl) (fun _ _ _ h => h) (Or.inl ⟨by rfl, ?_⟩) (hH0) ?_
      rotate_left
      · (intro wx hSw; obtain ⟨⟨_, y0, y1, y2, _, _, _⟩, _, _, _, _, _⟩ := hSw; go_simp <;> with_reducible rfl)
      simp only [Act.put, List.setIfInBounds_toArray, List.set_cons_zero, List.set_cons_succ]
      refine wpAnyH_take (i := 5) (oi := { dst := some 43, op := _, type := _, pos := _, after := _, guard := _ }) (v := ?_) rfl (by kernel_rfl) (by kernel_rfl) (by kernel_rfl) (fun _ _ _ h => h) (Or.inl ⟨by rfl, ?_⟩) (hH0) ?_
      rotate_left
      · (intro wx hSw; obtain ⟨⟨_, y0, y1, y2, _, _, _⟩, _, _, _, _, _⟩ := hSw; go_simp <;> with_reducible rfl)
      simp only [Act.put, List.setIfInBounds_toArray, List.set_cons_zero, List.set_cons_succ]
      refine wpAnyH_ready (rs := [6]) (by kernel_rfl) (by simp) ?_
      refine AllReadyH.cons (o := { dst := some 44, op := _, type := _, pos := _, after := _, guard := _ }) rfl (fun K hK => ?_) AllReadyH.nil
      go_simp
      refine (SR.out _ hH0).mono ?_
      rintro e w_c44_1 ⟨rfl, hb_c44_1⟩
      dsimp only
      refine hK.out _ _ (NQ.below hH0 hb_c44_1) (fun hH1 => ?_)
      clear hK K
      refine wpAnyH_take (i := 7) (oi := { dst := some 45, op := _, type := _, pos := _, after := _, guard := _ }) (v := ?_) rfl (by kernel_rfl) (by kernel_rfl) (by kernel_rfl) (fun _ _ _ h => h) (Or.inl ⟨by rfl, ?_⟩) (hH1) ?_
      rotate_left
      · (intro wx hSw; obtain ⟨⟨_, y0, y1, y2, _, _, _⟩, _, _, _, _, _⟩ := hSw; go_simp <;> with_reducible rfl)
      simp only [Act.put, List.setIfInBounds_toArray, List.set_cons_zero, List.set_cons_succ]
      refine wpAnyH_take (i := 8) (oi := { dst := some 46, op := _, type := _, pos := _, after := _, guard := _ }) (v := ?_) rfl (by kernel_rfl) (by kernel_rfl) (by kernel_rfl) (fun _ _ _ h => h) (Or.inl ⟨by rfl, ?_⟩) (hH1) ?_
      rotate_left
      · (intro wx hSw; obtain ⟨⟨_, y0, y1, y2, _, _, _⟩, _, _, _, _, _⟩ := hSw; go_simp <;> with_reducible rfl)
      simp only [Act.put, List.setIfInBounds_toArray, List.set_cons_zero, List.set_cons_succ]
      refine wpAnyH_take (i := 9) (oi := { dst := some 47, op := _, type := _, pos := _, after := _, guard := _ }) (v := ?_) rfl (by kernel_rfl) (by kernel_rfl) (by kernel_rfl) (fun _ _ _ h => h) (Or.inl ⟨by rfl, ?_⟩) (hH1) ?_
      rotate_left
      · (intro wx hSw; obtain ⟨⟨_, y0, y1, y2, _, _, _⟩, _, _, _, _, _⟩ := hSw; go_simp <;> with_reducible rfl)
      simp only [Act.put, List.setIfInBounds_toArray, List.set_cons_zero, List.set_cons_succ]
      refine wpAnyH_take (i := 10) (oi := { dst := some 48, op := _, type := _, pos := _, after := _, guard := _ }) (v := ?_) rfl (by kernel_rfl) (by kernel_rfl) (by kernel_rfl) (fun _ _ _ h => h) (Or.inl ⟨by rfl, ?_⟩) (hH1) ?_
      rotate_left
      · (intro wx hSw; obtain ⟨⟨_, y0, y1, y2, _, _, _⟩, _, _, _, _, _⟩ := hSw; go_simp <;> with_reducible rfl)
      simp only [Act.put, List.setIfInBounds_toArray, List.set_cons_zero, List.set_cons_succ]
      refine wpAnyH_take (i := 11) (oi := { dst := some 49, op := _, type := _, pos := _, after := _, guard := _ }) (v := ?_) rfl (by kernel_rfl) (by kernel_rfl) (by kernel_rfl) (fun _ _ _ h => h) (Or.inl ⟨by rfl, ?_⟩) (hH1) ?_
      rotate_left
      · (intro wx hSw; obtain ⟨⟨_, y0, y1, y2, _, _, _⟩, _, _, _, _, _⟩ := hSw; go_simp <;> with_reducible rfl)
      simp only [Act.put, List.setIfInBounds_toArray, List.set_cons_zero, List.set_cons_succ]
      refine wpAnyH_take (i := 13) (oi := { dst := some 51, op := _, type := _, pos := _, after := _, guard := _ }) (v := ?_) rfl (by kernel_rfl) (by kernel_rfl) (by kernel_rfl) (fun _ _ _ h => h) (Or.inl ⟨by rfl, ?_⟩) (hH1) ?_
      rotate_left
      · (intro wx hSw; obtain ⟨⟨_, y0, y1, y2, _, _, _⟩, _, _, _, _, _⟩ := hSw; go_simp <;> with_reducible rfl)
      simp only [Act.put, List.setIfInBounds_toArray, List.set_cons_zero, List.set_cons_succ]
      refine wpAnyH_take (i := 14) (oi := { dst := some 52, op := _, type := _, pos := _, after := _, guard := _ }) (v := ?_) rfl (by kernel_rfl) (by kernel_rfl) (by kernel_rfl) (fun _ _ _ h => h) (Or.inl ⟨by rfl, ?_⟩) (hH1) ?_
      rotate_left
      · (intro wx hSw; obtain ⟨⟨_, y0, y1, y2, _, _, _⟩, _, _, _, _, _⟩ := hSw; go_simp <;> with_reducible rfl)
      simp only [Act.put, List.setIfInBounds_toArray, List.set_cons_zero, List.set_cons_succ]
      refine wpAnyH_ready (rs := [12]) (by kernel_rfl) (by simp) ?_
      refine AllReadyH.cons (o := { dst := some 50, op := _, type := _, pos := _, after := _, guard := _ }) rfl (fun K hK => ?_) AllReadyH.nil
      go_simp
      refine (IOQ.out _ hH1).mono ?_
      rintro e w_c50_2 ⟨rfl, hb_c50_2⟩
      dsimp only
      refine hK.out _ _ (NQ.below hH1 hb_c50_2) (fun hH2 => ?_)
      clear hK K
      refine wpAnyH_ready (rs := [15]) (by kernel_rfl) (by simp) ?_
      refine AllReadyH.cons (o := { dst := some 53, op := _, type := _, pos := _, after := _, guard := _ }) rfl (fun K hK => ?_) AllReadyH.nil
      go_simp
      refine (SOQ.out _ hH2).mono ?_
      rintro e w_c53_3 ⟨rfl, hb_c53_3⟩
      dsimp only
      refine hK.out _ _ (NQ.below hH2 hb_c53_3) (fun hH3 => ?_)
      clear hK K
      refine wpAnyH_take (i := 16) (oi := { dst := some 54, op := _, type := _, pos := _, after := _, guard := _ }) (v := ?_) rfl (by kernel_rfl) (by kernel_rfl) (by kernel_rfl) (fun _ _ _ h => h) (Or.inl ⟨by rfl, ?_⟩) (hH3) ?_
      rotate_left
      · (intro wx hSw; obtain ⟨⟨_, y0, y1, y2, _, _, _⟩, _, _, _, _, _⟩ := hSw; go_simp <;> with_reducible rfl)
      simp only [Act.put, List.setIfInBounds_toArray, List.set_cons_zero, List.set_cons_succ]
      refine wpAnyH_take (i := 17) (oi := { dst := some 55, op := _, type := _, pos := _, after := _, guard := _ }) (v := ?_) rfl (by kernel_rfl) (by kernel_rfl) (by kernel_rfl) (fun _ _ _ h => h) (Or.inl ⟨by rfl, ?_⟩) (hH3) ?_
      rotate_left
      · (intro wx hSw; obtain ⟨⟨_, y0, y1, y2, _, _, _⟩, _, _, _, _, _⟩ := hSw; go_simp <;> with_reducible rfl)
      simp only [Act.put, List.setIfInBounds_toArray, List.set_cons_zero, List.set_cons_succ]
      refine wpAnyH_take (i := 18) (oi := { dst := some 56, op := _, type := _, pos := _, after := _, guard := _ }) (v := ?_) rfl (by kernel_rfl) (by kernel_rfl) (by kernel_rfl) (fun _ _ _ h => h) (Or.inl ⟨by rfl, ?_⟩) (hH3) ?_
      rotate_left
      · (intro wx hSw; obtain ⟨⟨_, y0, y1, y2, _, _, _⟩, _, _, _, _, _⟩ := hSw; go_simp <;> with_reducible rfl)
      simp only [Act.put, List.setIfInBounds_toArray, List.set_cons_zero, List.set_cons_succ]
      refine wpAnyH_take (i := 19) (oi := { dst := some 57, op := _, type := _, pos := _, after := _, guard := _ }) (v := ?_) rfl (by kernel_rfl) (by kernel_rfl) (by kernel_rfl) (fun _ _ _ h => h) (Or.inl ⟨by rfl, ?_⟩) (hH3) ?_
      rotate_left
      · (intro wx hSw; obtain ⟨⟨_, y0, y1, y2, _, _, _⟩, _, _, _, _, _⟩ := hSw; go_simp <;> with_reducible rfl)
      simp only [Act.put, List.setIfInBounds_toArray, List.set_cons_zero, List.set_cons_succ]
      refine wpAnyH_take (i := 20) (oi := { dst := some 58, op := _, type := _, pos := _, after := _, guard := _ }) (v := ?_) rfl (by kernel_rfl) (by kernel_rfl) (by kernel_rfl) (fun _ _ _ h => h) (Or.inl ⟨by rfl, ?_⟩) (hH3) ?_
      rotate_left
      · (intro wx hSw; obtain ⟨⟨_, y0, y1, y2, _, _, _⟩, _, _, _, _, _⟩ := hSw; go_simp <;> with_reducible rfl)
      simp only [Act.put, List.setIfInBounds_toArray, List.set_cons_zero, List.set_cons_succ]
      refine wpAnyH_take (i := 21) (oi := { dst := some 59, op := _, type := _, pos := _, after := _, guard := _ }) (v := ?_) rfl (by kernel_rfl) (by kernel_rfl) (by kernel_rfl) (fun _ _ _ h => h) (Or.inl ⟨by rfl, ?_⟩) (hH3) ?_
      rotate_left
      · (intro wx hSw; obtain ⟨⟨_, y0, y1, y2, _, _, _⟩, _, _, _, _, _⟩ := hSw; go_simp <;> with_reducible rfl)
      simp only [Act.put, List.setIfInBounds_toArray, List.set_cons_zero, List.set_cons_succ]
      refine wpAnyH_done (by kernel_rfl) ?_ _
      -- behind it: go_wp2_with fail, then go_meet (a cut) or go_ret; the condition at the end: hH3
      have Q6 := hide hH3
      go_wp2_with fail
      refine wp_region_held_drew (S := fun wx => NQ w wx z ba d F G ⟨a1, a2, a3, n1, n2, n3, k1, k2, k3⟩ x1 x2 x3 bx by' m (boxF F G t (tierL t x1 x2 x3)) (boxG F G t (tierL t x1 x2 x3))) (by kernel_rfl) (Q6.out.drew) (fun hH0 => ?_)
      refine wpAnyH_take (i := 0) (oi := { dst := some 60, op := _, type := _, pos := _, after := _, guard := _ }) (v := ?_) rfl (by kernel_rfl) (by kernel_rfl) (by kernel_rfl) (fun _ _ _ h => h) (Or.inl ⟨by rfl, ?_⟩) (hH0) ?_
      rotate_left
      · (intro wx hSw; obtain ⟨⟨_, y0, y1, y2, _, _, _⟩, _, _, _, _, _⟩ := hSw; go_simp <;> with_reducible rfl)
      simp only [Act.put, List.setIfInBounds_toArray, List.set_cons_zero, List.set_cons_succ]
      refine wpAnyH_take (i := 1) (oi := { dst := some 61, op := _, type := _, pos := _, after := _, guard := _ }) (v := ?_) rfl (by kernel_rfl) (by kernel_rfl) (by kernel_rfl) (fun _ _ _ h => h) (Or.inl ⟨by rfl, ?_⟩) (hH0) ?_
      rotate_left
      · (intro wx hSw; obtain ⟨⟨_, y0, y1, y2, _, _, _⟩, _, _, _, _, _⟩ := hSw; go_simp <;> with_reducible rfl)
      simp only [Act.put, List.setIfInBounds_toArray, List.set_cons_zero, List.set_cons_succ]
      refine wpAnyH_take (i := 2) (oi := { dst := some 62, op := _, type := _, pos := _, after := _, guard := _ }) (v := ?_) rfl (by kernel_rfl) (by kernel_rfl) (by kernel_rfl) (fun _ _ _ h => h) (Or.inl ⟨by rfl, ?_⟩) (hH0) ?_
      rotate_left
      · (intro wx hSw; obtain ⟨⟨_, y0, y1, y2, _, _, _⟩, _, _, _, _, _⟩ := hSw; go_simp <;> with_reducible rfl)
      simp only [Act.put, List.setIfInBounds_toArray, List.set_cons_zero, List.set_cons_succ]
      refine wpAnyH_take (i := 3) (oi := { dst := some 63, op := _, type := _, pos := _, after := _, guard := _ }) (v := ?_) rfl (by kernel_rfl) (by kernel_rfl) (by kernel_rfl) (fun _ _ _ h => h) (Or.inl ⟨by rfl, ?_⟩) (hH0) ?_
      rotate_left
      · (intro wx hSw; obtain ⟨⟨_, y0, y1, y2, _, _, _⟩, _, _, _, _, _⟩ := hSw; go_simp <;> with_reducible rfl)
      simp only [Act.put, List.setIfInBounds_toArray, List.set_cons_zero, List.set_cons_succ]
      refine wpAnyH_take (i := 4) (oi := { dst := some 64, op := _, type := _, pos := _, after := _, guard := _ }) (v := ?_) rfl (by kernel_rfl) (by kernel_rfl) (by kernel_rfl) (fun _ _ _ h => h) (Or.inl ⟨by rfl, ?_⟩) (hH0) ?_
      rotate_left
      · (intro wx hSw; obtain ⟨⟨_, y0, y1, y2, _, _, _⟩, _, _, _, _, _⟩ := hSw; go_simp <;> with_reducible rfl)
      simp only [Act.put, List.setIfInBounds_toArray, List.set_cons_zero, List.set_cons_succ]
      refine wpAnyH_take (i := 5) (oi := { dst := some 65, op := _, type := _, pos := _, after := _, guard := _ }) (v := ?_) rfl (by kernel_rfl) (by kernel_rfl) (by kernel_rfl) (fun _ _ _ h => h) (Or.inl ⟨by rfl, ?_⟩) (hH0) ?_
      rotate_left
      · (intro wx hSw; obtain ⟨⟨_, y0, y1, y2, _, _, _⟩, _, _, _, _, _⟩ := hSw; go_simp <;> with_reducible rfl)
      simp only [Act.put, List.setIfInBounds_toArray, List.set_cons_zero, List.set_cons_succ]
      refine wpAnyH_ready (rs := [6]) (by kernel_rfl) (by simp) ?_
      refine AllReadyH.cons (o := { dst := some 66, op := _, type := _, pos := _, after := _, guard := _ }) rfl (fun K hK => ?_) AllReadyH.nil
      go_simp
      refine (SR.out _ hH0).mono ?_
      rintro e w_c66_1 ⟨rfl, hb_c66_1⟩
      dsimp only
      refine hK.out _ _ (NQ.below hH0 hb_c66_1) (fun hH1 => ?_)
      clear hK K
      refine wpAnyH_take (i := 7) (oi := { dst := some 67, op := _, type := _, pos := _, after := _, guard := _ }) (v := ?_) rfl (by kernel_rfl) (by kernel_rfl) (by kernel_rfl) (fun _ _ _ h => h) (Or.inl ⟨by rfl, ?_⟩) (hH1) ?_
      rotate_left
      · (intro wx hSw; obtain ⟨⟨_, y0, y1, y2, _, _, _⟩, _, _, _, _, _⟩ := hSw; go_simp <;> with_reducible rfl)
      simp only [Act.put, List.setIfInBounds_toArray, List.set_cons_zero, List.set_cons_succ]
      refine wpAnyH_take (i := 8) (oi := { dst := some 68, op := _, type := _, pos := _, after := _, guard := _ }) (v := ?_) rfl (by kernel_rfl) (by kernel_rfl) (by kernel_rfl) (fun _ _ _ h => h) (Or.inl ⟨by rfl, ?_⟩) (hH1) ?_
      rotate_left
      · (intro wx hSw; obtain ⟨⟨_, y0, y1, y2, _, _, _⟩, _, _, _, _, _⟩ := hSw; go_simp <;> with_reducible rfl)
      simp only [Act.put, List.setIfInBounds_toArray, List.set_cons_zero, List.set_cons_succ]
      refine wpAnyH_take (i := 9) (oi := { dst := some 69, op := _, type := _, pos := _, after := _, guard := _ }) (v := ?_) rfl (by kernel_rfl) (by kernel_rfl) (by kernel_rfl) (fun _ _ _ h => h) (Or.inl ⟨by rfl, ?_⟩) (hH1) ?_
      rotate_left
      · (intro wx hSw; obtain ⟨⟨_, y0, y1, y2, _, _, _⟩, _, _, _, _, _⟩ := hSw; go_simp <;> with_reducible rfl)
      simp only [Act.put, List.setIfInBounds_toArray, List.set_cons_zero, List.set_cons_succ]
      refine wpAnyH_take (i := 10) (oi := { dst := some 70, op := _, type := _, pos := _, after := _, guard := _ }) (v := ?_) rfl (by kernel_rfl) (by kernel_rfl) (by kernel_rfl) (fun _ _ _ h => h) (Or.inl ⟨by rfl, ?_⟩) (hH1) ?_
      rotate_left
      · (intro wx hSw; obtain ⟨⟨_, y0, y1, y2, _, _, _⟩, _, _, _, _, _⟩ := hSw; go_simp <;> with_reducible rfl)
      simp only [Act.put, List.setIfInBounds_toArray, List.set_cons_zero, List.set_cons_succ]
      refine wpAnyH_take (i := 12) (oi := { dst := some 72, op := _, type := _, pos := _, after := _, guard := _ }) (v := ?_) rfl (by kernel_rfl) (by kernel_rfl) (by kernel_rfl) (fun _ _ _ h => h) (Or.inl ⟨by rfl, ?_⟩) (hH1) ?_
      rotate_left
      · (intro wx hSw; obtain ⟨⟨_, y0, y1, y2, _, _, _⟩, _, _, _, _, _⟩ := hSw; go_simp <;> with_reducible rfl)
      simp only [Act.put, List.setIfInBounds_toArray, List.set_cons_zero, List.set_cons_succ]
      refine wpAnyH_take (i := 13) (oi := { dst := some 73, op := _, type := _, pos := _, after := _, guard := _ }) (v := ?_) rfl (by kernel_rfl) (by kernel_rfl) (by kernel_rfl) (fun _ _ _ h => h) (Or.inl ⟨by rfl, ?_⟩) (hH1) ?_
      rotate_left
      · (intro wx hSw; obtain ⟨⟨_, y0, y1, y2, _, _, _⟩, _, _, _, _, _⟩ := hSw; go_simp <;> with_reducible rfl)
      simp only [Act.put, List.setIfInBounds_toArray, List.set_cons_zero, List.set_cons_succ]
      refine wpAnyH_ready (rs := [11]) (by kernel_rfl) (by simp) ?_
      refine AllReadyH.cons (o := { dst := some 71, op := _, type := _, pos := _, after := _, guard := _ }) rfl (fun K hK => ?_) AllReadyH.nil
      go_simp
      refine (IOQ.out _ hH1).mono ?_
      rintro e w_c71_2 ⟨rfl, hb_c71_2⟩
      dsimp only
      refine hK.out _ _ (NQ.below hH1 hb_c71_2) (fun hH2 => ?_)
      clear hK K
      refine wpAnyH_ready (rs := [14]) (by kernel_rfl) (by simp) ?_
      refine AllReadyH.cons (o := { dst := some 74, op := _, type := _, pos := _, after := _, guard := _ }) rfl (fun K hK => ?_) AllReadyH.nil
      go_simp
      refine (SOQ.out _ hH2).mono ?_
      rintro e w_c74_3 ⟨rfl, hb_c74_3⟩
      dsimp only
      refine hK.out _ _ (NQ.below hH2 hb_c74_3) (fun hH3 => ?_)
      clear hK K
      refine wpAnyH_take (i := 15) (oi := { dst := some 75, op := _, type := _, pos := _, after := _, guard := _ }) (v := ?_) rfl (by kernel_rfl) (by kernel_rfl) (by kernel_rfl) (fun _ _ _ h => h) (Or.inl ⟨by rfl, ?_⟩) (hH3) ?_
      rotate_left
      · (intro wx hSw; obtain ⟨⟨_, y0, y1, y2, _, _, _⟩, _, _, _, _, _⟩ := hSw; go_simp <;> with_reducible rfl)
      simp only [Act.put, List.setIfInBounds_toArray, List.set_cons_zero, List.set_cons_succ]
      refine wpAnyH_take (i := 16) (oi := { dst := some 76, op := _, type := _, pos := _, after := _, guard := _ }) (v := ?_) rfl (by kernel_rfl) (by kernel_rfl) (by kernel_rfl) (fun _ _ _ h => h) (Or.inl ⟨by rfl, ?_⟩) (hH3) ?_
      rotate_left
      · (intro wx hSw; obtain ⟨⟨_, y0, y1, y2, _, _, _⟩, _, _, _, _, _⟩ := hSw; go_simp <;> with_reducible rfl)
      simp only [Act.put, List.setIfInBounds_toArray, List.set_cons_zero, List.set_cons_succ]
      refine wpAnyH_take (i := 17) (oi := { dst := some 2, op := _, type := _, pos := _, after := _, guard := _ }) (v := ?_) rfl (by kernel_rfl) (by kernel_rfl) (by kernel_rfl) (fun _ _ _ h => h) (Or.inl ⟨by rfl, ?_⟩) (hH3) ?_
      rotate_left
      · (intro wx hSw; obtain ⟨⟨_, y0, y1, y2, _, _, _⟩, _, _, _, _, _⟩ := hSw; go_simp <;> with_reducible rfl)
      simp only [Act.put, List.setIfInBounds_toArray, List.set_cons_zero, List.set_cons_succ]
      refine wpAnyH_done (by kernel_rfl) ?_ _
      -- behind it: go_wp2_with fail, then go_meet (a cut) or go_ret; the condition at the end: hH3
      have Q7 := hide hH3
      go_wp2_with fail
      go_ret
      exact ⟨rfl, Q7.out.bel⟩
    · obtain rfl := HOK.out rfl
      go_wp2_with fail
      refine wp_region_held_drew (S := fun wx => NQ w wx z ba d F G ⟨a1, a2, a3, n1, n2, n3, k1, k2, k3⟩ x1 x2 x3 bx by' m (boxF F G t (tierL t x1 x2 x3)) (boxG F G t (tierL t x1 x2 x3))) (by kernel_rfl) (Q3.out.drew) (fun hH0 => ?_)
      refine wpAnyH_take (i := 0) (oi := { dst := some 38, op := _, type := _, pos := _, after := _, guard := _ }) (v := ?_) rfl (by kernel_rfl) (by kernel_rfl) (by kernel_rfl) (fun _ _ _ h => h) (Or.inl ⟨by rfl, ?_⟩) (hH0) ?_
      rotate_left
      · (intro wx hSw; obtain ⟨⟨_, y0, y1, y2, _, _, _⟩, _, _, _, _, _⟩ := hSw; go_simp <;> with_reducible rfl)
      simp only [Act.put, List.setIfInBounds_toArray, List.set_cons_zero, List.set_cons_succ]
      refine wpAnyH_take (i := 1) (oi := { dst := some 39, op := _, type := _, pos := _, after := _, guard := _ }) (v := ?_) rfl (by kernel_rfl) (by kernel_rfl) (by kernel_rfl) (fun _ _ _ h => h) (Or.inl ⟨by rfl, ?_⟩) (hH0) ?_
      rotate_left
      · (intro wx hSw; obtain ⟨⟨_, y0, y1, y2, _, _, _⟩, _, _, _, _, _⟩ := hSw; go_simp <;> with_reducible rfl)
      simp only [Act.put, List.setIfInBounds_toArray, List.set_cons_zero, List.set_cons_succ]
      refine wpAnyH_take (i := 2) (oi := { dst := some 40, op := _, type := _, pos := _, after := _, guard := _ }) (v := ?_) rfl (by kernel_rfl) (by kernel_rfl) (by kernel_rfl) (fun _ _ _ h => h) (Or.inl ⟨by rfl, ?_⟩) (hH0) ?_
      rotate_left
      · (intro wx hSw; obtain ⟨⟨_, y0, y1, y2, _, _, _⟩, _, _, _, _, _⟩ := hSw; go_simp <;> with_reducible rfl)
      simp only [Act.put, List.setIfInBounds_toArray, List.set_cons_zero, List.set_cons_succ]
      refine wpAnyH_take (i := 3) (oi := { dst := some 41, op := _, type := _, pos := _, after := _, guard := _ }) (v := ?_) rfl (by kernel_rfl) (by kernel_rfl) (by kernel_rfl) (fun _ _ _ h => h) (Or.inl ⟨by rfl, ?_⟩) (hH0) ?_
      rotate_left
      · (intro wx hSw; obtain ⟨⟨_, y0, y1, y2, _, _, _⟩, _, _, _, _, _⟩ := hSw; go_simp <;> with_reducible rfl)
      simp only [Act.put, List.setIfInBounds_toArray, List.set_cons_zero, List.set_cons_succ]
      refine wpAnyH_take (i := 4) (oi := { dst := some 42, op := _, type := _, pos := _, after := _, guard := _ }) (v := ?_) rfl (by kernel_rfl) (by kernel_rfl) (by kernel_rfl) (fun _ _ _ h => h) (Or.inl ⟨by rfl, ?_⟩) (hH0) ?_
      rotate_left
      · (intro wx hSw; obtain ⟨⟨_, y0, y1, y2, _, _, _⟩, _, _, _, _, _⟩ := hSw; go_simp <;> with_reducible rfl)
      simp only [Act.put, List.setIfInBounds_toArray, List.set_cons_zero, List.set_cons_succ]
      refine wpAnyH_take (i := 5) (oi := { dst := some 43, op := _, type := _, pos := _, after := _, guard := _ }) (v := ?_) rfl (by kernel_rfl) (by kernel_rfl) (by kernel_rfl) (fun _ _ _ h => h) (Or.inl ⟨by rfl, ?_⟩) (hH0) ?_
      rotate_left
      · (intro wx hSw; obtain ⟨⟨_, y0, y1, y2, _, _, _⟩, _, _, _, _, _⟩ := hSw; go_simp <;> with_reducible rfl)
      simp only [Act.put, List.setIfInBounds_toArray, List.set_cons_zero, List.set_cons_succ]
      refine wpAnyH_ready (rs := [6]) (by kernel_rfl) (by simp) ?_
      refine AllReadyH.cons (o := { dst := some 44, op := _, type := _, pos := _, after := _, guard := _ }) rfl (fun K hK => ?_) AllReadyH.nil
      go_simp
      refine (SR.out _ hH0).mono ?_
      rintro e w_c44_1 ⟨rfl, hb_c44_1⟩
      dsimp only
      refine hK.out _ _ (NQ.below hH0 hb_c44_1) (fun hH1 => ?_)
      clear hK K
      refine wpAnyH_take (i := 7) (oi := { dst := some 45, op := _, type := _, pos := _, after := _, guard := _ }) (v := ?_) rfl (by kernel_rfl) (by kernel_rfl) (by kernel_rfl) (fun _ _ _ h => h) (Or.inl ⟨by rfl, ?_⟩) (hH1) ?_
      rotate_left
      · (intro wx hSw; obtain ⟨⟨_, y0, y1, y2, _, _, _⟩, _, _, _, _, _⟩ := hSw; go_simp <;> with_reducible rfl)
      simp only [Act.put, List.setIfInBounds_toArray, List.set_cons_zero, List.set_cons_succ]
      refine wpAnyH_take (i := 8) (oi := { dst := some 46, op := _, type := _, pos := _, after := _, guard := _ }) (v := ?_) rfl (by kernel_rfl) (by kernel_rfl) (by kernel_rfl) (fun _ _ _ h => h) (Or.inl ⟨by rfl, ?_⟩) (hH1) ?_
      rotate_left
      · (intro wx hSw; obtain ⟨⟨_, y0, y1, y2, _, _, _⟩, _, _, _, _, _⟩ := hSw; go_simp <;> with_reducible rfl)
      simp only [Act.put, List.setIfInBounds_toArray, List.set_cons_zero, List.set_cons_succ]
      refine wpAnyH_take (i := 9) (oi := { dst := some 47, op := _, type := _, pos := _, after := _, guard := _ }) (v := ?_) rfl (by kernel_rfl) (by kernel_rfl) (by kernel_rfl) (fun _ _ _ h => h) (Or.inl ⟨by rfl, ?_⟩) (hH1) ?_
      rotate_left
      · (intro wx hSw; obtain ⟨⟨_, y0, y1, y2, _, _, _⟩, _, _, _, _, _⟩ := hSw; go_simp <;> with_reducible rfl)
      simp only [Act.put, List.setIfInBounds_toArray, List.set_cons_zero, List.set_cons_succ]
      refine wpAnyH_take (i := 10) (oi := { dst := some 48, op := _, type := _, pos := _, after := _, guard := _ }) (v := ?_) rfl (by kernel_rfl) (by kernel_rfl) (by kernel_rfl) (fun _ _ _ h => h) (Or.inl ⟨by rfl, ?_⟩) (hH1) ?_
      rotate_left
      · (intro wx hSw; obtain ⟨⟨_, y0, y1, y2, _, _, _⟩, _, _, _, _, _⟩ := hSw; go_simp <;> with_reducible rfl)
      simp only [Act.put, List.setIfInBounds_toArray, List.set_cons_zero, List.set_cons_succ]
      refine wpAnyH_take (i := 11) (oi := { dst := some 49, op := _, type := _, pos := _, after := _, guard := _ }) (v := ?_) rfl (by kernel_rfl) (by kernel_rfl) (by kernel_rfl) (fun _ _ _ h => h) (Or.inl ⟨by rfl, ?_⟩) (hH1) ?_
      rotate_left
      · (intro wx hSw; obtain ⟨⟨_, y0, y1, y2, _, _, _⟩, _, _, _, _, _⟩ := hSw; go_simp <;> with_reducible rfl)
      simp only [Act.put, List.setIfInBounds_toArray, List.set_cons_zero, List.set_cons_succ]
      refine wpAnyH_take (i := 13) (oi := { dst := some 51, op := _, type := _, pos := _, after := _, guard := _ }) (v := ?_) rfl (by kernel_rfl) (by kernel_rfl) (by kernel_rfl) (fun _ _ _ h => h) (Or.inl ⟨by rfl, ?_⟩) (hH1) ?_
      rotate_left
      · (intro wx hSw; obtain ⟨⟨_, y0, y1, y2, _, _, _⟩, _, _, _, _, _⟩ := hSw; go_simp <;> with_reducible rfl)
      simp only [Act.put, List.setIfInBounds_toArray, List.set_cons_zero, List.set_cons_succ]
      refine wpAnyH_take (i := 14) (oi := { dst := some 52, op := _, type := _, pos := _, after := _, guard := _ }) (v := ?_) rfl (by kernel_rfl) (by kernel_rfl) (by kernel_rfl) (fun _ _ _ h => h) (Or.inl ⟨by rfl, ?_⟩) (hH1) ?_
      rotate_left
      · (intro wx hSw; obtain ⟨⟨_, y0, y1, y2, _, _, _⟩, _, _, _, _, _⟩ := hSw; go_simp <;> with_reducible rfl)
      simp only [Act.put, List.setIfInBounds_toArray, List.set_cons_zero, List.set_cons_succ]
      refine wpAnyH_ready (rs := [12]) (by kernel_rfl) (by simp) ?_
      refine AllReadyH.cons (o := { dst := some 50, op := _, type := _, pos := _, after := _, guard := _ }) rfl (fun K hK => ?_) AllReadyH.nil
      go_simp
      refine (IOQ.out _ hH1).mono ?_
      rintro e w_c50_2 ⟨rfl, hb_c50_2⟩
      dsimp only
      refine hK.out _ _ (NQ.below hH1 hb_c50_2) (fun hH2 => ?_)
      clear hK K
      refine wpAnyH_ready (rs := [15]) (by kernel_rfl) (by simp) ?_
      refine AllReadyH.cons (o := { dst := some 53, op := _, type := _, pos := _, after := _, guard := _ }) rfl (fun K hK => ?_) AllReadyH.nil
      go_simp
      refine (SOQ.out _ hH2).mono ?_
      rintro e w_c53_3 ⟨rfl, hb_c53_3⟩
      dsimp only
      refine hK.out _ _ (NQ.below hH2 hb_c53_3) (fun hH3 => ?_)
      clear hK K
      refine wpAnyH_take (i := 16) (oi := { dst := some 54, op := _, type := _, pos := _, after := _, guard := _ }) (v := ?_) rfl (by kernel_rfl) (by kernel_rfl) (by kernel_rfl) (fun _ _ _ h => h) (Or.inl ⟨by rfl, ?_⟩) (hH3) ?_
      rotate_left
      · (intro wx hSw; obtain ⟨⟨_, y0, y1, y2, _, _, _⟩, _, _, _, _, _⟩ := hSw; go_simp <;> with_reducible rfl)
      simp only [Act.put, List.setIfInBounds_toArray, List.set_cons_zero, List.set_cons_succ]
      refine wpAnyH_take (i := 17) (oi := { dst := some 55, op := _, type := _, pos := _, after := _, guard := _ }) (v := ?_) rfl (by kernel_rfl) (by kernel_rfl) (by kernel_rfl) (fun _ _ _ h => h) (Or.inl ⟨by rfl, ?_⟩) (hH3) ?_
      rotate_left
      · (intro wx hSw; obtain ⟨⟨_, y0, y1, y2, _, _, _⟩, _, _, _, _, _⟩ := hSw; go_simp <;> with_reducible rfl)
      simp only [Act.put, List.setIfInBounds_toArray, List.set_cons_zero, List.set_cons_succ]
      refine wpAnyH_take (i := 18) (oi := { dst := some 56, op := _, type := _, pos := _, after := _, guard := _ }) (v := ?_) rfl (by kernel_rfl) (by kernel_rfl) (by kernel_rfl) (fun _ _ _ h => h) (Or.inl ⟨by rfl, ?_⟩) (hH3) ?_
      rotate_left
      · (intro wx hSw; obtain ⟨⟨_, y0, y1, y2, _, _, _⟩, _, _, _, _, _⟩ := hSw; go_simp <;> with_reducible rfl)
      simp only [Act.put, List.setIfInBounds_toArray, List.set_cons_zero, List.set_cons_succ]
      refine wpAnyH_take (i := 19) (oi := { dst := some 57, op := _, type := _, pos := _, after := _, guard := _ }) (v := ?_) rfl (by kernel_rfl) (by kernel_rfl) (by kernel_rfl) (fun _ _ _ h => h) (Or.inl ⟨by rfl, ?_⟩) (hH3) ?_
      rotate_left
      · (intro wx hSw; obtain ⟨⟨_, y0, y1, y2, _, _, _⟩, _, _, _, _, _⟩ := hSw; go_simp <;> with_reducible rfl)
      simp only [Act.put, List.setIfInBounds_toArray, List.set_cons_zero, List.set_cons_succ]
      refine wpAnyH_take (i := 20) (oi := { dst := some 58, op := _, type := _, pos := _, after := _, guard := _ }) (v := ?_) rfl (by kernel_rfl) (by kernel_rfl) (by kernel_rfl) (fun _ _ _ h => h) (Or.inl ⟨by rfl, ?_⟩) (hH3) ?_
      rotate_left
      · (intro wx hSw; obtain ⟨⟨_, y0, y1, y2, _, _, _⟩, _, _, _, _, _⟩ := hSw; go_simp <;> with_reducible rfl)
      simp only [Act.put, List.setIfInBounds_toArray, List.set_cons_zero, List.set_cons_succ]
      refine wpAnyH_take (i := 21) (oi := { dst := some 59, op := _, type := _, pos := _, after := _, guard := _ }) (v := ?_) rfl (by kernel_rfl) (by kernel_rfl) (by kernel_rfl) (fun _ _ _ h => h) (Or.inl ⟨by rfl, ?_⟩) (hH3) ?_
      rotate_left
      · (intro wx hSw; obtain ⟨⟨_, y0, y1, y2, _, _, _⟩, _, _, _, _, _⟩ := hSw; go_simp <;> with_reducible rfl)
      simp only [Act.put, List.setIfInBounds_toArray, List.set_cons_zero, List.set_cons_succ]
      refine wpAnyH_done (by kernel_rfl) ?_ _
      -- behind it: go_wp2_with fail, then go_meet (a cut) or go_ret; the condition at the end: hH3
      have Q6 := hide hH3
      clear hH3 IOQ SOQ SR Q3
      obtain ⟨L32, L21⟩ := NE.out (by simp)
      have IB1 := IB.out 1
      have IB2 := IB.out 2
      have IB3 := IB.out 3
      simp only [show tierB 1 = true from rfl, show tierB 2 = true from rfl, show tierB 3 = true from rfl, Bool.and_self, show tierL 1 x1 x2 x3 = x1 from rfl, show tierL 2 x1 x2 x3 = x2 from rfl, show tierL 3 x1 x2 x3 = x3 from rfl] at IB1 IB2 IB3
      have J1 := hide IB1
      have J2 := hide IB2
      have J3 := hide IB3
      have M1 := hide L32
      have M2 := hide L21
      clear IB IB1 IB2 IB3 NE L32 L21
      obtain ⟨_, t0, t1, t2, _, _, _⟩ := Q6.out.box
      go_wp2_with fail
      refine (J1.out _ Q6.out.book Q6.out.row).mono ?_
      rintro e w4 ⟨c1, m1, rfl, hm1, hbl1, hb4⟩
      have e1 : d = m1 := by simpa using hm1.symm
      subst e1
      have O4 := hide (ibox_prow hbl1)
      have Q7 := hide (Q6.out.below hb4)
      clear t0 t1 t2 hb4 hbl1 hm1 Q6 J1
      obtain ⟨_, t0, t1, t2, _, _, _⟩ := Q7.out.box
      go_wp2_with fail
      refine (J2.out _ Q7.out.book Q7.out.row).mono ?_
      rintro e w5 ⟨c2, m2, rfl, hm2, hbl2, hb5⟩
      have e2 : d = m2 := by simpa using hm2.symm
      subst e2
      have O5 := hide (ibox_prow hbl2)
      have O5a := hide (O4.out.below hb5)
      have Q8 := hide (Q7.out.below hb5)
      clear t0 t1 t2 hb5 hbl2 hm2 Q7 J2 O4
      obtain ⟨_, t0, t1, t2, _, _, _⟩ := Q8.out.box
      go_wp2_with fail
      refine (J3.out _ Q8.out.book Q8.out.row).mono ?_
      rintro e w6 ⟨c3, m3, rfl, hm3, hbl3, hb6⟩
      have e3 : d = m3 := by simpa using hm3.symm
      subst e3
      have O6 := hide (ibox_prow hbl3)
      have O6a := hide (O5a.out.below hb6)
      have O6b := hide (O5.out.below hb6)
      have B6 := hide (bstep Q8.out.bel hb6)
      clear t0 t1 t2 hb6 hbl3 hm3 Q8 J3 O5 O5a
      have LQ := hide (fun w1 p q => iBoxLeq_any c3 c2 d d d d (boxF F G 3 x3) (boxG F G 3 x3) (boxF F G 2 x2) (boxG F G 2 x2) w1 p q)
      have LR := hide (fun w1 p q => iBoxLeq_any c2 c1 d d d d (boxF F G 2 x2) (boxG F G 2 x2) (boxF F G 1 x1) (boxG F G 1 x1) w1 p q)
      rw [M1.out] at LQ
      rw [M2.out] at LR
      clear M1 M2
      go_wp2_with fail
      refine (LQ.out _ O6.out O6b.out).mono ?_
      rintro e w7 ⟨rfl, hb7⟩
      have R7 := hide (O6b.out.below hb7)
      have R7a := hide (O6a.out.below hb7)
      have B7 := hide (bstep B6.out hb7)
      clear hb7 O6 O6a O6b LQ
      go_wp2_with fail
      refine (LR.out _ R7.out R7a.out).mono ?_
      rintro e w8 ⟨rfl, hb8⟩
      have B8 := hide (bstep B7.out hb8)
      clear hb8
      go_wp2_with fail
      go_ret
      exact ⟨rfl, B8.out⟩
  · rw [decide_eq_true (show 1048576 < n by omega)] at BG
    go_enter Try.func4, Try.ntmps4
    go_wp2_with fail
    refine BG.out.mono ?_
    rintro e w' ⟨rfl, rfl⟩
    go_wp2
    go_ret
    exact ⟨rfl, (by repeat' first | with_reducible exact Below.refl _ _ | with_reducible assumption | with_reducible refine below_drewN ?_ _ | with_reducible refine balloc ?_ _ | with_reducible refine Below.drew ?_ | with_reducible refine Below.setCell ?_ (by first | (simp; done) | (simp; omega) | omega) _ | with_reducible refine bstep ?_ (by assumption))⟩
end Go.Proofs.Ytoiaamcnmpdglaa
