/- The walks of FnExactHeapOk and FnExactHeapTop. -/
import Derived.Test.YtnpineeaekmabaaHG
namespace Go.Proofs.Ytnpineeaekmabaa
open Go.RowKit
set_option linter.unusedSimpArgs false
set_option linter.unusedVariables false

/-- A heap's box. -/
structure HBx (w : World) (b : Nat) (K : Int) (a : Option Addr) (n cap : Nat) : Prop where
  lt : b < w.heap.size
  c0 : w.cell? ⟨b, 0, none⟩ = some (.int .i64 K)
  c1 : w.cell? ⟨b, 1, none⟩ = some (.slice a n cap)
theorem HBx.below {w w' : World} {b : Nat} {K : Int} {a : Option Addr} {n cap : Nat} (h : HBx w b K a n cap) (B : Below w.heap.size w w') : HBx w' b K a n cap :=
  ⟨Nat.lt_of_lt_of_le h.lt B.size, (B.cell (p := ⟨b, 0, none⟩) h.lt).trans h.c0, (B.cell (p := ⟨b, 1, none⟩) h.lt).trans h.c1⟩
theorem HBx.drew {w : World} {b : Nat} {K : Int} {a : Option Addr} {n cap : Nat} (h : HBx w b K a n cap) : HBx w.drew b K a n cap := ⟨h.lt, h.c0, h.c1⟩
theorem HBx.alloc {w : World} {b : Nat} {K : Int} {a : Option Addr} {n cap : Nat} (h : HBx w b K a n cap) (o : Obj) : HBx (w.alloc o) b K a n cap :=
  h.below (balloc (Below.refl _ _) o)
theorem HBx.fresh (w : World) (t : TypeId) (K : Int) (a : Option Addr) (n cap : Nat) : HBx (w.alloc (.cells #[.int .i64 K, .slice a n cap] t)) w.heap.size K a n cap :=
  ⟨by simp, by simp [go_sem], by simp [go_sem]⟩
/-- Two of them. -/
structure HB2 (w : World) (b : Nat) (K : Int) (a : Option Addr) (n cap : Nat) (b' : Nat) (a' : Option Addr) (n' cap' : Nat) : Prop where
  one : HBx w b K a n cap
  two : HBx w b' K a' n' cap'
theorem HB2.below {w w' : World} {b : Nat} {K : Int} {a : Option Addr} {n cap b' : Nat} {a' : Option Addr} {n' cap' : Nat} (h : HB2 w b K a n cap b' a' n' cap') (B : Below w.heap.size w w') : HB2 w' b K a n cap b' a' n' cap' :=
  ⟨h.one.below B, h.two.below B⟩
theorem HB2.drew {w : World} {b : Nat} {K : Int} {a : Option Addr} {n cap b' : Nat} {a' : Option Addr} {n' cap' : Nat} (h : HB2 w b K a n cap b' a' n' cap') : HB2 w.drew b K a n cap b' a' n' cap' := ⟨h.one.drew, h.two.drew⟩

set_option maxHeartbeats 1600000 in
theorem exactHeapOk_walk (K : Int) (a : Option Addr) (n cap : Nat) (f g : Nat → Int) (w : World) (h : IsPairs w a n f g) :
    Calls Try.prog 3 #[.agg #[.int .i64 K, .slice a n cap]] w fun e w' => e = .returned (.bool true) ∧ Below w.heap.size w w' := by
  obtain ⟨hp, hl⟩ := h
  have SZ := hide (fun w1 => szHeap_any K a n cap 1048576 w1 (by omega) (by omega) hl)
  by_cases hn : n ≤ 1048576
  · simp only [if_neg (show ¬ (1048576 : Int) - (n : Int) < 0 by omega)] at SZ
    have HP := hide hp
    clear hp
    have TR := hide (fun w1 (hb : Below w.heap.size w w1) => toHeap_any K a n cap f g w1 (HP.out.below hb) hn)
    have SB := hide (fun b w1 (h : OwnN w1 b n f g) => sHeapOk_any K (some ⟨b, 0, none⟩) n n f g w1 h.prow)
    have IB := hide (fun b w1 (h : OwnN w1 b n f g) => iHeapOk_any K (some ⟨b, 0, none⟩) n n f g w1 h.prow)
    have EQ := hide (fun b b' w1 (h : OwnN w1 b n f g) (h' : OwnN w1 b' n f g) => eqHeap_self K (some ⟨b, 0, none⟩) (some ⟨b', 0, none⟩) n n n f g w1 h.prow h'.prow hn)
    have hvv : (heapB K n f g != heapB K n f g) = false := by simp
    generalize heapB K n f g = v at SB IB hvv
    have hnl : ¬ (1048576 : Int) - (n : Int) < 0 := by omega
    go_enter Try.func3, Try.ntmps3
    go_wp2_with fail
    refine (SZ.out _).mono ?_
    rintro e w0 ⟨rfl, hb0⟩
    have A0 := (HBx.fresh w 24 K a n cap).below hb0
    have B0 : Below w.heap.size w w0 := (by repeat' first | with_reducible exact Below.refl _ _ | with_reducible assumption | with_reducible refine below_drewN ?_ _ | with_reducible refine balloc ?_ _ | with_reducible refine Below.drew ?_ | with_reducible refine Below.setCell ?_ (by first | (simp; done) | (simp; omega) | omega) _ | with_reducible refine bstep ?_ (by assumption))
    clear hb0
    have A0' := A0
    obtain ⟨l0, x0, x1⟩ := A0'
    go_wp2_with fail
    refine (TR.out _ B0).mono ?_
    rintro e w1 ⟨b1, rfl, l1, o1, hb1⟩
    go_wp2_with fail
    refine (SB.out _ _ o1).mono ?_
    rintro e w2 ⟨rfl, hb2⟩
    have B2 : Below w.heap.size w w2 := (by repeat' first | with_reducible exact Below.refl _ _ | with_reducible assumption | with_reducible refine below_drewN ?_ _ | with_reducible refine balloc ?_ _ | with_reducible refine Below.drew ?_ | with_reducible refine Below.setCell ?_ (by first | (simp; done) | (simp; omega) | omega) _ | with_reducible refine bstep ?_ (by assumption))
    have A2 := (A0.below hb1).below hb2
    clear hb1 hb2 o1 l1 A0 B0 l0 x0 x1
    have A2' := A2
    obtain ⟨l0, x0, x1⟩ := A2'
    go_wp2_with fail
    refine (TR.out _ B2).mono ?_
    rintro e w3 ⟨b3, rfl, l3, o3, hb3⟩
    have A3 := A2.below hb3
    have B3 : Below w.heap.size w w3 := (by repeat' first | with_reducible exact Below.refl _ _ | with_reducible assumption | with_reducible refine below_drewN ?_ _ | with_reducible refine balloc ?_ _ | with_reducible refine Below.drew ?_ | with_reducible refine Below.setCell ?_ (by first | (simp; done) | (simp; omega) | omega) _ | with_reducible refine bstep ?_ (by assumption))
    clear hb3 A2 B2 l0 x0 x1
    go_wp2_with fail
    generalize hw4 : w3.alloc _ = w4
    have B34 : Below w3.heap.size w3 w4 := by rw [← hw4]; exact balloc (Below.refl _ _) _
    have D4 : HBx w4 w3.heap.size K (some ⟨b3, 0, none⟩) n n := by rw [← hw4]; exact HBx.fresh _ _ _ _ _ _
    have A4 := A3.below B34
    have B4 : Below w.heap.size w w4 := (by repeat' first | with_reducible exact Below.refl _ _ | with_reducible assumption | with_reducible refine below_drewN ?_ _ | with_reducible refine balloc ?_ _ | with_reducible refine Below.drew ?_ | with_reducible refine Below.setCell ?_ (by first | (simp; done) | (simp; omega) | omega) _ | with_reducible refine bstep ?_ (by assumption))
    have o4 := o3.below B34
    clear hw4 B34 A3 B3 o3 l3
    refine (IB.out _ _ o4).mono ?_
    rintro e w5 ⟨rfl, hb5⟩
    have A5 := A4.below hb5
    have D5 := D4.below hb5
    have o5 := o4.below hb5
    have B5 : Below w.heap.size w w5 := (by repeat' first | with_reducible exact Below.refl _ _ | with_reducible assumption | with_reducible refine below_drewN ?_ _ | with_reducible refine balloc ?_ _ | with_reducible refine Below.drew ?_ | with_reducible refine Below.setCell ?_ (by first | (simp; done) | (simp; omega) | omega) _ | with_reducible refine bstep ?_ (by assumption))
    clear A4 D4 o4 B4 hb5
    have H2 := hide (HB2.mk A5 D5)
    clear A5 D5
    go_upto_region 10 with fail
    refine wp_region_held_drew (S := fun wx => HB2 wx w.heap.size K a n cap w3.heap.size (some ⟨b3, 0, none⟩) n n) (by kernel_rfl) (H2.out.drew) (fun hH0 => ?_)
    refine wpAnyH_take (i := 0) (oi := { dst := some 22, op := _, type := _, pos := _, after := _, guard := _ }) (v := ?_) rfl (by kernel_rfl) (by kernel_rfl) (by kernel_rfl) (fun _ _ _ h => h) (Or.inl ⟨by rfl, ?_⟩) (hH0) ?_
    rotate_left
    · (intro wx hSw; obtain ⟨⟨l0, q0, q1⟩, ⟨l1, q2, q3⟩⟩ := hSw; go_simp <;> with_reducible rfl)
    simp only [Act.put, List.setIfInBounds_toArray, List.set_cons_zero, List.set_cons_succ]
    refine wpAnyH_take (i := 1) (oi := { dst := some 23, op := _, type := _, pos := _, after := _, guard := _ }) (v := ?_) rfl (by kernel_rfl) (by kernel_rfl) (by kernel_rfl) (fun _ _ _ h => h) (Or.inl ⟨by rfl, ?_⟩) (hH0) ?_
    rotate_left
    · (intro wx hSw; obtain ⟨⟨l0, q0, q1⟩, ⟨l1, q2, q3⟩⟩ := hSw; go_simp <;> with_reducible rfl)
    simp only [Act.put, List.setIfInBounds_toArray, List.set_cons_zero, List.set_cons_succ]
    refine wpAnyH_ready (rs := [2]) (by kernel_rfl) (by simp) ?_
    refine AllReadyH.cons (o := { dst := some 24, op := _, type := _, pos := _, after := _, guard := _ }) rfl (fun K hK => ?_) AllReadyH.nil
    go_simp
    refine (TR.out _ (by repeat' first | with_reducible exact Below.refl _ _ | with_reducible assumption | with_reducible refine below_drewN ?_ _ | with_reducible refine balloc ?_ _ | with_reducible refine Below.drew ?_ | with_reducible refine Below.setCell ?_ (by first | (simp; done) | (simp; omega) | omega) _ | with_reducible refine bstep ?_ (by assumption))).mono ?_
    rintro e w_c24_1 ⟨bq, rfl, lq, oq, hb_c24_1⟩
    dsimp only
    refine hK.out _ _ (HB2.below hH0 hb_c24_1) (fun hH1 => ?_)
    clear hK K
    refine wpAnyH_ready (rs := [3]) (by kernel_rfl) (by simp) ?_
    refine AllReadyH.cons (o := { dst := some 25, op := _, type := _, pos := _, after := _, guard := _ }) rfl (fun K hK => ?_) AllReadyH.nil
    go_simp
    refine (EQ.out _ _ _ (o5.below (bstep (Below.drew (Below.refl _ _)) hb_c24_1)) oq).mono ?_
    rintro e w_c25_2 ⟨rfl, hb_c25_2⟩
    dsimp only
    refine hK.out _ _ (HB2.below hH1 hb_c25_2) (fun hH2 => ?_)
    clear hK K
    refine wpAnyH_take (i := 4) (oi := { dst := some 26, op := _, type := _, pos := _, after := _, guard := _ }) (v := ?_) rfl (by kernel_rfl) (by kernel_rfl) (by kernel_rfl) (fun _ _ _ h => h) (Or.inl ⟨by rfl, ?_⟩) (hH2) ?_
    rotate_left
    · (intro wx hSw; obtain ⟨⟨l0, q0, q1⟩, ⟨l1, q2, q3⟩⟩ := hSw; go_simp <;> with_reducible rfl)
    simp only [Act.put, List.setIfInBounds_toArray, List.set_cons_zero, List.set_cons_succ]
    refine wpAnyH_done (by kernel_rfl) ?_ _
    -- behind it: go_wp2_with fail, then go_meet (a cut) or go_ret; the condition at the end: hH2
    go_wp2_with fail
    go_ret
    exact ⟨rfl, (by repeat' first | with_reducible exact Below.refl _ _ | with_reducible assumption | with_reducible refine below_drewN ?_ _ | with_reducible refine balloc ?_ _ | with_reducible refine Below.drew ?_ | with_reducible refine Below.setCell ?_ (by first | (simp; done) | (simp; omega) | omega) _ | with_reducible refine bstep ?_ (by assumption))⟩
  · simp only [if_pos (show (1048576 : Int) - (n : Int) < 0 by omega)] at SZ
    go_enter Try.func3, Try.ntmps3
    go_wp2_with fail
    refine (SZ.out _).mono ?_
    rintro e w0 ⟨rfl, hw0⟩
    go_wp2_with fail
    go_ret
    exact ⟨rfl, (by repeat' first | with_reducible exact Below.refl _ _ | with_reducible assumption | with_reducible refine below_drewN ?_ _ | with_reducible refine balloc ?_ _ | with_reducible refine Below.drew ?_ | with_reducible refine Below.setCell ?_ (by first | (simp; done) | (simp; omega) | omega) _ | with_reducible refine bstep ?_ (by assumption))⟩

/-- A Near's box. -/
structure NBx (w : World) (b : Nat) (x y : Int) : Prop where
  lt : b < w.heap.size
  c0 : w.cell? ⟨b, 0, none⟩ = some (.int .i64 x)
  c1 : w.cell? ⟨b, 1, none⟩ = some (.int .i64 y)
theorem NBx.below {w w' : World} {b : Nat} {x y : Int} (h : NBx w b x y) (B : Below w.heap.size w w') : NBx w' b x y :=
  ⟨Nat.lt_of_lt_of_le h.lt B.size, (B.cell (p := ⟨b, 0, none⟩) h.lt).trans h.c0, (B.cell (p := ⟨b, 1, none⟩) h.lt).trans h.c1⟩
theorem NBx.fresh (w : World) (t : TypeId) (x y : Int) : NBx (w.alloc (.cells #[.int .i64 x, .int .i64 y] t)) w.heap.size x y :=
  ⟨by simp, by simp [go_sem], by simp [go_sem]⟩

set_option maxHeartbeats 1600000 in
theorem exactHeapTop_walk (K : Int) (a : Option Addr) (n cap : Nat) (f g : Nat → Int) (w : World) (h : IsPairs w a n f g) :
    Calls Try.prog 4 #[.agg #[.int .i64 K, .slice a n cap]] w fun e w' => e = .returned (.bool true) ∧ Below w.heap.size w w' := by
  obtain ⟨hp, hl⟩ := h
  have SZ := hide (fun w1 => szHeap_any K a n cap 1048576 w1 (by omega) (by omega) hl)
  by_cases hn : n ≤ 1048576
  · simp only [if_neg (show ¬ (1048576 : Int) - (n : Int) < 0 by omega)] at SZ
    have HP := hide hp
    clear hp
    have TR := hide (fun w1 (hb : Below w.heap.size w w1) => toHeap_any K a n cap f g w1 (HP.out.below hb) hn)
    obtain ⟨x, y, v, hv⟩ : ∃ x y v, topV K n f g = .tuple #[.agg #[.int .i64 x, .int .i64 y], .bool v] := ⟨_, _, _, rfl⟩
    have SB := hide (fun b w1 (h : OwnN w1 b n f g) => sHeapTop_any K (some ⟨b, 0, none⟩) n n f g w1 h.prow)
    have IB := hide (fun b w1 (h : OwnN w1 b n f g) => iHeapTop_any K (some ⟨b, 0, none⟩) n n f g w1 h.prow)
    rw [hv] at SB IB
    clear hv
    have EQ := hide (fun b b' w1 (h : OwnN w1 b n f g) (h' : OwnN w1 b' n f g) => eqHeap_self K (some ⟨b, 0, none⟩) (some ⟨b', 0, none⟩) n n n f g w1 h.prow h'.prow hn)
    have EN := hide (eqNear_any x y x y)
    simp only [decide_true, Bool.and_self] at EN
    have hvv : (v != v) = false := by simp
    have hnl : ¬ (1048576 : Int) - (n : Int) < 0 := by omega
    go_enter Try.func4, Try.ntmps4
    go_wp2_with fail
    refine (SZ.out _).mono ?_
    rintro e w0 ⟨rfl, hb0⟩
    have A0 := (HBx.fresh w 24 K a n cap).below hb0
    have B0 : Below w.heap.size w w0 := (by repeat' first | with_reducible exact Below.refl _ _ | with_reducible assumption | with_reducible refine below_drewN ?_ _ | with_reducible refine balloc ?_ _ | with_reducible refine Below.drew ?_ | with_reducible refine Below.setCell ?_ (by first | (simp; done) | (simp; omega) | omega) _ | with_reducible refine bstep ?_ (by assumption))
    clear hb0
    have A0' := A0
    obtain ⟨l0, x0, x1⟩ := A0'
    go_wp2_with fail
    refine (TR.out _ B0).mono ?_
    rintro e w1 ⟨b1, rfl, l1, o1, hb1⟩
    go_wp2_with fail
    refine (SB.out _ _ o1).mono ?_
    rintro e w2' ⟨rfl, hb2⟩
    have B2 : Below w.heap.size w w2' := (by repeat' first | with_reducible exact Below.refl _ _ | with_reducible assumption | with_reducible refine below_drewN ?_ _ | with_reducible refine balloc ?_ _ | with_reducible refine Below.drew ?_ | with_reducible refine Below.setCell ?_ (by first | (simp; done) | (simp; omega) | omega) _ | with_reducible refine bstep ?_ (by assumption))
    have A2 := (A0.below hb1).below hb2
    clear hb1 hb2 o1 l1 A0 B0 l0 x0 x1
    have N2 := NBx.fresh w2' 34 x y
    have A2 := A2.alloc (.cells #[.int .i64 x, .int .i64 y] 34)
    have B2 := balloc B2 (.cells #[.int .i64 x, .int .i64 y] 34)
    have A2' := A2
    obtain ⟨l0, x0, x1⟩ := A2'
    go_wp2_with fail
    generalize w2'.alloc (.cells #[.int .i64 x, .int .i64 y] 34) = w2 at N2 A2 B2 l0 x0 x1 ⊢
    refine (TR.out _ B2).mono ?_
    rintro e w3 ⟨b3, rfl, l3, o3, hb3⟩
    have A3 := A2.below hb3
    have N3 := N2.below hb3
    have B3 : Below w.heap.size w w3 := (by repeat' first | with_reducible exact Below.refl _ _ | with_reducible assumption | with_reducible refine below_drewN ?_ _ | with_reducible refine balloc ?_ _ | with_reducible refine Below.drew ?_ | with_reducible refine Below.setCell ?_ (by first | (simp; done) | (simp; omega) | omega) _ | with_reducible refine bstep ?_ (by assumption))
    clear hb3 A2 B2 l0 x0 x1 N2
    go_wp2_with fail
    generalize hw4 : w3.alloc _ = w4
    have B34 : Below w3.heap.size w3 w4 := by rw [← hw4]; exact balloc (Below.refl _ _) _
    have D4 : HBx w4 w3.heap.size K (some ⟨b3, 0, none⟩) n n := by rw [← hw4]; exact HBx.fresh _ _ _ _ _ _
    have A4 := A3.below B34
    have N4 := N3.below B34
    have B4 : Below w.heap.size w w4 := (by repeat' first | with_reducible exact Below.refl _ _ | with_reducible assumption | with_reducible refine below_drewN ?_ _ | with_reducible refine balloc ?_ _ | with_reducible refine Below.drew ?_ | with_reducible refine Below.setCell ?_ (by first | (simp; done) | (simp; omega) | omega) _ | with_reducible refine bstep ?_ (by assumption))
    have o4 := o3.below B34
    clear hw4 B34 A3 B3 o3 l3 N3
    refine (IB.out _ _ o4).mono ?_
    rintro e w5' ⟨rfl, hb5⟩
    generalize hw5 : w5'.alloc (.cells #[.int .i64 x, .int .i64 y] 34) = w5
    have hb5 : Below w4.heap.size w4 w5 := by rw [← hw5]; exact balloc hb5 _
    have M5 : NBx w5 w5'.heap.size x y := by rw [← hw5]; exact NBx.fresh _ _ _ _
    have A5 := A4.below hb5
    have D5 := D4.below hb5
    have N5 := N4.below hb5
    have o5 := o4.below hb5
    have B5 : Below w.heap.size w w5 := (by repeat' first | with_reducible exact Below.refl _ _ | with_reducible assumption | with_reducible refine below_drewN ?_ _ | with_reducible refine balloc ?_ _ | with_reducible refine Below.drew ?_ | with_reducible refine Below.setCell ?_ (by first | (simp; done) | (simp; omega) | omega) _ | with_reducible refine bstep ?_ (by assumption))
    clear A4 D4 o4 B4 N4 hb5
    have H2 := hide (HB2.mk A5 D5)
    clear A5 D5
    have N5' := N5
    obtain ⟨j0, y0, y1⟩ := N5'
    have M5' := M5
    obtain ⟨j2, y2, y3⟩ := M5'
    go_wp2_with fail
    refine (EN.out _).mono ?_
    rintro e w6 ⟨rfl, hb6⟩
    have o6 := o5.below hb6
    have H2 := hide (H2.out.below hb6)
    have B6 : Below w.heap.size w w6 := (by repeat' first | with_reducible exact Below.refl _ _ | with_reducible assumption | with_reducible refine below_drewN ?_ _ | with_reducible refine balloc ?_ _ | with_reducible refine Below.drew ?_ | with_reducible refine Below.setCell ?_ (by first | (simp; done) | (simp; omega) | omega) _ | with_reducible refine bstep ?_ (by assumption))
    clear y0 y1 y2 y3 hb6 o5 B5 N5 M5
    go_upto_region 10 with fail
    refine wp_region_held_drew (S := fun wx => HB2 wx w.heap.size K a n cap w3.heap.size (some ⟨b3, 0, none⟩) n n) (by kernel_rfl) (H2.out.drew) (fun hH0 => ?_)
    refine wpAnyH_take (i := 0) (oi := { dst := some 36, op := _, type := _, pos := _, after := _, guard := _ }) (v := ?_) rfl (by kernel_rfl) (by kernel_rfl) (by kernel_rfl) (fun _ _ _ h => h) (Or.inl ⟨by rfl, ?_⟩) (hH0) ?_
    rotate_left
    · (intro wx hSw; obtain ⟨⟨l0, q0, q1⟩, ⟨l1, q2, q3⟩⟩ := hSw; go_simp <;> with_reducible rfl)
    simp only [Act.put, List.setIfInBounds_toArray, List.set_cons_zero, List.set_cons_succ]
    refine wpAnyH_take (i := 1) (oi := { dst := some 37, op := _, type := _, pos := _, after := _, guard := _ }) (v := ?_) rfl (by kernel_rfl) (by kernel_rfl) (by kernel_rfl) (fun _ _ _ h => h) (Or.inl ⟨by rfl, ?_⟩) (hH0) ?_
    rotate_left
    · (intro wx hSw; obtain ⟨⟨l0, q0, q1⟩, ⟨l1, q2, q3⟩⟩ := hSw; go_simp <;> with_reducible rfl)
    simp only [Act.put, List.setIfInBounds_toArray, List.set_cons_zero, List.set_cons_succ]
    refine wpAnyH_ready (rs := [2]) (by kernel_rfl) (by simp) ?_
    refine AllReadyH.cons (o := { dst := some 38, op := _, type := _, pos := _, after := _, guard := _ }) rfl (fun K hK => ?_) AllReadyH.nil
    go_simp
    refine (TR.out _ (by repeat' first | with_reducible exact Below.refl _ _ | with_reducible assumption | with_reducible refine below_drewN ?_ _ | with_reducible refine balloc ?_ _ | with_reducible refine Below.drew ?_ | with_reducible refine Below.setCell ?_ (by first | (simp; done) | (simp; omega) | omega) _ | with_reducible refine bstep ?_ (by assumption))).mono ?_
    rintro e w_c38_1 ⟨bq, rfl, lq, oq, hb_c38_1⟩
    dsimp only
    refine hK.out _ _ (HB2.below hH0 hb_c38_1) (fun hH1 => ?_)
    clear hK K
    refine wpAnyH_ready (rs := [3]) (by kernel_rfl) (by simp) ?_
    refine AllReadyH.cons (o := { dst := some 39, op := _, type := _, pos := _, after := _, guard := _ }) rfl (fun K hK => ?_) AllReadyH.nil
    go_simp
    refine (EQ.out _ _ _ (o6.below (bstep (Below.drew (Below.refl _ _)) hb_c38_1)) oq).mono ?_
    rintro e w_c39_2 ⟨rfl, hb_c39_2⟩
    dsimp only
    refine hK.out _ _ (HB2.below hH1 hb_c39_2) (fun hH2 => ?_)
    clear hK K
    refine wpAnyH_take (i := 4) (oi := { dst := some 40, op := _, type := _, pos := _, after := _, guard := _ }) (v := ?_) rfl (by kernel_rfl) (by kernel_rfl) (by kernel_rfl) (fun _ _ _ h => h) (Or.inl ⟨by rfl, ?_⟩) (hH2) ?_
    rotate_left
    · (intro wx hSw; obtain ⟨⟨l0, q0, q1⟩, ⟨l1, q2, q3⟩⟩ := hSw; go_simp <;> with_reducible rfl)
    simp only [Act.put, List.setIfInBounds_toArray, List.set_cons_zero, List.set_cons_succ]
    refine wpAnyH_done (by kernel_rfl) ?_ _
    -- behind it: go_wp2_with fail, then go_meet (a cut) or go_ret; the condition at the end: hH2
    go_wp2_with fail
    go_ret
    exact ⟨rfl, (by repeat' first | with_reducible exact Below.refl _ _ | with_reducible assumption | with_reducible refine below_drewN ?_ _ | with_reducible refine balloc ?_ _ | with_reducible refine Below.drew ?_ | with_reducible refine Below.setCell ?_ (by first | (simp; done) | (simp; omega) | omega) _ | with_reducible refine bstep ?_ (by assumption))⟩
  · simp only [if_pos (show (1048576 : Int) - (n : Int) < 0 by omega)] at SZ
    go_enter Try.func4, Try.ntmps4
    go_wp2_with fail
    refine (SZ.out _).mono ?_
    rintro e w0 ⟨rfl, hw0⟩
    go_wp2_with fail
    go_ret
    exact ⟨rfl, (by repeat' first | with_reducible exact Below.refl _ _ | with_reducible assumption | with_reducible refine below_drewN ?_ _ | with_reducible refine balloc ?_ _ | with_reducible refine Below.drew ?_ | with_reducible refine Below.setCell ?_ (by first | (simp; done) | (simp; omega) | omega) _ | with_reducible refine bstep ?_ (by assumption))⟩
end Go.Proofs.Ytnpineeaekmabaa
