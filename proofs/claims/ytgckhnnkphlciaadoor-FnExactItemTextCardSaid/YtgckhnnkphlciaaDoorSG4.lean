/- The walk of the law FnExactItemText. -/
import Derived.Test.YtgckhnnkphlciaaDoorSG3
namespace Go.Proofs.YtgckhnnkphlciaaDoor
open Go.RowKit
set_option maxRecDepth 8000
set_option linter.unusedSimpArgs false
set_option linter.unusedVariables false

structure IQ2 (w0 w : World) (b c : Nat) (x : It) (a : Option Addr) (n cap : Nat) (a1 : Option Addr) (n1 : Nat) : Prop where
  one : IQ w0 w b x a n cap
  two : IQ w0 w c x a1 n1 n1

theorem IQ2.below {w0 w w' : World} {b c : Nat} {x : It} {a : Option Addr} {n cap : Nat} {a1 : Option Addr} {n1 : Nat} (h : IQ2 w0 w b c x a n cap a1 n1) (hb : Below w.heap.size w w') : IQ2 w0 w' b c x a n cap a1 n1 := ⟨h.one.below hb, h.two.below hb⟩

theorem IQ2.drew {w0 w : World} {b c : Nat} {x : It} {a : Option Addr} {n cap : Nat} {a1 : Option Addr} {n1 : Nat} (h : IQ2 w0 w b c x a n cap a1 n1) : IQ2 w0 w.drew b c x a n cap a1 n1 := h.below (Below.drew (Below.refl _ _))

set_option maxHeartbeats 4000000 in
set_option maxRecDepth 4000 in
theorem exactItemText_in (x : It) (xa : Option Addr) (xn xc : Nat) (w : World) (T : Tab w) (rx : Row w xa xn x.vec) (hn : xn ≤ 1048576) :
    Calls Tryd.prog 3 #[.agg #[.int .i64 x.id, .int .i64 x.tags, .slice xa xn xc]] w fun e w' => e = .returned (.bool true) ∧ Below w.heap.size w w' := by
  have SZ := hide (fun w1 => szItem_any x.id x.tags xa xn xc 1048576 w1 (by omega) (by omega) (by omega))
  have hz : szN 1048576 xn = 1048576 - (xn : Int) := by unfold szN; rw [if_neg (by omega)]
  rw [hz] at SZ
  have g0 : ¬ (1048576 - (xn : Int) < 0) := by omega
  have TI := hide (fun w1 h => toItem_any x xa xn xc w1 h hn)
  have HT := hide T
  have hl := rx.len
  have Q0 := hide (IQ.new w x xa xn xc 24 rx)
  have hln : x.vec.length ≤ 1048576 := by omega
  obtain ⟨R, hR⟩ : ∃ R, bs (itemTB x) = R := ⟨_, rfl⟩
  have SI := hide (fun a n cap w1 h hn => sItemText_any x a n cap w1 h hn)
  have II := hide (fun a n cap w1 h hn T => iItemText_any x a n cap w1 h hn T)
  simp only [hR] at SI II
  clear T rx hz hR hl
  obtain ⟨_, y0, y1, y2, _, _⟩ := Q0.out
  go_enter Tryd.func3, Tryd.ntmps3
  go_wp2_with fail
  refine (SZ.out _).mono ?_
  rintro e w1 ⟨rfl, hb1⟩
  have Q1 := hide (Q0.out.below hb1)
  clear y0 y1 y2 hb1 Q0 SZ
  obtain ⟨_, y0, y1, y2, _, _⟩ := Q1.out
  go_wp2_with fail
  refine (TI.out _ Q1.out.row).mono ?_
  rintro e w2 ⟨g2, rfl, lg2, ho2, hb2⟩
  have Q2 := hide (Q1.out.below hb2)
  have R2 := hide ho2.row
  clear y0 y1 y2 hb2 ho2 Q1
  go_wp2_with fail
  refine (SI.out _ _ _ _ R2.out hln).mono ?_
  rintro e w3 ⟨rfl, hb3⟩
  have Q3 := hide (Q2.out.below hb3)
  clear hb3 R2 Q2
  obtain ⟨_, y0, y1, y2, _, _⟩ := Q3.out
  go_wp2_with fail
  refine (TI.out _ Q3.out.row).mono ?_
  rintro e w4 ⟨g4, rfl, lg4, ho4, hb4⟩
  have Q4 := hide (Q3.out.below hb4)
  have N4 := hide (IQ.new w4 x (some ⟨g4, 0, none⟩) x.vec.length x.vec.length 27 ho4.row)
  have Q5 := hide (⟨Q4.out.below (balloc (Below.refl _ _) _), ⟨N4.out.lt, N4.out.c0, N4.out.c1, N4.out.c2, N4.out.row, bstep Q4.out.bel (balloc (Below.refl _ _) _)⟩⟩ : IQ2 w (w4.alloc (.cells #[.int .i64 x.id, .int .i64 x.tags, .slice (some ⟨g4, 0, none⟩) x.vec.length x.vec.length] 27)) w.heap.size w4.heap.size x xa xn xc (some ⟨g4, 0, none⟩) x.vec.length)
  clear y0 y1 y2 hb4 ho4 Q3 Q4 N4
  obtain ⟨z, hz⟩ : ∃ z, w4.heap.size = z := ⟨_, rfl⟩
  obtain ⟨W, hW⟩ : ∃ W, w4.alloc (.cells #[.int .i64 x.id, .int .i64 x.tags, .slice (some ⟨g4, 0, none⟩) x.vec.length x.vec.length] 27) = W := ⟨_, rfl⟩
  rw [hz, hW] at Q5
  obtain ⟨⟨_, y0, y1, y2, _, _⟩, ⟨_, z0, z1, z2, _, _⟩⟩ := Q5.out
  have HZ := hide hz
  have HW := hide hW
  clear hz hW
  go_wp2_with fail
  rw [HZ.out, HW.out]
  clear HZ HW
  go_wp2_with fail
  refine (II.out _ _ _ _ Q5.out.two.row hln (HT.out.below Q5.out.two.bel)).mono ?_
  rintro e w6 ⟨rfl, hb6⟩
  have Q6 := hide (Q5.out.below hb6)
  clear y0 y1 y2 z0 z1 z2 hb6 Q5
  go_wp2_with fail
  refine wp_region_held_drew (S := fun wx => IQ2 w wx w.heap.size z x xa xn xc (some ⟨g4, 0, none⟩) x.vec.length) (by kernel_rfl) (Q6.out.drew) (fun hH0 => ?_)
  refine wpAnyH_take (i := 0) (oi := { dst := some 22, op := _, type := _, pos := _, after := _, guard := _ }) (v := ?_) rfl (by kernel_rfl) (by kernel_rfl) (by kernel_rfl) (fun _ _ _ h => h) (Or.inl ⟨by rfl, ?_⟩) (hH0) ?_
  rotate_left
  · (intro wx hSw; obtain ⟨⟨_, y0, y1, y2, _, _⟩, ⟨_, z0, z1, z2, _, _⟩⟩ := hSw; go_simp <;> with_reducible rfl)
  simp only [Act.put, List.setIfInBounds_toArray, List.set_cons_zero, List.set_cons_succ]
  refine wpAnyH_take (i := 1) (oi := { dst := some 23, op := _, type := _, pos := _, after := _, guard := _ }) (v := ?_) rfl (by kernel_rfl) (by kernel_rfl) (by kernel_rfl) (fun _ _ _ h => h) (Or.inl ⟨by rfl, ?_⟩) (hH0) ?_
  rotate_left
  · (intro wx hSw; obtain ⟨⟨_, y0, y1, y2, _, _⟩, ⟨_, z0, z1, z2, _, _⟩⟩ := hSw; go_simp <;> with_reducible rfl)
  simp only [Act.put, List.setIfInBounds_toArray, List.set_cons_zero, List.set_cons_succ]
  -- behind it: go_wp2_with fail, then go_meet (a cut) or go_ret; the condition at the end: hH0
  refine wpAnyH_ready (rs := [2]) (by kernel_rfl) (by simp) ?_
  refine AllReadyH.cons (o := { dst := some 24, op := _, type := _, pos := _, after := _, guard := _ }) rfl (fun K hK => ?_) AllReadyH.nil
  go_simp
  refine (TI.out _ hH0.one.row).mono ?_
  rintro e w7 ⟨g7, rfl, lg7, ho7, hb7⟩
  dsimp only
  refine hK.out _ _ (IQ2.below hH0 hb7) (fun hH1 => ?_)
  clear hK K
  have EQ := hide (eqItem_self x (some ⟨g4, 0, none⟩) (some ⟨g7, 0, none⟩) x.vec.length x.vec.length x.vec.length x.vec.length w7 hH1.two.row ho7.row hln)
  refine wpAnyH_ready (rs := [3]) (by kernel_rfl) (by simp) ?_
  refine AllReadyH.cons (o := { dst := some 25, op := _, type := _, pos := _, after := _, guard := _ }) rfl (fun K hK => ?_) AllReadyH.nil
  go_simp
  refine EQ.out.mono ?_
  rintro e w8 ⟨rfl, hb8⟩
  dsimp only
  refine hK.out _ _ (IQ2.below hH1 hb8) (fun hH2 => ?_)
  clear hK K
  refine wpAnyH_take (i := 4) (oi := { dst := some 26, op := _, type := _, pos := _, after := _, guard := _ }) (v := ?_) rfl (by kernel_rfl) (by kernel_rfl) (by kernel_rfl) (fun _ _ _ h => h) (Or.inl ⟨by rfl, ?_⟩) (hH2) ?_
  rotate_left
  · (intro wx hSw; obtain ⟨⟨_, y0, y1, y2, _, _⟩, ⟨_, z0, z1, z2, _, _⟩⟩ := hSw; go_simp <;> with_reducible rfl)
  simp only [Act.put, List.setIfInBounds_toArray, List.set_cons_zero, List.set_cons_succ]
  refine wpAnyH_done (by kernel_rfl) ?_ _
  -- behind it: go_wp2_with fail, then go_meet (a cut) or go_ret; the condition at the end: hH2
  have Q8 := hide hH2
  go_wp2_with fail
  go_ret
  exact ⟨rfl, Q8.out.one.bel⟩

set_option maxHeartbeats 1000000 in
theorem exactItemText_walk (x0 x1 : Int) (xa : Option Addr) (xn xc : Nat) (xs : List Int) (w : World) (T : Tab w) (rx : Row w xa xn xs) (hxn : xn ≤ 9223372036854775807) :
    Calls Tryd.prog 3 #[.agg #[.int .i64 x0, .int .i64 x1, .slice xa xn xc]] w fun e w' => e = .returned (.bool true) ∧ Below w.heap.size w w' := by
  by_cases hn : xn ≤ 1048576
  · exact exactItemText_in ⟨x0, x1, xs⟩ xa xn xc w T rx hn
  · have SZ := hide (fun w1 => szItem_any x0 x1 xa xn xc 1048576 w1 (by omega) (by omega) hxn)
    have hz : szN 1048576 xn = -1 := by unfold szN; rw [if_pos (by omega)]
    rw [hz] at SZ
    have Q0 := hide (IQ.new w ⟨x0, x1, xs⟩ xa xn xc 24 rx)
    obtain ⟨_, y0, y1, y2, _, _⟩ := Q0.out
    simp only at y0 y1 y2
    clear hz T rx hn
    go_enter Tryd.func3, Tryd.ntmps3
    go_wp2_with fail
    refine (SZ.out _).mono ?_
    rintro e w1 ⟨rfl, hb1⟩
    go_wp2_with fail
    go_ret
    exact ⟨rfl, bstep Q0.out.bel hb1⟩
end Go.Proofs.YtgckhnnkphlciaaDoor
