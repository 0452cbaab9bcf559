/- The walk of FnExactHeapPut. -/
import Derived.Test.YtjddabggoaffaaaHS
namespace Go.Proofs.Ytjddabggoaffaaa
open Go.RowKit
set_option linter.unusedSimpArgs false
set_option linter.unusedVariables false

theorem Wr.mono {w : World} {a : Option Addr} {l : Nat} {L : NL} {B B' : Nat} (h : Wr w a l L B) (hB : B' ≤ B) : Wr w a l L B' := by
  rcases h with h0 | ⟨b, e, hb, hr⟩
  · exact .inl h0
  · exact .inr ⟨b, e, Nat.le_trans hB hb, hr⟩

theorem below_of_drew {B : Nat} {x y : World} (h : Below B x y) : Below B x.drew y := ⟨h.os, h.tape, h.output, h.size, h.block⟩
theorem OBx.drew {w : World} {b : Nat} (h : OBx w b) : OBx w.drew b := ⟨h.lt, h.c0, h.c1, h.f0, h.f1⟩

set_option maxHeartbeats 16000000 in
set_option maxRecDepth 8000 in
theorem exactHeapPut_in (K : Int) (a : Option Addr) (n cap : Nat) (f g : Nat → Int) (i d : Int) (w : World) (hp : PRow w a n f g) (hl : n ≤ 9223372036854775807) (hn : n ≤ 1048576)
    (KP : Int) (lP : Nat) (ok : Bool) (LP : NL) (hlP : lP ≤ 21)
    (SP : Hid (∀ b w1, OwnN w1 b n f g → Calls Try.prog 6 #[.agg #[.int .i64 K, .slice (some ⟨b, 0, none⟩) n n], .agg #[.int .i64 i, .int .i64 d]] w1 fun e w' => PutRes w1 KP lP ok LP e w'))
    (IP : Hid (∀ b w1, OwnN w1 b n f g → Calls Try.prog 9 #[.agg #[.int .i64 K, .slice (some ⟨b, 0, none⟩) n n], .agg #[.int .i64 i, .int .i64 d]] w1 fun e w' => PutRes w1 KP lP ok LP e w')) :
    Calls Try.prog 3 #[.agg #[.int .i64 K, .slice a n cap], .agg #[.int .i64 i, .int .i64 d]] w fun e w' => e = .returned (.bool true) ∧ Below w.heap.size w w' := by
  have SZ := hide (fun w1 => szHeap_any K a n cap 1048576 w1 (by omega) (by omega) hl)
  simp only [if_neg (show ¬ (1048576 : Int) - (n : Int) < 0 by omega)] at SZ
  have HP := hide hp
  clear hp
  have TR := hide (fun w1 (hb : Below w.heap.size w w1) => toHeap_any K a n cap f g w1 (HP.out.below hb) hn)
  have TN := hide (toNear_any i d)
  have EQ := hide (fun b b' w1 (h : OwnN w1 b n f g) (h' : OwnN w1 b' n f g) => eqHeap_self K (some ⟨b, 0, none⟩) (some ⟨b', 0, none⟩) n n n f g w1 h.prow h'.prow hn)
  have EG := hide (fun a1 a2 c1 c2 w1 (h : PRow w1 a1 lP (fun i => (LP i).1) (fun i => (LP i).2)) (h' : PRow w1 a2 lP (fun i => (LP i).1) (fun i => (LP i).2)) => eqHeap_self KP a1 a2 lP c1 c2 _ _ w1 h h' (by omega))
  have hok : (ok != ok) = false := by simp
  have hnl : ¬ (1048576 : Int) - (n : Int) < 0 := by omega
  go_enter Try.func3, Try.ntmps3
  go_wp2_with fail
  refine (SZ.out _).mono ?_
  rintro e w0 ⟨rfl, hb0⟩
  have A0 := hide (show AN w0 w.heap.size K a n cap (w.heap.size + 1) i d from AN.below (w := (w.alloc (Obj.cells #[Value.int IntKind.i64 K, Value.slice a n cap] 24)).alloc (Obj.cells #[Value.int IntKind.i64 i, Value.int IntKind.i64 d] 26)) ⟨(HBx.fresh w _ K a n cap).below (balloc (Below.refl _ _) _), by have := NBx.fresh (w.alloc (Obj.cells #[Value.int IntKind.i64 K, Value.slice a n cap] 24)) 26 i d; rwa [World.size_alloc] at this⟩ hb0)
  have B0 : Below w.heap.size w w0 := (by repeat' first | with_reducible exact Below.refl _ _ | with_reducible assumption | with_reducible refine below_drewN ?_ _ | with_reducible refine balloc ?_ _ | with_reducible refine Below.drew ?_ | with_reducible refine Below.setCell ?_ (by first | (simp; done) | (simp; omega) | omega) _ | with_reducible refine bstep ?_ (by assumption))
  have s0 : w.heap.size + 1 < w0.heap.size := A0.out.two.lt
  have s00 := B0.size
  have s00' : w.heap.size < w0.heap.size := by omega
  clear hb0 SZ
  go_upto_region 5 with fail
  go_cut [6, 7] (fun s s' wx => ∃ bx aq cq, s = .pointer (some ⟨bx, 0, none⟩) ∧ s' = .bool ok ∧ HBx wx bx KP aq lP cq ∧ Wr wx aq lP LP w0.heap.size ∧ w0.heap.size ≤ bx ∧ (lP = 0 ∨ ∃ b, aq = some ⟨b, 0, none⟩ ∧ b ≠ bx) ∧ Below w0.heap.size w0 wx)
  case first =>
    refine wp_region_held_drew (S := fun wx => AN wx w.heap.size K a n cap (w.heap.size + 1) i d) (by kernel_rfl) (A0.out.drew) (fun hH0 => ?_)
    have kb0 : Below w0.heap.size w0 w0.drew := Below.drew (Below.refl _ _)
    refine wpAnyH_take (i := 0) (oi := { dst := some 22, op := _, type := _, pos := _, after := _, guard := _ }) (v := ?_) rfl (by kernel_rfl) (by kernel_rfl) (by kernel_rfl) (fun _ _ _ h => h) (Or.inl ⟨by rfl, ?_⟩) (hH0) ?_
    rotate_left
    · (intro wx hSw; obtain ⟨⟨l0, q0, q1⟩, ⟨l1, q2, q3⟩⟩ := hSw; go_simp <;> with_reducible rfl)
    simp only [Act.put, List.setIfInBounds_toArray, List.set_cons_zero, List.set_cons_succ]
    refine wpAnyH_take (i := 2) (oi := { dst := some 24, op := _, type := _, pos := _, after := _, guard := _ }) (v := ?_) rfl (by kernel_rfl) (by kernel_rfl) (by kernel_rfl) (fun _ _ _ h => h) (Or.inl ⟨by rfl, ?_⟩) (hH0) ?_
    rotate_left
    · (intro wx hSw; obtain ⟨⟨l0, q0, q1⟩, ⟨l1, q2, q3⟩⟩ := hSw; go_simp <;> with_reducible rfl)
    simp only [Act.put, List.setIfInBounds_toArray, List.set_cons_zero, List.set_cons_succ]
    refine wpAnyH_ready (rs := [1, 8]) (by kernel_rfl) (by simp) ?_
    refine AllReadyH.cons (o := { dst := some 23, op := _, type := _, pos := _, after := _, guard := _ }) rfl (fun KK hKK => ?_) (AllReadyH.cons (o := { dst := some 6, op := _, type := _, pos := _, after := _, guard := _ }) rfl (fun KK hKK => ?_) AllReadyH.nil)
    · skip
      go_simp
      refine (TR.out _ (bstep B0 kb0)).mono ?_
      rintro e wa1 ⟨bq, rfl, lq, oqa1, hba1⟩
      have kba1 : Below w0.heap.size w0 wa1 := bstep kb0 hba1
      dsimp only
      refine hKK.out _ _ (AN.below hH0 hba1) (fun hHa1 => ?_)
      clear hKK KK
      refine wpAnyH_ready (rs := [3, 8]) (by kernel_rfl) (by simp) ?_
      refine AllReadyH.cons (o := { dst := some 25, op := _, type := _, pos := _, after := _, guard := _ }) rfl (fun KK hKK => ?_) (AllReadyH.cons (o := { dst := some 6, op := _, type := _, pos := _, after := _, guard := _ }) rfl (fun KK hKK => ?_) AllReadyH.nil)
      · skip
        go_simp
        refine (TN.out _).mono ?_
        rintro e wa2 ⟨rfl, hba2⟩
        have kba2 : Below w0.heap.size w0 wa2 := bstep kba1 hba2
        have oqa2 := oqa1.below hba2
        dsimp only
        refine hKK.out _ _ (AN.below hHa1 hba2) (fun hHa2 => ?_)
        clear hKK KK
        refine wpAnyH_ready (rs := [4, 8]) (by kernel_rfl) (by simp) ?_
        refine AllReadyH.cons (o := { dst := some 26, op := _, type := _, pos := _, after := _, guard := _ }) rfl (fun KK hKK => ?_) (AllReadyH.cons (o := { dst := some 6, op := _, type := _, pos := _, after := _, guard := _ }) rfl (fun KK hKK => ?_) AllReadyH.nil)
        · skip
          go_simp
          have hscall := kba2.size
          refine (SP.out _ _ (oqa2)).mono ?_
          rintro e wa3 ⟨aq, cq, rfl, wra3, hba3⟩
          have kba3 : Below w0.heap.size w0 wa3 := bstep kba2 hba3
          dsimp only
          refine hKK.out _ _ (AN.below hHa2 hba3) (fun hHa3 => ?_)
          clear hKK KK
          refine wpAnyH_take (i := 5) (oi := { dst := some 21, op := _, type := _, pos := _, after := _, guard := _ }) (v := ?_) rfl (by kernel_rfl) (by kernel_rfl) (by kernel_rfl) (fun _ _ _ h => h) (Or.inl ⟨by rfl, ?_⟩) (hHa3) ?_
          rotate_left
          · (intro wx hSw; obtain ⟨⟨l0, q0, q1⟩, ⟨l1, q2, q3⟩⟩ := hSw; go_simp <;> with_reducible rfl)
          simp only [Act.put, List.setIfInBounds_toArray, List.set_cons_zero, List.set_cons_succ]
          refine wpAnyH_take (i := 6) (oi := { dst := some 27, op := _, type := _, pos := _, after := _, guard := _ }) (v := ?_) rfl (by kernel_rfl) (by kernel_rfl) (by kernel_rfl) (fun _ _ _ h => h) (Or.inl ⟨by rfl, ?_⟩) (hHa3) ?_
          rotate_left
          · (intro wx hSw; obtain ⟨⟨l0, q0, q1⟩, ⟨l1, q2, q3⟩⟩ := hSw; go_simp <;> with_reducible rfl)
          simp only [Act.put, List.setIfInBounds_toArray, List.set_cons_zero, List.set_cons_succ]
          refine wpAnyH_take (i := 7) (oi := { dst := some 28, op := _, type := _, pos := _, after := _, guard := _ }) (v := ?_) rfl (by kernel_rfl) (by kernel_rfl) (by kernel_rfl) (fun _ _ _ h => h) (Or.inl ⟨by rfl, ?_⟩) (hHa3) ?_
          rotate_left
          · (intro wx hSw; obtain ⟨⟨l0, q0, q1⟩, ⟨l1, q2, q3⟩⟩ := hSw; go_simp <;> with_reducible rfl)
          simp only [Act.put, List.setIfInBounds_toArray, List.set_cons_zero, List.set_cons_succ]
          refine wpAnyH_ready (rs := [8]) (by kernel_rfl) (by simp) ?_
          refine AllReadyH.cons (o := { dst := some 6, op := _, type := _, pos := _, after := _, guard := _ }) rfl (fun KK hKK => ?_) AllReadyH.nil
          go_simp
          have oba4 : OBx (World.alloc wa3 (Obj.cells #[Value.int IntKind.i64 0, Value.slice none 0 0] 30)) wa3.heap.size := OBx.fresh wa3 30
          have baa4 : Below (wa3).heap.size (wa3) (World.alloc wa3 (Obj.cells #[Value.int IntKind.i64 0, Value.slice none 0 0] 30)) := balloc (Below.refl _ wa3) _
          have hwl := wra3.lt
          have hsa4 := kba3.size
          refine hKK.out _ _ (AN.below hHa3 baa4) (fun hHa4 => ?_)
          clear hKK KK
          generalize World.alloc wa3 (Obj.cells #[Value.int IntKind.i64 0, Value.slice none 0 0] 30) = wa4 at oba4 baa4 hHa4 ⊢
          have kba4 : Below w0.heap.size w0 wa4 := bstep kba3 baa4
          have wra4 := wra3.below baa4
          have obc := oba4
          obtain ⟨o1, o2, o3, o4, o5⟩ := obc
          refine wpAnyH_ready (rs := [9]) (by kernel_rfl) (by simp) ?_
          refine AllReadyH.cons (o := { dst := none, op := _, type := _, pos := _, after := _, guard := _ }) rfl (fun KK hKK => ?_) AllReadyH.nil
          go_simp
          have hbs : w0.heap.size ≤ wa3.heap.size := by first | omega | (simp; done)
          have kbf : Below w0.heap.size w0 ((wa4.setCell ⟨wa3.heap.size, 0, none⟩ (.int .i64 KP)).setCell ⟨wa3.heap.size, 1, none⟩ (.slice aq lP cq)) := (kba4.setCell hbs _).setCell hbs _
          refine hKK.out _ _ (AN.low (X := w0.heap.size) (A0.out) kbf (by omega) (by omega)) (fun hHf => ?_)
          clear hKK KK
          refine wpAnyH_take (i := 10) (oi := { dst := some 7, op := _, type := _, pos := _, after := _, guard := _ }) (v := ?_) rfl (by kernel_rfl) (by kernel_rfl) (by kernel_rfl) (fun _ _ _ h => h) (Or.inl ⟨by rfl, ?_⟩) (hHf) ?_
          rotate_left
          · (intro wx hSw; obtain ⟨⟨l0, q0, q1⟩, ⟨l1, q2, q3⟩⟩ := hSw; go_simp <;> with_reducible rfl)
          simp only [Act.put, List.setIfInBounds_toArray, List.set_cons_zero, List.set_cons_succ]
          refine wpAnyH_done (by kernel_rfl) ?_ _
          have hfil := oba4.filled KP aq lP cq
          have hwr := (wra4.away ⟨wa3.heap.size, 0, none⟩ (.int .i64 KP) (.inr hwl)).away ⟨wa3.heap.size, 1, none⟩ (.slice aq lP cq) (.inr hwl)
          have hne : lP = 0 ∨ ∃ b, aq = some ⟨b, 0, none⟩ ∧ b ≠ wa3.heap.size := ne2 hwl
          clear o2 o3 o4 o5
          go_wp2_with fail
          go_meet
          exact ⟨_, aq, cq, rfl, rfl, hfil, hwr.mono (by omega), hbs, hne, kbf⟩
        · skip
          go_simp
          have oba5 : OBx (World.alloc wa2 (Obj.cells #[Value.int IntKind.i64 0, Value.slice none 0 0] 30)) wa2.heap.size := OBx.fresh wa2 30
          have baa5 : Below (wa2).heap.size (wa2) (World.alloc wa2 (Obj.cells #[Value.int IntKind.i64 0, Value.slice none 0 0] 30)) := balloc (Below.refl _ wa2) _
          have hsa5 := kba2.size
          refine hKK.out _ _ (AN.below hHa2 baa5) (fun hHa5 => ?_)
          clear hKK KK
          generalize World.alloc wa2 (Obj.cells #[Value.int IntKind.i64 0, Value.slice none 0 0] 30) = wa5 at oba5 baa5 hHa5 ⊢
          have kba5 : Below w0.heap.size w0 wa5 := bstep kba2 baa5
          have oqa5 := oqa2.below baa5
          refine wpAnyH_ready (rs := [4]) (by kernel_rfl) (by simp) ?_
          refine AllReadyH.cons (o := { dst := some 26, op := _, type := _, pos := _, after := _, guard := _ }) rfl (fun KK hKK => ?_) AllReadyH.nil
          go_simp
          have hscall := kba5.size
          refine (SP.out _ _ (oqa5)).mono ?_
          rintro e wa6 ⟨aq, cq, rfl, wra6, hba6⟩
          have kba6 : Below w0.heap.size w0 wa6 := bstep kba5 hba6
          have oba6 := oba5.below hba6
          have hbx : wa2.heap.size < wa5.heap.size := oba5.lt
          dsimp only
          refine hKK.out _ _ (AN.below hHa5 hba6) (fun hHa6 => ?_)
          clear hKK KK
          refine wpAnyH_take (i := 5) (oi := { dst := some 21, op := _, type := _, pos := _, after := _, guard := _ }) (v := ?_) rfl (by kernel_rfl) (by kernel_rfl) (by kernel_rfl) (fun _ _ _ h => h) (Or.inl ⟨by rfl, ?_⟩) (hHa6) ?_
          rotate_left
          · (intro wx hSw; obtain ⟨⟨l0, q0, q1⟩, ⟨l1, q2, q3⟩⟩ := hSw; go_simp <;> with_reducible rfl)
          simp only [Act.put, List.setIfInBounds_toArray, List.set_cons_zero, List.set_cons_succ]
          refine wpAnyH_take (i := 6) (oi := { dst := some 27, op := _, type := _, pos := _, after := _, guard := _ }) (v := ?_) rfl (by kernel_rfl) (by kernel_rfl) (by kernel_rfl) (fun _ _ _ h => h) (Or.inl ⟨by rfl, ?_⟩) (hHa6) ?_
          rotate_left
          · (intro wx hSw; obtain ⟨⟨l0, q0, q1⟩, ⟨l1, q2, q3⟩⟩ := hSw; go_simp <;> with_reducible rfl)
          simp only [Act.put, List.setIfInBounds_toArray, List.set_cons_zero, List.set_cons_succ]
          refine wpAnyH_take (i := 7) (oi := { dst := some 28, op := _, type := _, pos := _, after := _, guard := _ }) (v := ?_) rfl (by kernel_rfl) (by kernel_rfl) (by kernel_rfl) (fun _ _ _ h => h) (Or.inl ⟨by rfl, ?_⟩) (hHa6) ?_
          rotate_left
          · (intro wx hSw; obtain ⟨⟨l0, q0, q1⟩, ⟨l1, q2, q3⟩⟩ := hSw; go_simp <;> with_reducible rfl)
          simp only [Act.put, List.setIfInBounds_toArray, List.set_cons_zero, List.set_cons_succ]
          have obc := oba6
          obtain ⟨o1, o2, o3, o4, o5⟩ := obc
          refine wpAnyH_ready (rs := [9]) (by kernel_rfl) (by simp) ?_
          refine AllReadyH.cons (o := { dst := none, op := _, type := _, pos := _, after := _, guard := _ }) rfl (fun KK hKK => ?_) AllReadyH.nil
          go_simp
          have hbs : w0.heap.size ≤ wa2.heap.size := by first | omega | (simp; done)
          have kbf : Below w0.heap.size w0 ((wa6.setCell ⟨wa2.heap.size, 0, none⟩ (.int .i64 KP)).setCell ⟨wa2.heap.size, 1, none⟩ (.slice aq lP cq)) := (kba6.setCell hbs _).setCell hbs _
          refine hKK.out _ _ (AN.low (X := w0.heap.size) (A0.out) kbf (by omega) (by omega)) (fun hHf => ?_)
          clear hKK KK
          refine wpAnyH_take (i := 10) (oi := { dst := some 7, op := _, type := _, pos := _, after := _, guard := _ }) (v := ?_) rfl (by kernel_rfl) (by kernel_rfl) (by kernel_rfl) (fun _ _ _ h => h) (Or.inl ⟨by rfl, ?_⟩) (hHf) ?_
          rotate_left
          · (intro wx hSw; obtain ⟨⟨l0, q0, q1⟩, ⟨l1, q2, q3⟩⟩ := hSw; go_simp <;> with_reducible rfl)
          simp only [Act.put, List.setIfInBounds_toArray, List.set_cons_zero, List.set_cons_succ]
          refine wpAnyH_done (by kernel_rfl) ?_ _
          have hfil := oba6.filled KP aq lP cq
          have hwr := (wra6.away ⟨wa2.heap.size, 0, none⟩ (.int .i64 KP) (.inl (by show _ < _; omega))).away ⟨wa2.heap.size, 1, none⟩ (.slice aq lP cq) (.inl (by show _ < _; omega))
          have hne : lP = 0 ∨ ∃ b, aq = some ⟨b, 0, none⟩ ∧ b ≠ wa2.heap.size := wra6.ne1 (by omega)
          clear o2 o3 o4 o5
          go_wp2_with fail
          go_meet
          exact ⟨_, aq, cq, rfl, rfl, hfil, hwr.mono (by omega), hbs, hne, kbf⟩
      · skip
        go_simp
        have oba7 : OBx (World.alloc wa1 (Obj.cells #[Value.int IntKind.i64 0, Value.slice none 0 0] 30)) wa1.heap.size := OBx.fresh wa1 30
        have baa7 : Below (wa1).heap.size (wa1) (World.alloc wa1 (Obj.cells #[Value.int IntKind.i64 0, Value.slice none 0 0] 30)) := balloc (Below.refl _ wa1) _
        have hsa7 := kba1.size
        refine hKK.out _ _ (AN.below hHa1 baa7) (fun hHa7 => ?_)
        clear hKK KK
        generalize World.alloc wa1 (Obj.cells #[Value.int IntKind.i64 0, Value.slice none 0 0] 30) = wa7 at oba7 baa7 hHa7 ⊢
        have kba7 : Below w0.heap.size w0 wa7 := bstep kba1 baa7
        have oqa7 := oqa1.below baa7
        refine wpAnyH_ready (rs := [3]) (by kernel_rfl) (by simp) ?_
        refine AllReadyH.cons (o := { dst := some 25, op := _, type := _, pos := _, after := _, guard := _ }) rfl (fun KK hKK => ?_) AllReadyH.nil
        go_simp
        refine (TN.out _).mono ?_
        rintro e wa8 ⟨rfl, hba8⟩
        have kba8 : Below w0.heap.size w0 wa8 := bstep kba7 hba8
        have oba8 := oba7.below hba8
        have oqa8 := oqa7.below hba8
        dsimp only
        refine hKK.out _ _ (AN.below hHa7 hba8) (fun hHa8 => ?_)
        clear hKK KK
        refine wpAnyH_ready (rs := [4]) (by kernel_rfl) (by simp) ?_
        refine AllReadyH.cons (o := { dst := some 26, op := _, type := _, pos := _, after := _, guard := _ }) rfl (fun KK hKK => ?_) AllReadyH.nil
        go_simp
        have hscall := kba8.size
        refine (SP.out _ _ (oqa8)).mono ?_
        rintro e wa9 ⟨aq, cq, rfl, wra9, hba9⟩
        have kba9 : Below w0.heap.size w0 wa9 := bstep kba8 hba9
        have oba9 := oba8.below hba9
        have hbx : wa1.heap.size < wa8.heap.size := oba8.lt
        dsimp only
        refine hKK.out _ _ (AN.below hHa8 hba9) (fun hHa9 => ?_)
        clear hKK KK
        refine wpAnyH_take (i := 5) (oi := { dst := some 21, op := _, type := _, pos := _, after := _, guard := _ }) (v := ?_) rfl (by kernel_rfl) (by kernel_rfl) (by kernel_rfl) (fun _ _ _ h => h) (Or.inl ⟨by rfl, ?_⟩) (hHa9) ?_
        rotate_left
        · (intro wx hSw; obtain ⟨⟨l0, q0, q1⟩, ⟨l1, q2, q3⟩⟩ := hSw; go_simp <;> with_reducible rfl)
        simp only [Act.put, List.setIfInBounds_toArray, List.set_cons_zero, List.set_cons_succ]
        refine wpAnyH_take (i := 6) (oi := { dst := some 27, op := _, type := _, pos := _, after := _, guard := _ }) (v := ?_) rfl (by kernel_rfl) (by kernel_rfl) (by kernel_rfl) (fun _ _ _ h => h) (Or.inl ⟨by rfl, ?_⟩) (hHa9) ?_
        rotate_left
        · (intro wx hSw; obtain ⟨⟨l0, q0, q1⟩, ⟨l1, q2, q3⟩⟩ := hSw; go_simp <;> with_reducible rfl)
        simp only [Act.put, List.setIfInBounds_toArray, List.set_cons_zero, List.set_cons_succ]
        refine wpAnyH_take (i := 7) (oi := { dst := some 28, op := _, type := _, pos := _, after := _, guard := _ }) (v := ?_) rfl (by kernel_rfl) (by kernel_rfl) (by kernel_rfl) (fun _ _ _ h => h) (Or.inl ⟨by rfl, ?_⟩) (hHa9) ?_
        rotate_left
        · (intro wx hSw; obtain ⟨⟨l0, q0, q1⟩, ⟨l1, q2, q3⟩⟩ := hSw; go_simp <;> with_reducible rfl)
        simp only [Act.put, List.setIfInBounds_toArray, List.set_cons_zero, List.set_cons_succ]
        have obc := oba9
        obtain ⟨o1, o2, o3, o4, o5⟩ := obc
        refine wpAnyH_ready (rs := [9]) (by kernel_rfl) (by simp) ?_
        refine AllReadyH.cons (o := { dst := none, op := _, type := _, pos := _, after := _, guard := _ }) rfl (fun KK hKK => ?_) AllReadyH.nil
        go_simp
        have hbs : w0.heap.size ≤ wa1.heap.size := by first | omega | (simp; done)
        have kbf : Below w0.heap.size w0 ((wa9.setCell ⟨wa1.heap.size, 0, none⟩ (.int .i64 KP)).setCell ⟨wa1.heap.size, 1, none⟩ (.slice aq lP cq)) := (kba9.setCell hbs _).setCell hbs _
        refine hKK.out _ _ (AN.low (X := w0.heap.size) (A0.out) kbf (by omega) (by omega)) (fun hHf => ?_)
        clear hKK KK
        refine wpAnyH_take (i := 10) (oi := { dst := some 7, op := _, type := _, pos := _, after := _, guard := _ }) (v := ?_) rfl (by kernel_rfl) (by kernel_rfl) (by kernel_rfl) (fun _ _ _ h => h) (Or.inl ⟨by rfl, ?_⟩) (hHf) ?_
        rotate_left
        · (intro wx hSw; obtain ⟨⟨l0, q0, q1⟩, ⟨l1, q2, q3⟩⟩ := hSw; go_simp <;> with_reducible rfl)
        simp only [Act.put, List.setIfInBounds_toArray, List.set_cons_zero, List.set_cons_succ]
        refine wpAnyH_done (by kernel_rfl) ?_ _
        have hfil := oba9.filled KP aq lP cq
        have hwr := (wra9.away ⟨wa1.heap.size, 0, none⟩ (.int .i64 KP) (.inl (by show _ < _; omega))).away ⟨wa1.heap.size, 1, none⟩ (.slice aq lP cq) (.inl (by show _ < _; omega))
        have hne : lP = 0 ∨ ∃ b, aq = some ⟨b, 0, none⟩ ∧ b ≠ wa1.heap.size := wra9.ne1 (by omega)
        clear o2 o3 o4 o5
        go_wp2_with fail
        go_meet
        exact ⟨_, aq, cq, rfl, rfl, hfil, hwr.mono (by omega), hbs, hne, kbf⟩
    · skip
      go_simp
      have oba10 : OBx (World.drew (World.alloc w0 (Obj.cells #[Value.int IntKind.i64 0, Value.slice none 0 0] 30))) w0.heap.size := (OBx.fresh w0 30).drew
      have baa10 : Below (w0.drew).heap.size (w0.drew) (World.drew (World.alloc w0 (Obj.cells #[Value.int IntKind.i64 0, Value.slice none 0 0] 30))) := below_of_drew (balloc (Below.refl _ w0) _).drew
      have hsa10 := kb0.size
      refine hKK.out _ _ (AN.below hH0 baa10) (fun hHa10 => ?_)
      clear hKK KK
      generalize World.drew (World.alloc w0 (Obj.cells #[Value.int IntKind.i64 0, Value.slice none 0 0] 30)) = wa10 at oba10 baa10 hHa10 ⊢
      have kba10 : Below w0.heap.size w0 wa10 := bstep kb0 baa10
      refine wpAnyH_ready (rs := [1]) (by kernel_rfl) (by simp) ?_
      refine AllReadyH.cons (o := { dst := some 23, op := _, type := _, pos := _, after := _, guard := _ }) rfl (fun KK hKK => ?_) AllReadyH.nil
      go_simp
      refine (TR.out _ (bstep B0 kba10)).mono ?_
      rintro e wa11 ⟨bq, rfl, lq, oqa11, hba11⟩
      have kba11 : Below w0.heap.size w0 wa11 := bstep kba10 hba11
      have oba11 := oba10.below hba11
      dsimp only
      refine hKK.out _ _ (AN.below hHa10 hba11) (fun hHa11 => ?_)
      clear hKK KK
      refine wpAnyH_ready (rs := [3]) (by kernel_rfl) (by simp) ?_
      refine AllReadyH.cons (o := { dst := some 25, op := _, type := _, pos := _, after := _, guard := _ }) rfl (fun KK hKK => ?_) AllReadyH.nil
      go_simp
      refine (TN.out _).mono ?_
      rintro e wa12 ⟨rfl, hba12⟩
      have kba12 : Below w0.heap.size w0 wa12 := bstep kba11 hba12
      have oba12 := oba11.below hba12
      have oqa12 := oqa11.below hba12
      dsimp only
      refine hKK.out _ _ (AN.below hHa11 hba12) (fun hHa12 => ?_)
      clear hKK KK
      refine wpAnyH_ready (rs := [4]) (by kernel_rfl) (by simp) ?_
      refine AllReadyH.cons (o := { dst := some 26, op := _, type := _, pos := _, after := _, guard := _ }) rfl (fun KK hKK => ?_) AllReadyH.nil
      go_simp
      have hscall := kba12.size
      refine (SP.out _ _ (oqa12)).mono ?_
      rintro e wa13 ⟨aq, cq, rfl, wra13, hba13⟩
      have kba13 : Below w0.heap.size w0 wa13 := bstep kba12 hba13
      have oba13 := oba12.below hba13
      have hbx : w0.heap.size < wa12.heap.size := oba12.lt
      dsimp only
      refine hKK.out _ _ (AN.below hHa12 hba13) (fun hHa13 => ?_)
      clear hKK KK
      refine wpAnyH_take (i := 5) (oi := { dst := some 21, op := _, type := _, pos := _, after := _, guard := _ }) (v := ?_) rfl (by kernel_rfl) (by kernel_rfl) (by kernel_rfl) (fun _ _ _ h => h) (Or.inl ⟨by rfl, ?_⟩) (hHa13) ?_
      rotate_left
      · (intro wx hSw; obtain ⟨⟨l0, q0, q1⟩, ⟨l1, q2, q3⟩⟩ := hSw; go_simp <;> with_reducible rfl)
      simp only [Act.put, List.setIfInBounds_toArray, List.set_cons_zero, List.set_cons_succ]
      refine wpAnyH_take (i := 6) (oi := { dst := some 27, op := _, type := _, pos := _, after := _, guard := _ }) (v := ?_) rfl (by kernel_rfl) (by kernel_rfl) (by kernel_rfl) (fun _ _ _ h => h) (Or.inl ⟨by rfl, ?_⟩) (hHa13) ?_
      rotate_left
      · (intro wx hSw; obtain ⟨⟨l0, q0, q1⟩, ⟨l1, q2, q3⟩⟩ := hSw; go_simp <;> with_reducible rfl)
      simp only [Act.put, List.setIfInBounds_toArray, List.set_cons_zero, List.set_cons_succ]
      refine wpAnyH_take (i := 7) (oi := { dst := some 28, op := _, type := _, pos := _, after := _, guard := _ }) (v := ?_) rfl (by kernel_rfl) (by kernel_rfl) (by kernel_rfl) (fun _ _ _ h => h) (Or.inl ⟨by rfl, ?_⟩) (hHa13) ?_
      rotate_left
      · (intro wx hSw; obtain ⟨⟨l0, q0, q1⟩, ⟨l1, q2, q3⟩⟩ := hSw; go_simp <;> with_reducible rfl)
      simp only [Act.put, List.setIfInBounds_toArray, List.set_cons_zero, List.set_cons_succ]
      have obc := oba13
      obtain ⟨o1, o2, o3, o4, o5⟩ := obc
      refine wpAnyH_ready (rs := [9]) (by kernel_rfl) (by simp) ?_
      refine AllReadyH.cons (o := { dst := none, op := _, type := _, pos := _, after := _, guard := _ }) rfl (fun KK hKK => ?_) AllReadyH.nil
      go_simp
      have hbs : w0.heap.size ≤ w0.heap.size := by first | omega | (simp; done)
      have kbf : Below w0.heap.size w0 ((wa13.setCell ⟨w0.heap.size, 0, none⟩ (.int .i64 KP)).setCell ⟨w0.heap.size, 1, none⟩ (.slice aq lP cq)) := (kba13.setCell hbs _).setCell hbs _
      refine hKK.out _ _ (AN.low (X := w0.heap.size) (A0.out) kbf (by omega) (by omega)) (fun hHf => ?_)
      clear hKK KK
      refine wpAnyH_take (i := 10) (oi := { dst := some 7, op := _, type := _, pos := _, after := _, guard := _ }) (v := ?_) rfl (by kernel_rfl) (by kernel_rfl) (by kernel_rfl) (fun _ _ _ h => h) (Or.inl ⟨by rfl, ?_⟩) (hHf) ?_
      rotate_left
      · (intro wx hSw; obtain ⟨⟨l0, q0, q1⟩, ⟨l1, q2, q3⟩⟩ := hSw; go_simp <;> with_reducible rfl)
      simp only [Act.put, List.setIfInBounds_toArray, List.set_cons_zero, List.set_cons_succ]
      refine wpAnyH_done (by kernel_rfl) ?_ _
      have hfil := oba13.filled KP aq lP cq
      have hwr := (wra13.away ⟨w0.heap.size, 0, none⟩ (.int .i64 KP) (.inl (by show _ < _; omega))).away ⟨w0.heap.size, 1, none⟩ (.slice aq lP cq) (.inl (by show _ < _; omega))
      have hne : lP = 0 ∨ ∃ b, aq = some ⟨b, 0, none⟩ ∧ b ≠ w0.heap.size := wra13.ne1 (by omega)
      clear o2 o3 o4 o5
      go_wp2_with fail
      go_meet
      exact ⟨_, aq, cq, rfl, rfl, hfil, hwr.mono (by omega), hbs, hne, kbf⟩
  case rest =>
    obtain ⟨bW, aW, cW, rfl, rfl, hW, wrW, hbW, neW, B1⟩ := hcut
    rename World => w1
    have AA1 := AN.low A0.out B1 s00' s0
    have B1x : Below w.heap.size w w1 := B0.trans (B1.mono s00)
    have s1x := B1x.size
    have s1y := B1.size
    have HW1 := hide hW
    have HR1 := hide wrW
    have HA1 := hide AA1
    clear hW wrW A0 B1
    have AA1' := AA1
    obtain ⟨⟨l0, q0, q1⟩, ⟨l1, q2, q3⟩⟩ := AA1'
    clear AA1
    go_wp2_with fail
    refine (TR.out _ B1x).mono ?_
    rintro e w3 ⟨b3, rfl, l3, o3, hb3⟩
    clear q0 q1 q2 q3
    generalize hw4 : w3.alloc (Obj.cells #[Value.int IntKind.i64 K, Value.slice (some ⟨b3, 0, none⟩) n n] 30) = w4
    have B34 : Below w3.heap.size w3 w4 := by rw [← hw4]; exact balloc (Below.refl _ _) _
    have X4 : HBx w4 w3.heap.size K (some ⟨b3, 0, none⟩) n n := by rw [← hw4]; exact HBx.fresh _ _ _ _ _ _
    have o4 := o3.below B34
    have lt3 := o3.lt
    have K4 : Below w1.heap.size w1 w4 := bstep hb3 B34
    have AX := hide (AN.mk X4 (HA1.out.below K4).two)
    have s4 := K4.size
    have s34 := B34.size
    have sX := X4.lt
    clear hb3 o3 X4
    have lAX2 := AX.out.two.lt
    subst hw4
    go_upto_region 7 with fail
    generalize hw4 : w3.alloc (Obj.cells #[Value.int IntKind.i64 K, Value.slice (some ⟨b3, 0, none⟩) n n] 30) = w4 at AX K4 o4 B34 s4 s34 sX lAX2 ⊢
    clear hw4
    go_cut [9, 10] (fun s s' wx => ∃ bx aq cq, s = .pointer (some ⟨bx, 0, none⟩) ∧ s' = .bool ok ∧ HBx wx bx KP aq lP cq ∧ Wr wx aq lP LP w4.heap.size ∧ w4.heap.size ≤ bx ∧ (lP = 0 ∨ ∃ b, aq = some ⟨b, 0, none⟩ ∧ b ≠ bx) ∧ Below w4.heap.size w4 wx)
    case first =>
      refine wp_region_held_drew (S := fun wx => AN wx w3.heap.size K (some ⟨b3, 0, none⟩) n n (w.heap.size + 1) i d) (by kernel_rfl) (AX.out.drew) (fun hH0 => ?_)
      have kb0 : Below w4.heap.size w4 w4.drew := Below.drew (Below.refl _ _)
      refine wpAnyH_take (i := 0) (oi := { dst := some 32, op := _, type := _, pos := _, after := _, guard := _ }) (v := ?_) rfl (by kernel_rfl) (by kernel_rfl) (by kernel_rfl) (fun _ _ _ h => h) (Or.inl ⟨by rfl, ?_⟩) (hH0) ?_
      rotate_left
      · (intro wx hSw; obtain ⟨⟨l0, q0, q1⟩, ⟨l1, q2, q3⟩⟩ := hSw; go_simp <;> with_reducible rfl)
      simp only [Act.put, List.setIfInBounds_toArray, List.set_cons_zero, List.set_cons_succ]
      refine wpAnyH_take (i := 1) (oi := { dst := some 33, op := _, type := _, pos := _, after := _, guard := _ }) (v := ?_) rfl (by kernel_rfl) (by kernel_rfl) (by kernel_rfl) (fun _ _ _ h => h) (Or.inl ⟨by rfl, ?_⟩) (hH0) ?_
      rotate_left
      · (intro wx hSw; obtain ⟨⟨l0, q0, q1⟩, ⟨l1, q2, q3⟩⟩ := hSw; go_simp <;> with_reducible rfl)
      simp only [Act.put, List.setIfInBounds_toArray, List.set_cons_zero, List.set_cons_succ]
      refine wpAnyH_ready (rs := [2, 7]) (by kernel_rfl) (by simp) ?_
      refine AllReadyH.cons (o := { dst := some 34, op := _, type := _, pos := _, after := _, guard := _ }) rfl (fun KK hKK => ?_) (AllReadyH.cons (o := { dst := some 9, op := _, type := _, pos := _, after := _, guard := _ }) rfl (fun KK hKK => ?_) AllReadyH.nil)
      · skip
        go_simp
        refine (TN.out _).mono ?_
        rintro e wb1 ⟨rfl, hbb1⟩
        have kbb1 : Below w4.heap.size w4 wb1 := bstep kb0 hbb1
        dsimp only
        refine hKK.out _ _ (AN.below hH0 hbb1) (fun hHb1 => ?_)
        clear hKK KK
        refine wpAnyH_ready (rs := [3, 7]) (by kernel_rfl) (by simp) ?_
        refine AllReadyH.cons (o := { dst := some 35, op := _, type := _, pos := _, after := _, guard := _ }) rfl (fun KK hKK => ?_) (AllReadyH.cons (o := { dst := some 9, op := _, type := _, pos := _, after := _, guard := _ }) rfl (fun KK hKK => ?_) AllReadyH.nil)
        · skip
          go_simp
          have hscall := kbb1.size
          refine (IP.out _ _ (o4.below kbb1)).mono ?_
          rintro e wb2 ⟨aq, cq, rfl, wrb2, hbb2⟩
          have kbb2 : Below w4.heap.size w4 wb2 := bstep kbb1 hbb2
          dsimp only
          refine hKK.out _ _ (AN.below hHb1 hbb2) (fun hHb2 => ?_)
          clear hKK KK
          refine wpAnyH_take (i := 4) (oi := { dst := some 31, op := _, type := _, pos := _, after := _, guard := _ }) (v := ?_) rfl (by kernel_rfl) (by kernel_rfl) (by kernel_rfl) (fun _ _ _ h => h) (Or.inl ⟨by rfl, ?_⟩) (hHb2) ?_
          rotate_left
          · (intro wx hSw; obtain ⟨⟨l0, q0, q1⟩, ⟨l1, q2, q3⟩⟩ := hSw; go_simp <;> with_reducible rfl)
          simp only [Act.put, List.setIfInBounds_toArray, List.set_cons_zero, List.set_cons_succ]
          refine wpAnyH_take (i := 5) (oi := { dst := some 36, op := _, type := _, pos := _, after := _, guard := _ }) (v := ?_) rfl (by kernel_rfl) (by kernel_rfl) (by kernel_rfl) (fun _ _ _ h => h) (Or.inl ⟨by rfl, ?_⟩) (hHb2) ?_
          rotate_left
          · (intro wx hSw; obtain ⟨⟨l0, q0, q1⟩, ⟨l1, q2, q3⟩⟩ := hSw; go_simp <;> with_reducible rfl)
          simp only [Act.put, List.setIfInBounds_toArray, List.set_cons_zero, List.set_cons_succ]
          refine wpAnyH_take (i := 6) (oi := { dst := some 37, op := _, type := _, pos := _, after := _, guard := _ }) (v := ?_) rfl (by kernel_rfl) (by kernel_rfl) (by kernel_rfl) (fun _ _ _ h => h) (Or.inl ⟨by rfl, ?_⟩) (hHb2) ?_
          rotate_left
          · (intro wx hSw; obtain ⟨⟨l0, q0, q1⟩, ⟨l1, q2, q3⟩⟩ := hSw; go_simp <;> with_reducible rfl)
          simp only [Act.put, List.setIfInBounds_toArray, List.set_cons_zero, List.set_cons_succ]
          refine wpAnyH_ready (rs := [7]) (by kernel_rfl) (by simp) ?_
          refine AllReadyH.cons (o := { dst := some 9, op := _, type := _, pos := _, after := _, guard := _ }) rfl (fun KK hKK => ?_) AllReadyH.nil
          go_simp
          have obb3 : OBx (World.alloc wb2 (Obj.cells #[Value.int IntKind.i64 0, Value.slice none 0 0] 30)) wb2.heap.size := OBx.fresh wb2 30
          have bab3 : Below (wb2).heap.size (wb2) (World.alloc wb2 (Obj.cells #[Value.int IntKind.i64 0, Value.slice none 0 0] 30)) := balloc (Below.refl _ wb2) _
          have hwl := wrb2.lt
          have hsb3 := kbb2.size
          refine hKK.out _ _ (AN.below hHb2 bab3) (fun hHb3 => ?_)
          clear hKK KK
          generalize World.alloc wb2 (Obj.cells #[Value.int IntKind.i64 0, Value.slice none 0 0] 30) = wb3 at obb3 bab3 hHb3 ⊢
          have kbb3 : Below w4.heap.size w4 wb3 := bstep kbb2 bab3
          have wrb3 := wrb2.below bab3
          have obc := obb3
          obtain ⟨o1, o2, o3, o4, o5⟩ := obc
          refine wpAnyH_ready (rs := [8]) (by kernel_rfl) (by simp) ?_
          refine AllReadyH.cons (o := { dst := none, op := _, type := _, pos := _, after := _, guard := _ }) rfl (fun KK hKK => ?_) AllReadyH.nil
          go_simp
          have hbs : w4.heap.size ≤ wb2.heap.size := by first | omega | (simp; done)
          have kbf : Below w4.heap.size w4 ((wb3.setCell ⟨wb2.heap.size, 0, none⟩ (.int .i64 KP)).setCell ⟨wb2.heap.size, 1, none⟩ (.slice aq lP cq)) := (kbb3.setCell hbs _).setCell hbs _
          refine hKK.out _ _ (AN.low (X := w4.heap.size) (AX.out) kbf (by omega) (by omega)) (fun hHf => ?_)
          clear hKK KK
          refine wpAnyH_take (i := 9) (oi := { dst := some 10, op := _, type := _, pos := _, after := _, guard := _ }) (v := ?_) rfl (by kernel_rfl) (by kernel_rfl) (by kernel_rfl) (fun _ _ _ h => h) (Or.inl ⟨by rfl, ?_⟩) (hHf) ?_
          rotate_left
          · (intro wx hSw; obtain ⟨⟨l0, q0, q1⟩, ⟨l1, q2, q3⟩⟩ := hSw; go_simp <;> with_reducible rfl)
          simp only [Act.put, List.setIfInBounds_toArray, List.set_cons_zero, List.set_cons_succ]
          refine wpAnyH_done (by kernel_rfl) ?_ _
          have hfil := obb3.filled KP aq lP cq
          have hwr := (wrb3.away ⟨wb2.heap.size, 0, none⟩ (.int .i64 KP) (.inr hwl)).away ⟨wb2.heap.size, 1, none⟩ (.slice aq lP cq) (.inr hwl)
          have hne : lP = 0 ∨ ∃ b, aq = some ⟨b, 0, none⟩ ∧ b ≠ wb2.heap.size := ne2 hwl
          clear o2 o3 o4 o5
          go_wp2_with fail
          go_meet
          exact ⟨_, aq, cq, rfl, rfl, hfil, hwr.mono (by omega), hbs, hne, kbf⟩
        · skip
          go_simp
          have obb4 : OBx (World.alloc wb1 (Obj.cells #[Value.int IntKind.i64 0, Value.slice none 0 0] 30)) wb1.heap.size := OBx.fresh wb1 30
          have bab4 : Below (wb1).heap.size (wb1) (World.alloc wb1 (Obj.cells #[Value.int IntKind.i64 0, Value.slice none 0 0] 30)) := balloc (Below.refl _ wb1) _
          have hsb4 := kbb1.size
          refine hKK.out _ _ (AN.below hHb1 bab4) (fun hHb4 => ?_)
          clear hKK KK
          generalize World.alloc wb1 (Obj.cells #[Value.int IntKind.i64 0, Value.slice none 0 0] 30) = wb4 at obb4 bab4 hHb4 ⊢
          have kbb4 : Below w4.heap.size w4 wb4 := bstep kbb1 bab4
          refine wpAnyH_ready (rs := [3]) (by kernel_rfl) (by simp) ?_
          refine AllReadyH.cons (o := { dst := some 35, op := _, type := _, pos := _, after := _, guard := _ }) rfl (fun KK hKK => ?_) AllReadyH.nil
          go_simp
          have hscall := kbb4.size
          refine (IP.out _ _ (o4.below kbb4)).mono ?_
          rintro e wb5 ⟨aq, cq, rfl, wrb5, hbb5⟩
          have kbb5 : Below w4.heap.size w4 wb5 := bstep kbb4 hbb5
          have obb5 := obb4.below hbb5
          have hbx : wb1.heap.size < wb4.heap.size := obb4.lt
          dsimp only
          refine hKK.out _ _ (AN.below hHb4 hbb5) (fun hHb5 => ?_)
          clear hKK KK
          refine wpAnyH_take (i := 4) (oi := { dst := some 31, op := _, type := _, pos := _, after := _, guard := _ }) (v := ?_) rfl (by kernel_rfl) (by kernel_rfl) (by kernel_rfl) (fun _ _ _ h => h) (Or.inl ⟨by rfl, ?_⟩) (hHb5) ?_
          rotate_left
          · (intro wx hSw; obtain ⟨⟨l0, q0, q1⟩, ⟨l1, q2, q3⟩⟩ := hSw; go_simp <;> with_reducible rfl)
          simp only [Act.put, List.setIfInBounds_toArray, List.set_cons_zero, List.set_cons_succ]
          refine wpAnyH_take (i := 5) (oi := { dst := some 36, op := _, type := _, pos := _, after := _, guard := _ }) (v := ?_) rfl (by kernel_rfl) (by kernel_rfl) (by kernel_rfl) (fun _ _ _ h => h) (Or.inl ⟨by rfl, ?_⟩) (hHb5) ?_
          rotate_left
          · (intro wx hSw; obtain ⟨⟨l0, q0, q1⟩, ⟨l1, q2, q3⟩⟩ := hSw; go_simp <;> with_reducible rfl)
          simp only [Act.put, List.setIfInBounds_toArray, List.set_cons_zero, List.set_cons_succ]
          refine wpAnyH_take (i := 6) (oi := { dst := some 37, op := _, type := _, pos := _, after := _, guard := _ }) (v := ?_) rfl (by kernel_rfl) (by kernel_rfl) (by kernel_rfl) (fun _ _ _ h => h) (Or.inl ⟨by rfl, ?_⟩) (hHb5) ?_
          rotate_left
          · (intro wx hSw; obtain ⟨⟨l0, q0, q1⟩, ⟨l1, q2, q3⟩⟩ := hSw; go_simp <;> with_reducible rfl)
          simp only [Act.put, List.setIfInBounds_toArray, List.set_cons_zero, List.set_cons_succ]
          have obc := obb5
          obtain ⟨o1, o2, o3, o4, o5⟩ := obc
          refine wpAnyH_ready (rs := [8]) (by kernel_rfl) (by simp) ?_
          refine AllReadyH.cons (o := { dst := none, op := _, type := _, pos := _, after := _, guard := _ }) rfl (fun KK hKK => ?_) AllReadyH.nil
          go_simp
          have hbs : w4.heap.size ≤ wb1.heap.size := by first | omega | (simp; done)
          have kbf : Below w4.heap.size w4 ((wb5.setCell ⟨wb1.heap.size, 0, none⟩ (.int .i64 KP)).setCell ⟨wb1.heap.size, 1, none⟩ (.slice aq lP cq)) := (kbb5.setCell hbs _).setCell hbs _
          refine hKK.out _ _ (AN.low (X := w4.heap.size) (AX.out) kbf (by omega) (by omega)) (fun hHf => ?_)
          clear hKK KK
          refine wpAnyH_take (i := 9) (oi := { dst := some 10, op := _, type := _, pos := _, after := _, guard := _ }) (v := ?_) rfl (by kernel_rfl) (by kernel_rfl) (by kernel_rfl) (fun _ _ _ h => h) (Or.inl ⟨by rfl, ?_⟩) (hHf) ?_
          rotate_left
          · (intro wx hSw; obtain ⟨⟨l0, q0, q1⟩, ⟨l1, q2, q3⟩⟩ := hSw; go_simp <;> with_reducible rfl)
          simp only [Act.put, List.setIfInBounds_toArray, List.set_cons_zero, List.set_cons_succ]
          refine wpAnyH_done (by kernel_rfl) ?_ _
          have hfil := obb5.filled KP aq lP cq
          have hwr := (wrb5.away ⟨wb1.heap.size, 0, none⟩ (.int .i64 KP) (.inl (by show _ < _; omega))).away ⟨wb1.heap.size, 1, none⟩ (.slice aq lP cq) (.inl (by show _ < _; omega))
          have hne : lP = 0 ∨ ∃ b, aq = some ⟨b, 0, none⟩ ∧ b ≠ wb1.heap.size := wrb5.ne1 (by omega)
          clear o2 o3 o4 o5
          go_wp2_with fail
          go_meet
          exact ⟨_, aq, cq, rfl, rfl, hfil, hwr.mono (by omega), hbs, hne, kbf⟩
      · skip
        go_simp
        have obb6 : OBx (World.drew (World.alloc w4 (Obj.cells #[Value.int IntKind.i64 0, Value.slice none 0 0] 30))) w4.heap.size := (OBx.fresh w4 30).drew
        have bab6 : Below (w4.drew).heap.size (w4.drew) (World.drew (World.alloc w4 (Obj.cells #[Value.int IntKind.i64 0, Value.slice none 0 0] 30))) := below_of_drew (balloc (Below.refl _ w4) _).drew
        have hsb6 := kb0.size
        refine hKK.out _ _ (AN.below hH0 bab6) (fun hHb6 => ?_)
        clear hKK KK
        generalize World.drew (World.alloc w4 (Obj.cells #[Value.int IntKind.i64 0, Value.slice none 0 0] 30)) = wb6 at obb6 bab6 hHb6 ⊢
        have kbb6 : Below w4.heap.size w4 wb6 := bstep kb0 bab6
        refine wpAnyH_ready (rs := [2]) (by kernel_rfl) (by simp) ?_
        refine AllReadyH.cons (o := { dst := some 34, op := _, type := _, pos := _, after := _, guard := _ }) rfl (fun KK hKK => ?_) AllReadyH.nil
        go_simp
        refine (TN.out _).mono ?_
        rintro e wb7 ⟨rfl, hbb7⟩
        have kbb7 : Below w4.heap.size w4 wb7 := bstep kbb6 hbb7
        have obb7 := obb6.below hbb7
        dsimp only
        refine hKK.out _ _ (AN.below hHb6 hbb7) (fun hHb7 => ?_)
        clear hKK KK
        refine wpAnyH_ready (rs := [3]) (by kernel_rfl) (by simp) ?_
        refine AllReadyH.cons (o := { dst := some 35, op := _, type := _, pos := _, after := _, guard := _ }) rfl (fun KK hKK => ?_) AllReadyH.nil
        go_simp
        have hscall := kbb7.size
        refine (IP.out _ _ (o4.below kbb7)).mono ?_
        rintro e wb8 ⟨aq, cq, rfl, wrb8, hbb8⟩
        have kbb8 : Below w4.heap.size w4 wb8 := bstep kbb7 hbb8
        have obb8 := obb7.below hbb8
        have hbx : w4.heap.size < wb7.heap.size := obb7.lt
        dsimp only
        refine hKK.out _ _ (AN.below hHb7 hbb8) (fun hHb8 => ?_)
        clear hKK KK
        refine wpAnyH_take (i := 4) (oi := { dst := some 31, op := _, type := _, pos := _, after := _, guard := _ }) (v := ?_) rfl (by kernel_rfl) (by kernel_rfl) (by kernel_rfl) (fun _ _ _ h => h) (Or.inl ⟨by rfl, ?_⟩) (hHb8) ?_
        rotate_left
        · (intro wx hSw; obtain ⟨⟨l0, q0, q1⟩, ⟨l1, q2, q3⟩⟩ := hSw; go_simp <;> with_reducible rfl)
        simp only [Act.put, List.setIfInBounds_toArray, List.set_cons_zero, List.set_cons_succ]
        refine wpAnyH_take (i := 5) (oi := { dst := some 36, op := _, type := _, pos := _, after := _, guard := _ }) (v := ?_) rfl (by kernel_rfl) (by kernel_rfl) (by kernel_rfl) (fun _ _ _ h => h) (Or.inl ⟨by rfl, ?_⟩) (hHb8) ?_
        rotate_left
        · (intro wx hSw; obtain ⟨⟨l0, q0, q1⟩, ⟨l1, q2, q3⟩⟩ := hSw; go_simp <;> with_reducible rfl)
        simp only [Act.put, List.setIfInBounds_toArray, List.set_cons_zero, List.set_cons_succ]
        refine wpAnyH_take (i := 6) (oi := { dst := some 37, op := _, type := _, pos := _, after := _, guard := _ }) (v := ?_) rfl (by kernel_rfl) (by kernel_rfl) (by kernel_rfl) (fun _ _ _ h => h) (Or.inl ⟨by rfl, ?_⟩) (hHb8) ?_
        rotate_left
        · (intro wx hSw; obtain ⟨⟨l0, q0, q1⟩, ⟨l1, q2, q3⟩⟩ := hSw; go_simp <;> with_reducible rfl)
        simp only [Act.put, List.setIfInBounds_toArray, List.set_cons_zero, List.set_cons_succ]
        have obc := obb8
        obtain ⟨o1, o2, o3, o4, o5⟩ := obc
        refine wpAnyH_ready (rs := [8]) (by kernel_rfl) (by simp) ?_
        refine AllReadyH.cons (o := { dst := none, op := _, type := _, pos := _, after := _, guard := _ }) rfl (fun KK hKK => ?_) AllReadyH.nil
        go_simp
        have hbs : w4.heap.size ≤ w4.heap.size := by first | omega | (simp; done)
        have kbf : Below w4.heap.size w4 ((wb8.setCell ⟨w4.heap.size, 0, none⟩ (.int .i64 KP)).setCell ⟨w4.heap.size, 1, none⟩ (.slice aq lP cq)) := (kbb8.setCell hbs _).setCell hbs _
        refine hKK.out _ _ (AN.low (X := w4.heap.size) (AX.out) kbf (by omega) (by omega)) (fun hHf => ?_)
        clear hKK KK
        refine wpAnyH_take (i := 9) (oi := { dst := some 10, op := _, type := _, pos := _, after := _, guard := _ }) (v := ?_) rfl (by kernel_rfl) (by kernel_rfl) (by kernel_rfl) (fun _ _ _ h => h) (Or.inl ⟨by rfl, ?_⟩) (hHf) ?_
        rotate_left
        · (intro wx hSw; obtain ⟨⟨l0, q0, q1⟩, ⟨l1, q2, q3⟩⟩ := hSw; go_simp <;> with_reducible rfl)
        simp only [Act.put, List.setIfInBounds_toArray, List.set_cons_zero, List.set_cons_succ]
        refine wpAnyH_done (by kernel_rfl) ?_ _
        have hfil := obb8.filled KP aq lP cq
        have hwr := (wrb8.away ⟨w4.heap.size, 0, none⟩ (.int .i64 KP) (.inl (by show _ < _; omega))).away ⟨w4.heap.size, 1, none⟩ (.slice aq lP cq) (.inl (by show _ < _; omega))
        have hne : lP = 0 ∨ ∃ b, aq = some ⟨b, 0, none⟩ ∧ b ≠ w4.heap.size := wrb8.ne1 (by omega)
        clear o2 o3 o4 o5
        go_wp2_with fail
        go_meet
        exact ⟨_, aq, cq, rfl, rfl, hfil, hwr.mono (by omega), hbs, hne, kbf⟩
    case rest =>
      obtain ⟨bG, aG, cG, rfl, rfl, hG, wrG, hbG, neG, B5⟩ := hcut
      rename World => w5
      have K5 : Below w1.heap.size w1 w5 := K4.trans (B5.mono s4)
      have o5 := o4.below B5
      have X5 := AX.out.one.below B5
      have s5 := B5.size
      clear AX o4 K4 B34
      have HX := hide X5
      have HG := hide hG
      have HRG := hide wrG
      clear X5 hG wrG
      have EG5 := hide (EG.out aG aW cG cW w5 HRG.out.prow (HR1.out.below K5).prow)
      have g1 := HG.out.c0
      have g2 := HG.out.c1
      have g3 := (HW1.out.below K5).c0
      have g4 := (HW1.out.below K5).c1
      go_wp2_with fail
      refine EG5.out.mono ?_
      rintro e w6 ⟨rfl, hb6⟩
      have K6 := bstep K5 hb6
      have o6 := o5.below hb6
      have H2 := hide (HB2.mk (HA1.out.one.below K6) (HX.out.below hb6))
      have HG := hide (HG.out.below hb6)
      have HRG := hide (HRG.out.below hb6)
      have s6 := hb6.size
      clear g1 g2 g3 g4 hb6 EG5 HX K5 o5
      go_upto_region 10 with fail
      refine wp_region_held_drew (S := fun wx => HB2 wx w.heap.size K a n cap w3.heap.size (some ⟨b3, 0, none⟩) n n) (by kernel_rfl) (H2.out.drew) (fun hH0 => ?_)
      refine wpAnyH_take (i := 0) (oi := { dst := some 47, op := _, type := _, pos := _, after := _, guard := _ }) (v := ?_) rfl (by kernel_rfl) (by kernel_rfl) (by kernel_rfl) (fun _ _ _ h => h) (Or.inl ⟨by rfl, ?_⟩) (hH0) ?_
      rotate_left
      · (intro wx hSw; obtain ⟨⟨l0, q0, q1⟩, ⟨l1, q2, q3⟩⟩ := hSw; go_simp <;> with_reducible rfl)
      simp only [Act.put, List.setIfInBounds_toArray, List.set_cons_zero, List.set_cons_succ]
      refine wpAnyH_take (i := 1) (oi := { dst := some 48, op := _, type := _, pos := _, after := _, guard := _ }) (v := ?_) rfl (by kernel_rfl) (by kernel_rfl) (by kernel_rfl) (fun _ _ _ h => h) (Or.inl ⟨by rfl, ?_⟩) (hH0) ?_
      rotate_left
      · (intro wx hSw; obtain ⟨⟨l0, q0, q1⟩, ⟨l1, q2, q3⟩⟩ := hSw; go_simp <;> with_reducible rfl)
      simp only [Act.put, List.setIfInBounds_toArray, List.set_cons_zero, List.set_cons_succ]
      refine wpAnyH_ready (rs := [2]) (by kernel_rfl) (by simp) ?_
      refine AllReadyH.cons (o := { dst := some 49, op := _, type := _, pos := _, after := _, guard := _ }) rfl (fun KK hKK => ?_) AllReadyH.nil
      go_simp
      refine (TR.out _ (B1x.trans ((bstep K6 (Below.drew (Below.refl _ _))).mono s1x))).mono ?_
      rintro e w_c49_1 ⟨bq, rfl, lq, oq, hb_c49_1⟩
      dsimp only
      refine hKK.out _ _ (HB2.below hH0 hb_c49_1) (fun hH1 => ?_)
      clear hKK KK
      refine wpAnyH_ready (rs := [3]) (by kernel_rfl) (by simp) ?_
      refine AllReadyH.cons (o := { dst := some 50, op := _, type := _, pos := _, after := _, guard := _ }) rfl (fun KK hKK => ?_) AllReadyH.nil
      go_simp
      refine (EQ.out _ _ _ (o6.below (bstep (Below.drew (Below.refl _ _)) hb_c49_1)) oq).mono ?_
      rintro e w_c50_2 ⟨rfl, hb_c50_2⟩
      dsimp only
      refine hKK.out _ _ (HB2.below hH1 hb_c50_2) (fun hH2 => ?_)
      clear hKK KK
      refine wpAnyH_take (i := 4) (oi := { dst := some 51, op := _, type := _, pos := _, after := _, guard := _ }) (v := ?_) rfl (by kernel_rfl) (by kernel_rfl) (by kernel_rfl) (fun _ _ _ h => h) (Or.inl ⟨by rfl, ?_⟩) (hH2) ?_
      rotate_left
      · (intro wx hSw; obtain ⟨⟨l0, q0, q1⟩, ⟨l1, q2, q3⟩⟩ := hSw; go_simp <;> with_reducible rfl)
      simp only [Act.put, List.setIfInBounds_toArray, List.set_cons_zero, List.set_cons_succ]
      refine wpAnyH_done (by kernel_rfl) ?_ _
      -- behind it: go_wp2_with fail, then go_meet (a cut) or go_ret; the condition at the end: hH2
      have K7 := bstep K6 (bstep (bstep (Below.drew (Below.refl _ w6)) hb_c49_1) hb_c50_2)
      have L7 := bstep (bstep (Below.drew (Below.refl _ w6)) hb_c49_1) hb_c50_2
      have o7 := o6.below L7
      have HG := hide (HG.out.below L7)
      have HRG := hide (HRG.out.below L7)
      have X7 := hH2.two
      have s7 := L7.size
      clear hH0 hH1 hH2 hb_c49_1 hb_c50_2 oq o6 K6 L7 H2
      generalize w_c50_2 = w7 at K7 o7 HG HRG X7 s7 ⊢
      have MX := hide (markHeap_any K (some ⟨b3, 0, none⟩) n n w1.heap.size 1 (fun i => (f i, g i)) w7 (.inr ⟨b3, rfl, l3, o7.rowl⟩) hn (by omega) (by omega))
      have x1 := X7.c0
      have x2 := X7.c1
      go_wp2_with fail
      refine MX.out.mono ?_
      rintro e w8 ⟨rfl, _, t8⟩
      have K8 := K7.trans (t8.low (Nat.le_refl _) K7.size)
      have HG := hide (HG.out.turn t8 (.inr ⟨b3, rfl, by omega⟩))
      have HRG := hide (HRG.out.turn t8 (by omega))
      have hkk : ¬ (1 + 2 * (n : Int)) < 0 := by omega
      clear x1 x2 MX t8 o7 X7 K7
      have EG8 := hide (EG.out aG aW cG cW w8 HRG.out.prow (HR1.out.below K8).prow)
      have g1 := HG.out.c0
      have g2 := HG.out.c1
      have g3 := (HW1.out.below K8).c0
      have g4 := (HW1.out.below K8).c1
      go_wp2_with fail
      refine EG8.out.mono ?_
      rintro e w9 ⟨rfl, hb9⟩
      have K9 := bstep K8 hb9
      have HG := hide (HG.out.below hb9)
      have HRG := hide (HRG.out.below hb9)
      clear g1 g2 g3 g4 hb9 EG8 K8
      have MG := hide (markHeap_any KP aG lP cG w4.heap.size 1 LP w9 HRG.out (by omega) (by omega) (by omega))
      have g1 := HG.out.c0
      have g2 := HG.out.c1
      go_wp2_with fail
      refine MG.out.mono ?_
      rintro e w10 ⟨rfl, m10, t10⟩
      have K10 := K9.trans (t10.low (X := w1.heap.size) s4 K9.size)
      have HG := hide (HG.out.turn t10 neG)
      have HM := hide m10
      have hm0 : ¬ (1 + 2 * (lP : Int)) < 0 := by omega
      have hmm : ((1 + 2 * (lP : Int)) != (1 + 2 * (lP : Int))) = false := by simp
      clear g1 g2 t10 m10 MG K9 HRG
      have HL := hide (heldHeap_any KP aG lP cG w4.heap.size 1 w10 HM.out (by omega) (by omega) (by omega))
      have g1 := HG.out.c0
      have g2 := HG.out.c1
      go_wp2_with fail
      refine HL.out.mono ?_
      rintro e wA ⟨rfl, hbA⟩
      have KA := bstep K10 hbA
      have HG := hide (HG.out.below hbA)
      have HM := hide (HM.out.below hbA)
      have AA := hide (HA1.out.below KA)
      have BA : Below w.heap.size w wA := B1x.trans (KA.mono s1x)
      have sA := KA.size
      clear g1 g2 hbA HL K10
      go_upto_region 24 with fail
      go_cut [14, 15] (fun s s' wx => ∃ bx aq cq, s = .pointer (some ⟨bx, 0, none⟩) ∧ s' = .bool ok ∧ HBx wx bx KP aq lP cq ∧ Wr wx aq lP LP wA.heap.size ∧ wA.heap.size ≤ bx ∧ (lP = 0 ∨ ∃ b, aq = some ⟨b, 0, none⟩ ∧ b ≠ bx) ∧ Below wA.heap.size wA wx)
      case first =>
        refine wp_region_held_drew (S := fun wx => AN wx w.heap.size K a n cap (w.heap.size + 1) i d) (by kernel_rfl) (AA.out.drew) (fun hH0 => ?_)
        have kb0 : Below wA.heap.size wA wA.drew := Below.drew (Below.refl _ _)
        refine wpAnyH_take (i := 0) (oi := { dst := some 80, op := _, type := _, pos := _, after := _, guard := _ }) (v := ?_) rfl (by kernel_rfl) (by kernel_rfl) (by kernel_rfl) (fun _ _ _ h => h) (Or.inl ⟨by rfl, ?_⟩) (hH0) ?_
        rotate_left
        · (intro wx hSw; obtain ⟨⟨l0, q0, q1⟩, ⟨l1, q2, q3⟩⟩ := hSw; go_simp <;> with_reducible rfl)
        simp only [Act.put, List.setIfInBounds_toArray, List.set_cons_zero, List.set_cons_succ]
        refine wpAnyH_take (i := 2) (oi := { dst := some 82, op := _, type := _, pos := _, after := _, guard := _ }) (v := ?_) rfl (by kernel_rfl) (by kernel_rfl) (by kernel_rfl) (fun _ _ _ h => h) (Or.inl ⟨by rfl, ?_⟩) (hH0) ?_
        rotate_left
        · (intro wx hSw; obtain ⟨⟨l0, q0, q1⟩, ⟨l1, q2, q3⟩⟩ := hSw; go_simp <;> with_reducible rfl)
        simp only [Act.put, List.setIfInBounds_toArray, List.set_cons_zero, List.set_cons_succ]
        refine wpAnyH_ready (rs := [1, 8]) (by kernel_rfl) (by simp) ?_
        refine AllReadyH.cons (o := { dst := some 81, op := _, type := _, pos := _, after := _, guard := _ }) rfl (fun KK hKK => ?_) (AllReadyH.cons (o := { dst := some 14, op := _, type := _, pos := _, after := _, guard := _ }) rfl (fun KK hKK => ?_) AllReadyH.nil)
        · skip
          go_simp
          refine (TR.out _ (bstep BA kb0)).mono ?_
          rintro e wc1 ⟨bq, rfl, lq, oqc1, hbc1⟩
          have kbc1 : Below wA.heap.size wA wc1 := bstep kb0 hbc1
          dsimp only
          refine hKK.out _ _ (AN.below hH0 hbc1) (fun hHc1 => ?_)
          clear hKK KK
          refine wpAnyH_ready (rs := [3, 8]) (by kernel_rfl) (by simp) ?_
          refine AllReadyH.cons (o := { dst := some 83, op := _, type := _, pos := _, after := _, guard := _ }) rfl (fun KK hKK => ?_) (AllReadyH.cons (o := { dst := some 14, op := _, type := _, pos := _, after := _, guard := _ }) rfl (fun KK hKK => ?_) AllReadyH.nil)
          · skip
            go_simp
            refine (TN.out _).mono ?_
            rintro e wc2 ⟨rfl, hbc2⟩
            have kbc2 : Below wA.heap.size wA wc2 := bstep kbc1 hbc2
            have oqc2 := oqc1.below hbc2
            dsimp only
            refine hKK.out _ _ (AN.below hHc1 hbc2) (fun hHc2 => ?_)
            clear hKK KK
            refine wpAnyH_ready (rs := [4, 8]) (by kernel_rfl) (by simp) ?_
            refine AllReadyH.cons (o := { dst := some 84, op := _, type := _, pos := _, after := _, guard := _ }) rfl (fun KK hKK => ?_) (AllReadyH.cons (o := { dst := some 14, op := _, type := _, pos := _, after := _, guard := _ }) rfl (fun KK hKK => ?_) AllReadyH.nil)
            · skip
              go_simp
              have hscall := kbc2.size
              refine (IP.out _ _ (oqc2)).mono ?_
              rintro e wc3 ⟨aq, cq, rfl, wrc3, hbc3⟩
              have kbc3 : Below wA.heap.size wA wc3 := bstep kbc2 hbc3
              dsimp only
              refine hKK.out _ _ (AN.below hHc2 hbc3) (fun hHc3 => ?_)
              clear hKK KK
              refine wpAnyH_take (i := 5) (oi := { dst := some 79, op := _, type := _, pos := _, after := _, guard := _ }) (v := ?_) rfl (by kernel_rfl) (by kernel_rfl) (by kernel_rfl) (fun _ _ _ h => h) (Or.inl ⟨by rfl, ?_⟩) (hHc3) ?_
              rotate_left
              · (intro wx hSw; obtain ⟨⟨l0, q0, q1⟩, ⟨l1, q2, q3⟩⟩ := hSw; go_simp <;> with_reducible rfl)
              simp only [Act.put, List.setIfInBounds_toArray, List.set_cons_zero, List.set_cons_succ]
              refine wpAnyH_take (i := 6) (oi := { dst := some 85, op := _, type := _, pos := _, after := _, guard := _ }) (v := ?_) rfl (by kernel_rfl) (by kernel_rfl) (by kernel_rfl) (fun _ _ _ h => h) (Or.inl ⟨by rfl, ?_⟩) (hHc3) ?_
              rotate_left
              · (intro wx hSw; obtain ⟨⟨l0, q0, q1⟩, ⟨l1, q2, q3⟩⟩ := hSw; go_simp <;> with_reducible rfl)
              simp only [Act.put, List.setIfInBounds_toArray, List.set_cons_zero, List.set_cons_succ]
              refine wpAnyH_take (i := 7) (oi := { dst := some 86, op := _, type := _, pos := _, after := _, guard := _ }) (v := ?_) rfl (by kernel_rfl) (by kernel_rfl) (by kernel_rfl) (fun _ _ _ h => h) (Or.inl ⟨by rfl, ?_⟩) (hHc3) ?_
              rotate_left
              · (intro wx hSw; obtain ⟨⟨l0, q0, q1⟩, ⟨l1, q2, q3⟩⟩ := hSw; go_simp <;> with_reducible rfl)
              simp only [Act.put, List.setIfInBounds_toArray, List.set_cons_zero, List.set_cons_succ]
              refine wpAnyH_ready (rs := [8]) (by kernel_rfl) (by simp) ?_
              refine AllReadyH.cons (o := { dst := some 14, op := _, type := _, pos := _, after := _, guard := _ }) rfl (fun KK hKK => ?_) AllReadyH.nil
              go_simp
              have obc4 : OBx (World.alloc wc3 (Obj.cells #[Value.int IntKind.i64 0, Value.slice none 0 0] 30)) wc3.heap.size := OBx.fresh wc3 30
              have bac4 : Below (wc3).heap.size (wc3) (World.alloc wc3 (Obj.cells #[Value.int IntKind.i64 0, Value.slice none 0 0] 30)) := balloc (Below.refl _ wc3) _
              have hwl := wrc3.lt
              have hsc4 := kbc3.size
              refine hKK.out _ _ (AN.below hHc3 bac4) (fun hHc4 => ?_)
              clear hKK KK
              generalize World.alloc wc3 (Obj.cells #[Value.int IntKind.i64 0, Value.slice none 0 0] 30) = wc4 at obc4 bac4 hHc4 ⊢
              have kbc4 : Below wA.heap.size wA wc4 := bstep kbc3 bac4
              have wrc4 := wrc3.below bac4
              have obc := obc4
              obtain ⟨o1, o2, o3, o4, o5⟩ := obc
              refine wpAnyH_ready (rs := [9]) (by kernel_rfl) (by simp) ?_
              refine AllReadyH.cons (o := { dst := none, op := _, type := _, pos := _, after := _, guard := _ }) rfl (fun KK hKK => ?_) AllReadyH.nil
              go_simp
              have hbs : wA.heap.size ≤ wc3.heap.size := by first | omega | (simp; done)
              have kbf : Below wA.heap.size wA ((wc4.setCell ⟨wc3.heap.size, 0, none⟩ (.int .i64 KP)).setCell ⟨wc3.heap.size, 1, none⟩ (.slice aq lP cq)) := (kbc4.setCell hbs _).setCell hbs _
              refine hKK.out _ _ (AN.low (X := wA.heap.size) (AA.out) kbf (by omega) (by omega)) (fun hHf => ?_)
              clear hKK KK
              refine wpAnyH_take (i := 10) (oi := { dst := some 15, op := _, type := _, pos := _, after := _, guard := _ }) (v := ?_) rfl (by kernel_rfl) (by kernel_rfl) (by kernel_rfl) (fun _ _ _ h => h) (Or.inl ⟨by rfl, ?_⟩) (hHf) ?_
              rotate_left
              · (intro wx hSw; obtain ⟨⟨l0, q0, q1⟩, ⟨l1, q2, q3⟩⟩ := hSw; go_simp <;> with_reducible rfl)
              simp only [Act.put, List.setIfInBounds_toArray, List.set_cons_zero, List.set_cons_succ]
              refine wpAnyH_done (by kernel_rfl) ?_ _
              have hfil := obc4.filled KP aq lP cq
              have hwr := (wrc4.away ⟨wc3.heap.size, 0, none⟩ (.int .i64 KP) (.inr hwl)).away ⟨wc3.heap.size, 1, none⟩ (.slice aq lP cq) (.inr hwl)
              have hne : lP = 0 ∨ ∃ b, aq = some ⟨b, 0, none⟩ ∧ b ≠ wc3.heap.size := ne2 hwl
              clear o2 o3 o4 o5
              go_wp2_with fail
              go_meet
              exact ⟨_, aq, cq, rfl, rfl, hfil, hwr.mono (by omega), hbs, hne, kbf⟩
            · skip
              go_simp
              have obc5 : OBx (World.alloc wc2 (Obj.cells #[Value.int IntKind.i64 0, Value.slice none 0 0] 30)) wc2.heap.size := OBx.fresh wc2 30
              have bac5 : Below (wc2).heap.size (wc2) (World.alloc wc2 (Obj.cells #[Value.int IntKind.i64 0, Value.slice none 0 0] 30)) := balloc (Below.refl _ wc2) _
              have hsc5 := kbc2.size
              refine hKK.out _ _ (AN.below hHc2 bac5) (fun hHc5 => ?_)
              clear hKK KK
              generalize World.alloc wc2 (Obj.cells #[Value.int IntKind.i64 0, Value.slice none 0 0] 30) = wc5 at obc5 bac5 hHc5 ⊢
              have kbc5 : Below wA.heap.size wA wc5 := bstep kbc2 bac5
              have oqc5 := oqc2.below bac5
              refine wpAnyH_ready (rs := [4]) (by kernel_rfl) (by simp) ?_
              refine AllReadyH.cons (o := { dst := some 84, op := _, type := _, pos := _, after := _, guard := _ }) rfl (fun KK hKK => ?_) AllReadyH.nil
              go_simp
              have hscall := kbc5.size
              refine (IP.out _ _ (oqc5)).mono ?_
              rintro e wc6 ⟨aq, cq, rfl, wrc6, hbc6⟩
              have kbc6 : Below wA.heap.size wA wc6 := bstep kbc5 hbc6
              have obc6 := obc5.below hbc6
              have hbx : wc2.heap.size < wc5.heap.size := obc5.lt
              dsimp only
              refine hKK.out _ _ (AN.below hHc5 hbc6) (fun hHc6 => ?_)
              clear hKK KK
              refine wpAnyH_take (i := 5) (oi := { dst := some 79, op := _, type := _, pos := _, after := _, guard := _ }) (v := ?_) rfl (by kernel_rfl) (by kernel_rfl) (by kernel_rfl) (fun _ _ _ h => h) (Or.inl ⟨by rfl, ?_⟩) (hHc6) ?_
              rotate_left
              · (intro wx hSw; obtain ⟨⟨l0, q0, q1⟩, ⟨l1, q2, q3⟩⟩ := hSw; go_simp <;> with_reducible rfl)
              simp only [Act.put, List.setIfInBounds_toArray, List.set_cons_zero, List.set_cons_succ]
              refine wpAnyH_take (i := 6) (oi := { dst := some 85, op := _, type := _, pos := _, after := _, guard := _ }) (v := ?_) rfl (by kernel_rfl) (by kernel_rfl) (by kernel_rfl) (fun _ _ _ h => h) (Or.inl ⟨by rfl, ?_⟩) (hHc6) ?_
              rotate_left
              · (intro wx hSw; obtain ⟨⟨l0, q0, q1⟩, ⟨l1, q2, q3⟩⟩ := hSw; go_simp <;> with_reducible rfl)
              simp only [Act.put, List.setIfInBounds_toArray, List.set_cons_zero, List.set_cons_succ]
              refine wpAnyH_take (i := 7) (oi := { dst := some 86, op := _, type := _, pos := _, after := _, guard := _ }) (v := ?_) rfl (by kernel_rfl) (by kernel_rfl) (by kernel_rfl) (fun _ _ _ h => h) (Or.inl ⟨by rfl, ?_⟩) (hHc6) ?_
              rotate_left
              · (intro wx hSw; obtain ⟨⟨l0, q0, q1⟩, ⟨l1, q2, q3⟩⟩ := hSw; go_simp <;> with_reducible rfl)
              simp only [Act.put, List.setIfInBounds_toArray, List.set_cons_zero, List.set_cons_succ]
              have obc := obc6
              obtain ⟨o1, o2, o3, o4, o5⟩ := obc
              refine wpAnyH_ready (rs := [9]) (by kernel_rfl) (by simp) ?_
              refine AllReadyH.cons (o := { dst := none, op := _, type := _, pos := _, after := _, guard := _ }) rfl (fun KK hKK => ?_) AllReadyH.nil
              go_simp
              have hbs : wA.heap.size ≤ wc2.heap.size := by first | omega | (simp; done)
              have kbf : Below wA.heap.size wA ((wc6.setCell ⟨wc2.heap.size, 0, none⟩ (.int .i64 KP)).setCell ⟨wc2.heap.size, 1, none⟩ (.slice aq lP cq)) := (kbc6.setCell hbs _).setCell hbs _
              refine hKK.out _ _ (AN.low (X := wA.heap.size) (AA.out) kbf (by omega) (by omega)) (fun hHf => ?_)
              clear hKK KK
              refine wpAnyH_take (i := 10) (oi := { dst := some 15, op := _, type := _, pos := _, after := _, guard := _ }) (v := ?_) rfl (by kernel_rfl) (by kernel_rfl) (by kernel_rfl) (fun _ _ _ h => h) (Or.inl ⟨by rfl, ?_⟩) (hHf) ?_
              rotate_left
              · (intro wx hSw; obtain ⟨⟨l0, q0, q1⟩, ⟨l1, q2, q3⟩⟩ := hSw; go_simp <;> with_reducible rfl)
              simp only [Act.put, List.setIfInBounds_toArray, List.set_cons_zero, List.set_cons_succ]
              refine wpAnyH_done (by kernel_rfl) ?_ _
              have hfil := obc6.filled KP aq lP cq
              have hwr := (wrc6.away ⟨wc2.heap.size, 0, none⟩ (.int .i64 KP) (.inl (by show _ < _; omega))).away ⟨wc2.heap.size, 1, none⟩ (.slice aq lP cq) (.inl (by show _ < _; omega))
              have hne : lP = 0 ∨ ∃ b, aq = some ⟨b, 0, none⟩ ∧ b ≠ wc2.heap.size := wrc6.ne1 (by omega)
              clear o2 o3 o4 o5
              go_wp2_with fail
              go_meet
              exact ⟨_, aq, cq, rfl, rfl, hfil, hwr.mono (by omega), hbs, hne, kbf⟩
          · skip
            go_simp
            have obc7 : OBx (World.alloc wc1 (Obj.cells #[Value.int IntKind.i64 0, Value.slice none 0 0] 30)) wc1.heap.size := OBx.fresh wc1 30
            have bac7 : Below (wc1).heap.size (wc1) (World.alloc wc1 (Obj.cells #[Value.int IntKind.i64 0, Value.slice none 0 0] 30)) := balloc (Below.refl _ wc1) _
            have hsc7 := kbc1.size
            refine hKK.out _ _ (AN.below hHc1 bac7) (fun hHc7 => ?_)
            clear hKK KK
            generalize World.alloc wc1 (Obj.cells #[Value.int IntKind.i64 0, Value.slice none 0 0] 30) = wc7 at obc7 bac7 hHc7 ⊢
            have kbc7 : Below wA.heap.size wA wc7 := bstep kbc1 bac7
            have oqc7 := oqc1.below bac7
            refine wpAnyH_ready (rs := [3]) (by kernel_rfl) (by simp) ?_
            refine AllReadyH.cons (o := { dst := some 83, op := _, type := _, pos := _, after := _, guard := _ }) rfl (fun KK hKK => ?_) AllReadyH.nil
            go_simp
            refine (TN.out _).mono ?_
            rintro e wc8 ⟨rfl, hbc8⟩
            have kbc8 : Below wA.heap.size wA wc8 := bstep kbc7 hbc8
            have obc8 := obc7.below hbc8
            have oqc8 := oqc7.below hbc8
            dsimp only
            refine hKK.out _ _ (AN.below hHc7 hbc8) (fun hHc8 => ?_)
            clear hKK KK
            refine wpAnyH_ready (rs := [4]) (by kernel_rfl) (by simp) ?_
            refine AllReadyH.cons (o := { dst := some 84, op := _, type := _, pos := _, after := _, guard := _ }) rfl (fun KK hKK => ?_) AllReadyH.nil
            go_simp
            have hscall := kbc8.size
            refine (IP.out _ _ (oqc8)).mono ?_
            rintro e wc9 ⟨aq, cq, rfl, wrc9, hbc9⟩
            have kbc9 : Below wA.heap.size wA wc9 := bstep kbc8 hbc9
            have obc9 := obc8.below hbc9
            have hbx : wc1.heap.size < wc8.heap.size := obc8.lt
            dsimp only
            refine hKK.out _ _ (AN.below hHc8 hbc9) (fun hHc9 => ?_)
            clear hKK KK
            refine wpAnyH_take (i := 5) (oi := { dst := some 79, op := _, type := _, pos := _, after := _, guard := _ }) (v := ?_) rfl (by kernel_rfl) (by kernel_rfl) (by kernel_rfl) (fun _ _ _ h => h) (Or.inl ⟨by rfl, ?_⟩) (hHc9) ?_
            rotate_left
            · (intro wx hSw; obtain ⟨⟨l0, q0, q1⟩, ⟨l1, q2, q3⟩⟩ := hSw; go_simp <;> with_reducible rfl)
            simp only [Act.put, List.setIfInBounds_toArray, List.set_cons_zero, List.set_cons_succ]
            refine wpAnyH_take (i := 6) (oi := { dst := some 85, op := _, type := _, pos := _, after := _, guard := _ }) (v := ?_) rfl (by kernel_rfl) (by kernel_rfl) (by kernel_rfl) (fun _ _ _ h => h) (Or.inl ⟨by rfl, ?_⟩) (hHc9) ?_
            rotate_left
            · (intro wx hSw; obtain ⟨⟨l0, q0, q1⟩, ⟨l1, q2, q3⟩⟩ := hSw; go_simp <;> with_reducible rfl)
            simp only [Act.put, List.setIfInBounds_toArray, List.set_cons_zero, List.set_cons_succ]
            refine wpAnyH_take (i := 7) (oi := { dst := some 86, op := _, type := _, pos := _, after := _, guard := _ }) (v := ?_) rfl (by kernel_rfl) (by kernel_rfl) (by kernel_rfl) (fun _ _ _ h => h) (Or.inl ⟨by rfl, ?_⟩) (hHc9) ?_
            rotate_left
            · (intro wx hSw; obtain ⟨⟨l0, q0, q1⟩, ⟨l1, q2, q3⟩⟩ := hSw; go_simp <;> with_reducible rfl)
            simp only [Act.put, List.setIfInBounds_toArray, List.set_cons_zero, List.set_cons_succ]
            have obc := obc9
            obtain ⟨o1, o2, o3, o4, o5⟩ := obc
            refine wpAnyH_ready (rs := [9]) (by kernel_rfl) (by simp) ?_
            refine AllReadyH.cons (o := { dst := none, op := _, type := _, pos := _, after := _, guard := _ }) rfl (fun KK hKK => ?_) AllReadyH.nil
            go_simp
            have hbs : wA.heap.size ≤ wc1.heap.size := by first | omega | (simp; done)
            have kbf : Below wA.heap.size wA ((wc9.setCell ⟨wc1.heap.size, 0, none⟩ (.int .i64 KP)).setCell ⟨wc1.heap.size, 1, none⟩ (.slice aq lP cq)) := (kbc9.setCell hbs _).setCell hbs _
            refine hKK.out _ _ (AN.low (X := wA.heap.size) (AA.out) kbf (by omega) (by omega)) (fun hHf => ?_)
            clear hKK KK
            refine wpAnyH_take (i := 10) (oi := { dst := some 15, op := _, type := _, pos := _, after := _, guard := _ }) (v := ?_) rfl (by kernel_rfl) (by kernel_rfl) (by kernel_rfl) (fun _ _ _ h => h) (Or.inl ⟨by rfl, ?_⟩) (hHf) ?_
            rotate_left
            · (intro wx hSw; obtain ⟨⟨l0, q0, q1⟩, ⟨l1, q2, q3⟩⟩ := hSw; go_simp <;> with_reducible rfl)
            simp only [Act.put, List.setIfInBounds_toArray, List.set_cons_zero, List.set_cons_succ]
            refine wpAnyH_done (by kernel_rfl) ?_ _
            have hfil := obc9.filled KP aq lP cq
            have hwr := (wrc9.away ⟨wc1.heap.size, 0, none⟩ (.int .i64 KP) (.inl (by show _ < _; omega))).away ⟨wc1.heap.size, 1, none⟩ (.slice aq lP cq) (.inl (by show _ < _; omega))
            have hne : lP = 0 ∨ ∃ b, aq = some ⟨b, 0, none⟩ ∧ b ≠ wc1.heap.size := wrc9.ne1 (by omega)
            clear o2 o3 o4 o5
            go_wp2_with fail
            go_meet
            exact ⟨_, aq, cq, rfl, rfl, hfil, hwr.mono (by omega), hbs, hne, kbf⟩
        · skip
          go_simp
          have obc10 : OBx (World.drew (World.alloc wA (Obj.cells #[Value.int IntKind.i64 0, Value.slice none 0 0] 30))) wA.heap.size := (OBx.fresh wA 30).drew
          have bac10 : Below (wA.drew).heap.size (wA.drew) (World.drew (World.alloc wA (Obj.cells #[Value.int IntKind.i64 0, Value.slice none 0 0] 30))) := below_of_drew (balloc (Below.refl _ wA) _).drew
          have hsc10 := kb0.size
          refine hKK.out _ _ (AN.below hH0 bac10) (fun hHc10 => ?_)
          clear hKK KK
          generalize World.drew (World.alloc wA (Obj.cells #[Value.int IntKind.i64 0, Value.slice none 0 0] 30)) = wc10 at obc10 bac10 hHc10 ⊢
          have kbc10 : Below wA.heap.size wA wc10 := bstep kb0 bac10
          refine wpAnyH_ready (rs := [1]) (by kernel_rfl) (by simp) ?_
          refine AllReadyH.cons (o := { dst := some 81, op := _, type := _, pos := _, after := _, guard := _ }) rfl (fun KK hKK => ?_) AllReadyH.nil
          go_simp
          refine (TR.out _ (bstep BA kbc10)).mono ?_
          rintro e wc11 ⟨bq, rfl, lq, oqc11, hbc11⟩
          have kbc11 : Below wA.heap.size wA wc11 := bstep kbc10 hbc11
          have obc11 := obc10.below hbc11
          dsimp only
          refine hKK.out _ _ (AN.below hHc10 hbc11) (fun hHc11 => ?_)
          clear hKK KK
          refine wpAnyH_ready (rs := [3]) (by kernel_rfl) (by simp) ?_
          refine AllReadyH.cons (o := { dst := some 83, op := _, type := _, pos := _, after := _, guard := _ }) rfl (fun KK hKK => ?_) AllReadyH.nil
          go_simp
          refine (TN.out _).mono ?_
          rintro e wc12 ⟨rfl, hbc12⟩
          have kbc12 : Below wA.heap.size wA wc12 := bstep kbc11 hbc12
          have obc12 := obc11.below hbc12
          have oqc12 := oqc11.below hbc12
          dsimp only
          refine hKK.out _ _ (AN.below hHc11 hbc12) (fun hHc12 => ?_)
          clear hKK KK
          refine wpAnyH_ready (rs := [4]) (by kernel_rfl) (by simp) ?_
          refine AllReadyH.cons (o := { dst := some 84, op := _, type := _, pos := _, after := _, guard := _ }) rfl (fun KK hKK => ?_) AllReadyH.nil
          go_simp
          have hscall := kbc12.size
          refine (IP.out _ _ (oqc12)).mono ?_
          rintro e wc13 ⟨aq, cq, rfl, wrc13, hbc13⟩
          have kbc13 : Below wA.heap.size wA wc13 := bstep kbc12 hbc13
          have obc13 := obc12.below hbc13
          have hbx : wA.heap.size < wc12.heap.size := obc12.lt
          dsimp only
          refine hKK.out _ _ (AN.below hHc12 hbc13) (fun hHc13 => ?_)
          clear hKK KK
          refine wpAnyH_take (i := 5) (oi := { dst := some 79, op := _, type := _, pos := _, after := _, guard := _ }) (v := ?_) rfl (by kernel_rfl) (by kernel_rfl) (by kernel_rfl) (fun _ _ _ h => h) (Or.inl ⟨by rfl, ?_⟩) (hHc13) ?_
          rotate_left
          · (intro wx hSw; obtain ⟨⟨l0, q0, q1⟩, ⟨l1, q2, q3⟩⟩ := hSw; go_simp <;> with_reducible rfl)
          simp only [Act.put, List.setIfInBounds_toArray, List.set_cons_zero, List.set_cons_succ]
          refine wpAnyH_take (i := 6) (oi := { dst := some 85, op := _, type := _, pos := _, after := _, guard := _ }) (v := ?_) rfl (by kernel_rfl) (by kernel_rfl) (by kernel_rfl) (fun _ _ _ h => h) (Or.inl ⟨by rfl, ?_⟩) (hHc13) ?_
          rotate_left
          · (intro wx hSw; obtain ⟨⟨l0, q0, q1⟩, ⟨l1, q2, q3⟩⟩ := hSw; go_simp <;> with_reducible rfl)
          simp only [Act.put, List.setIfInBounds_toArray, List.set_cons_zero, List.set_cons_succ]
          refine wpAnyH_take (i := 7) (oi := { dst := some 86, op := _, type := _, pos := _, after := _, guard := _ }) (v := ?_) rfl (by kernel_rfl) (by kernel_rfl) (by kernel_rfl) (fun _ _ _ h => h) (Or.inl ⟨by rfl, ?_⟩) (hHc13) ?_
          rotate_left
          · (intro wx hSw; obtain ⟨⟨l0, q0, q1⟩, ⟨l1, q2, q3⟩⟩ := hSw; go_simp <;> with_reducible rfl)
          simp only [Act.put, List.setIfInBounds_toArray, List.set_cons_zero, List.set_cons_succ]
          have obc := obc13
          obtain ⟨o1, o2, o3, o4, o5⟩ := obc
          refine wpAnyH_ready (rs := [9]) (by kernel_rfl) (by simp) ?_
          refine AllReadyH.cons (o := { dst := none, op := _, type := _, pos := _, after := _, guard := _ }) rfl (fun KK hKK => ?_) AllReadyH.nil
          go_simp
          have hbs : wA.heap.size ≤ wA.heap.size := by first | omega | (simp; done)
          have kbf : Below wA.heap.size wA ((wc13.setCell ⟨wA.heap.size, 0, none⟩ (.int .i64 KP)).setCell ⟨wA.heap.size, 1, none⟩ (.slice aq lP cq)) := (kbc13.setCell hbs _).setCell hbs _
          refine hKK.out _ _ (AN.low (X := wA.heap.size) (AA.out) kbf (by omega) (by omega)) (fun hHf => ?_)
          clear hKK KK
          refine wpAnyH_take (i := 10) (oi := { dst := some 15, op := _, type := _, pos := _, after := _, guard := _ }) (v := ?_) rfl (by kernel_rfl) (by kernel_rfl) (by kernel_rfl) (fun _ _ _ h => h) (Or.inl ⟨by rfl, ?_⟩) (hHf) ?_
          rotate_left
          · (intro wx hSw; obtain ⟨⟨l0, q0, q1⟩, ⟨l1, q2, q3⟩⟩ := hSw; go_simp <;> with_reducible rfl)
          simp only [Act.put, List.setIfInBounds_toArray, List.set_cons_zero, List.set_cons_succ]
          refine wpAnyH_done (by kernel_rfl) ?_ _
          have hfil := obc13.filled KP aq lP cq
          have hwr := (wrc13.away ⟨wA.heap.size, 0, none⟩ (.int .i64 KP) (.inl (by show _ < _; omega))).away ⟨wA.heap.size, 1, none⟩ (.slice aq lP cq) (.inl (by show _ < _; omega))
          have hne : lP = 0 ∨ ∃ b, aq = some ⟨b, 0, none⟩ ∧ b ≠ wA.heap.size := wrc13.ne1 (by omega)
          clear o2 o3 o4 o5
          go_wp2_with fail
          go_meet
          exact ⟨_, aq, cq, rfl, rfl, hfil, hwr.mono (by omega), hbs, hne, kbf⟩
      case rest =>
        obtain ⟨bH, aH, cH, rfl, rfl, hH, wrH, hbH, neH, BB⟩ := hcut
        rename World => wB
        have KB : Below w1.heap.size w1 wB := KA.trans (BB.mono sA)
        have HG := hide (HG.out.below BB)
        have HM := hide (HM.out.below BB)
        have EGB := hide (EG.out aH aW cH cW wB wrH.prow (HR1.out.below KB).prow)
        have g1 := hH.c0
        have g2 := hH.c1
        have g3 := (HW1.out.below KB).c0
        have g4 := (HW1.out.below KB).c1
        clear hH wrH KA BB
        go_wp2_with fail
        refine EGB.out.mono ?_
        rintro e wC ⟨rfl, hbC⟩
        have KC := bstep KB hbC
        have HG := hide (HG.out.below hbC)
        have HM := hide (HM.out.below hbC)
        clear g1 g2 g3 g4 hbC EGB KB
        have HLC := hide (heldHeap_any KP aG lP cG w4.heap.size 1 wC HM.out (by omega) (by omega) (by omega))
        have g1 := HG.out.c0
        have g2 := HG.out.c1
        go_wp2_with fail
        refine HLC.out.mono ?_
        rintro e wD ⟨rfl, hbD⟩
        have KD := bstep KC hbD
        go_wp2_with fail
        go_ret
        exact ⟨rfl, B1x.trans (KD.mono s1x)⟩

set_option maxHeartbeats 1600000 in
theorem exactHeapPut_walk (K : Int) (a : Option Addr) (n cap : Nat) (f g : Nat → Int) (i d : Int) (w : World) (h : IsPairs w a n f g) (_ : (Lit.int .i64 i).wf = true) (_ : (Lit.int .i64 d).wf = true) :
    Calls Try.prog 3 #[.agg #[.int .i64 K, .slice a n cap], .agg #[.int .i64 i, .int .i64 d]] w fun e w' => e = .returned (.bool true) ∧ Below w.heap.size w w' := by
  obtain ⟨hp, hl⟩ := h
  by_cases hn : n ≤ 1048576
  · exact exactHeapPut_in K a n cap f g i d w hp hl hn _ _ _ _ (putLen_le (f := f) (g := g)) (hide fun b w1 h => sPut_any K (some ⟨b, 0, none⟩) n n f g i d w1 h.prow) (hide fun b w1 h => iPut_any K (some ⟨b, 0, none⟩) n n f g i d w1 h.prow)
  · have SZ := hide (fun w1 => szHeap_any K a n cap 1048576 w1 (by omega) (by omega) hl)
    simp only [if_pos (show (1048576 : Int) - (n : Int) < 0 by omega)] at SZ
    go_enter Try.func3, Try.ntmps3
    go_wp2_with fail
    refine (SZ.out _).mono ?_
    rintro e w0 ⟨rfl, hw0⟩
    go_wp2_with fail
    go_ret
    exact ⟨rfl, (by repeat' first | with_reducible exact Below.refl _ _ | with_reducible assumption | with_reducible refine below_drewN ?_ _ | with_reducible refine balloc ?_ _ | with_reducible refine Below.drew ?_ | with_reducible refine Below.setCell ?_ (by first | (simp; done) | (simp; omega) | omega) _ | with_reducible refine bstep ?_ (by assumption))⟩
end Go.Proofs.Ytjddabggoaffaaa
