/- The walk of the law FnItemPut. -/
import Derived.Test.YtcbmfannbaaokaaGM
namespace Go.Proofs.Ytcbmfannbaaokaa
open Go.RowKit
set_option linter.unusedSimpArgs false
set_option linter.unusedVariables false

/-- A box with an item; a box with another item, and an item that lies in a row. -/
structure TJ (w : World) (b5 : Nat) (x : It) (z : Value) (b g o : Nat) (y : It) (a a' : Option Addr) (n n' c c' : Nat) : Prop where
  t5 : Tri w b5 (.int .i64 x.id) (.int .i64 x.tags) z
  t : Tri w b (.int .i64 y.id) (.int .i64 y.tags) (.slice a n c)
  r : Row w a n y.vec
  l : g < w.heap.size
  d0 : w.cell? ⟨g, o, none⟩ = some (.int .i64 y.id)
  d1 : w.cell? ⟨g, o + 1, none⟩ = some (.int .i64 y.tags)
  d2 : w.cell? ⟨g, o + 2, none⟩ = some (.slice a' n' c')
  r' : Row w a' n' y.vec
theorem TJ.below {w w' : World} {b5 : Nat} {x : It} {z : Value} {b g o : Nat} {y : It} {a a' : Option Addr} {n n' c c' : Nat} (h : TJ w b5 x z b g o y a a' n n' c c') (hb : Below w.heap.size w w') : TJ w' b5 x z b g o y a a' n n' c c' :=
  ⟨h.t5.below hb, h.t.below hb, h.r.below hb, Nat.lt_of_lt_of_le h.l hb.size, (hb.cell (p := ⟨g, o, none⟩) h.l).trans h.d0, (hb.cell (p := ⟨g, o + 1, none⟩) h.l).trans h.d1, (hb.cell (p := ⟨g, o + 2, none⟩) h.l).trans h.d2, h.r'.below hb⟩
theorem TJ.drew {w : World} {b5 : Nat} {x : It} {z : Value} {b g o : Nat} {y : It} {a a' : Option Addr} {n n' c c' : Nat} (h : TJ w b5 x z b g o y a a' n n' c c') : TJ w.drew b5 x z b g o y a a' n n' c c' := h.below (Below.drew (Below.refl _ _))

structure TQ (w : World) (b5 : Nat) (x : It) (z : Value) (g o : Nat) (i : Int) : Prop where
  t5 : Tri w b5 (.int .i64 x.id) (.int .i64 x.tags) z
  l : g < w.heap.size
  d0 : w.cell? ⟨g, o, none⟩ = some (.int .i64 i)
theorem TQ.below {w w' : World} {b5 : Nat} {x : It} {z : Value} {g o : Nat} {i : Int} (h : TQ w b5 x z g o i) (hb : Below w.heap.size w w') : TQ w' b5 x z g o i :=
  ⟨h.t5.below hb, Nat.lt_of_lt_of_le h.l hb.size, (hb.cell (p := ⟨g, o, none⟩) h.l).trans h.d0⟩
theorem TQ.drew {w : World} {b5 : Nat} {x : It} {z : Value} {g o : Nat} {i : Int} (h : TQ w b5 x z g o i) : TQ w.drew b5 x z g o i := h.below (Below.drew (Below.refl _ _))

set_option maxHeartbeats 16000000 in
set_option maxRecDepth 8000 in
theorem itemPut_walk (a : Option Addr) (n cap : Nat) (zs : List Int) (w : World) (h : IsRow .u8 w a n cap zs) :
    Calls Try.prog 3 #[.slice a n cap] w fun e w' => e = .returned (.bool true) ∧ Below w.heap.size w w' := by
  have BG := hide (big_any a n cap w)
  by_cases hn : n ≤ 1048576
  · rw [decide_eq_false (show ¬ 1048576 < n by omega)] at BG
    have DR := hide (drawItemPut_any a n cap w (h.code hn))
    clear h
    go_enter Try.func3, Try.ntmps3
    go_wp2_with fail
    refine BG.out.mono ?_
    rintro e w' ⟨rfl, hw⟩
    obtain rfl := hw.symm
    clear BG hw
    go_wp2_with fail
    refine DR.out.mono ?_
    rintro e w1 ⟨dim, g, m, cp, L, x, xa, xc, rfl, hni, rx, hxl⟩
    have hm := hni.few
    have hcp := hni.cap_
    have hv : ∀ i, i < m → (L i).vec.length ≤ 1048576 := fun i hi => Nat.le_trans (hni.len i hi) (by omega)
    have hxl2 : x.vec.length ≤ 1048576 := by omega
    have IP := hide (fun w1 (h : IHi w1 w.heap.size g m L) (rx : Row w1 xa x.vec.length x.vec) => iItemPut_any dim g m cp L x xa x.vec.length xc w1 h.lt h.iat hcp (by omega) hv rx hxl2)
    have SP := hide (fun w1 (h : IHi w1 w.heap.size g m L) (rx : Row w1 xa x.vec.length x.vec) => sItemPut_any dim (some ⟨g, 0, none⟩) m cp L x xa x.vec.length xc w1 h.irow (by omega) hv rx hxl2)
    have IO1 := hide (fun w1 (h : IHi w1 w.heap.size g m L) => iItemsOk_any dim (some ⟨g, 0, none⟩) m cp L w1 h.irow (by omega) hv)
    have SO1 := hide (fun w1 (h : IHi w1 w.heap.size g m L) => sItemsOk_any dim (some ⟨g, 0, none⟩) m cp L w1 h.irow (by omega) hv)
    have hMM : putM m L x ≤ m + 1 := by unfold putM; split <;> omega
    have hT1 : putT dim m L x ≤ putM m L x := by unfold putT; split <;> (try split) <;> omega
    have hTl : ∀ i, i < putT dim m L x → (putA m L x i).vec.length ≤ 1048576 := fun i hi => putA_len hv hxl2 i (by omega)
    have EQ := hide (fun a1 k1 a2 k2 w1 (h : IRow w1 a1 (putT dim m L x) (putA m L x)) (h' : IRow w1 a2 (putT dim m L x) (putA m L x)) => sameItems_self a1 a2 (putT dim m L x) k1 k2 (putA m L x) w1 h h' (by omega) hTl)
    have bA : Below w1.heap.size w1 (w1.alloc (.cells #[.int .i64 x.id, .int .i64 x.tags, .slice xa x.vec.length xc] 27)) := balloc (Below.refl _ _) _
    have T1 := hide (Tri.new w1 (.int .i64 x.id) (.int .i64 x.tags) (.slice xa x.vec.length xc) 27)
    have I1 := hide (hni.hi.below bA)
    have R1 := hide (rx.below bA)
    have B1 : Hid (Below w.heap.size w (w1.alloc (.cells #[.int .i64 x.id, .int .i64 x.tags, .slice xa x.vec.length xc] 27))) := hide (bstep hni.low bA)
    have hiB : (itemsB dim m L != itemsB dim m L) = false := by simp
    have hiE : (itemsB dim m L == itemsB dim m L) = true := by simp
    have HV := hide hv
    clear hni rx DR bA hTl hv
    unfold PutR TwoR at IP SP
    cases hpc : decide (putC dim m L x = 0)
    · have hpc0 := of_decide_eq_false hpc
      obtain ⟨q, hq⟩ : ∃ q, putC dim m L x = q := ⟨_, rfl⟩
      obtain ⟨t, ht⟩ : ∃ t, putT dim m L x = t := ⟨_, rfl⟩
      obtain ⟨M, hM⟩ : ∃ M, putA m L x = M := ⟨_, rfl⟩
      obtain ⟨ib, hib⟩ : ∃ ib, itemsB dim m L = ib := ⟨_, rfl⟩
      rw [hq] at hpc0
      simp only [hq, ht, hM] at IP SP EQ
      simp only [hib] at IO1 SO1 hiB hiE
      have hq1 : (q != q) = false := by simp
      have hq2 : (q != 0) = true := by simp [hpc0]
      have hq3 : (q == q) = true := by simp
      clear hpc hpc0 hq ht hM hib hMM hT1
      go_wp2_with fail
      refine (IP.out _ I1.out R1.out).mono ?_
      rintro e w2 ⟨a2, c2, g2, V2, s2, rfl, i2, b2⟩
      have I2 := hide (I1.out.below b2)
      have O2 := hide i2.irow
      have R2 := hide (R1.out.below b2)
      have B2 := hide (bstep B1.out b2)
      obtain ⟨_, q1, q2, q3, _, _, _⟩ := T1.out.below b2
      clear i2 b2 I1 R1 B1
      go_wp2_with fail
      refine (SP.out _ I2.out R2.out).mono ?_
      rintro e w3 ⟨a3, c3, g3, V3, s3, rfl, i3, b3⟩
      have I3 := hide (I2.out.below b3)
      have O3 := hide (O2.out.below b3)
      have P3 := hide i3.irow
      have B3 := hide (bstep B2.out b3)
      clear i3 b3 I2 R2 B2 q1 q2 q3
      go_wp2_with fail
      refine (EQ.out _ _ _ _ _ O3.out P3.out).mono ?_
      rintro e w4 ⟨rfl, b4⟩
      have I4 := hide (I3.out.below b4)
      have O4 := hide (O3.out.below b4)
      have P4 := hide (P3.out.below b4)
      have B4 := hide (bstep B3.out b4)
      clear b4 I3 O3 P3 B3
      go_wp2_with fail
      refine (IO1.out _ I4.out).mono ?_
      rintro e w5 ⟨rfl, b5⟩
      have I5 := hide (I4.out.below b5)
      have O5 := hide (O4.out.below b5)
      have P5 := hide (P4.out.below b5)
      have B5 := hide (bstep B4.out b5)
      clear b5 I4 O4 P4 B4
      go_wp2_with fail
      refine (SO1.out _ I5.out).mono ?_
      rintro e w6 ⟨rfl, b6⟩
      have I6 := hide (I5.out.below b6)
      have O6 := hide (O5.out.below b6)
      have P6 := hide (P5.out.below b6)
      have B6 := hide (bstep B5.out b6)
      clear b6 I5 O5 P5 B5
      go_wp2_with fail
      refine (EQ.out _ _ _ _ _ O6.out P6.out).mono ?_
      rintro e w7 ⟨rfl, b7⟩
      have I7 := hide (I6.out.below b7)
      have B7 := hide (bstep B6.out b7)
      clear b7 I6 O6 P6 B6
      go_wp2_with fail
      refine (IO1.out _ I7.out).mono ?_
      rintro e w8 ⟨rfl, b8⟩
      have I8 := hide (I7.out.below b8)
      have B8 := hide (bstep B7.out b8)
      clear b8 I7 B7
      go_wp2_with fail
      refine (SO1.out _ I8.out).mono ?_
      rintro e w9 ⟨rfl, b9⟩
      have B9 := hide (bstep B8.out b9)
      clear b9 I8 B8
      go_wp2_with fail
      go_ret
      exact ⟨rfl, B9.out⟩
    · have hpc0 := of_decide_eq_true hpc
      have hok : putOk dim m L x = true ∧ putM m L x ≤ 60 := by
        unfold putC at hpc0
        split at hpc0
        · rename_i h1
          split at hpc0
          · rename_i h2; exact ⟨h1, h2⟩
          · omega
        · omega
      have hT : putT dim m L x = putM m L x := by unfold putT; rw [hok.1, if_pos rfl, if_pos hok.2]
      have PD := putD hok.1 hok.2
      have hAl : ∀ i, i < putM m L x → (putA m L x i).vec.length ≤ 1048576 := putA_len HV.out hxl2
      have hMv : putM m L x = if isAt m L x.id then m else m + 1 := rfl
      have FM := hide (fun a2 c2 (id : Int) w1 (h : IRow w1 a2 (putM m L x) (putA m L x)) => iItemFind_any a2 (putM m L x) c2 (putA m L x) id w1 h (by omega) hAl)
      have FL := hide (fun w1 (h : IHi w1 w.heap.size g m L) => iItemFind_any (some ⟨g, 0, none⟩) m cp L x.id w1 h.irow (by omega) HV.out)
      have IOM := hide (fun a2 c2 w1 (h : IRow w1 a2 (putM m L x) (putA m L x)) => iItemsOk_any dim a2 (putM m L x) c2 (putA m L x) w1 h (by omega) hAl)
      rw [PD.ok] at IOM
      unfold FindR at FM FL
      rw [PD.was] at FL
      have FX := hide PD.it
      have FO := hide PD.others
      have ES := hide (fun (y : It) (hy : y.vec.length ≤ 1048576) (a a' : Option Addr) (n n' c c' : Nat) w1 (h : Row w1 a n y.vec) (h' : Row w1 a' n' y.vec) => sameItem_self y a a' n n' c c' w1 h h' (by rw [← h.len]; exact hy))
      obtain ⟨was, hwas⟩ : ∃ was, isAt m L x.id = was := ⟨_, rfl⟩
      obtain ⟨mm, hmm⟩ : ∃ mm, putM m L x = mm := ⟨_, rfl⟩
      obtain ⟨M, hM⟩ : ∃ M, putA m L x = M := ⟨_, rfl⟩
      obtain ⟨ib, hib⟩ : ∃ ib, itemsB dim m L = ib := ⟨_, rfl⟩
      obtain ⟨y0, hy0⟩ : ∃ y0, (findX m L x.id).1 = y0 := ⟨_, rfl⟩
      simp only [hpc0, hT, hmm, hM] at IP SP EQ
      simp only [hib] at IO1 SO1 hiB hiE
      simp only [hmm, hM] at FM IOM FX FO
      simp only [hwas, hy0] at FL
      rw [hwas, hmm] at hMv
      have hmm1 : mm ≤ m + 1 := by omega
      have HMV := hide hMv
      clear hMv
      clear hpc hpc0 hok hT PD hAl hM hib hMM hT1 hmm hwas hy0
      go_wp2_with fail
      refine (IP.out _ I1.out R1.out).mono ?_
      rintro e w2 ⟨a2, c2, g2, V2, s2, rfl, i2, b2⟩
      have I2 := hide (I1.out.below b2)
      have O2 := hide i2.irow
      have R2 := hide (R1.out.below b2)
      have B2 := hide (bstep B1.out b2)
      have T2 := hide (T1.out.below b2)
      obtain ⟨_, q1, q2, q3, _, _, _⟩ := T1.out.below b2
      clear i2 b2 I1 R1 B1 T1
      go_wp2_with fail
      refine (SP.out _ I2.out R2.out).mono ?_
      rintro e w3 ⟨a3, c3, g3, V3, s3, rfl, i3, b3⟩
      have I3 := hide (I2.out.below b3)
      have O3 := hide (O2.out.below b3)
      have P3 := hide i3.irow
      have R3 := hide (R2.out.below b3)
      have T3 := hide (T2.out.below b3)
      have B3 := hide (bstep B2.out b3)
      clear i3 b3 I2 R2 B2 T2 q1 q2 q3
      go_wp2_with fail
      refine (EQ.out _ _ _ _ _ O3.out P3.out).mono ?_
      rintro e w4 ⟨rfl, b4⟩
      have I4 := hide (I3.out.below b4)
      have O4 := hide (O3.out.below b4)
      have R4 := hide (R3.out.below b4)
      have T4 := hide (T3.out.below b4)
      have B4 := hide (bstep B3.out b4)
      clear b4 I3 O3 P3 B3 R3 T3
      go_wp2_with fail
      refine (IO1.out _ I4.out).mono ?_
      rintro e w5 ⟨rfl, b5⟩
      have I5 := hide (I4.out.below b5)
      have O5 := hide (O4.out.below b5)
      have R5 := hide (R4.out.below b5)
      have T5 := hide (T4.out.below b5)
      have B5 := hide (bstep B4.out b5)
      clear b5 I4 O4 B4 R4 T4
      go_wp2_with fail
      refine (SO1.out _ I5.out).mono ?_
      rintro e w6 ⟨rfl, b6⟩
      have I6 := hide (I5.out.below b6)
      have O6 := hide (O5.out.below b6)
      have R6 := hide (R5.out.below b6)
      have T6 := hide (T5.out.below b6)
      have B6 := hide (bstep B5.out b6)
      clear b6 I5 O5 B5 R5 T5 IP SP EQ IO1 SO1
      go_wp2_with fail
      go_loopw [10] (fun i wr => ∃ k : Nat, k ≤ m ∧ i = .int .i64 k ∧ Below w6.heap.size w6 wr) (fun i _ => m - (intOf i).toNat)
      case atStart => exact ⟨0, Nat.zero_le _, rfl, Below.refl _ _⟩
      case round =>
        obtain ⟨k, hk, rfl, hbel⟩ := hrel
        have HBEL := hide hbel
        by_cases hlt : k < m
        · obtain ⟨c0, c1, a', n', c', c2', vr, _⟩ := (I6.out.below hbel).at_ k hlt
          have hlt' : (k : Int) < (m : Int) := by omega
          have IK := hide (I6.out.below hbel)
          have OK6 := hide (O6.out.below hbel)
          have TK := hide (T6.out.below hbel)
          by_cases hid : (L k).id = x.id
          · have hneb : ((L k).id != x.id) = false := by simp [hid]
            have efx : findX mm M (L k).id = (x, true) := by rw [hid]; exact FX.out
            have FI := hide (fun w1 (h : IRow w1 a2 mm M) => FM.out a2 c2 (L k).id w1 h)
            rw [efx] at FI
            clear hbel vr c1 c2' hid efx
            go_wp2_with fail
            refine (FI.out _ OK6.out).mono ?_
            rintro e w7 ⟨v7, g7, rfl, h7, b7⟩
            obtain ⟨a7, c7, rfl, r7⟩ := h7.row
            have bA : Below w7.heap.size w7 (w7.alloc (.cells #[.int .i64 x.id, .int .i64 x.tags, .slice a7 x.vec.length c7] 27)) := balloc (Below.refl _ _) _
            have ik := (IK.out.below b7).below bA
            have T := hide (TQ.mk ((TK.out.below b7).below bA) ik.lt (ik.at_ k hlt).1)
            have HB7 := hide (bstep (bstep HBEL.out b7) bA)
            clear c0 h7 r7 b7 bA ik
            go_upto_region 12 with fail
            refine wp_region_held_drew (S := fun wx => TQ wx w1.heap.size x (.slice xa x.vec.length xc) g (k * 3) (L k).id) (by kernel_rfl) (T.out.drew) (fun hH0 => ?_)
            refine wpAnyH_take (i := 0) (oi := { dst := some 94, op := _, type := _, pos := _, after := _, guard := _ }) (v := ?_) rfl (by kernel_rfl) (by kernel_rfl) (by kernel_rfl) (fun _ _ _ h => h) (Or.inl ⟨by rfl, ?_⟩) (hH0) ?_
            rotate_left
            · (intro wx hSw; obtain ⟨⟨_, p1, p2, p3, _, _, _⟩, l0, q4⟩ := hSw; go_simp <;> with_reducible rfl)
            simp only [Act.put, List.setIfInBounds_toArray, List.set_cons_zero, List.set_cons_succ]
            refine wpAnyH_take (i := 1) (oi := { dst := some 95, op := _, type := _, pos := _, after := _, guard := _ }) (v := ?_) rfl (by kernel_rfl) (by kernel_rfl) (by kernel_rfl) (fun _ _ _ h => h) (Or.inl ⟨by rfl, ?_⟩) (hH0) ?_
            rotate_left
            · (intro wx hSw; obtain ⟨⟨_, p1, p2, p3, _, _, _⟩, l0, q4⟩ := hSw; go_simp <;> with_reducible rfl)
            simp only [Act.put, List.setIfInBounds_toArray, List.set_cons_zero, List.set_cons_succ]
            refine wpAnyH_take (i := 2) (oi := { dst := some 96, op := _, type := _, pos := _, after := _, guard := _ }) (v := ?_) rfl (by kernel_rfl) (by kernel_rfl) (by kernel_rfl) (fun _ _ _ h => h) (Or.inl ⟨by rfl, ?_⟩) (hH0) ?_
            rotate_left
            · (intro wx hSw; obtain ⟨⟨_, p1, p2, p3, _, _, _⟩, l0, q4⟩ := hSw; go_simp <;> with_reducible rfl)
            simp only [Act.put, List.setIfInBounds_toArray, List.set_cons_zero, List.set_cons_succ]
            refine wpAnyH_take (i := 3) (oi := { dst := some 97, op := _, type := _, pos := _, after := _, guard := _ }) (v := ?_) rfl (by kernel_rfl) (by kernel_rfl) (by kernel_rfl) (fun _ _ _ h => h) (Or.inl ⟨by rfl, ?_⟩) (hH0) ?_
            rotate_left
            · (intro wx hSw; obtain ⟨⟨_, p1, p2, p3, _, _, _⟩, l0, q4⟩ := hSw; go_simp <;> with_reducible rfl)
            simp only [Act.put, List.setIfInBounds_toArray, List.set_cons_zero, List.set_cons_succ]
            refine wpAnyH_take (i := 4) (oi := { dst := some 98, op := _, type := _, pos := _, after := _, guard := _ }) (v := ?_) rfl (by kernel_rfl) (by kernel_rfl) (by kernel_rfl) (fun _ _ _ h => h) (Or.inl ⟨by rfl, ?_⟩) (hH0) ?_
            rotate_left
            · (intro wx hSw; obtain ⟨⟨_, p1, p2, p3, _, _, _⟩, l0, q4⟩ := hSw; go_simp <;> with_reducible rfl)
            simp only [Act.put, List.setIfInBounds_toArray, List.set_cons_zero, List.set_cons_succ]
            refine wpAnyH_take (i := 5) (oi := { dst := some 99, op := _, type := _, pos := _, after := _, guard := _ }) (v := ?_) rfl (by kernel_rfl) (by kernel_rfl) (by kernel_rfl) (fun _ _ _ h => h) (Or.inl ⟨by rfl, ?_⟩) (hH0) ?_
            rotate_left
            · (intro wx hSw; obtain ⟨⟨_, p1, p2, p3, _, _, _⟩, l0, q4⟩ := hSw; go_simp <;> with_reducible rfl)
            simp only [Act.put, List.setIfInBounds_toArray, List.set_cons_zero, List.set_cons_succ]
            refine wpAnyH_take (i := 6) (oi := { dst := some 100, op := _, type := _, pos := _, after := _, guard := _ }) (v := ?_) rfl (by kernel_rfl) (by kernel_rfl) (by kernel_rfl) (fun _ _ _ h => h) (Or.inl ⟨by rfl, ?_⟩) (hH0) ?_
            rotate_left
            · (intro wx hSw; obtain ⟨⟨_, p1, p2, p3, _, _, _⟩, l0, q4⟩ := hSw; go_simp <;> with_reducible rfl)
            simp only [Act.put, List.setIfInBounds_toArray, List.set_cons_zero, List.set_cons_succ]
            refine wpAnyH_take (i := 7) (oi := { dst := some 101, op := _, type := _, pos := _, after := _, guard := _ }) (v := ?_) rfl (by kernel_rfl) (by kernel_rfl) (by kernel_rfl) (fun _ _ _ h => h) (Or.inl ⟨by rfl, ?_⟩) (hH0) ?_
            rotate_left
            · (intro wx hSw; obtain ⟨⟨_, p1, p2, p3, _, _, _⟩, l0, q4⟩ := hSw; go_simp <;> with_reducible rfl)
            simp only [Act.put, List.setIfInBounds_toArray, List.set_cons_zero, List.set_cons_succ]
            refine wpAnyH_take (i := 8) (oi := { dst := some 102, op := _, type := _, pos := _, after := _, guard := _ }) (v := ?_) rfl (by kernel_rfl) (by kernel_rfl) (by kernel_rfl) (fun _ _ _ h => h) (Or.inl ⟨by rfl, ?_⟩) (hH0) ?_
            rotate_left
            · (intro wx hSw; obtain ⟨⟨_, p1, p2, p3, _, _, _⟩, l0, q4⟩ := hSw; go_simp <;> with_reducible rfl)
            simp only [Act.put, List.setIfInBounds_toArray, List.set_cons_zero, List.set_cons_succ]
            refine wpAnyH_take (i := 9) (oi := { dst := some 103, op := _, type := _, pos := _, after := _, guard := _ }) (v := ?_) rfl (by kernel_rfl) (by kernel_rfl) (by kernel_rfl) (fun _ _ _ h => h) (Or.inl ⟨by rfl, ?_⟩) (hH0) ?_
            rotate_left
            · (intro wx hSw; obtain ⟨⟨_, p1, p2, p3, _, _, _⟩, l0, q4⟩ := hSw; go_simp <;> with_reducible rfl)
            simp only [Act.put, List.setIfInBounds_toArray, List.set_cons_zero, List.set_cons_succ]
            refine wpAnyH_take (i := 10) (oi := { dst := some 104, op := _, type := _, pos := _, after := _, guard := _ }) (v := ?_) rfl (by kernel_rfl) (by kernel_rfl) (by kernel_rfl) (fun _ _ _ h => h) (Or.inl ⟨by rfl, ?_⟩) (hH0) ?_
            rotate_left
            · (intro wx hSw; obtain ⟨⟨_, p1, p2, p3, _, _, _⟩, l0, q4⟩ := hSw; go_simp <;> with_reducible rfl)
            simp only [Act.put, List.setIfInBounds_toArray, List.set_cons_zero, List.set_cons_succ]
            refine wpAnyH_take (i := 11) (oi := { dst := some 105, op := _, type := _, pos := _, after := _, guard := _ }) (v := ?_) rfl (by kernel_rfl) (by kernel_rfl) (by kernel_rfl) (fun _ _ _ h => h) (Or.inl ⟨by rfl, ?_⟩) (hH0) ?_
            rotate_left
            · (intro wx hSw; obtain ⟨⟨_, p1, p2, p3, _, _, _⟩, l0, q4⟩ := hSw; go_simp <;> with_reducible rfl)
            simp only [Act.put, List.setIfInBounds_toArray, List.set_cons_zero, List.set_cons_succ]
            refine wpAnyH_take (i := 12) (oi := { dst := some 106, op := _, type := _, pos := _, after := _, guard := _ }) (v := _) rfl (by kernel_rfl) (by kernel_rfl) (by kernel_rfl) (fun _ _ _ h => h) (Or.inr ⟨by rfl, rfl⟩) (hH0) ?_
            simp only [Act.put, List.setIfInBounds_toArray, List.set_cons_zero, List.set_cons_succ]
            refine wpAnyH_take (i := 13) (oi := { dst := some 107, op := _, type := _, pos := _, after := _, guard := _ }) (v := _) rfl (by kernel_rfl) (by kernel_rfl) (by kernel_rfl) (fun _ _ _ h => h) (Or.inr ⟨by rfl, rfl⟩) (hH0) ?_
            simp only [Act.put, List.setIfInBounds_toArray, List.set_cons_zero, List.set_cons_succ]
            refine wpAnyH_take (i := 14) (oi := { dst := some 108, op := _, type := _, pos := _, after := _, guard := _ }) (v := _) rfl (by kernel_rfl) (by kernel_rfl) (by kernel_rfl) (fun _ _ _ h => h) (Or.inr ⟨by rfl, rfl⟩) (hH0) ?_
            simp only [Act.put, List.setIfInBounds_toArray, List.set_cons_zero, List.set_cons_succ]
            refine wpAnyH_take (i := 15) (oi := { dst := some 109, op := _, type := _, pos := _, after := _, guard := _ }) (v := _) rfl (by kernel_rfl) (by kernel_rfl) (by kernel_rfl) (fun _ _ _ h => h) (Or.inr ⟨by rfl, rfl⟩) (hH0) ?_
            simp only [Act.put, List.setIfInBounds_toArray, List.set_cons_zero, List.set_cons_succ]
            refine wpAnyH_take (i := 16) (oi := { dst := some 110, op := _, type := _, pos := _, after := _, guard := _ }) (v := _) rfl (by kernel_rfl) (by kernel_rfl) (by kernel_rfl) (fun _ _ _ h => h) (Or.inr ⟨by rfl, rfl⟩) (hH0) ?_
            simp only [Act.put, List.setIfInBounds_toArray, List.set_cons_zero, List.set_cons_succ]
            refine wpAnyH_take (i := 17) (oi := { dst := some 111, op := _, type := _, pos := _, after := _, guard := _ }) (v := _) rfl (by kernel_rfl) (by kernel_rfl) (by kernel_rfl) (fun _ _ _ h => h) (Or.inr ⟨by rfl, rfl⟩) (hH0) ?_
            simp only [Act.put, List.setIfInBounds_toArray, List.set_cons_zero, List.set_cons_succ]
            refine wpAnyH_take (i := 18) (oi := { dst := some 112, op := _, type := _, pos := _, after := _, guard := _ }) (v := _) rfl (by kernel_rfl) (by kernel_rfl) (by kernel_rfl) (fun _ _ _ h => h) (Or.inr ⟨by rfl, rfl⟩) (hH0) ?_
            simp only [Act.put, List.setIfInBounds_toArray, List.set_cons_zero, List.set_cons_succ]
            refine wpAnyH_take (i := 19) (oi := { dst := some 113, op := _, type := _, pos := _, after := _, guard := _ }) (v := ?_) rfl (by kernel_rfl) (by kernel_rfl) (by kernel_rfl) (fun _ _ _ h => h) (Or.inl ⟨by rfl, ?_⟩) (hH0) ?_
            rotate_left
            · (intro wx hSw; obtain ⟨⟨_, p1, p2, p3, _, _, _⟩, l0, q4⟩ := hSw; go_simp <;> with_reducible rfl)
            simp only [Act.put, List.setIfInBounds_toArray, List.set_cons_zero, List.set_cons_succ]
            refine wpAnyH_take (i := 20) (oi := { dst := some 114, op := _, type := _, pos := _, after := _, guard := _ }) (v := ?_) rfl (by kernel_rfl) (by kernel_rfl) (by kernel_rfl) (fun _ _ _ h => h) (Or.inl ⟨by rfl, ?_⟩) (hH0) ?_
            rotate_left
            · (intro wx hSw; obtain ⟨⟨_, p1, p2, p3, _, _, _⟩, l0, q4⟩ := hSw; go_simp <;> with_reducible rfl)
            simp only [Act.put, List.setIfInBounds_toArray, List.set_cons_zero, List.set_cons_succ]
            refine wpAnyH_done (by kernel_rfl) ?_ _
            -- behind it: go_wp2_with fail, then go_meet (a cut) or go_ret; the condition at the end: hH0
            go_wp2_with fail
            go_roundw
            case rel =>
              have hbel := HB7.out
              exact ⟨k + 1, by omega, by go_num, (by repeat' first | with_reducible exact Below.refl _ _ | with_reducible assumption | with_reducible refine below_drewN ?_ _ | with_reducible refine balloc ?_ _ | with_reducible refine Below.drew ?_ | with_reducible refine Below.setCell ?_ (by first | (simp; done) | (simp; omega) | omega) _ | with_reducible refine bstep ?_ (by assumption))⟩
            case measure => simp [intOf]; omega
          · have hneb : ((L k).id != x.id) = true := by simp [hid]
            have FI := hide (fun w1 (h : IRow w1 a2 mm M) => FM.out a2 c2 (L k).id w1 h)
            rw [FO.out k hlt hid] at FI
            clear hbel vr c1 c2' hid
            go_wp2_with fail
            refine (FI.out _ OK6.out).mono ?_
            rintro e w7 ⟨v7, g7, rfl, h7, b7⟩
            obtain ⟨a7, c7, rfl, r7⟩ := h7.row
            have bA : Below w7.heap.size w7 (w7.alloc (.cells #[.int .i64 (L k).id, .int .i64 (L k).tags, .slice a7 (L k).vec.length c7] 27)) := balloc (Below.refl _ _) _
            have ik := (IK.out.below b7).below bA
            obtain ⟨k0, k1, a', n', c', k2, vr, _⟩ := ik.at_ k hlt
            have T := hide (TJ.mk ((TK.out.below b7).below bA) (Tri.new w7 (.int .i64 (L k).id) (.int .i64 (L k).tags) (.slice a7 (L k).vec.length c7) 27) (r7.below bA) ik.lt k0 k1 k2 vr)
            have R := hide (fun W (t : TJ W w1.heap.size x (.slice xa x.vec.length xc) w7.heap.size g (k * 3) (L k) a7 a' (L k).vec.length n' c7 c') => ES.out (L k) (HV.out k hlt) a7 a' (L k).vec.length n' c7 c' W t.r t.r')
            have HB7 := hide (bstep (bstep HBEL.out b7) bA)
            clear c0 h7 r7 b7 bA ik k0 k1 k2 vr
            go_upto_region 12 with fail
            refine wp_region_held_drew (S := fun wx => TJ wx w1.heap.size x (.slice xa x.vec.length xc) w7.heap.size g (k * 3) (L k) a7 a' (L k).vec.length n' c7 c') (by kernel_rfl) (T.out.drew) (fun hH0 => ?_)
            refine wpAnyH_take (i := 0) (oi := { dst := some 94, op := _, type := _, pos := _, after := _, guard := _ }) (v := ?_) rfl (by kernel_rfl) (by kernel_rfl) (by kernel_rfl) (fun _ _ _ h => h) (Or.inl ⟨by rfl, ?_⟩) (hH0) ?_
            rotate_left
            · (intro wx hSw; obtain ⟨⟨_, p1, p2, p3, _, _, _⟩, ⟨_, q1, q2, q3, _, _, _⟩, r0, l0, q4, q5, q6, r1⟩ := hSw; go_simp <;> with_reducible rfl)
            simp only [Act.put, List.setIfInBounds_toArray, List.set_cons_zero, List.set_cons_succ]
            refine wpAnyH_take (i := 1) (oi := { dst := some 95, op := _, type := _, pos := _, after := _, guard := _ }) (v := ?_) rfl (by kernel_rfl) (by kernel_rfl) (by kernel_rfl) (fun _ _ _ h => h) (Or.inl ⟨by rfl, ?_⟩) (hH0) ?_
            rotate_left
            · (intro wx hSw; obtain ⟨⟨_, p1, p2, p3, _, _, _⟩, ⟨_, q1, q2, q3, _, _, _⟩, r0, l0, q4, q5, q6, r1⟩ := hSw; go_simp <;> with_reducible rfl)
            simp only [Act.put, List.setIfInBounds_toArray, List.set_cons_zero, List.set_cons_succ]
            refine wpAnyH_take (i := 2) (oi := { dst := some 96, op := _, type := _, pos := _, after := _, guard := _ }) (v := ?_) rfl (by kernel_rfl) (by kernel_rfl) (by kernel_rfl) (fun _ _ _ h => h) (Or.inl ⟨by rfl, ?_⟩) (hH0) ?_
            rotate_left
            · (intro wx hSw; obtain ⟨⟨_, p1, p2, p3, _, _, _⟩, ⟨_, q1, q2, q3, _, _, _⟩, r0, l0, q4, q5, q6, r1⟩ := hSw; go_simp <;> with_reducible rfl)
            simp only [Act.put, List.setIfInBounds_toArray, List.set_cons_zero, List.set_cons_succ]
            refine wpAnyH_take (i := 3) (oi := { dst := some 97, op := _, type := _, pos := _, after := _, guard := _ }) (v := ?_) rfl (by kernel_rfl) (by kernel_rfl) (by kernel_rfl) (fun _ _ _ h => h) (Or.inl ⟨by rfl, ?_⟩) (hH0) ?_
            rotate_left
            · (intro wx hSw; obtain ⟨⟨_, p1, p2, p3, _, _, _⟩, ⟨_, q1, q2, q3, _, _, _⟩, r0, l0, q4, q5, q6, r1⟩ := hSw; go_simp <;> with_reducible rfl)
            simp only [Act.put, List.setIfInBounds_toArray, List.set_cons_zero, List.set_cons_succ]
            refine wpAnyH_take (i := 4) (oi := { dst := some 98, op := _, type := _, pos := _, after := _, guard := _ }) (v := ?_) rfl (by kernel_rfl) (by kernel_rfl) (by kernel_rfl) (fun _ _ _ h => h) (Or.inl ⟨by rfl, ?_⟩) (hH0) ?_
            rotate_left
            · (intro wx hSw; obtain ⟨⟨_, p1, p2, p3, _, _, _⟩, ⟨_, q1, q2, q3, _, _, _⟩, r0, l0, q4, q5, q6, r1⟩ := hSw; go_simp <;> with_reducible rfl)
            simp only [Act.put, List.setIfInBounds_toArray, List.set_cons_zero, List.set_cons_succ]
            refine wpAnyH_take (i := 5) (oi := { dst := some 99, op := _, type := _, pos := _, after := _, guard := _ }) (v := ?_) rfl (by kernel_rfl) (by kernel_rfl) (by kernel_rfl) (fun _ _ _ h => h) (Or.inl ⟨by rfl, ?_⟩) (hH0) ?_
            rotate_left
            · (intro wx hSw; obtain ⟨⟨_, p1, p2, p3, _, _, _⟩, ⟨_, q1, q2, q3, _, _, _⟩, r0, l0, q4, q5, q6, r1⟩ := hSw; go_simp <;> with_reducible rfl)
            simp only [Act.put, List.setIfInBounds_toArray, List.set_cons_zero, List.set_cons_succ]
            refine wpAnyH_take (i := 6) (oi := { dst := some 100, op := _, type := _, pos := _, after := _, guard := _ }) (v := ?_) rfl (by kernel_rfl) (by kernel_rfl) (by kernel_rfl) (fun _ _ _ h => h) (Or.inl ⟨by rfl, ?_⟩) (hH0) ?_
            rotate_left
            · (intro wx hSw; obtain ⟨⟨_, p1, p2, p3, _, _, _⟩, ⟨_, q1, q2, q3, _, _, _⟩, r0, l0, q4, q5, q6, r1⟩ := hSw; go_simp <;> with_reducible rfl)
            simp only [Act.put, List.setIfInBounds_toArray, List.set_cons_zero, List.set_cons_succ]
            refine wpAnyH_take (i := 7) (oi := { dst := some 101, op := _, type := _, pos := _, after := _, guard := _ }) (v := ?_) rfl (by kernel_rfl) (by kernel_rfl) (by kernel_rfl) (fun _ _ _ h => h) (Or.inl ⟨by rfl, ?_⟩) (hH0) ?_
            rotate_left
            · (intro wx hSw; obtain ⟨⟨_, p1, p2, p3, _, _, _⟩, ⟨_, q1, q2, q3, _, _, _⟩, r0, l0, q4, q5, q6, r1⟩ := hSw; go_simp <;> with_reducible rfl)
            simp only [Act.put, List.setIfInBounds_toArray, List.set_cons_zero, List.set_cons_succ]
            refine wpAnyH_take (i := 8) (oi := { dst := some 102, op := _, type := _, pos := _, after := _, guard := _ }) (v := ?_) rfl (by kernel_rfl) (by kernel_rfl) (by kernel_rfl) (fun _ _ _ h => h) (Or.inl ⟨by rfl, ?_⟩) (hH0) ?_
            rotate_left
            · (intro wx hSw; obtain ⟨⟨_, p1, p2, p3, _, _, _⟩, ⟨_, q1, q2, q3, _, _, _⟩, r0, l0, q4, q5, q6, r1⟩ := hSw; go_simp <;> with_reducible rfl)
            simp only [Act.put, List.setIfInBounds_toArray, List.set_cons_zero, List.set_cons_succ]
            refine wpAnyH_take (i := 9) (oi := { dst := some 103, op := _, type := _, pos := _, after := _, guard := _ }) (v := ?_) rfl (by kernel_rfl) (by kernel_rfl) (by kernel_rfl) (fun _ _ _ h => h) (Or.inl ⟨by rfl, ?_⟩) (hH0) ?_
            rotate_left
            · (intro wx hSw; obtain ⟨⟨_, p1, p2, p3, _, _, _⟩, ⟨_, q1, q2, q3, _, _, _⟩, r0, l0, q4, q5, q6, r1⟩ := hSw; go_simp <;> with_reducible rfl)
            simp only [Act.put, List.setIfInBounds_toArray, List.set_cons_zero, List.set_cons_succ]
            refine wpAnyH_take (i := 10) (oi := { dst := some 104, op := _, type := _, pos := _, after := _, guard := _ }) (v := ?_) rfl (by kernel_rfl) (by kernel_rfl) (by kernel_rfl) (fun _ _ _ h => h) (Or.inl ⟨by rfl, ?_⟩) (hH0) ?_
            rotate_left
            · (intro wx hSw; obtain ⟨⟨_, p1, p2, p3, _, _, _⟩, ⟨_, q1, q2, q3, _, _, _⟩, r0, l0, q4, q5, q6, r1⟩ := hSw; go_simp <;> with_reducible rfl)
            simp only [Act.put, List.setIfInBounds_toArray, List.set_cons_zero, List.set_cons_succ]
            refine wpAnyH_take (i := 11) (oi := { dst := some 105, op := _, type := _, pos := _, after := _, guard := _ }) (v := ?_) rfl (by kernel_rfl) (by kernel_rfl) (by kernel_rfl) (fun _ _ _ h => h) (Or.inl ⟨by rfl, ?_⟩) (hH0) ?_
            rotate_left
            · (intro wx hSw; obtain ⟨⟨_, p1, p2, p3, _, _, _⟩, ⟨_, q1, q2, q3, _, _, _⟩, r0, l0, q4, q5, q6, r1⟩ := hSw; go_simp <;> with_reducible rfl)
            simp only [Act.put, List.setIfInBounds_toArray, List.set_cons_zero, List.set_cons_succ]
            refine wpAnyH_take (i := 12) (oi := { dst := some 106, op := _, type := _, pos := _, after := _, guard := _ }) (v := ?_) rfl (by kernel_rfl) (by kernel_rfl) (by kernel_rfl) (fun _ _ _ h => h) (Or.inl ⟨by rfl, ?_⟩) (hH0) ?_
            rotate_left
            · (intro wx hSw; obtain ⟨⟨_, p1, p2, p3, _, _, _⟩, ⟨_, q1, q2, q3, _, _, _⟩, r0, l0, q4, q5, q6, r1⟩ := hSw; go_simp <;> with_reducible rfl)
            simp only [Act.put, List.setIfInBounds_toArray, List.set_cons_zero, List.set_cons_succ]
            refine wpAnyH_take (i := 13) (oi := { dst := some 107, op := _, type := _, pos := _, after := _, guard := _ }) (v := ?_) rfl (by kernel_rfl) (by kernel_rfl) (by kernel_rfl) (fun _ _ _ h => h) (Or.inl ⟨by rfl, ?_⟩) (hH0) ?_
            rotate_left
            · (intro wx hSw; obtain ⟨⟨_, p1, p2, p3, _, _, _⟩, ⟨_, q1, q2, q3, _, _, _⟩, r0, l0, q4, q5, q6, r1⟩ := hSw; go_simp <;> with_reducible rfl)
            simp only [Act.put, List.setIfInBounds_toArray, List.set_cons_zero, List.set_cons_succ]
            refine wpAnyH_take (i := 14) (oi := { dst := some 108, op := _, type := _, pos := _, after := _, guard := _ }) (v := ?_) rfl (by kernel_rfl) (by kernel_rfl) (by kernel_rfl) (fun _ _ _ h => h) (Or.inl ⟨by rfl, ?_⟩) (hH0) ?_
            rotate_left
            · (intro wx hSw; obtain ⟨⟨_, p1, p2, p3, _, _, _⟩, ⟨_, q1, q2, q3, _, _, _⟩, r0, l0, q4, q5, q6, r1⟩ := hSw; go_simp <;> with_reducible rfl)
            simp only [Act.put, List.setIfInBounds_toArray, List.set_cons_zero, List.set_cons_succ]
            refine wpAnyH_take (i := 15) (oi := { dst := some 109, op := _, type := _, pos := _, after := _, guard := _ }) (v := ?_) rfl (by kernel_rfl) (by kernel_rfl) (by kernel_rfl) (fun _ _ _ h => h) (Or.inl ⟨by rfl, ?_⟩) (hH0) ?_
            rotate_left
            · (intro wx hSw; obtain ⟨⟨_, p1, p2, p3, _, _, _⟩, ⟨_, q1, q2, q3, _, _, _⟩, r0, l0, q4, q5, q6, r1⟩ := hSw; go_simp <;> with_reducible rfl)
            simp only [Act.put, List.setIfInBounds_toArray, List.set_cons_zero, List.set_cons_succ]
            refine wpAnyH_take (i := 16) (oi := { dst := some 110, op := _, type := _, pos := _, after := _, guard := _ }) (v := ?_) rfl (by kernel_rfl) (by kernel_rfl) (by kernel_rfl) (fun _ _ _ h => h) (Or.inl ⟨by rfl, ?_⟩) (hH0) ?_
            rotate_left
            · (intro wx hSw; obtain ⟨⟨_, p1, p2, p3, _, _, _⟩, ⟨_, q1, q2, q3, _, _, _⟩, r0, l0, q4, q5, q6, r1⟩ := hSw; go_simp <;> with_reducible rfl)
            simp only [Act.put, List.setIfInBounds_toArray, List.set_cons_zero, List.set_cons_succ]
            refine wpAnyH_ready (rs := [17]) (by kernel_rfl) (by simp) ?_
            refine AllReadyH.cons (o := { dst := some 111, op := _, type := _, pos := _, after := _, guard := _ }) rfl (fun K hK => ?_) AllReadyH.nil
            go_simp
            refine (R.out _ hH0).mono ?_
            rintro e w_c111_1 ⟨rfl, hb_c111_1⟩
            dsimp only
            refine hK.out _ _ (TJ.below hH0 hb_c111_1) (fun hH1 => ?_)
            clear hK K
            refine wpAnyH_take (i := 18) (oi := { dst := some 112, op := _, type := _, pos := _, after := _, guard := _ }) (v := ?_) rfl (by kernel_rfl) (by kernel_rfl) (by kernel_rfl) (fun _ _ _ h => h) (Or.inl ⟨by rfl, ?_⟩) (hH1) ?_
            rotate_left
            · (intro wx hSw; obtain ⟨⟨_, p1, p2, p3, _, _, _⟩, ⟨_, q1, q2, q3, _, _, _⟩, r0, l0, q4, q5, q6, r1⟩ := hSw; go_simp <;> with_reducible rfl)
            simp only [Act.put, List.setIfInBounds_toArray, List.set_cons_zero, List.set_cons_succ]
            refine wpAnyH_take (i := 19) (oi := { dst := some 113, op := _, type := _, pos := _, after := _, guard := _ }) (v := ?_) rfl (by kernel_rfl) (by kernel_rfl) (by kernel_rfl) (fun _ _ _ h => h) (Or.inl ⟨by rfl, ?_⟩) (hH1) ?_
            rotate_left
            · (intro wx hSw; obtain ⟨⟨_, p1, p2, p3, _, _, _⟩, ⟨_, q1, q2, q3, _, _, _⟩, r0, l0, q4, q5, q6, r1⟩ := hSw; go_simp <;> with_reducible rfl)
            simp only [Act.put, List.setIfInBounds_toArray, List.set_cons_zero, List.set_cons_succ]
            refine wpAnyH_take (i := 20) (oi := { dst := some 114, op := _, type := _, pos := _, after := _, guard := _ }) (v := ?_) rfl (by kernel_rfl) (by kernel_rfl) (by kernel_rfl) (fun _ _ _ h => h) (Or.inl ⟨by rfl, ?_⟩) (hH1) ?_
            rotate_left
            · (intro wx hSw; obtain ⟨⟨_, p1, p2, p3, _, _, _⟩, ⟨_, q1, q2, q3, _, _, _⟩, r0, l0, q4, q5, q6, r1⟩ := hSw; go_simp <;> with_reducible rfl)
            simp only [Act.put, List.setIfInBounds_toArray, List.set_cons_zero, List.set_cons_succ]
            refine wpAnyH_done (by kernel_rfl) ?_ _
            -- behind it: go_wp2_with fail, then go_meet (a cut) or go_ret; the condition at the end: hH1
            go_wp2_with fail
            go_roundw
            case rel =>
              have hbel := HB7.out
              exact ⟨k + 1, by omega, by go_num, (by repeat' first | with_reducible exact Below.refl _ _ | with_reducible assumption | with_reducible refine below_drewN ?_ _ | with_reducible refine balloc ?_ _ | with_reducible refine Below.drew ?_ | with_reducible refine Below.setCell ?_ (by first | (simp; done) | (simp; omega) | omega) _ | with_reducible refine bstep ?_ (by assumption))⟩
            case measure => simp [intOf]; omega
        · obtain rfl : k = m := by omega
          have I7 := hide (I6.out.below hbel)
          have O7 := hide (O6.out.below hbel)
          have R7 := hide (R6.out.below hbel)
          have T7 := hide (T6.out.below hbel)
          have B7 := hide (bstep B6.out hbel)
          have FI := hide (fun w1 (h : IRow w1 a2 mm M) => FM.out a2 c2 x.id w1 h)
          rw [FX.out] at FI
          obtain ⟨_, q1, q2, q3, _, _, _⟩ := T7.out
          clear hbel HBEL I6 O6 R6 T6 B6
          go_wp2_with fail
          refine (FI.out _ O7.out).mono ?_
          rintro e w8 ⟨v8, g8, rfl, h8, b8⟩
          obtain ⟨a8, c8, rfl, r8⟩ := h8.row
          have bA : Below w8.heap.size w8 (w8.alloc (.cells #[.int .i64 x.id, .int .i64 x.tags, .slice a8 x.vec.length c8] 27)) := balloc (Below.refl _ _) _
          have I8 := hide ((I7.out.below b8).below bA)
          have O8 := hide ((O7.out.below b8).below bA)
          have R8 := hide ((R7.out.below b8).below bA)
          have T8 := hide ((T7.out.below b8).below bA)
          have Q8 := hide (r8.below bA)
          have U8 := hide (Tri.new w8 (.int .i64 x.id) (.int .i64 x.tags) (.slice a8 x.vec.length c8) 27)
          have B8 : Hid (Below w.heap.size w (w8.alloc (.cells #[.int .i64 x.id, .int .i64 x.tags, .slice a8 x.vec.length c8] 27))) := hide (bstep (bstep B7.out b8) bA)
          clear q1 q2 q3
          obtain ⟨_, q1, q2, q3, _, _, _⟩ := (T7.out.below b8)
          clear bA b8 h8 r8 I7 O7 R7 T7 B7
          go_wp2_with fail
          refine (FL.out _ I8.out).mono ?_
          rintro e w9 ⟨v9, g9, rfl, h9, b9⟩
          obtain ⟨a9, c9, rfl, r9⟩ := h9.row
          have bA : Below w9.heap.size w9 (w9.alloc (.cells #[.int .i64 y0.id, .int .i64 y0.tags, .slice a9 y0.vec.length c9] 27)) := balloc (Below.refl _ _) _
          have O9 := hide ((O8.out.below b9).below bA)
          have R9 := hide ((R8.out.below b9).below bA)
          have Q9 := hide ((Q8.out.below b9).below bA)
          have B9 : Hid (Below w.heap.size w (w9.alloc (.cells #[.int .i64 y0.id, .int .i64 y0.tags, .slice a9 y0.vec.length c9] 27))) := hide (bstep (bstep B8.out b9) bA)
          clear q1 q2 q3
          obtain ⟨_, q1, q2, q3, _, _, _⟩ := (T8.out.below b9)
          obtain ⟨_, p1, p2, p3, _, _, _⟩ := (U8.out.below b9)
          clear bA b9 h9 r9 I8 O8 R8 T8 B8 Q8 U8
          have e1 : was = true → ((mm : Int) == (k : Int)) = true := fun h => by
            have e := HMV.out
            rw [h] at e
            simp at e
            exact beq_iff_eq.2 (by omega)
          have e2 : was = false → ((mm : Int) == (k : Int) + 1) = true := fun h => by
            have e := HMV.out
            rw [h] at e
            simp at e
            exact beq_iff_eq.2 (by omega)
          clear HMV
          cases was
          · have e2 := e2 rfl
            clear e1
            go_wp2_with fail
            refine (ES.out x hxl2 _ _ _ _ _ _ _ Q9.out R9.out).mono ?_
            rintro e w10 ⟨rfl, b10⟩
            have O10 := hide (O9.out.below b10)
            have B10 := hide (bstep B9.out b10)
            clear b10 O9 R9 Q9 B9 q1 q2 q3 p1 p2 p3
            go_wp2_with fail
            refine (IOM.out _ _ _ O10.out).mono ?_
            rintro e w11 ⟨rfl, b11⟩
            have B11 := hide (bstep B10.out b11)
            clear b11 O10 B10
            go_wp2_with fail
            go_ret
            exact ⟨rfl, B11.out⟩
          · have e1 := e1 rfl
            clear e2
            go_wp2_with fail
            refine (ES.out x hxl2 _ _ _ _ _ _ _ Q9.out R9.out).mono ?_
            rintro e w10 ⟨rfl, b10⟩
            have O10 := hide (O9.out.below b10)
            have B10 := hide (bstep B9.out b10)
            clear b10 O9 R9 Q9 B9 q1 q2 q3 p1 p2 p3
            go_wp2_with fail
            refine (IOM.out _ _ _ O10.out).mono ?_
            rintro e w11 ⟨rfl, b11⟩
            have B11 := hide (bstep B10.out b11)
            clear b11 O10 B10
            go_wp2_with fail
            go_ret
            exact ⟨rfl, B11.out⟩
  · rw [decide_eq_true (show 1048576 < n by omega)] at BG
    go_enter Try.func3, Try.ntmps3
    go_wp2_with fail
    refine BG.out.mono ?_
    rintro e w' ⟨rfl, rfl⟩
    go_wp2
    go_ret
    exact ⟨rfl, (by repeat' first | with_reducible exact Below.refl _ _ | with_reducible assumption | with_reducible refine below_drewN ?_ _ | with_reducible refine balloc ?_ _ | with_reducible refine Below.drew ?_ | with_reducible refine Below.setCell ?_ (by first | (simp; done) | (simp; omega) | omega) _ | with_reducible refine bstep ?_ (by assumption))⟩
end Go.Proofs.Ytcbmfannbaaokaa
