/- The walk of the law FnExactItemPut. -/
import Derived.Test.YtbbflfbgaliihaaJC
import Derived.Test.YtbbflfbgaliihaaIS
namespace Go.Proofs.Ytbbflfbgaliihaa
open Go.RowKit
set_option linter.unusedSimpArgs false
set_option linter.unusedVariables false

structure BoxII (w : World) (b b' : Nat) (x : It) (xa ya : Option Addr) (xn yn xc yc : Nat) : Prop where
  one : BoxI w b x xa xn xc
  two : BoxI w b' x ya yn yc
theorem BoxII.below {w w' : World} {b b' : Nat} {x : It} {xa ya : Option Addr} {xn yn xc yc : Nat} (h : BoxII w b b' x xa ya xn yn xc yc) (hb : Below w.heap.size w w') : BoxII w' b b' x xa ya xn yn xc yc := ⟨h.one.below hb, h.two.below hb⟩
theorem BoxI.drew {w : World} {b : Nat} {x : It} {xa : Option Addr} {xn xc : Nat} (h : BoxI w b x xa xn xc) : BoxI w.drew b x xa xn xc := Tri.drew h
theorem Its.cells {w : World} {B C n : Nat} {L : IL} {g : Nat} {V : Nat → Nat} {sv : Nat → Value} (h : Its w B C (some ⟨g, 0, none⟩) n L g V sv) : ∀ i, i < n → IAt w g (0 + i * 3) (L i) := by
  intro i hi
  rcases h.irow.lies with h0 | ⟨b, off, e, lt, hc⟩
  · omega
  · cases e
    exact hc i hi
theorem Own.vsl {w : World} {B g : Nat} {xs : List Int} (h : Own w g xs) (hB : B ≤ g) : VSl w B w.heap.size (.slice (some ⟨g, 0, none⟩) xs.length xs.length) xs g := ⟨_, _, rfl, .inr ⟨rfl, hB, World.rowIs.lt h, h.arr⟩⟩

set_option maxHeartbeats 32000000 in
set_option maxRecDepth 8000 in
theorem exactItemPut_in (dim : Int) (a : Option Addr) (n cap : Nat) (L : IL) (x : It) (xa : Option Addr) (xn xc : Nat) (w : World) (hr : IRow w a n L) (rx : Row w xa xn x.vec) (hsz : n + sumV L n + xn ≤ 1048576)
    (hnl : n ≤ 9223372036854775807) (hvl : ∀ i, i < n → (L i).vec.length ≤ 9223372036854775807) :
    Calls Try.prog 3 #[.int .i64 dim, .slice a n cap, .agg #[.int .i64 x.id, .int .i64 x.tags, .slice xa xn xc]] w fun e w' => e = .returned (.bool true) ∧ Below w.heap.size w w' := by
  have hn2 : n ≤ 1048576 := by omega
  have hs2 : sumV L n ≤ 1048576 := by omega
  have hxn : xn ≤ 1048576 := by omega
  have hxl : x.vec.length ≤ 1048576 := by rw [rx.len]; omega
  have hv2 : ∀ i, i < n → (L i).vec.length ≤ 1048576 := fun i hi => by have := sumV_at L hi; omega
  have SZ := hide (fun w1 (hb : Below w.heap.size w w1) => szItemS_any a n cap L w1 (hr.below hb) hnl hvl)
  rw [szN_yes (show n + sumV L n ≤ 1048576 by omega)] at SZ
  obtain ⟨s, hs⟩ : ∃ s : Int, 1048576 - ((n + sumV L n : Nat) : Int) = s := ⟨_, rfl⟩
  have hs0 : ¬ s < 0 := by omega
  rw [hs] at SZ
  have SI := hide (fun w1 => szItem_any x.id x.tags xa xn xc s w1 (by omega) (by omega) (by omega))
  unfold szN at SI
  simp only [if_neg (show ¬ s - (xn : Int) < 0 by omega)] at SI
  have hs1 : ¬ s - (xn : Int) < 0 := by omega
  have TO := hide (fun w1 (hb : Below w.heap.size w w1) => toItemS_anyG a n cap L w1 (hr.below hb) hn2 hv2)
  have TI := hide (fun w1 (hb : Below w.heap.size w w1) => toItem_any x xa xn xc w1 (rx.below hb) hxn)
  have EQS := hide (fun a a1 c c1 w1 (h : IRow w1 a n L) (h1 : IRow w1 a1 n L) => eqItemS_self a a1 n c c1 L w1 h h1 hn2 hv2)
  have EQI := hide (fun a a' n n' c c' w1 (h : Row w1 a n x.vec) (h' : Row w1 a' n' x.vec) => eqItem_self x a a' n n' c c' w1 h h' (by rw [← h.len]; exact hxl))
  have SF := hide (fun a c xa xn xc w1 (h : IRow w1 a n L) (h1 : Row w1 xa xn x.vec) => sItemPut_any dim a n c L x xa xn xc w1 h hn2 hv2 h1 (by rw [← h1.len]; exact hxl))
  have IF := hide (fun g xa xn xc w1 (hg : g < w1.heap.size) (h : ∀ i, i < n → IAt w1 g (0 + i * 3) (L i)) (h1 : Row w1 xa xn x.vec) => iItemPut_any dim g n n L x xa xn xc w1 hg h (Nat.le_refl _) hn2 hv2 h1 (by rw [← h1.len]; exact hxl))
  have MK := hide (fun B C a cap g V sv w1 (h : Its w1 B C a n L g V sv) => markItemS_any B C a n cap g 1 L V sv w1 h hn2 hs2 (by omega) (by omega))
  have hput : putT dim n L x = 0 ∨ (itemsB dim n L = true ∧ putT dim n L x = putM n L x ∧ putM n L x ≤ 60) := by
    unfold putT
    cases hok : putOk dim n L x
    · exact .inl rfl
    · unfold putOk at hok
      simp only [Bool.and_eq_true] at hok
      by_cases h : putM n L x ≤ 60
      · exact .inr ⟨hok.1, by rw [if_pos rfl, if_pos h], h⟩
      · exact .inl (by rw [if_pos rfl, if_neg h])
  have hml : putT dim n L x ≤ 1048576 := by
    rcases hput with h | ⟨_, h1, h2⟩ <;> omega
  have hms : sumV (putA n L x) (putT dim n L x) ≤ 1048576 := by
    rcases hput with h | ⟨h0, h1, h2⟩
    · rw [h]; exact Nat.zero_le _
    · rw [h1]
      have := sumV_put L (plc L x.id n) (isAt n L x.id) x n (plc_is (itemsB_le h0)).le
      have := rx.len
      unfold putM putA
      omega
  clear hput
  unfold PutR at SF IF
  obtain ⟨m, hm⟩ : ∃ m, putT dim n L x = m := ⟨_, rfl⟩
  obtain ⟨M, hM⟩ : ∃ M, putA n L x = M := ⟨_, rfl⟩
  obtain ⟨cd, hcd⟩ : ∃ c, putC dim n L x = c := ⟨_, rfl⟩
  simp only [hm, hM, hcd] at SF IF hml hms
  have hne : (cd != cd) = false := by simp
  have hmv : ∀ i, i < m → (M i).vec.length ≤ 1048576 := fun i hi => by have := sumV_at M hi; omega
  have EQ := hide (fun a a1 c c1 w1 (h : IRow w1 a m M) (h1 : IRow w1 a1 m M) => eqItemS_self a a1 m c c1 M w1 h h1 hml hmv)
  have MKM := hide (fun B C a cap g V sv w1 (h : Its w1 B C a m M g V sv) => markItemS_any B C a m cap g 1 M V sv w1 h hml hms (by omega) (by omega))
  have HLD := hide (fun B C a cap g V sv w1 (h : Its w1 B C a m (mkI M 1) g V sv) => heldItemS_any B C a m cap g 1 M V sv w1 h hml hms (by omega) (by omega))
  have hoff : 0 ≤ (1 : Int) + offI L n ∧ (1 : Int) + offI L n ≤ 100000000 := by unfold offI; omega
  have hoffM : ¬ ((1 : Int) + offI M m) < 0 := by unfold offI; omega
  obtain ⟨f, hf⟩ : ∃ f : Int, 1 + offI L n = f := ⟨_, rfl⟩
  obtain ⟨fM, hfM⟩ : ∃ f : Int, 1 + offI M m = f := ⟨_, rfl⟩
  simp only [hf] at MK hoff
  simp only [hfM] at MKM HLD hoffM
  have hm1 : (fM != fM) = false := by simp
  have hmk : ¬ (f + (x.vec.length : Int)) < 0 := by omega
  have MKI := hide (fun (B C : Nat) (v : Value) (b : Nat) w1 (h : VSl w1 B C v x.vec b) => markItem_any x.id x.tags f w1 h hxl hoff.1 hoff.2)
  clear hr hv2 hm hM hs hsz hf hfM hmv hms hs2 hcd hoff rx hvl hnl
  go_enter Try.func3, Try.ntmps3
  go_wp2_with fail
  refine (SZ.out _ (by repeat' first | with_reducible exact Below.refl _ _ | with_reducible assumption | with_reducible refine below_drewN ?_ _ | with_reducible refine balloc ?_ _ | with_reducible refine Below.drew ?_ | with_reducible refine Below.setCell ?_ (by first | (simp; done) | (simp; omega) | omega) _ | with_reducible refine bstep ?_ (by assumption))).mono ?_
  rintro e w1 ⟨rfl, b1⟩
  have B0 : Hid (BoxI w1 w.heap.size x xa xn xc) := hide ((Tri.new w (.int .i64 x.id) (.int .i64 x.tags) (.slice xa xn xc) 25).below b1)
  obtain ⟨_, q1, q2, q3, _⟩ := B0.out
  go_wp2_with fail
  refine (SI.out _).mono ?_
  rintro e w2 ⟨rfl, b2⟩
  clear q1 q2 q3
  have bw2 : Below w.heap.size w w2.drew := Below.drew (by repeat' first | with_reducible exact Below.refl _ _ | with_reducible assumption | with_reducible refine below_drewN ?_ _ | with_reducible refine balloc ?_ _ | with_reducible refine Below.drew ?_ | with_reducible refine Below.setCell ?_ (by first | (simp; done) | (simp; omega) | omega) _ | with_reducible refine bstep ?_ (by assumption))
  have B2 : Hid (BoxI w2.drew w.heap.size x xa xn xc) := hide (B0.out.below b2).drew
  clear b1 b2
  go_wp2_with fail
  refine wp_region_held_drew (S := fun wx => BoxI wx w.heap.size x xa xn xc) (by kernel_rfl) (B2.out) (fun hH0 => ?_)
  refine wpAnyH_take (i := 0) (oi := { dst := some 30, op := _, type := _, pos := _, after := _, guard := _ }) (v := ?_) rfl (by kernel_rfl) (by kernel_rfl) (by kernel_rfl) (fun _ _ _ h => h) (Or.inl ⟨by rfl, ?_⟩) (hH0) ?_
  rotate_left
  · (intro wx hSw; obtain ⟨_, q1, q2, q3, _, _, _⟩ := hSw; go_simp <;> with_reducible rfl)
  simp only [Act.put, List.setIfInBounds_toArray, List.set_cons_zero, List.set_cons_succ]
  refine wpAnyH_take (i := 1) (oi := { dst := some 31, op := _, type := _, pos := _, after := _, guard := _ }) (v := ?_) rfl (by kernel_rfl) (by kernel_rfl) (by kernel_rfl) (fun _ _ _ h => h) (Or.inl ⟨by rfl, ?_⟩) (hH0) ?_
  rotate_left
  · (intro wx hSw; obtain ⟨_, q1, q2, q3, _, _, _⟩ := hSw; go_simp <;> with_reducible rfl)
  simp only [Act.put, List.setIfInBounds_toArray, List.set_cons_zero, List.set_cons_succ]
  refine wpAnyH_take (i := 3) (oi := { dst := some 33, op := _, type := _, pos := _, after := _, guard := _ }) (v := ?_) rfl (by kernel_rfl) (by kernel_rfl) (by kernel_rfl) (fun _ _ _ h => h) (Or.inl ⟨by rfl, ?_⟩) (hH0) ?_
  rotate_left
  · (intro wx hSw; obtain ⟨_, q1, q2, q3, _, _, _⟩ := hSw; go_simp <;> with_reducible rfl)
  simp only [Act.put, List.setIfInBounds_toArray, List.set_cons_zero, List.set_cons_succ]
  refine wpAnyH_ready (rs := [2]) (by kernel_rfl) (by simp) ?_
  refine AllReadyH.cons (o := { dst := some 32, op := _, type := _, pos := _, after := _, guard := _ }) rfl (fun K hK => ?_) AllReadyH.nil
  go_simp
  refine (TO.out _ bw2).mono ?_
  rintro e w3 ⟨g3, V3, s3, rfl, lt3, i3, b3⟩
  dsimp only
  refine hK.out _ _ (BoxI.below hH0 b3) (fun hH1 => ?_)
  clear hK K
  refine wpAnyH_ready (rs := [4]) (by kernel_rfl) (by simp) ?_
  refine AllReadyH.cons (o := { dst := some 34, op := _, type := _, pos := _, after := _, guard := _ }) rfl (fun K hK => ?_) AllReadyH.nil
  go_simp
  refine (TI.out _ (bstep bw2 b3)).mono ?_
  rintro e w4 ⟨g4, rfl, l4, o4, b4⟩
  dsimp only
  refine hK.out _ _ (BoxI.below hH1 b4) (fun hH2 => ?_)
  clear hK K
  refine wpAnyH_ready (rs := [5]) (by kernel_rfl) (by simp) ?_
  refine AllReadyH.cons (o := { dst := some 35, op := _, type := _, pos := _, after := _, guard := _ }) rfl (fun K hK => ?_) AllReadyH.nil
  go_simp
  refine (SF.out _ _ _ _ _ _ (i3.irow.below b4) o4.row).mono ?_
  rintro e w5 ⟨a5, c5, g5, V5, s5, rfl, i5, b5⟩
  dsimp only
  refine hK.out _ _ (BoxI.below hH2 b5) (fun hH3 => ?_)
  clear hK K
  refine wpAnyH_take (i := 6) (oi := { dst := some 29, op := _, type := _, pos := _, after := _, guard := _ }) (v := ?_) rfl (by kernel_rfl) (by kernel_rfl) (by kernel_rfl) (fun _ _ _ h => h) (Or.inl ⟨by rfl, ?_⟩) (hH3) ?_
  rotate_left
  · (intro wx hSw; obtain ⟨_, q1, q2, q3, _, _, _⟩ := hSw; go_simp <;> with_reducible rfl)
  simp only [Act.put, List.setIfInBounds_toArray, List.set_cons_zero, List.set_cons_succ]
  refine wpAnyH_take (i := 7) (oi := { dst := some 36, op := _, type := _, pos := _, after := _, guard := _ }) (v := ?_) rfl (by kernel_rfl) (by kernel_rfl) (by kernel_rfl) (fun _ _ _ h => h) (Or.inl ⟨by rfl, ?_⟩) (hH3) ?_
  rotate_left
  · (intro wx hSw; obtain ⟨_, q1, q2, q3, _, _, _⟩ := hSw; go_simp <;> with_reducible rfl)
  simp only [Act.put, List.setIfInBounds_toArray, List.set_cons_zero, List.set_cons_succ]
  refine wpAnyH_take (i := 8) (oi := { dst := some 37, op := _, type := _, pos := _, after := _, guard := _ }) (v := ?_) rfl (by kernel_rfl) (by kernel_rfl) (by kernel_rfl) (fun _ _ _ h => h) (Or.inl ⟨by rfl, ?_⟩) (hH3) ?_
  rotate_left
  · (intro wx hSw; obtain ⟨_, q1, q2, q3, _, _, _⟩ := hSw; go_simp <;> with_reducible rfl)
  simp only [Act.put, List.setIfInBounds_toArray, List.set_cons_zero, List.set_cons_succ]
  refine wpAnyH_take (i := 9) (oi := { dst := some 8, op := _, type := _, pos := _, after := _, guard := _ }) (v := ?_) rfl (by kernel_rfl) (by kernel_rfl) (by kernel_rfl) (fun _ _ _ h => h) (Or.inl ⟨by rfl, ?_⟩) (hH3) ?_
  rotate_left
  · (intro wx hSw; obtain ⟨_, q1, q2, q3, _, _, _⟩ := hSw; go_simp <;> with_reducible rfl)
  simp only [Act.put, List.setIfInBounds_toArray, List.set_cons_zero, List.set_cons_succ]
  refine wpAnyH_take (i := 10) (oi := { dst := some 9, op := _, type := _, pos := _, after := _, guard := _ }) (v := ?_) rfl (by kernel_rfl) (by kernel_rfl) (by kernel_rfl) (fun _ _ _ h => h) (Or.inl ⟨by rfl, ?_⟩) (hH3) ?_
  rotate_left
  · (intro wx hSw; obtain ⟨_, q1, q2, q3, _, _, _⟩ := hSw; go_simp <;> with_reducible rfl)
  simp only [Act.put, List.setIfInBounds_toArray, List.set_cons_zero, List.set_cons_succ]
  refine wpAnyH_done (by kernel_rfl) ?_ _
  -- behind it: go_wp2_with fail, then go_meet (a cut) or go_ret; the condition at the end: hH3
  have bw5 : Below w.heap.size w w5 := bstep (bstep (bstep bw2 b3) b4) b5
  have l5 : w.heap.size ≤ w4.heap.size := (bstep (bstep bw2 b3) b4).size
  have l45 := b5.size
  have B5 := hide hH3
  have ltB5 : w.heap.size < w5.heap.size := Tri.lt B5.out
  clear i3 o4 bw2 b3 b4 b5 lt3 hH0 hH1 hH2 hH3
  go_wp2_with fail
  refine (TO.out _ bw5).mono ?_
  rintro e w6 ⟨g6, V6, s6, rfl, lt6, i6, b6⟩
  have bw6 := bstep bw5 b6
  obtain ⟨_, q1, q2, q3, _⟩ := B5.out.below b6
  go_wp2_with fail
  refine (TI.out _ bw6).mono ?_
  rintro e w7 ⟨g7, rfl, l7, o7, b7⟩
  have hb8 : Below w7.heap.size w7 (w7.alloc (.cells #[.int .i64 x.id, .int .i64 x.tags, .slice (some ⟨g7, 0, none⟩) x.vec.length x.vec.length] 32)) := balloc (Below.refl _ _) _
  obtain ⟨w8, hw8⟩ : ∃ w8, w7.alloc (.cells #[.int .i64 x.id, .int .i64 x.tags, .slice (some ⟨g7, 0, none⟩) x.vec.length x.vec.length] 32) = w8 := ⟨_, rfl⟩
  have T8 : Hid (BoxI w8 w7.heap.size x (some ⟨g7, 0, none⟩) x.vec.length x.vec.length) := hide (hw8 ▸ Tri.new w7 (.int .i64 x.id) (.int .i64 x.tags) (.slice (some ⟨g7, 0, none⟩) x.vec.length x.vec.length) 32)
  have B8 := hide ((((B5.out.below b6).below b7).below hb8))
  rw [hw8] at hb8 B8
  have lt7 := World.rowIs.lt o7
  have j7 := (o7.vsl l7).below hb8
  have j6 := (i6.below b7).below hb8
  have j5 := ((i5.below b6).below b7).below hb8
  have bw8 := bstep (bstep bw6 b7) hb8
  have l6 := b6.size
  have l67 := b7.size
  have l78 := hb8.size
  clear q1 q2 q3
  obtain ⟨_, q1, q2, q3, _⟩ := T8.out
  have lt8 : g6 < w8.heap.size := by omega
  clear i5 i6 o7 b6 b7 hb8 bw5 bw6
  go_wp2_with fail
  refine (IF.out g6 _ _ _ w8 lt8 j6.cells j7.at).mono ?_
  rintro e w9 ⟨a9, c9, g9, V9, s9, rfl, i9, b9⟩
  clear q1 q2 q3 hw8
  go_wp2_with fail
  refine (EQ.out _ _ _ _ _ i9.irow (j5.below b9).irow).mono ?_
  rintro e w10 ⟨rfl, b10⟩
  have bw10 := bstep (bstep bw8 b9) b10
  go_wp2_with fail
  refine (TO.out _ bw10).mono ?_
  rintro e w11 ⟨g11, V11, s11, rfl, lt11, i11, b11⟩
  have k6 := ((j6.below b9).below b10).below b11
  go_wp2_with fail
  refine (EQS.out _ _ _ _ _ k6.irow i11.irow).mono ?_
  rintro e w12 ⟨rfl, b12⟩
  have bw12 : Below w.heap.size w w12.drew := Below.drew (bstep (bstep bw10 b11) b12)
  have BB : Hid (BoxII w12.drew w.heap.size w7.heap.size x xa (some ⟨g7, 0, none⟩) xn x.vec.length xc x.vec.length) := hide ⟨((((B8.out.below b9).below b10).below b11).below b12).drew, ((((T8.out.below b9).below b10).below b11).below b12).drew⟩
  have hd12 : Below w12.heap.size w12 w12.drew := Below.drew (Below.refl _ _)
  have m5 := (((((j5.below b9).below b10).below b11).below b12).below hd12)
  have m6 := (k6.below b12).below hd12
  have m7 := (((((j7.below b9).below b10).below b11).below b12).below hd12)
  have m9 := ((((i9.below b10).below b11).below b12).below hd12)
  have l9 := b9.size
  have l10 := b10.size
  have l11 := b11.size
  have l12 := b12.size
  clear j5 j6 j7 i9 k6 i11 b9 b10 b11 b12 hd12 bw8 bw10 lt11 lt8
  go_wp2_with fail
  refine wp_region_held_drew (S := fun wx => BoxII wx w.heap.size w7.heap.size x xa (some ⟨g7, 0, none⟩) xn x.vec.length xc x.vec.length) (by kernel_rfl) (BB.out) (fun hH0 => ?_)
  refine wpAnyH_take (i := 0) (oi := { dst := some 63, op := _, type := _, pos := _, after := _, guard := _ }) (v := ?_) rfl (by kernel_rfl) (by kernel_rfl) (by kernel_rfl) (fun _ _ _ h => h) (Or.inl ⟨by rfl, ?_⟩) (hH0) ?_
  rotate_left
  · (intro wx hSw; obtain ⟨⟨_, q1, q2, q3, _, _, _⟩, ⟨_, p1, p2, p3, _, _, _⟩⟩ := hSw; go_simp <;> with_reducible rfl)
  simp only [Act.put, List.setIfInBounds_toArray, List.set_cons_zero, List.set_cons_succ]
  refine wpAnyH_take (i := 1) (oi := { dst := some 64, op := _, type := _, pos := _, after := _, guard := _ }) (v := ?_) rfl (by kernel_rfl) (by kernel_rfl) (by kernel_rfl) (fun _ _ _ h => h) (Or.inl ⟨by rfl, ?_⟩) (hH0) ?_
  rotate_left
  · (intro wx hSw; obtain ⟨⟨_, q1, q2, q3, _, _, _⟩, ⟨_, p1, p2, p3, _, _, _⟩⟩ := hSw; go_simp <;> with_reducible rfl)
  simp only [Act.put, List.setIfInBounds_toArray, List.set_cons_zero, List.set_cons_succ]
  refine wpAnyH_ready (rs := [2]) (by kernel_rfl) (by simp) ?_
  refine AllReadyH.cons (o := { dst := some 65, op := _, type := _, pos := _, after := _, guard := _ }) rfl (fun K hK => ?_) AllReadyH.nil
  go_simp
  refine (TI.out _ bw12).mono ?_
  rintro e w13 ⟨g13, rfl, l13, o13, b13⟩
  dsimp only
  refine hK.out _ _ (BoxII.below hH0 b13) (fun hH1 => ?_)
  clear hK K
  refine wpAnyH_ready (rs := [3]) (by kernel_rfl) (by simp) ?_
  refine AllReadyH.cons (o := { dst := some 66, op := _, type := _, pos := _, after := _, guard := _ }) rfl (fun K hK => ?_) AllReadyH.nil
  go_simp
  refine (EQI.out _ _ _ _ _ _ _ (m7.below b13).at o13.row).mono ?_
  rintro e w14 ⟨rfl, b14⟩
  dsimp only
  refine hK.out _ _ (BoxII.below hH1 b14) (fun hH2 => ?_)
  clear hK K
  refine wpAnyH_take (i := 4) (oi := { dst := some 67, op := _, type := _, pos := _, after := _, guard := _ }) (v := ?_) rfl (by kernel_rfl) (by kernel_rfl) (by kernel_rfl) (fun _ _ _ h => h) (Or.inl ⟨by rfl, ?_⟩) (hH2) ?_
  rotate_left
  · (intro wx hSw; obtain ⟨⟨_, q1, q2, q3, _, _, _⟩, ⟨_, p1, p2, p3, _, _, _⟩⟩ := hSw; go_simp <;> with_reducible rfl)
  simp only [Act.put, List.setIfInBounds_toArray, List.set_cons_zero, List.set_cons_succ]
  refine wpAnyH_done (by kernel_rfl) ?_ _
  -- behind it: go_wp2_with fail, then go_meet (a cut) or go_ret; the condition at the end: hH2
  have B14 := hide hH2
  have k5 := (m5.below b13).below b14
  have k6 := (m6.below b13).below b14
  have k7 := (m7.below b13).below b14
  have k9 := (m9.below b13).below b14
  have bw14 := bstep (bstep bw12 b13) b14
  clear m5 m6 m7 m9 o13 bw12 b13 b14 hH0 hH1 hH2 l13
  go_wp2_with fail
  refine (MK.out _ _ _ _ _ _ _ _ k6).mono ?_
  rintro e w15 ⟨rfl, _, f15⟩
  have bw15 := Far.after bw14 f15 (by omega)
  have n5 := k5.far f15 (.inl (Nat.le_refl _))
  have n7 := k7.far f15 (.inr (Nat.le_refl _))
  have n9 := k9.far f15 (.inr (by omega))
  have P15 : Hid (BoxI w15 w7.heap.size x (some ⟨g7, 0, none⟩) x.vec.length x.vec.length) := hide (B14.out.two.far f15 (.inr (by omega)))
  have Q15 : Hid (BoxI w15 w.heap.size x xa xn xc) := hide (B14.out.one.far f15 (.inl (by omega)))
  obtain ⟨_, q1, q2, q3, _⟩ := P15.out
  clear k5 k6 k7 k9 bw14 f15
  go_wp2_with fail
  refine (MKI.out _ _ _ _ _ n7).mono ?_
  rintro e w16 ⟨rfl, _, f16⟩
  have bw16 := Far.after bw15 f16 (by omega)
  have m5 := n5.far f16 (.inl (by omega))
  have m9 := n9.far f16 (.inr (by omega))
  have Q16 : Hid (BoxI w16 w.heap.size x xa xn xc) := hide (Q15.out.far f16 (.inl (by omega)))
  clear n5 n7 n9 f16 bw15 q1 q2 q3
  go_wp2_with fail
  refine (EQ.out _ _ _ _ _ m9.irow m5.irow).mono ?_
  rintro e w17 ⟨rfl, b17⟩
  go_wp2_with fail
  refine (MKM.out _ _ _ _ _ _ _ _ (m9.below b17)).mono ?_
  rintro e w18 ⟨rfl, i18, f18⟩
  have bw18 := Far.after (bstep bw16 b17) f18 (by omega)
  have j18 := (m5.below b17).far f18 (.inl (by omega))
  have Q18 : Hid (BoxI w18.drew w.heap.size x xa xn xc) := hide (BoxI.drew (Tri.far (Q16.out.below b17) f18 (.inl (by omega))))
  clear m5 m9 b17 f18 bw16
  go_wp2_with fail
  refine (HLD.out _ _ _ _ _ _ _ _ i18).mono ?_
  rintro e w19 ⟨rfl, hw19⟩
  subst hw19
  have bw19 : Below w.heap.size w w19.drew := Below.drew bw18
  have hd19 : Below w19.heap.size w19 w19.drew := Below.drew (Below.refl _ _)
  go_wp2_with fail
  refine wp_region_held_drew (S := fun wx => BoxI wx w.heap.size x xa xn xc) (by kernel_rfl) (Q18.out) (fun hH0 => ?_)
  refine wpAnyH_take (i := 0) (oi := { dst := some 99, op := _, type := _, pos := _, after := _, guard := _ }) (v := ?_) rfl (by kernel_rfl) (by kernel_rfl) (by kernel_rfl) (fun _ _ _ h => h) (Or.inl ⟨by rfl, ?_⟩) (hH0) ?_
  rotate_left
  · (intro wx hSw; obtain ⟨_, q1, q2, q3, _, _, _⟩ := hSw; go_simp <;> with_reducible rfl)
  simp only [Act.put, List.setIfInBounds_toArray, List.set_cons_zero, List.set_cons_succ]
  refine wpAnyH_take (i := 1) (oi := { dst := some 100, op := _, type := _, pos := _, after := _, guard := _ }) (v := ?_) rfl (by kernel_rfl) (by kernel_rfl) (by kernel_rfl) (fun _ _ _ h => h) (Or.inl ⟨by rfl, ?_⟩) (hH0) ?_
  rotate_left
  · (intro wx hSw; obtain ⟨_, q1, q2, q3, _, _, _⟩ := hSw; go_simp <;> with_reducible rfl)
  simp only [Act.put, List.setIfInBounds_toArray, List.set_cons_zero, List.set_cons_succ]
  refine wpAnyH_take (i := 3) (oi := { dst := some 102, op := _, type := _, pos := _, after := _, guard := _ }) (v := ?_) rfl (by kernel_rfl) (by kernel_rfl) (by kernel_rfl) (fun _ _ _ h => h) (Or.inl ⟨by rfl, ?_⟩) (hH0) ?_
  rotate_left
  · (intro wx hSw; obtain ⟨_, q1, q2, q3, _, _, _⟩ := hSw; go_simp <;> with_reducible rfl)
  simp only [Act.put, List.setIfInBounds_toArray, List.set_cons_zero, List.set_cons_succ]
  refine wpAnyH_ready (rs := [2]) (by kernel_rfl) (by simp) ?_
  refine AllReadyH.cons (o := { dst := some 101, op := _, type := _, pos := _, after := _, guard := _ }) rfl (fun K hK => ?_) AllReadyH.nil
  go_simp
  refine (TO.out _ bw19).mono ?_
  rintro e w20 ⟨g20, V20, s20, rfl, lt20, i20, b20⟩
  dsimp only
  refine hK.out _ _ (BoxI.below hH0 b20) (fun hH1 => ?_)
  clear hK K
  refine wpAnyH_ready (rs := [4]) (by kernel_rfl) (by simp) ?_
  refine AllReadyH.cons (o := { dst := some 103, op := _, type := _, pos := _, after := _, guard := _ }) rfl (fun K hK => ?_) AllReadyH.nil
  go_simp
  refine (TI.out _ (bstep bw19 b20)).mono ?_
  rintro e w21 ⟨g21, rfl, l21, o21, b21⟩
  dsimp only
  refine hK.out _ _ (BoxI.below hH1 b21) (fun hH2 => ?_)
  clear hK K
  refine wpAnyH_ready (rs := [5]) (by kernel_rfl) (by simp) ?_
  refine AllReadyH.cons (o := { dst := some 104, op := _, type := _, pos := _, after := _, guard := _ }) rfl (fun K hK => ?_) AllReadyH.nil
  go_simp
  refine (IF.out g20 _ _ _ _ (Nat.lt_of_lt_of_le lt20 b21.size) (i20.below b21).cells o21.row).mono ?_
  rintro e w22 ⟨a22, c22, g22, V22, s22, rfl, i22, b22⟩
  dsimp only
  refine hK.out _ _ (BoxI.below hH2 b22) (fun hH3 => ?_)
  clear hK K
  refine wpAnyH_take (i := 6) (oi := { dst := some 98, op := _, type := _, pos := _, after := _, guard := _ }) (v := ?_) rfl (by kernel_rfl) (by kernel_rfl) (by kernel_rfl) (fun _ _ _ h => h) (Or.inl ⟨by rfl, ?_⟩) (hH3) ?_
  rotate_left
  · (intro wx hSw; obtain ⟨_, q1, q2, q3, _, _, _⟩ := hSw; go_simp <;> with_reducible rfl)
  simp only [Act.put, List.setIfInBounds_toArray, List.set_cons_zero, List.set_cons_succ]
  refine wpAnyH_take (i := 7) (oi := { dst := some 105, op := _, type := _, pos := _, after := _, guard := _ }) (v := ?_) rfl (by kernel_rfl) (by kernel_rfl) (by kernel_rfl) (fun _ _ _ h => h) (Or.inl ⟨by rfl, ?_⟩) (hH3) ?_
  rotate_left
  · (intro wx hSw; obtain ⟨_, q1, q2, q3, _, _, _⟩ := hSw; go_simp <;> with_reducible rfl)
  simp only [Act.put, List.setIfInBounds_toArray, List.set_cons_zero, List.set_cons_succ]
  refine wpAnyH_take (i := 8) (oi := { dst := some 106, op := _, type := _, pos := _, after := _, guard := _ }) (v := ?_) rfl (by kernel_rfl) (by kernel_rfl) (by kernel_rfl) (fun _ _ _ h => h) (Or.inl ⟨by rfl, ?_⟩) (hH3) ?_
  rotate_left
  · (intro wx hSw; obtain ⟨_, q1, q2, q3, _, _, _⟩ := hSw; go_simp <;> with_reducible rfl)
  simp only [Act.put, List.setIfInBounds_toArray, List.set_cons_zero, List.set_cons_succ]
  refine wpAnyH_take (i := 9) (oi := { dst := some 17, op := _, type := _, pos := _, after := _, guard := _ }) (v := ?_) rfl (by kernel_rfl) (by kernel_rfl) (by kernel_rfl) (fun _ _ _ h => h) (Or.inl ⟨by rfl, ?_⟩) (hH3) ?_
  rotate_left
  · (intro wx hSw; obtain ⟨_, q1, q2, q3, _, _, _⟩ := hSw; go_simp <;> with_reducible rfl)
  simp only [Act.put, List.setIfInBounds_toArray, List.set_cons_zero, List.set_cons_succ]
  refine wpAnyH_take (i := 10) (oi := { dst := some 18, op := _, type := _, pos := _, after := _, guard := _ }) (v := ?_) rfl (by kernel_rfl) (by kernel_rfl) (by kernel_rfl) (fun _ _ _ h => h) (Or.inl ⟨by rfl, ?_⟩) (hH3) ?_
  rotate_left
  · (intro wx hSw; obtain ⟨_, q1, q2, q3, _, _, _⟩ := hSw; go_simp <;> with_reducible rfl)
  simp only [Act.put, List.setIfInBounds_toArray, List.set_cons_zero, List.set_cons_succ]
  refine wpAnyH_done (by kernel_rfl) ?_ _
  -- behind it: go_wp2_with fail, then go_meet (a cut) or go_ret; the condition at the end: hH3
  have k18 := (((j18.below hd19).below b20).below b21).below b22
  have k11 := (((i18.below hd19).below b20).below b21).below b22
  have bw22 := bstep (bstep (bstep bw19 b20) b21) b22
  clear hH0 hH1 hH2 hH3 i20 o21 b20 b21 b22 lt20 bw19 hd19 bw18 j18 i18
  go_wp2_with fail
  refine (EQ.out _ _ _ _ _ i22.irow k18.irow).mono ?_
  rintro e w23 ⟨rfl, b23⟩
  go_wp2_with fail
  refine (HLD.out _ _ _ _ _ _ _ _ (k11.below b23)).mono ?_
  rintro e w24 ⟨rfl, hw24⟩
  subst hw24
  go_wp2_with fail
  go_ret
  exact ⟨rfl, bstep bw22 b23⟩

set_option maxHeartbeats 1600000 in
theorem exactItemPut_walk (dim : Int) (a : Option Addr) (n cap : Nat) (L : IL) (x0 x1 : Int) (xa : Option Addr) (xn xc : Nat) (xs : List Int) (w : World) (hwd : (Lit.int IntKind.i64 dim).wf = true) (h : IsItems w a n L) (rx : Row w xa xn xs) (hxn : xn ≤ 9223372036854775807) :
    Calls Try.prog 3 #[.int .i64 dim, .slice a n cap, .agg #[.int .i64 x0, .int .i64 x1, .slice xa xn xc]] w fun e w' => e = .returned (.bool true) ∧ Below w.heap.size w w' := by
  obtain ⟨hr, hn, hv⟩ := h
  by_cases hsz : n + sumV L n + xn ≤ 1048576
  · exact exactItemPut_in dim a n cap L ⟨x0, x1, xs⟩ xa xn xc w hr rx hsz hn hv
  · have SZ := hide (fun w1 (hb : Below w.heap.size w w1) => szItemS_any a n cap L w1 (hr.below hb) hn hv)
    by_cases hs1 : n + sumV L n ≤ 1048576
    · rw [szN_yes hs1] at SZ
      obtain ⟨s, hs⟩ : ∃ s : Int, 1048576 - ((n + sumV L n : Nat) : Int) = s := ⟨_, rfl⟩
      have hs0 : ¬ s < 0 := by omega
      rw [hs] at SZ
      have SI := hide (fun w1 => szItem_any x0 x1 xa xn xc s w1 (by omega) (by omega) hxn)
      unfold szN at SI
      simp only [if_pos (show s - (xn : Int) < 0 by omega)] at SI
      clear hr hv rx hs hsz hs1
      go_enter Try.func3, Try.ntmps3
      go_wp2_with fail
      refine (SZ.out _ (by repeat' first | with_reducible exact Below.refl _ _ | with_reducible assumption | with_reducible refine below_drewN ?_ _ | with_reducible refine balloc ?_ _ | with_reducible refine Below.drew ?_ | with_reducible refine Below.setCell ?_ (by first | (simp; done) | (simp; omega) | omega) _ | with_reducible refine bstep ?_ (by assumption))).mono ?_
      rintro e w1 ⟨rfl, b1⟩
      obtain ⟨_, q1, q2, q3, _⟩ := (Tri.new w (.int .i64 x0) (.int .i64 x1) (.slice xa xn xc) 25).below b1
      go_wp2_with fail
      refine (SI.out _).mono ?_
      rintro e w2 ⟨rfl, b2⟩
      go_wp2_with fail
      go_ret
      exact ⟨rfl, (by repeat' first | with_reducible exact Below.refl _ _ | with_reducible assumption | with_reducible refine below_drewN ?_ _ | with_reducible refine balloc ?_ _ | with_reducible refine Below.drew ?_ | with_reducible refine Below.setCell ?_ (by first | (simp; done) | (simp; omega) | omega) _ | with_reducible refine bstep ?_ (by assumption))⟩
    · rw [szN_no (by omega)] at SZ
      clear hr hv rx hsz hs1
      go_enter Try.func3, Try.ntmps3
      go_wp2_with fail
      refine (SZ.out _ (by repeat' first | with_reducible exact Below.refl _ _ | with_reducible assumption | with_reducible refine below_drewN ?_ _ | with_reducible refine balloc ?_ _ | with_reducible refine Below.drew ?_ | with_reducible refine Below.setCell ?_ (by first | (simp; done) | (simp; omega) | omega) _ | with_reducible refine bstep ?_ (by assumption))).mono ?_
      rintro e w1 ⟨rfl, b1⟩
      go_wp2_with fail
      go_ret
      exact ⟨rfl, (by repeat' first | with_reducible exact Below.refl _ _ | with_reducible assumption | with_reducible refine below_drewN ?_ _ | with_reducible refine balloc ?_ _ | with_reducible refine Below.drew ?_ | with_reducible refine Below.setCell ?_ (by first | (simp; done) | (simp; omega) | omega) _ | with_reducible refine bstep ?_ (by assumption))⟩
end Go.Proofs.Ytbbflfbgaliihaa
