/- DrawFoundText. -/
import Derived.Test.YtfjhgagpmhedfaaDoorTU0
namespace Go.Proofs.YtfjhgagpmhedfaaDoor
open Go.RowKit
set_option maxRecDepth 8000
set_option linter.unusedSimpArgs false
set_option linter.unusedVariables false

/-- A drawn find. -/
def DrawFd (w : World) (e : Ending) (w' : World) : Prop :=
  ∃ (ha : Option Addr) (hn hc : Nat) (H : HtL) (ex : Bool) (rd : Int) (la : Option Addr) (ln lc : Nat) (L : List Int), e = .returned (.agg #[.slice ha hn hc, .bool ex, .int .i64 rd, .slice la ln lc]) ∧ HtR w' ha hn H ∧ Row w' la ln L ∧ hn ≤ 3 ∧ ln ≤ 3 ∧ 0 ≤ rd ∧ rd ≤ 8 ∧ (∀ k, k < ln → 0 ≤ nth L k ∧ nth L k ≤ 8) ∧ Below w.heap.size w w'

theorem three_new (w : World) (x y z : Value) (t : TypeId) : ∀ (j : Nat) (u : Value), [x, y, z][j]? = some u → (w.alloc (.cells #[x, y, z] t)).cell? ((⟨w.heap.size, 0, none⟩ : Addr).add j) = some u := by
  intro j u hj
  match j, hj with
  | 0, hj => simp at hj; subst hj; simp [Addr.add]
  | 1, hj => simp at hj; subst hj; simp [Addr.add]
  | 2, hj => simp at hj; subst hj; simp [Addr.add]
  | j + 3, hj => simp at hj

theorem three_one (x y z : Int) : ∀ u ∈ [Value.int .i64 x, .int .i64 y, .int .i64 z], u.oneCell' = true := by
  intro u hu
  simp at hu
  rcases hu with rfl | rfl | rfl <;> rfl

theorem one_newU (w : World) (v : Value) (t : TypeId) : ∀ (j : Nat) (u : Value), [v][j]? = some u → (w.alloc (.cells #[v] t)).cell? ((⟨w.heap.size, 0, none⟩ : Addr).add j) = some u := by
  intro j u hj
  match j, hj with
  | 0, hj => simp at hj; subst hj; simp [Addr.add]
  | j + 1, hj => simp at hj

theorem infoH : ∃ i, Tryd.prog.info? 38 = some i ∧ i.zero = some (.agg #[.int .i64 0, .int .i64 0, .int .i64 0]) ∧ i.size = 3 ∧ i.bytes = 24 := by
  obtain ⟨i, hi, h⟩ := Option.map_eq_some_iff.1 Tryd.infoHit
  simp only [Prod.mk.injEq] at h
  exact ⟨i, hi, h⟩
/-- One that is on its way: some hits, some counts. -/
def FdX (B : Nat) (w0 : World) (rs rb : Nat) (ca : Option Addr) (cn cc q : Nat) (ex : Bool) (rd : Int) (m : Nat) (w : World) : Prop :=
  ∃ (ha : Option Addr) (hc : Nat) (H : HtL) (la : Option Addr) (lc : Nat) (f : Nat → Int), FdD B w0 rs rb ca cn cc q ex rd ha m hc H la m lc f w ∧ ∀ k, k < m → 0 ≤ f k ∧ f k ≤ 8

set_option maxHeartbeats 8000000 in
set_option maxRecDepth 8000 in
theorem drawFoundText_any (a : Option Addr) (n c : Nat) (w : World) (h : Code w a n) :
    Calls Tryd.prog 11 #[.slice a n c] w fun e w' => DrawFd w e w' := by
  obtain ⟨i0, hi, hz0, hz1, hz2⟩ := infoH
  obtain ⟨i1, hj, hy0, hy1, hy2⟩ := info_parts Tryd.infoI64
  have HI := hide hi
  have HJ := hide hj
  clear hi hj
  have hb0 : Below w.heap.size w (w.alloc (.cells #[.slice none 0 0, .bool false, .int .i64 0, .slice none 0 0] 30)) := balloc (Below.refl _ _) _
  have O := hide (open_any a n c _ (h.below hb0))
  have Z0 := hide (v4_new w (.slice none 0 0) (.bool false) (.int .i64 0) (.slice none 0 0) 30)
  have B0 := hide hb0
  have HT := hide (fun w1 (h : Rd (w.heap.size + 1) w1 (w.heap.size + 1) a n c) (hB : w.heap.size + 1 ≤ w1.heap.size) => hit_any (w.heap.size + 1) (w.heap.size + 1) n c a w1 h hB)
  have BL := hide (fun m w1 (h : Rd (w.heap.size + 1) w1 (w.heap.size + 1) a n c) (h1 : 1 < m) (h2 : m ≤ 256) => below_any (w.heap.size + 1) (w.heap.size + 1) n c a m w1 h h1 h2)
  have ON := hide (fun w1 (h : Rd (w.heap.size + 1) w1 (w.heap.size + 1) a n c) => once_any (w.heap.size + 1) (w.heap.size + 1) n c a 2 w1 h (by omega) (by omega))
  clear h hb0
  go_enter Tryd.func11, Tryd.ntmps11
  go_wp2_with fail
  refine O.out.mono ?_
  rintro e w1 ⟨rfl, hr1, hb1, hs1⟩
  have Z1 := hide (Z0.out.of_block (hb1.block _ (World.rowIs.lt Z0.out)))
  have B1 := hide (bstep B0.out hb1)
  have R1 := hide hr1
  clear hr1 hb1 O Z0 B0
  simp only [World.size_alloc] at R1 hs1 ⊢
  go_wp2_with fail
  refine (ON.out _ R1.out).mono ?_
  rintro e w2 ⟨ex, rfl, hr2, hb2⟩
  have Z2 := hide (Z1.out.of_block (hb2.block _ (World.rowIs.lt Z1.out) (by omega)))
  have B2 := hide (B1.out.trans (hb2.below (B := w.heap.size) (by omega) (by omega)))
  have R2 := hide hr2
  have s2 := hb2.size
  clear hr2 hb2 R1 Z1 B1 ON
  go_wp2_with fail
  refine (BL.out 9 _ R2.out (by omega) (by omega)).mono ?_
  rintro e w3 ⟨rd, rfl, rd0, rd1, hr3, hb3⟩
  have s3 := hb3.size
  have D3 : Hid (FdX (w.heap.size + 1) w w.heap.size (w.heap.size + 1) a n c w3.heap.size ex rd 0 (w3.alloc (.cells #[.slice none 0 0, .bool ex, .int .i64 rd, .slice none 0 0] 30))) := hide
    ⟨none, 0, fun _ => ⟨0, 0, 0⟩, none, 0, fun _ => 0, ⟨World.rowIs.alloc (Z2.out.of_block (hb3.block _ (World.rowIs.lt Z2.out) (by omega))) _, v4_new w3 _ _ _ _ _, World.ownsRow_nil _ _ _ _, World.ownsRow_nil _ _ _ _, hr3.alloc _,
      balloc (B2.out.trans (hb3.below (B := w.heap.size) (by omega) (by omega))) _, by omega, by omega, by omega, by omega, Nat.le_refl _, by omega⟩, fun k hk => absurd hk (by omega)⟩
  have RD3 : Hid (Rd (w.heap.size + 1) (w3.alloc (.cells #[.slice none 0 0, .bool ex, .int .i64 rd, .slice none 0 0] 30)) (w.heap.size + 1) a n c) := hide (hr3.alloc _)
  clear hr3 hb3 R2 Z2 B2
  go_wp2_with fail
  refine (BL.out 4 _ RD3.out (by omega) (by omega)).mono ?_
  rintro e w4 ⟨k4, rfl, k40, k41, hr4, hb4⟩
  have D4 : Hid (FdX (w.heap.size + 1) w w.heap.size (w.heap.size + 1) a n c w3.heap.size ex rd 0 w4) := hide (by
    obtain ⟨ha, hc, H, la, lc, f, hd, hf⟩ := D3.out
    exact ⟨ha, hc, H, la, lc, f, hd.call hr4 hb4, hf⟩)
  obtain ⟨k, rfl⟩ : ∃ k : Nat, k4 = (k : Int) := ⟨k4.toNat, by omega⟩
  have k3 : k ≤ 3 := by omega
  obtain ⟨q, hq⟩ : ∃ q, w3.heap.size = q := ⟨_, rfl⟩
  rw [hq] at D4 ⊢
  clear hr4 hb4 D3 RD3 hq s3
  go_wp2_with fail
  go_loopw [5] (fun i wr => ∃ (k m : Nat), k + m ≤ 3 ∧ i = .int .i64 k ∧ Hid (FdX (w.heap.size + 1) w w.heap.size (w.heap.size + 1) a n c q ex rd m wr)) (fun i _ => (intOf i).toNat)
  case atStart => exact ⟨k, 0, by omega, rfl, D4⟩
  case round =>
    obtain ⟨k, m, hkm, rfl, HX⟩ := hrel
    clear D4
    obtain ⟨ha, hc, H, la, lc, f, hd, hf⟩ := HX.out
    have HD := hide hd
    have HF := hide hf
    clear HX hd hf
    by_cases h0 : 0 < k
    · have hk0 : (0 : Int) < (k : Int) := by omega
      go_upto_region 6 with fail
      go_cut [5] from 15 to 32 (fun s wx => s = .int .i64 k ∧ Hid (∃ (ha' : Option Addr) (hc' : Nat) (H' : HtL), FdD (w.heap.size + 1) w w.heap.size (w.heap.size + 1) a n c q ex rd ha' (m + 1) hc' H' la m lc f wx))
      case first =>
        have BX := v4_facts HD.out.box
        obtain ⟨_, z0, z1, z2, z3, _, _, _, _⟩ := BX
        have D5 := hide (HD.out.stays (Below.drew (Below.refl _ _)))
        refine wp_region_held_drew (S := fun wx => True) (by kernel_rfl) (trivial) (fun hH0 => ?_)
        refine wpAnyH_take (i := 0) (oi := { dst := some 19, op := _, type := _, pos := _, after := _, guard := _ }) (v := ?_) rfl (by kernel_rfl) (by kernel_rfl) (by kernel_rfl) (fun _ _ _ h => h) (Or.inl ⟨by rfl, ?_⟩) (hH0) ?_
        rotate_left
        · (intro wx hSw; obtain _ := hSw; go_simp <;> with_reducible rfl)
        simp only [Act.put, List.setIfInBounds_toArray, List.set_cons_zero, List.set_cons_succ]
        refine wpAnyH_take (i := 2) (oi := { dst := some 21, op := _, type := _, pos := _, after := _, guard := _ }) (v := ?_) rfl (by kernel_rfl) (by kernel_rfl) (by kernel_rfl) (fun _ _ _ h => h) (Or.inl ⟨by rfl, ?_⟩) (hH0) ?_
        rotate_left
        · (intro wx hSw; obtain _ := hSw; go_simp <;> with_reducible rfl)
        simp only [Act.put, List.setIfInBounds_toArray, List.set_cons_zero, List.set_cons_succ]
        -- behind it: go_wp2_with fail, then go_meet (a cut) or go_ret; the condition at the end: hH0
        refine wpAnyH_ready (rs := [1, 3]) (by kernel_rfl) (by simp) ?_
        refine AllReadyH.cons (o := { dst := some 20, op := _, type := _, pos := _, after := _, guard := _ }) rfl (fun K hK => ?_) (AllReadyH.cons (o := { dst := some 22, op := _, type := _, pos := _, after := _, guard := _ }) rfl (fun K hK => ?_) AllReadyH.nil)
        · go_simp
          refine hK.out _ _ trivial (fun hH20 => ?_)
          clear hK K
          refine wpAnyH_ready (rs := [3]) (by kernel_rfl) (by simp) ?_
          refine AllReadyH.cons (o := { dst := some 22, op := _, type := _, pos := _, after := _, guard := _ }) rfl (fun K hK => ?_) AllReadyH.nil
          go_simp
          refine (HT.out _ D5.out.rdr (Nat.le_of_lt (Nat.lt_trans D5.out.o2 (World.rowIs.lt D5.out.box)))).mono ?_
          rintro e w5 ⟨x, y, z, rfl, r5, b5⟩
          dsimp only
          have D6 := hide (D5.out.call r5 b5)
          have nb := balloc (Below.refl w5.heap.size w5) (.cells #[.int .i64 x, .int .i64 y, .int .i64 z] 38)
          have D7 := hide (D6.out.stays nb)
          obtain ⟨_, y0, y1, y2, y3, _, _, _, _⟩ := v4_facts D6.out.box
          obtain ⟨_, x0, x1, x2, x3, _, _, _, _⟩ := v4_facts D7.out.box
          clear r5 b5 nb
          refine hK.out _ _ trivial (fun hH21 => ?_)
          clear hK K
          refine wpAnyH_ready (rs := [4]) (by kernel_rfl) (by simp) ?_
          refine AllReadyH.cons (o := { dst := some 23, op := _, type := _, pos := _, after := _, guard := _ }) rfl (fun K hK => ?_) AllReadyH.nil
          go_simp
          refine hK.out _ _ trivial (fun hH22 => ?_)
          clear hK K
          refine wpAnyH_ready (rs := [5]) (by kernel_rfl) (by simp) ?_
          refine AllReadyH.cons (o := { dst := some 24, op := _, type := _, pos := _, after := _, guard := _ }) rfl (fun K hK => ?_) AllReadyH.nil
          refine step_append_lies _ rfl _ _ 28 rfl (q + 1) 38 i0 _ 3 24 Tryd.underlying28 HI.out hz0 hz1 hz2 rfl (by decide) _ _ _ rfl D7.out.own ⟨_, 0, none⟩ 1 1 [.int .i64 x, .int .i64 y, .int .i64 z] rfl rfl (three_new _ _ _ _ _) (three_one _ _ _) (by omega) (by unfold maxLen; omega) (by omega) (World.rowIs.lt D7.out.box) _ rfl ?_
          intro g8 c8 w8 hown8 hgrow hat8 hglt
          rw [hitsV_put H m ⟨x, y, z⟩] at hown8
          obtain ⟨bx8, D8⟩ := D7.out.growH hown8 hgrow (by decide)
          obtain ⟨lt8, e0, e1, e2, e3, g0, g1, g2, g3⟩ := v4_facts bx8
          have HD8 := hide D8
          clear D8 bx8 hown8 hgrow hat8 D7 D6 D5 y0 y1 y2 y3 x0 x1 x2 x3 z0 z1 z2 z3
          refine hK.out _ _ trivial (fun hH23 => ?_)
          clear hK K
          simp only [Act.put, List.setIfInBounds_toArray, List.set_cons_zero, List.set_cons_succ]
          refine wpAnyH_take (i := 6) (oi := { dst := some 25, op := _, type := _, pos := _, after := _, guard := _ }) (v := ?_) rfl (by kernel_rfl) (by kernel_rfl) (by kernel_rfl) (fun _ _ _ h => h) (Or.inl ⟨by rfl, ?_⟩) (trivial) ?_
          rotate_left
          · (intro wx hSw; go_simp <;> with_reducible rfl)
          simp only [Act.put, List.setIfInBounds_toArray, List.set_cons_zero, List.set_cons_succ]
          refine wpAnyH_ready (rs := [7]) (by kernel_rfl) (by simp) ?_
          refine AllReadyH.cons (o := { dst := none, op := _, type := _, pos := _, after := _, guard := _ }) rfl (fun K hK => ?_) AllReadyH.nil
          go_simp
          refine hK.out _ _ trivial (fun hH25 => ?_)
          clear hK K
          refine wpAnyH_done (by kernel_rfl) ?_ _
          go_wp2_with fail
          go_meet
          exact ⟨rfl, hide ⟨_, _, _, HD8.out⟩⟩
        · go_simp
          refine (HT.out _ D5.out.rdr (Nat.le_of_lt (Nat.lt_trans D5.out.o2 (World.rowIs.lt D5.out.box)))).mono ?_
          rintro e w5 ⟨x, y, z, rfl, r5, b5⟩
          dsimp only
          have D6 := hide (D5.out.call r5 b5)
          have nb := balloc (Below.refl w5.heap.size w5) (.cells #[.int .i64 x, .int .i64 y, .int .i64 z] 38)
          have D7 := hide (D6.out.stays nb)
          obtain ⟨_, y0, y1, y2, y3, _, _, _, _⟩ := v4_facts D6.out.box
          obtain ⟨_, x0, x1, x2, x3, _, _, _, _⟩ := v4_facts D7.out.box
          clear r5 b5 nb
          refine hK.out _ _ trivial (fun hH21 => ?_)
          clear hK K
          refine wpAnyH_ready (rs := [1, 4]) (by kernel_rfl) (by simp) ?_
          refine AllReadyH.cons (o := { dst := some 20, op := _, type := _, pos := _, after := _, guard := _ }) rfl (fun K hK => ?_) (AllReadyH.cons (o := { dst := some 23, op := _, type := _, pos := _, after := _, guard := _ }) rfl (fun K hK => ?_) AllReadyH.nil)
          · go_simp
            refine hK.out _ _ trivial (fun hH22 => ?_)
            clear hK K
            refine wpAnyH_ready (rs := [4]) (by kernel_rfl) (by simp) ?_
            refine AllReadyH.cons (o := { dst := some 23, op := _, type := _, pos := _, after := _, guard := _ }) rfl (fun K hK => ?_) AllReadyH.nil
            go_simp
            refine hK.out _ _ trivial (fun hH22 => ?_)
            clear hK K
            refine wpAnyH_ready (rs := [5]) (by kernel_rfl) (by simp) ?_
            refine AllReadyH.cons (o := { dst := some 24, op := _, type := _, pos := _, after := _, guard := _ }) rfl (fun K hK => ?_) AllReadyH.nil
            refine step_append_lies _ rfl _ _ 28 rfl (q + 1) 38 i0 _ 3 24 Tryd.underlying28 HI.out hz0 hz1 hz2 rfl (by decide) _ _ _ rfl D7.out.own ⟨_, 0, none⟩ 1 1 [.int .i64 x, .int .i64 y, .int .i64 z] rfl rfl (three_new _ _ _ _ _) (three_one _ _ _) (by omega) (by unfold maxLen; omega) (by omega) (World.rowIs.lt D7.out.box) _ rfl ?_
            intro g8 c8 w8 hown8 hgrow hat8 hglt
            rw [hitsV_put H m ⟨x, y, z⟩] at hown8
            obtain ⟨bx8, D8⟩ := D7.out.growH hown8 hgrow (by decide)
            obtain ⟨lt8, e0, e1, e2, e3, g0, g1, g2, g3⟩ := v4_facts bx8
            have HD8 := hide D8
            clear D8 bx8 hown8 hgrow hat8 D7 D6 D5 y0 y1 y2 y3 x0 x1 x2 x3 z0 z1 z2 z3
            refine hK.out _ _ trivial (fun hH23 => ?_)
            clear hK K
            simp only [Act.put, List.setIfInBounds_toArray, List.set_cons_zero, List.set_cons_succ]
            refine wpAnyH_take (i := 6) (oi := { dst := some 25, op := _, type := _, pos := _, after := _, guard := _ }) (v := ?_) rfl (by kernel_rfl) (by kernel_rfl) (by kernel_rfl) (fun _ _ _ h => h) (Or.inl ⟨by rfl, ?_⟩) (trivial) ?_
            rotate_left
            · (intro wx hSw; go_simp <;> with_reducible rfl)
            simp only [Act.put, List.setIfInBounds_toArray, List.set_cons_zero, List.set_cons_succ]
            refine wpAnyH_ready (rs := [7]) (by kernel_rfl) (by simp) ?_
            refine AllReadyH.cons (o := { dst := none, op := _, type := _, pos := _, after := _, guard := _ }) rfl (fun K hK => ?_) AllReadyH.nil
            go_simp
            refine hK.out _ _ trivial (fun hH25 => ?_)
            clear hK K
            refine wpAnyH_done (by kernel_rfl) ?_ _
            go_wp2_with fail
            go_meet
            exact ⟨rfl, hide ⟨_, _, _, HD8.out⟩⟩
          · go_simp
            refine hK.out _ _ trivial (fun hH22 => ?_)
            clear hK K
            refine wpAnyH_ready (rs := [1]) (by kernel_rfl) (by simp) ?_
            refine AllReadyH.cons (o := { dst := some 20, op := _, type := _, pos := _, after := _, guard := _ }) rfl (fun K hK => ?_) AllReadyH.nil
            go_simp
            refine hK.out _ _ trivial (fun hH22 => ?_)
            clear hK K
            refine wpAnyH_ready (rs := [5]) (by kernel_rfl) (by simp) ?_
            refine AllReadyH.cons (o := { dst := some 24, op := _, type := _, pos := _, after := _, guard := _ }) rfl (fun K hK => ?_) AllReadyH.nil
            refine step_append_lies _ rfl _ _ 28 rfl (q + 1) 38 i0 _ 3 24 Tryd.underlying28 HI.out hz0 hz1 hz2 rfl (by decide) _ _ _ rfl D7.out.own ⟨_, 0, none⟩ 1 1 [.int .i64 x, .int .i64 y, .int .i64 z] rfl rfl (three_new _ _ _ _ _) (three_one _ _ _) (by omega) (by unfold maxLen; omega) (by omega) (World.rowIs.lt D7.out.box) _ rfl ?_
            intro g8 c8 w8 hown8 hgrow hat8 hglt
            rw [hitsV_put H m ⟨x, y, z⟩] at hown8
            obtain ⟨bx8, D8⟩ := D7.out.growH hown8 hgrow (by decide)
            obtain ⟨lt8, e0, e1, e2, e3, g0, g1, g2, g3⟩ := v4_facts bx8
            have HD8 := hide D8
            clear D8 bx8 hown8 hgrow hat8 D7 D6 D5 y0 y1 y2 y3 x0 x1 x2 x3 z0 z1 z2 z3
            refine hK.out _ _ trivial (fun hH23 => ?_)
            clear hK K
            simp only [Act.put, List.setIfInBounds_toArray, List.set_cons_zero, List.set_cons_succ]
            refine wpAnyH_take (i := 6) (oi := { dst := some 25, op := _, type := _, pos := _, after := _, guard := _ }) (v := ?_) rfl (by kernel_rfl) (by kernel_rfl) (by kernel_rfl) (fun _ _ _ h => h) (Or.inl ⟨by rfl, ?_⟩) (trivial) ?_
            rotate_left
            · (intro wx hSw; go_simp <;> with_reducible rfl)
            simp only [Act.put, List.setIfInBounds_toArray, List.set_cons_zero, List.set_cons_succ]
            refine wpAnyH_ready (rs := [7]) (by kernel_rfl) (by simp) ?_
            refine AllReadyH.cons (o := { dst := none, op := _, type := _, pos := _, after := _, guard := _ }) rfl (fun K hK => ?_) AllReadyH.nil
            go_simp
            refine hK.out _ _ trivial (fun hH25 => ?_)
            clear hK K
            refine wpAnyH_done (by kernel_rfl) ?_ _
            go_wp2_with fail
            go_meet
            exact ⟨rfl, hide ⟨_, _, _, HD8.out⟩⟩
      case rest =>
        obtain ⟨rfl, HX⟩ := hcut
        clear HD
        obtain ⟨ha, hc, H, hd⟩ := HX.out
        have HD := hide hd
        clear hd HX
        go_upto_region 7 with fail
        have BX := v4_facts HD.out.box
        obtain ⟨_, z0, z1, z2, z3, _, _, _, _⟩ := BX
        have D5 := hide (HD.out.stays (Below.drew (Below.refl _ _)))
        refine wp_region_held_drew (S := fun wx => True) (by kernel_rfl) (trivial) (fun hH0 => ?_)
        refine wpAnyH_take (i := 0) (oi := { dst := some 26, op := _, type := _, pos := _, after := _, guard := _ }) (v := ?_) rfl (by kernel_rfl) (by kernel_rfl) (by kernel_rfl) (fun _ _ _ h => h) (Or.inl ⟨by rfl, ?_⟩) (hH0) ?_
        rotate_left
        · (intro wx hSw; obtain _ := hSw; go_simp <;> with_reducible rfl)
        simp only [Act.put, List.setIfInBounds_toArray, List.set_cons_zero, List.set_cons_succ]
        refine wpAnyH_take (i := 2) (oi := { dst := some 28, op := _, type := _, pos := _, after := _, guard := _ }) (v := ?_) rfl (by kernel_rfl) (by kernel_rfl) (by kernel_rfl) (fun _ _ _ h => h) (Or.inl ⟨by rfl, ?_⟩) (hH0) ?_
        rotate_left
        · (intro wx hSw; obtain _ := hSw; go_simp <;> with_reducible rfl)
        simp only [Act.put, List.setIfInBounds_toArray, List.set_cons_zero, List.set_cons_succ]
        -- behind it: go_wp2_with fail, then go_meet (a cut) or go_ret; the condition at the end: hH0
        refine wpAnyH_ready (rs := [1, 3]) (by kernel_rfl) (by simp) ?_
        refine AllReadyH.cons (o := { dst := some 27, op := _, type := _, pos := _, after := _, guard := _ }) rfl (fun K hK => ?_) (AllReadyH.cons (o := { dst := some 29, op := _, type := _, pos := _, after := _, guard := _ }) rfl (fun K hK => ?_) AllReadyH.nil)
        · go_simp
          refine hK.out _ _ trivial (fun hH20 => ?_)
          clear hK K
          refine wpAnyH_ready (rs := [3]) (by kernel_rfl) (by simp) ?_
          refine AllReadyH.cons (o := { dst := some 29, op := _, type := _, pos := _, after := _, guard := _ }) rfl (fun K hK => ?_) AllReadyH.nil
          go_simp
          refine (BL.out 9 _ D5.out.rdr (by omega) (by omega)).mono ?_
          rintro e w5 ⟨v, rfl, v0, v1, r5, b5⟩
          dsimp only
          have D6 := hide (D5.out.call r5 b5)
          have nb := balloc (Below.refl w5.heap.size w5) (.cells #[.int .i64 v] 2)
          have D7 := hide (D6.out.stays nb)
          obtain ⟨_, y0, y1, y2, y3, _, _, _, _⟩ := v4_facts D6.out.box
          obtain ⟨_, x0, x1, x2, x3, _, _, _, _⟩ := v4_facts D7.out.box
          clear r5 b5 nb
          refine hK.out _ _ trivial (fun hH21 => ?_)
          clear hK K
          refine wpAnyH_ready (rs := [4]) (by kernel_rfl) (by simp) ?_
          refine AllReadyH.cons (o := { dst := some 30, op := _, type := _, pos := _, after := _, guard := _ }) rfl (fun K hK => ?_) AllReadyH.nil
          go_simp
          refine hK.out _ _ trivial (fun hH22 => ?_)
          clear hK K
          refine wpAnyH_ready (rs := [5]) (by kernel_rfl) (by simp) ?_
          refine AllReadyH.cons (o := { dst := some 31, op := _, type := _, pos := _, after := _, guard := _ }) rfl (fun K hK => ?_) AllReadyH.nil
          refine step_append_lies _ rfl _ _ 23 rfl (q + 1) 2 i1 _ 1 8 Tryd.underlying23 HJ.out hy0 hy1 hy2 rfl (by decide) _ _ _ rfl D7.out.owl ⟨_, 0, none⟩ 1 1 [.int .i64 v] rfl rfl (one_newU _ _ _) (by intro u hu; simp at hu; subst hu; rfl) (by omega) (by unfold maxLen; omega) (by omega) (World.rowIs.lt D7.out.box) _ rfl ?_
          intro g8 c8 w8 hown8 hgrow hat8 hglt
          rw [vals_snoc] at hown8
          obtain ⟨bx8, D8⟩ := D7.out.growL hown8 hgrow (by decide)
          obtain ⟨lt8, e0, e1, e2, e3, g0, g1, g2, g3⟩ := v4_facts bx8
          have HD8 := hide D8
          clear D8 bx8 hown8 hgrow hat8 D7 D6 D5 y0 y1 y2 y3 x0 x1 x2 x3 z0 z1 z2 z3
          refine hK.out _ _ trivial (fun hH23 => ?_)
          clear hK K
          simp only [Act.put, List.setIfInBounds_toArray, List.set_cons_zero, List.set_cons_succ]
          refine wpAnyH_take (i := 6) (oi := { dst := some 32, op := _, type := _, pos := _, after := _, guard := _ }) (v := ?_) rfl (by kernel_rfl) (by kernel_rfl) (by kernel_rfl) (fun _ _ _ h => h) (Or.inl ⟨by rfl, ?_⟩) (trivial) ?_
          rotate_left
          · (intro wx hSw; go_simp <;> with_reducible rfl)
          simp only [Act.put, List.setIfInBounds_toArray, List.set_cons_zero, List.set_cons_succ]
          refine wpAnyH_ready (rs := [7]) (by kernel_rfl) (by simp) ?_
          refine AllReadyH.cons (o := { dst := none, op := _, type := _, pos := _, after := _, guard := _ }) rfl (fun K hK => ?_) AllReadyH.nil
          go_simp
          refine hK.out _ _ trivial (fun hH25 => ?_)
          clear hK K
          refine wpAnyH_done (by kernel_rfl) ?_ _
          go_wp2_with fail
          go_roundw
          case rel => exact ⟨k - 1, m + 1, by omega, by go_num, hide ⟨_, _, _, _, _, (fun j => if j = m then v else f j), HD8.out, fun j hj => by show 0 ≤ (if j = m then v else f j) ∧ (if j = m then v else f j) ≤ 8; split; exact ⟨v0, by omega⟩; exact HF.out j (by omega)⟩⟩
          case measure => simp [intOf]; omega
        · go_simp
          refine (BL.out 9 _ D5.out.rdr (by omega) (by omega)).mono ?_
          rintro e w5 ⟨v, rfl, v0, v1, r5, b5⟩
          dsimp only
          have D6 := hide (D5.out.call r5 b5)
          have nb := balloc (Below.refl w5.heap.size w5) (.cells #[.int .i64 v] 2)
          have D7 := hide (D6.out.stays nb)
          obtain ⟨_, y0, y1, y2, y3, _, _, _, _⟩ := v4_facts D6.out.box
          obtain ⟨_, x0, x1, x2, x3, _, _, _, _⟩ := v4_facts D7.out.box
          clear r5 b5 nb
          refine hK.out _ _ trivial (fun hH21 => ?_)
          clear hK K
          refine wpAnyH_ready (rs := [1, 4]) (by kernel_rfl) (by simp) ?_
          refine AllReadyH.cons (o := { dst := some 27, op := _, type := _, pos := _, after := _, guard := _ }) rfl (fun K hK => ?_) (AllReadyH.cons (o := { dst := some 30, op := _, type := _, pos := _, after := _, guard := _ }) rfl (fun K hK => ?_) AllReadyH.nil)
          · go_simp
            refine hK.out _ _ trivial (fun hH22 => ?_)
            clear hK K
            refine wpAnyH_ready (rs := [4]) (by kernel_rfl) (by simp) ?_
            refine AllReadyH.cons (o := { dst := some 30, op := _, type := _, pos := _, after := _, guard := _ }) rfl (fun K hK => ?_) AllReadyH.nil
            go_simp
            refine hK.out _ _ trivial (fun hH22 => ?_)
            clear hK K
            refine wpAnyH_ready (rs := [5]) (by kernel_rfl) (by simp) ?_
            refine AllReadyH.cons (o := { dst := some 31, op := _, type := _, pos := _, after := _, guard := _ }) rfl (fun K hK => ?_) AllReadyH.nil
            refine step_append_lies _ rfl _ _ 23 rfl (q + 1) 2 i1 _ 1 8 Tryd.underlying23 HJ.out hy0 hy1 hy2 rfl (by decide) _ _ _ rfl D7.out.owl ⟨_, 0, none⟩ 1 1 [.int .i64 v] rfl rfl (one_newU _ _ _) (by intro u hu; simp at hu; subst hu; rfl) (by omega) (by unfold maxLen; omega) (by omega) (World.rowIs.lt D7.out.box) _ rfl ?_
            intro g8 c8 w8 hown8 hgrow hat8 hglt
            rw [vals_snoc] at hown8
            obtain ⟨bx8, D8⟩ := D7.out.growL hown8 hgrow (by decide)
            obtain ⟨lt8, e0, e1, e2, e3, g0, g1, g2, g3⟩ := v4_facts bx8
            have HD8 := hide D8
            clear D8 bx8 hown8 hgrow hat8 D7 D6 D5 y0 y1 y2 y3 x0 x1 x2 x3 z0 z1 z2 z3
            refine hK.out _ _ trivial (fun hH23 => ?_)
            clear hK K
            simp only [Act.put, List.setIfInBounds_toArray, List.set_cons_zero, List.set_cons_succ]
            refine wpAnyH_take (i := 6) (oi := { dst := some 32, op := _, type := _, pos := _, after := _, guard := _ }) (v := ?_) rfl (by kernel_rfl) (by kernel_rfl) (by kernel_rfl) (fun _ _ _ h => h) (Or.inl ⟨by rfl, ?_⟩) (trivial) ?_
            rotate_left
            · (intro wx hSw; go_simp <;> with_reducible rfl)
            simp only [Act.put, List.setIfInBounds_toArray, List.set_cons_zero, List.set_cons_succ]
            refine wpAnyH_ready (rs := [7]) (by kernel_rfl) (by simp) ?_
            refine AllReadyH.cons (o := { dst := none, op := _, type := _, pos := _, after := _, guard := _ }) rfl (fun K hK => ?_) AllReadyH.nil
            go_simp
            refine hK.out _ _ trivial (fun hH25 => ?_)
            clear hK K
            refine wpAnyH_done (by kernel_rfl) ?_ _
            go_wp2_with fail
            go_roundw
            case rel => exact ⟨k - 1, m + 1, by omega, by go_num, hide ⟨_, _, _, _, _, (fun j => if j = m then v else f j), HD8.out, fun j hj => by show 0 ≤ (if j = m then v else f j) ∧ (if j = m then v else f j) ≤ 8; split; exact ⟨v0, by omega⟩; exact HF.out j (by omega)⟩⟩
            case measure => simp [intOf]; omega
          · go_simp
            refine hK.out _ _ trivial (fun hH22 => ?_)
            clear hK K
            refine wpAnyH_ready (rs := [1]) (by kernel_rfl) (by simp) ?_
            refine AllReadyH.cons (o := { dst := some 27, op := _, type := _, pos := _, after := _, guard := _ }) rfl (fun K hK => ?_) AllReadyH.nil
            go_simp
            refine hK.out _ _ trivial (fun hH22 => ?_)
            clear hK K
            refine wpAnyH_ready (rs := [5]) (by kernel_rfl) (by simp) ?_
            refine AllReadyH.cons (o := { dst := some 31, op := _, type := _, pos := _, after := _, guard := _ }) rfl (fun K hK => ?_) AllReadyH.nil
            refine step_append_lies _ rfl _ _ 23 rfl (q + 1) 2 i1 _ 1 8 Tryd.underlying23 HJ.out hy0 hy1 hy2 rfl (by decide) _ _ _ rfl D7.out.owl ⟨_, 0, none⟩ 1 1 [.int .i64 v] rfl rfl (one_newU _ _ _) (by intro u hu; simp at hu; subst hu; rfl) (by omega) (by unfold maxLen; omega) (by omega) (World.rowIs.lt D7.out.box) _ rfl ?_
            intro g8 c8 w8 hown8 hgrow hat8 hglt
            rw [vals_snoc] at hown8
            obtain ⟨bx8, D8⟩ := D7.out.growL hown8 hgrow (by decide)
            obtain ⟨lt8, e0, e1, e2, e3, g0, g1, g2, g3⟩ := v4_facts bx8
            have HD8 := hide D8
            clear D8 bx8 hown8 hgrow hat8 D7 D6 D5 y0 y1 y2 y3 x0 x1 x2 x3 z0 z1 z2 z3
            refine hK.out _ _ trivial (fun hH23 => ?_)
            clear hK K
            simp only [Act.put, List.setIfInBounds_toArray, List.set_cons_zero, List.set_cons_succ]
            refine wpAnyH_take (i := 6) (oi := { dst := some 32, op := _, type := _, pos := _, after := _, guard := _ }) (v := ?_) rfl (by kernel_rfl) (by kernel_rfl) (by kernel_rfl) (fun _ _ _ h => h) (Or.inl ⟨by rfl, ?_⟩) (trivial) ?_
            rotate_left
            · (intro wx hSw; go_simp <;> with_reducible rfl)
            simp only [Act.put, List.setIfInBounds_toArray, List.set_cons_zero, List.set_cons_succ]
            refine wpAnyH_ready (rs := [7]) (by kernel_rfl) (by simp) ?_
            refine AllReadyH.cons (o := { dst := none, op := _, type := _, pos := _, after := _, guard := _ }) rfl (fun K hK => ?_) AllReadyH.nil
            go_simp
            refine hK.out _ _ trivial (fun hH25 => ?_)
            clear hK K
            refine wpAnyH_done (by kernel_rfl) ?_ _
            go_wp2_with fail
            go_roundw
            case rel => exact ⟨k - 1, m + 1, by omega, by go_num, hide ⟨_, _, _, _, _, (fun j => if j = m then v else f j), HD8.out, fun j hj => by show 0 ≤ (if j = m then v else f j) ∧ (if j = m then v else f j) ≤ 8; split; exact ⟨v0, by omega⟩; exact HF.out j (by omega)⟩⟩
            case measure => simp [intOf]; omega
    · obtain rfl : k = 0 := by omega
      obtain ⟨lq, p0, p1, p2, p3, _, _, _, _⟩ := v4_facts HD.out.box
      obtain ⟨lr, d0, d1, d2, d3, k0, k1, k2, k3⟩ := v4_facts HD.out.res
      have o1 := HD.out.o1
      go_wp2_with fail
      have R5 := four_set HD.out.res (.slice ha m hc) (.bool ex) (.int .i64 rd) (.slice la m lc)
      obtain ⟨_, s0, s1, s2, s3, _, _, _, _⟩ := v4_facts R5
      have bb : But w.heap.size wr ((((wr.setCell ⟨w.heap.size, 0, none⟩ (.slice ha m hc)).setCell ⟨w.heap.size, 1, none⟩ (.bool ex)).setCell ⟨w.heap.size, 2, none⟩ (.int .i64 rd)).setCell ⟨w.heap.size, 3, none⟩ (.slice la m lc)) := ((((But.refl _ wr).setCell 0 _).setCell 1 _).setCell 2 _).setCell 3 _
      obtain ⟨a', c', e', row', _⟩ := row_of_owns (owns_butH HD.out.owl bb (by omega))
      cases e'
      exact bodyPost_ret (v := .agg #[.slice ha m hc, .bool ex, .int .i64 rd, .slice la m lc]) (by simp [results, Tryd.results11, go_sem, s0, s1, s2, s3]) rfl
        ⟨ha, m, hc, H, ex, rd, la, m, lc, ints f m, rfl, owns_hits (owns_butH HD.out.own bb (by omega)), row', by omega, by omega, rd0, by omega, fun j hj => by rw [nth_ints f m j hj]; exact HF.out j hj, HD.out.bel.trans (bb.below (Nat.le_refl _) HD.out.bel.size)⟩
end Go.Proofs.YtfjhgagpmhedfaaDoor
