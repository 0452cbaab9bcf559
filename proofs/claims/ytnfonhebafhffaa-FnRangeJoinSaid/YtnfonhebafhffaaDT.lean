/- Drawn ranges: DrawRangeLeq and its kin. -/
import Derived.Test.YtnfonhebafhffaaDS
import Derived.Test.YtnfonhebafhffaaWF
import Derived.Deep.RegionWith
namespace Go.Proofs.Ytnfonhebafhffaa
open Go.RowKit
set_option linter.unusedSimpArgs false
set_option linter.unusedVariables false

/-- Block b of w is a box of two cells that hold x and y, and may be written. -/
structure Bx (w : World) (b : Nat) (x y : Value) : Prop where
  lt : b < w.heap.size
  c0 : w.cell? ⟨b, 0, none⟩ = some x
  c1 : w.cell? ⟨b, 1, none⟩ = some y
  f0 : w.frozen? ⟨b, 0, none⟩ = false
  f1 : w.frozen? ⟨b, 1, none⟩ = false
theorem Bx.below {w w' : World} {b : Nat} {x y : Value} (h : Bx w b x y) (hb : Below w.heap.size w w') : Bx w' b x y :=
  ⟨Nat.lt_of_lt_of_le h.lt hb.size, (hb.cell (p := ⟨b, 0, none⟩) h.lt).trans h.c0, (hb.cell (p := ⟨b, 1, none⟩) h.lt).trans h.c1, (hb.frozen (p := ⟨b, 0, none⟩) h.lt).trans h.f0, (hb.frozen (p := ⟨b, 1, none⟩) h.lt).trans h.f1⟩
theorem Bx.but {g : Nat} {w w' : World} {b : Nat} {x y : Value} (h : Bx w b x y) (hb : But g w w') (hne : b ≠ g) : Bx w' b x y :=
  ⟨Nat.lt_of_lt_of_le h.lt hb.size, (hb.cell (p := ⟨b, 0, none⟩) h.lt hne).trans h.c0, (hb.cell (p := ⟨b, 1, none⟩) h.lt hne).trans h.c1, (hb.frozen (p := ⟨b, 0, none⟩) h.lt hne).trans h.f0, (hb.frozen (p := ⟨b, 1, none⟩) h.lt hne).trans h.f1⟩
theorem Bx.alloc {w : World} {b : Nat} {x y : Value} (h : Bx w b x y) (o : Obj) : Bx (w.alloc o) b x y := h.below (balloc (Below.refl _ _) o)
theorem Bx.new (w : World) (x y : Value) (T : TypeId) : Bx (w.alloc (.cells #[x, y] T)) w.heap.size x y := ⟨by simp, by simp, by simp, by simp, by simp⟩

def RgPost (w : World) (e : Ending) (w' : World) : Prop :=
  ∃ al ah bl bh : Int, e = .returned (.tuple #[.agg #[.int .i64 al, .int .i64 ah], .agg #[.int .i64 bl, .int .i64 bh]]) ∧ Below w.heap.size w w'

set_option maxHeartbeats 4000000 in
theorem drawRangeLeq_any (a : Option Addr) (n c : Nat) (w : World) (h : Code w a n) :
    Calls Try.prog 7 #[.slice a n c] w fun e w' => RgPost w e w' := by
  have O := hide (fun w1 (hb : Below w.heap.size w w1) => open_any a n c w1 (h.below hb))
  clear h
  go_enter Try.func7, Try.ntmps7
  go_wp2_with fail
  refine (O.out _ (by repeat' first | with_reducible exact Below.refl _ _ | with_reducible assumption | with_reducible refine below_drewN ?_ _ | with_reducible refine balloc ?_ _ | with_reducible refine Below.drew ?_ | with_reducible refine Below.setCell ?_ (by first | (simp; done) | (simp; omega) | omega) _ | with_reducible refine bstep ?_ (by assumption))).mono ?_
  rintro e w1 ⟨rfl, hr1, hb1, hs1⟩
  simp only [World.size_alloc] at hs1 hr1 ⊢
  have X0 := hide (((Bx.new w (.int .i64 0) (.int .i64 0) 25).alloc (.cells #[.int .i64 0, .int .i64 0] 25)).below hb1)
  have X1 : Hid (Bx w1 (w.heap.size + 1) (.int .i64 0) (.int .i64 0)) := by
    have := Bx.new (w.alloc (.cells #[.int .i64 0, .int .i64 0] 25)) (.int .i64 0) (.int .i64 0) 25
    rw [World.size_alloc] at this
    exact this.below hb1
  have Bw : Below w.heap.size w w1 := (by repeat' first | with_reducible exact Below.refl _ _ | with_reducible assumption | with_reducible refine below_drewN ?_ _ | with_reducible refine balloc ?_ _ | with_reducible refine Below.drew ?_ | with_reducible refine Below.setCell ?_ (by first | (simp; done) | (simp; omega) | omega) _ | with_reducible refine bstep ?_ (by assumption))
  clear hb1 O
  go_wp2_with fail
  refine (span_any _ _ n c a w1 hr1).mono ?_
  rintro e w2 ⟨al, ah, rfl, a0, a1, a2, a3, hr2, hb2⟩
  have X0 := hide (X0.out.but hb2 (by omega))
  have X1 := hide (X1.out.but hb2 (by omega))
  have Bw := Bw.trans (hb2.below (by omega) (by omega))
  have s2 := hb2.size
  clear hr1 hb2
  go_wp2_with fail
  refine (span_any _ _ n c a _ (hr2.alloc _)).mono ?_
  rintro e w3 ⟨bl, bh, rfl, b0, b1, b2, b3, hr3, hb3⟩
  have XA := hide ((Bx.new w2 (.int .i64 al) (.int .i64 ah) 25).but hb3 (by omega))
  have X0 := hide ((X0.out.alloc (.cells #[.int .i64 al, .int .i64 ah] 25)).but hb3 (by omega))
  have X1 := hide ((X1.out.alloc (.cells #[.int .i64 al, .int .i64 ah] 25)).but hb3 (by omega))
  have Bw := (balloc Bw (.cells #[.int .i64 al, .int .i64 ah] 25)).trans (hb3.below (by omega) (by simp; omega))
  have s3 := hb3.size
  simp only [World.size_alloc] at s3
  clear hr2 hb3
  go_wp2_with fail
  refine (once_any _ _ n c a 2 _ (hr3.alloc _) (by omega) (by omega)).mono ?_
  rintro e w4 ⟨v, rfl, hr4, hb4⟩
  have XB := hide ((Bx.new w3 (.int .i64 bl) (.int .i64 bh) 25).but hb4 (by omega))
  have XA := hide ((XA.out.alloc (.cells #[.int .i64 bl, .int .i64 bh] 25)).but hb4 (by omega))
  have X0 := hide ((X0.out.alloc (.cells #[.int .i64 bl, .int .i64 bh] 25)).but hb4 (by omega))
  have X1 := hide ((X1.out.alloc (.cells #[.int .i64 bl, .int .i64 bh] 25)).but hb4 (by omega))
  have Bw := (balloc Bw (.cells #[.int .i64 bl, .int .i64 bh] 25)).trans (hb4.below (by omega) (by simp; omega))
  clear hr3 hb4 hr4
  have SO := hide (fun w => sRangeOk_any al ah w)
  have SO' := hide (fun w => sRangeOk_any bl bh w)
  cases v
  · skip
    obtain ⟨xa1, xa2, xa3, xa4, xa5⟩ := XA.out
    obtain ⟨xb1, xb2, xb3, xb4, xb5⟩ := XB.out
    obtain ⟨x01, x02, x03, x04, x05⟩ := X0.out
    obtain ⟨x11, x12, x13, x14, x15⟩ := X1.out
    clear X0 X1 XA XB
    go_wp2_with fail
    go_region
    all_goals
      go_wp2_with fail
      refine bodyPost_ret (v := .tuple #[.agg #[.int .i64 al, .int .i64 ah], .agg #[.int .i64 bl, .int .i64 bh]]) ?_ rfl ⟨al, ah, bl, bh, rfl, ?_⟩
      · simp [results, Try.results7, go_sem, x02, x03, x12, x13]
      · exact (by repeat' first | with_reducible exact Below.refl _ _ | with_reducible assumption | with_reducible refine below_drewN ?_ _ | with_reducible refine balloc ?_ _ | with_reducible refine Below.drew ?_ | with_reducible refine Below.setCell ?_ (by first | (simp; done) | (simp; omega) | omega) _ | with_reducible refine bstep ?_ (by assumption))
  · obtain ⟨xa1, xa2, xa3, _, _⟩ := XA.out
    go_wp2_with fail
    refine (SO.out _).mono ?_
    rintro e w5 ⟨rfl, hb5⟩
    have X0 := hide (X0.out.below hb5)
    have X1 := hide (X1.out.below hb5)
    have XA := hide (XA.out.below hb5)
    have XB := hide (XB.out.below hb5)
    have Bw : Below w.heap.size w w5 := (by repeat' first | with_reducible exact Below.refl _ _ | with_reducible assumption | with_reducible refine below_drewN ?_ _ | with_reducible refine balloc ?_ _ | with_reducible refine Below.drew ?_ | with_reducible refine Below.setCell ?_ (by first | (simp; done) | (simp; omega) | omega) _ | with_reducible refine bstep ?_ (by assumption))
    clear xa1 xa2 xa3 hb5
    cases hra : rightB al ah
    · skip
      obtain ⟨xa1, xa2, xa3, xa4, xa5⟩ := XA.out
      obtain ⟨xb1, xb2, xb3, xb4, xb5⟩ := XB.out
      obtain ⟨x01, x02, x03, x04, x05⟩ := X0.out
      obtain ⟨x11, x12, x13, x14, x15⟩ := X1.out
      clear X0 X1 XA XB
      go_wp2_with fail
      go_region
      all_goals
        go_wp2_with fail
        refine bodyPost_ret (v := .tuple #[.agg #[.int .i64 al, .int .i64 ah], .agg #[.int .i64 bl, .int .i64 bh]]) ?_ rfl ⟨al, ah, bl, bh, rfl, ?_⟩
        · simp [results, Try.results7, go_sem, x02, x03, x12, x13]
        · exact (by repeat' first | with_reducible exact Below.refl _ _ | with_reducible assumption | with_reducible refine below_drewN ?_ _ | with_reducible refine balloc ?_ _ | with_reducible refine Below.drew ?_ | with_reducible refine Below.setCell ?_ (by first | (simp; done) | (simp; omega) | omega) _ | with_reducible refine bstep ?_ (by assumption))
    · obtain ⟨xb1, xb2, xb3, _, _⟩ := XB.out
      go_wp2_with fail
      refine (SO'.out _).mono ?_
      rintro e w6 ⟨rfl, hb6⟩
      have X0 := hide (X0.out.below hb6)
      have X1 := hide (X1.out.below hb6)
      have XA := hide (XA.out.below hb6)
      have XB := hide (XB.out.below hb6)
      have Bw : Below w.heap.size w w6 := (by repeat' first | with_reducible exact Below.refl _ _ | with_reducible assumption | with_reducible refine below_drewN ?_ _ | with_reducible refine balloc ?_ _ | with_reducible refine Below.drew ?_ | with_reducible refine Below.setCell ?_ (by first | (simp; done) | (simp; omega) | omega) _ | with_reducible refine bstep ?_ (by assumption))
      clear xb1 xb2 xb3 hb6
      cases hrb : rightB bl bh
      · skip
        obtain ⟨xa1, xa2, xa3, xa4, xa5⟩ := XA.out
        obtain ⟨xb1, xb2, xb3, xb4, xb5⟩ := XB.out
        obtain ⟨x01, x02, x03, x04, x05⟩ := X0.out
        obtain ⟨x11, x12, x13, x14, x15⟩ := X1.out
        clear X0 X1 XA XB
        go_wp2_with fail
        go_region
        all_goals
          go_wp2_with fail
          refine bodyPost_ret (v := .tuple #[.agg #[.int .i64 al, .int .i64 ah], .agg #[.int .i64 bl, .int .i64 bh]]) ?_ rfl ⟨al, ah, bl, bh, rfl, ?_⟩
          · simp [results, Try.results7, go_sem, x02, x03, x12, x13]
          · exact (by repeat' first | with_reducible exact Below.refl _ _ | with_reducible assumption | with_reducible refine below_drewN ?_ _ | with_reducible refine balloc ?_ _ | with_reducible refine Below.drew ?_ | with_reducible refine Below.setCell ?_ (by first | (simp; done) | (simp; omega) | omega) _ | with_reducible refine bstep ?_ (by assumption))
      · have SJ := sRangeJoin_any al ah bl bh
        have hj : joinB al ah bl bh = true := by unfold joinB; rw [hra, hrb]; rfl
        simp only [hj, if_true] at SJ
        have KJ := hide SJ
        clear SJ hj
        obtain ⟨xa1, xa2, xa3, xa4, xa5⟩ := XA.out
        obtain ⟨xb1, xb2, xb3, xb4, xb5⟩ := XB.out
        obtain ⟨x01, x02, x03, x04, x05⟩ := X0.out
        obtain ⟨x11, x12, x13, x14, x15⟩ := X1.out
        go_wp2_with fail
        have YX : ∀ W : World, Below w6.drew.heap.size w6.drew W → Bx W w.heap.size (.int .i64 0) (.int .i64 0) ∧ Bx W (w.heap.size + 1) (.int .i64 0) (.int .i64 0) ∧ Bx W w2.heap.size (.int .i64 al) (.int .i64 ah) := fun W hW => ⟨(Bx.mk (w := w6.drew) x01 x02 x03 x04 x05).below hW, (Bx.mk (w := w6.drew) x11 x12 x13 x14 x15).below hW, (Bx.mk (w := w6.drew) xa1 xa2 xa3 xa4 xa5).below hW⟩
        have YH := hide YX
        clear YX X0 X1 XA XB SO SO' x01 x02 x03 x04 x05 x11 x12 x13 x14 x15 xa4 xa5 xb4 xb5
        go_region_with (go_at_call 9; refine (KJ.out _).mono ?_; rintro e w7 ⟨rfl, hb7⟩; obtain ⟨⟨y01, y02, y03, y04, y05⟩, ⟨y11, y12, y13, y14, y15⟩, ⟨ya1, ya2, ya3, ya4, ya5⟩⟩ := YH.out _ hb7)
        all_goals
          go_wp2_with fail
          refine bodyPost_ret (v := .tuple #[.agg #[.int .i64 al, .int .i64 ah], .agg #[.int .i64 (min al bl), .int .i64 (max ah bh)]]) ?_ rfl ⟨al, ah, _, _, rfl, ?_⟩
          · simp [results, Try.results7, go_sem, y02, y03, y12, y13]
          · exact (by repeat' first | with_reducible exact Below.refl _ _ | with_reducible assumption | with_reducible refine below_drewN ?_ _ | with_reducible refine balloc ?_ _ | with_reducible refine Below.drew ?_ | with_reducible refine Below.setCell ?_ (by first | (simp; done) | (simp; omega) | omega) _ | with_reducible refine bstep ?_ (by assumption))

set_option maxHeartbeats 1000000 in
theorem drawRangeJoin_any (a : Option Addr) (n c : Nat) (w : World) (h : Code w a n) :
    Calls Try.prog 6 #[.slice a n c] w fun e w' => RgPost w e w' := by
  have O := hide (fun w1 (hb : Below w.heap.size w w1) => drawRangeLeq_any a n c w1 (h.below hb))
  clear h
  go_enter Try.func6, Try.ntmps6
  go_wp2_with fail
  refine (O.out _ (by repeat' first | with_reducible exact Below.refl _ _ | with_reducible assumption | with_reducible refine below_drewN ?_ _ | with_reducible refine balloc ?_ _ | with_reducible refine Below.drew ?_ | with_reducible refine Below.setCell ?_ (by first | (simp; done) | (simp; omega) | omega) _ | with_reducible refine bstep ?_ (by assumption))).mono ?_
  rintro e w1 ⟨al, ah, bl, bh, rfl, hb1⟩
  have X0 := ((Bx.new w (.int .i64 0) (.int .i64 0) 25).alloc (.cells #[.int .i64 0, .int .i64 0] 25)).below hb1
  have X1 := Bx.new (w.alloc (.cells #[.int .i64 0, .int .i64 0] 25)) (.int .i64 0) (.int .i64 0) 25
  rw [World.size_alloc] at X1
  have X1 := X1.below hb1
  obtain ⟨x01, x02, x03, x04, x05⟩ := X0
  obtain ⟨x11, x12, x13, x14, x15⟩ := X1
  go_wp2_with fail
  refine bodyPost_ret (v := .tuple #[.agg #[.int .i64 al, .int .i64 ah], .agg #[.int .i64 bl, .int .i64 bh]]) ?_ rfl ⟨al, ah, bl, bh, rfl, ?_⟩
  · simp [results, Try.results6, go_sem, x02, x03, x12, x13]
  · exact (by repeat' first | with_reducible exact Below.refl _ _ | with_reducible assumption | with_reducible refine below_drewN ?_ _ | with_reducible refine balloc ?_ _ | with_reducible refine Below.drew ?_ | with_reducible refine Below.setCell ?_ (by first | (simp; done) | (simp; omega) | omega) _ | with_reducible refine bstep ?_ (by assumption))

set_option maxHeartbeats 1000000 in
theorem drawRangeMeet_any (a : Option Addr) (n c : Nat) (w : World) (h : Code w a n) :
    Calls Try.prog 14 #[.slice a n c] w fun e w' => RgPost w e w' := by
  have O := hide (fun w1 (hb : Below w.heap.size w w1) => drawRangeLeq_any a n c w1 (h.below hb))
  clear h
  go_enter Try.func14, Try.ntmps14
  go_wp2_with fail
  refine (O.out _ (by repeat' first | with_reducible exact Below.refl _ _ | with_reducible assumption | with_reducible refine below_drewN ?_ _ | with_reducible refine balloc ?_ _ | with_reducible refine Below.drew ?_ | with_reducible refine Below.setCell ?_ (by first | (simp; done) | (simp; omega) | omega) _ | with_reducible refine bstep ?_ (by assumption))).mono ?_
  rintro e w1 ⟨al, ah, bl, bh, rfl, hb1⟩
  have X0 := ((Bx.new w (.int .i64 0) (.int .i64 0) 25).alloc (.cells #[.int .i64 0, .int .i64 0] 25)).below hb1
  have X1 := Bx.new (w.alloc (.cells #[.int .i64 0, .int .i64 0] 25)) (.int .i64 0) (.int .i64 0) 25
  rw [World.size_alloc] at X1
  have X1 := X1.below hb1
  obtain ⟨x01, x02, x03, x04, x05⟩ := X0
  obtain ⟨x11, x12, x13, x14, x15⟩ := X1
  go_wp2_with fail
  refine bodyPost_ret (v := .tuple #[.agg #[.int .i64 al, .int .i64 ah], .agg #[.int .i64 bl, .int .i64 bh]]) ?_ rfl ⟨al, ah, bl, bh, rfl, ?_⟩
  · simp [results, Try.results14, go_sem, x02, x03, x12, x13]
  · exact (by repeat' first | with_reducible exact Below.refl _ _ | with_reducible assumption | with_reducible refine below_drewN ?_ _ | with_reducible refine balloc ?_ _ | with_reducible refine Below.drew ?_ | with_reducible refine Below.setCell ?_ (by first | (simp; done) | (simp; omega) | omega) _ | with_reducible refine bstep ?_ (by assumption))
end Go.Proofs.Ytnfonhebafhffaa
