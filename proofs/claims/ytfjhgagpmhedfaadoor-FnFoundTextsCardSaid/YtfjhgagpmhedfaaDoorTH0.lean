/- Drawn hits: the reader's hit. -/
import Derived.Test.YtfjhgagpmhedfaaDoorF3P
import Derived.Test.YtfjhgagpmhedfaaDoorOG0
import Derived.Test.YtfjhgagpmhedfaaDoorDD0
import Derived.Test.YtfjhgagpmhedfaaDoorDO
import Derived.Deep.RegionHeld3
import Derived.BigQuiet
namespace Go.Proofs.YtfjhgagpmhedfaaDoor
open Go.RowKit
set_option maxRecDepth 8000
set_option linter.unusedSimpArgs false
set_option linter.unusedVariables false

/-- The answer's box and the hit's, and the reader. -/
structure HitC (B : Nat) (w0 w : World) (rb : Nat) (a : Option Addr) (n c q : Nat) (x y z : Int) : Prop where
  res : w.rowIs w0.heap.size 38 3 (f3 0 0 0)
  box : w.rowIs q 38 3 (f3 x y z)
  ne : w0.heap.size < q
  rd : Rd B w rb a n c
  bt : But rb w0 w
  lr : rb < w0.heap.size
  hB : B ≤ w0.heap.size

theorem HitC.call {B : Nat} {w0 w w' : World} {rb : Nat} {a : Option Addr} {n c q : Nat} {x y z : Int} (h : HitC B w0 w rb a n c q x y z) (hb : Rd B w' rb a n c ∧ But rb w w') : HitC B w0 w' rb a n c q x y z :=
  have l := h.lr
  have e := h.ne
  ⟨h.res.of_block (hb.2.block _ (World.rowIs.lt h.res) (by omega)), h.box.of_block (hb.2.block _ (World.rowIs.lt h.box) (by omega)), h.ne, hb.1, h.bt.trans hb.2, h.lr, h.hB⟩

theorem HitC.stays {B : Nat} {w0 w w' : World} {rb : Nat} {a : Option Addr} {n c q : Nat} {x y z : Int} (h : HitC B w0 w rb a n c q x y z) (hb : Below w.heap.size w w') : HitC B w0 w' rb a n c q x y z :=
  h.call ⟨h.rd.stays hb, ⟨hb.os, hb.tape, hb.output, hb.size, fun k hk _ => hb.block k hk⟩⟩

theorem HitC.rdBut {B : Nat} {w0 w w' : World} {rb : Nat} {a : Option Addr} {n c q : Nat} {x y z : Int} (h : HitC B w0 w rb a n c q x y z) {g : Nat} (hb : But g w w') (hg : w0.heap.size ≤ g) : Rd B w' rb a n c :=
  h.rd.but hb (by have := h.hB; omega) (by have := h.lr; omega)

theorem HitC.set0 {B : Nat} {w0 w : World} {rb : Nat} {a : Option Addr} {n c q : Nat} {x y z : Int} (h : HitC B w0 w rb a n c q x y z) (u : Int) : HitC B w0 (w.setCell ⟨q, 0, none⟩ (.int .i64 u)) rb a n c q u y z :=
  ⟨World.rowIs.setOther h.res (by have := h.ne; simp; omega) _, f3_set0 h.box u, h.ne, h.rdBut ((But.refl q w).setCell 0 _) (Nat.le_of_lt h.ne), but_far h.bt (Nat.le_of_lt h.ne) _ _, h.lr, h.hB⟩

theorem HitC.set2 {B : Nat} {w0 w : World} {rb : Nat} {a : Option Addr} {n c q : Nat} {x y z : Int} (h : HitC B w0 w rb a n c q x y z) (u : Int) : HitC B w0 (w.setCell ⟨q, 2, none⟩ (.int .i64 u)) rb a n c q x y u :=
  ⟨World.rowIs.setOther h.res (by have := h.ne; simp; omega) _, f3_set2 h.box u, h.ne, h.rdBut ((But.refl q w).setCell 2 _) (Nat.le_of_lt h.ne), but_far h.bt (Nat.le_of_lt h.ne) _ _, h.lr, h.hB⟩

theorem HitC.facts {B : Nat} {w0 w : World} {rb : Nat} {a : Option Addr} {n c q : Nat} {x y z : Int} (h : HitC B w0 w rb a n c q x y z) :
    (q < w.heap.size ∧ w.cell? ⟨q, 0, none⟩ = some (.int .i64 x) ∧ w.cell? ⟨q, 1, none⟩ = some (.int .i64 y) ∧ w.cell? ⟨q, 2, none⟩ = some (.int .i64 z) ∧ w.frozen? ⟨q, 0, none⟩ = false ∧ w.frozen? ⟨q, 1, none⟩ = false ∧ w.frozen? ⟨q, 2, none⟩ = false) ∧
    (w0.heap.size < w.heap.size ∧ w.cell? ⟨w0.heap.size, 0, none⟩ = some (.int .i64 0) ∧ w.cell? ⟨w0.heap.size, 1, none⟩ = some (.int .i64 0) ∧ w.cell? ⟨w0.heap.size, 2, none⟩ = some (.int .i64 0) ∧ w.frozen? ⟨w0.heap.size, 0, none⟩ = false ∧ w.frozen? ⟨w0.heap.size, 1, none⟩ = false ∧ w.frozen? ⟨w0.heap.size, 2, none⟩ = false) :=
  ⟨⟨World.rowIs.lt h.box, World.rowIs.cell h.box (show 0 < 3 by omega), World.rowIs.cell h.box (show 1 < 3 by omega), World.rowIs.cell h.box (show 2 < 3 by omega), World.rowIs.frozen h.box 0, World.rowIs.frozen h.box 1, World.rowIs.frozen h.box 2⟩,
   ⟨World.rowIs.lt h.res, World.rowIs.cell h.res (show 0 < 3 by omega), World.rowIs.cell h.res (show 1 < 3 by omega), World.rowIs.cell h.res (show 2 < 3 by omega), World.rowIs.frozen h.res 0, World.rowIs.frozen h.res 1, World.rowIs.frozen h.res 2⟩⟩
/-- The same, whatever its third number; with what a region reads of it. -/
structure HitJ (B : Nat) (w0 w : World) (rb : Nat) (a : Option Addr) (n c q : Nat) (x y : Int) : Prop where
  lq : q < w.heap.size
  c1 : w.cell? ⟨q, 1, none⟩ = some (.int .i64 y)
  f2 : w.frozen? ⟨q, 2, none⟩ = false
  all : ∃ z, w.cell? ⟨q, 2, none⟩ = some (.int .i64 z) ∧ HitC B w0 w rb a n c q x y z

theorem HitC.j {B : Nat} {w0 w : World} {rb : Nat} {a : Option Addr} {n c q : Nat} {x y z : Int} (h : HitC B w0 w rb a n c q x y z) : HitJ B w0 w rb a n c q x y := ⟨World.rowIs.lt h.box, World.rowIs.cell h.box (show 1 < 3 by omega), World.rowIs.frozen h.box 2, z, World.rowIs.cell h.box (show 2 < 3 by omega), h⟩

theorem HitJ.call {B : Nat} {w0 w w' : World} {rb : Nat} {a : Option Addr} {n c q : Nat} {x y : Int} (h : HitJ B w0 w rb a n c q x y) (hb : Rd B w' rb a n c ∧ But rb w w') : HitJ B w0 w' rb a n c q x y := by
  obtain ⟨_, _, _, z, _, hz⟩ := h
  exact (hz.call hb).j

theorem HitJ.rd {B : Nat} {w0 w : World} {rb : Nat} {a : Option Addr} {n c q : Nat} {x y : Int} (h : HitJ B w0 w rb a n c q x y) : Rd B w rb a n c := by
  obtain ⟨_, _, _, z, _, hz⟩ := h
  exact hz.rd

theorem HitJ.set2 {B : Nat} {w0 w : World} {rb : Nat} {a : Option Addr} {n c q : Nat} {x y : Int} (h : HitJ B w0 w rb a n c q x y) (u : Int) : HitJ B w0 (w.setCell ⟨q, 2, none⟩ (.int .i64 u)) rb a n c q x y := by
  obtain ⟨_, _, _, z, _, hz⟩ := h
  exact (hz.set2 u).j

/-- Some hit. -/
def HitPost (B : Nat) (w : World) (rb : Nat) (a : Option Addr) (n c : Nat) (e : Ending) (w' : World) : Prop :=
  ∃ x y z : Int, e = .returned (.agg #[.int .i64 x, .int .i64 y, .int .i64 z]) ∧ Rd B w' rb a n c ∧ But rb w w'

theorem HitC.fin {B : Nat} {w0 w : World} {rb : Nat} {a : Option Addr} {n c q : Nat} {x y z : Int} (h : HitC B w0 w rb a n c q x y z) (v0 v1 v2 : Value) : Rd B (((w.setCell ⟨w0.heap.size, 0, none⟩ v0).setCell ⟨w0.heap.size, 1, none⟩ v1).setCell ⟨w0.heap.size, 2, none⟩ v2) rb a n c ∧ But rb w0 (((w.setCell ⟨w0.heap.size, 0, none⟩ v0).setCell ⟨w0.heap.size, 1, none⟩ v1).setCell ⟨w0.heap.size, 2, none⟩ v2) :=
  ⟨h.rdBut ((((But.refl w0.heap.size w).setCell 0 v0).setCell 1 v1).setCell 2 v2) (Nat.le_refl _), but_far (but_far (but_far h.bt (Nat.le_refl _) _ _) (Nat.le_refl _) _ _) (Nat.le_refl _) _ _⟩

set_option maxHeartbeats 4000000 in
set_option maxRecDepth 8000 in
theorem hit_any (B rb n c : Nat) (a : Option Addr) (w : World) (h : Rd B w rb a n c) (hB : B ≤ w.heap.size) :
    Calls Tryd.prog 27 #[.pointer (some ⟨rb, 0, none⟩)] w fun e w' => HitPost B w rb a n c e w' := by
  have N := hide (fun m w1 (h : Rd B w1 rb a n c) (h1 : 1 < m) (h2 : m ≤ 256) => below_any B rb n c a m w1 h h1 h2)
  have NB := hide (fun m w1 (h : Rd B w1 rb a n c) (h1 : 256 < m) (h2 : m ≤ 65536) => below_big B rb n c a m w1 h h1 h2)
  have OF := hide (fun lo hi w1 (h : Rd B w1 rb a n c) (l0 : 0 ≤ lo) (l1 : lo ≤ 2251799813685248) (g0 : 0 ≤ hi) (g1 : hi ≤ 2251799813685248) => off_any B rb n c a lo hi w1 h (by omega) l1 (by omega) g1)
  have HR := hide h
  have hlt := h.lt
  clear h
  go_enter Tryd.func27, Tryd.ntmps27
  go_wp2_with fail
  refine (N.out _ _ (HR.out.alloc _) (by omega) (by omega)).mono ?_
  rintro e w1 ⟨v1, rfl, v10, v11, r1, b1⟩
  have Z1 : Hid (w1.rowIs w.heap.size 38 3 (f3 0 0 0)) := hide ((f3_new w 0 0 0 38).of_block (b1.block _ (by simp) (by omega)))
  have T1 := hide (((But.refl rb w).alloc (.cells #[.int .i64 0, .int .i64 0, .int .i64 0] 38)).trans b1)
  have R1 := hide r1
  clear r1 b1
  go_wp2_with fail
  refine (NB.out _ _ R1.out (by omega) (by omega)).mono ?_
  rintro e w2 ⟨v2, rfl, v20, v21, r2, b2⟩
  have C3 : Hid (HitC B w (w2.alloc (.cells #[.int .i64 (1 + v1), .int .i64 v2, .int .i64 0] 38)) rb a n c w2.heap.size (1 + v1) v2 0) := hide
    ⟨World.rowIs.alloc (Z1.out.of_block (b2.block _ (World.rowIs.lt Z1.out) (by omega))) _, f3_new w2 (1 + v1) v2 0 38, Nat.lt_of_lt_of_le (World.rowIs.lt Z1.out) b2.size, r2.alloc _, (T1.out.trans b2).alloc _, hlt, hB⟩
  clear r2 b2 R1 T1 Z1 HR
  go_wp2_with fail
  refine wp_region_held_drew (S := fun wx => HitJ B w wx rb a n c w2.heap.size (1 + v1) v2) (by kernel_rfl) ((C3.out.stays (Below.drew (Below.refl _ _))).j) (fun hH0 => ?_)
  refine wpAnyH_take (i := 0) (oi := { dst := some 10, op := _, type := _, pos := _, after := _, guard := _ }) (v := ?_) rfl (by kernel_rfl) (by kernel_rfl) (by kernel_rfl) (fun _ _ _ h => h) (Or.inl ⟨by rfl, ?_⟩) (hH0) ?_
  rotate_left
  · (intro wx hSw; obtain ⟨lq, c1, f2, zz, c2, _⟩ := hSw; go_simp <;> with_reducible rfl)
  simp only [Act.put, List.setIfInBounds_toArray, List.set_cons_zero, List.set_cons_succ]
  refine wpAnyH_take (i := 1) (oi := { dst := some 11, op := _, type := _, pos := _, after := _, guard := _ }) (v := ?_) rfl (by kernel_rfl) (by kernel_rfl) (by kernel_rfl) (fun _ _ _ h => h) (Or.inl ⟨by rfl, ?_⟩) (hH0) ?_
  rotate_left
  · (intro wx hSw; obtain ⟨lq, c1, f2, zz, c2, _⟩ := hSw; go_simp <;> with_reducible rfl)
  simp only [Act.put, List.setIfInBounds_toArray, List.set_cons_zero, List.set_cons_succ]
  refine wpAnyH_take (i := 2) (oi := { dst := some 12, op := _, type := _, pos := _, after := _, guard := _ }) (v := ?_) rfl (by kernel_rfl) (by kernel_rfl) (by kernel_rfl) (fun _ _ _ h => h) (Or.inl ⟨by rfl, ?_⟩) (hH0) ?_
  rotate_left
  · (intro wx hSw; obtain ⟨lq, c1, f2, zz, c2, _⟩ := hSw; go_simp <;> with_reducible rfl)
  simp only [Act.put, List.setIfInBounds_toArray, List.set_cons_zero, List.set_cons_succ]
  refine wpAnyH_take (i := 4) (oi := { dst := some 14, op := _, type := _, pos := _, after := _, guard := _ }) (v := ?_) rfl (by kernel_rfl) (by kernel_rfl) (by kernel_rfl) (fun _ _ _ h => h) (Or.inl ⟨by rfl, ?_⟩) (hH0) ?_
  rotate_left
  · (intro wx hSw; obtain ⟨lq, c1, f2, zz, c2, _⟩ := hSw; go_simp <;> with_reducible rfl)
  simp only [Act.put, List.setIfInBounds_toArray, List.set_cons_zero, List.set_cons_succ]
  refine wpAnyH_ready (rs := [3]) (by kernel_rfl) (by simp) ?_
  refine AllReadyH.cons (o := { dst := some 13, op := _, type := _, pos := _, after := _, guard := _ }) rfl (fun K hK => ?_) AllReadyH.nil
  go_simp
  refine (N.out 4 _ hH0.rd (by omega) (by omega)).mono ?_
  rintro e w3 ⟨v3, rfl, v30, v31, hr3, hb3⟩
  dsimp only
  refine hK.out _ _ (HitJ.call hH0 ⟨hr3, hb3⟩) (fun hH1 => ?_)
  clear hK K
  refine wpAnyH_ready (rs := [5]) (by kernel_rfl) (by simp) ?_
  refine AllReadyH.cons (o := { dst := some 15, op := _, type := _, pos := _, after := _, guard := _ }) rfl (fun K hK => ?_) AllReadyH.nil
  go_simp
  refine (NB.out 300 _ hH1.rd (by omega) (by omega)).mono ?_
  rintro e w4 ⟨v4, rfl, v40, v41, hr4, hb4⟩
  dsimp only
  refine hK.out _ _ (HitJ.call hH1 ⟨hr4, hb4⟩) (fun hH2 => ?_)
  clear hK K
  refine wpAnyH_take (i := 6) (oi := { dst := some 16, op := _, type := _, pos := _, after := _, guard := _ }) (v := ?_) rfl (by kernel_rfl) (by kernel_rfl) (by kernel_rfl) (fun _ _ _ h => h) (Or.inl ⟨by rfl, ?_⟩) (hH2) ?_
  rotate_left
  · (intro wx hSw; obtain ⟨lq, c1, f2, zz, c2, _⟩ := hSw; go_simp <;> with_reducible rfl)
  simp only [Act.put, List.setIfInBounds_toArray, List.set_cons_zero, List.set_cons_succ]
  refine wpAnyH_take (i := 7) (oi := { dst := some 17, op := _, type := _, pos := _, after := _, guard := _ }) (v := ?_) rfl (by kernel_rfl) (by kernel_rfl) (by kernel_rfl) (fun _ _ _ h => h) (Or.inl ⟨by rfl, ?_⟩) (hH2) ?_
  rotate_left
  · (intro wx hSw; obtain ⟨lq, c1, f2, zz, c2, _⟩ := hSw; go_simp <;> with_reducible rfl)
  simp only [Act.put, List.setIfInBounds_toArray, List.set_cons_zero, List.set_cons_succ]
  refine wpAnyH_take (i := 8) (oi := { dst := some 18, op := _, type := _, pos := _, after := _, guard := _ }) (v := ?_) rfl (by kernel_rfl) (by kernel_rfl) (by kernel_rfl) (fun _ _ _ h => h) (Or.inl ⟨by rfl, ?_⟩) (hH2) ?_
  rotate_left
  · (intro wx hSw; obtain ⟨lq, c1, f2, zz, c2, _⟩ := hSw; go_simp <;> with_reducible rfl)
  simp only [Act.put, List.setIfInBounds_toArray, List.set_cons_zero, List.set_cons_succ]
  refine wpAnyH_ready (rs := [9]) (by kernel_rfl) (by simp) ?_
  refine AllReadyH.cons (o := { dst := none, op := _, type := _, pos := _, after := _, guard := _ }) rfl (fun K hK => ?_) AllReadyH.nil
  obtain ⟨lq, c1, f2, zz, c2, _⟩ := id hH2
  go_simp
  refine hK.out _ _ (HitJ.set2 hH2 _) (fun hH3 => ?_)
  clear hK K
  refine wpAnyH_done (by kernel_rfl) ?_ _
  -- behind it: go_wp2_with fail, then go_meet (a cut) or go_ret; the condition at the end: hH3
  obtain ⟨_, _, _, z, _, hC⟩ := hH3
  clear C3 hH0 hH1 hH2
  generalize World.setCell _ _ _ = W4 at hC ⊢
  have C4 := hide hC
  have ne := hC.ne
  clear hC hr3 hb3 hr4 hb4
  have fin : ∀ (W : World) (x y z : Int), HitC B w W rb a n c w2.heap.size x y z → HitPost B w rb a n c (.returned (.agg #[.int .i64 x, .int .i64 y, .int .i64 z])) (((W.setCell ⟨w.heap.size, 0, none⟩ (.int .i64 x)).setCell ⟨w.heap.size, 1, none⟩ (.int .i64 y)).setCell ⟨w.heap.size, 2, none⟩ (.int .i64 z)) := fun W x y z hW => ⟨x, y, z, rfl, (hW.fin _ _ _).1, (hW.fin _ _ _).2⟩
  have FIN := hide fin
  clear fin
  go_wp2_with fail
  refine (N.out 20 _ C4.out.rd (by omega) (by omega)).mono ?_
  rintro e w5 ⟨v5, rfl, v50, v51, r5, b5⟩
  have C5 := hide (C4.out.call ⟨r5, b5⟩)
  clear r5 b5 C4
  have hD : v5 = 0 ∨ v5 = 1 ∨ ((v5 == 0) = false ∧ (v5 == 1) = false) := by
    simp only [beq_eq_false_iff_ne]; omega
  rcases hD with rfl | rfl | ⟨g0, g1⟩
  · go_wp2_with fail
    refine (OF.out 1 9999 _ C5.out.rd (by omega) (by omega) (by omega) (by omega)).mono ?_
    rintro e w6 ⟨u, rfl, r6, b6⟩
    have C6 := hide (C5.out.call ⟨r6, b6⟩)
    obtain ⟨⟨lq, c0, c1, c2, f0, f1, f2⟩, ⟨lr, d0, d1, d2, k0, k1, k2⟩⟩ := C6.out.facts
    have C7 := hide (C6.out.set0 u)
    clear r6 b6 C5
    go_wp2_with fail
    obtain ⟨s0, s1, s2⟩ := three_set C7.out.res (.int .i64 u) (.int .i64 v2) (.int .i64 z)
    exact bodyPost_ret (v := .agg #[.int .i64 u, .int .i64 v2, .int .i64 z]) (by simp [results, Tryd.results27, go_sem, s0, s1, s2]) rfl (FIN.out _ _ _ _ C7.out)
  · obtain ⟨⟨lq, c0, c1, c2, f0, f1, f2⟩, ⟨lr, d0, d1, d2, k0, k1, k2⟩⟩ := C5.out.facts
    go_wp2_with fail
    refine (OF.out v2 1125899906842624 _ C5.out.rd (by omega) (by omega) (by omega) (by omega)).mono ?_
    rintro e w6 ⟨u, rfl, r6, b6⟩
    have C6 := hide (C5.out.call ⟨r6, b6⟩)
    clear lq c0 c1 c2 f0 f1 f2 lr d0 d1 d2 k0 k1 k2
    obtain ⟨⟨lq, c0, c1, c2, f0, f1, f2⟩, ⟨lr, d0, d1, d2, k0, k1, k2⟩⟩ := C6.out.facts
    have C7 := hide (C6.out.set2 u)
    clear r6 b6 C5
    go_wp2_with fail
    obtain ⟨s0, s1, s2⟩ := three_set C7.out.res (.int .i64 (1 + v1)) (.int .i64 v2) (.int .i64 u)
    exact bodyPost_ret (v := .agg #[.int .i64 (1 + v1), .int .i64 v2, .int .i64 u]) (by simp [results, Tryd.results27, go_sem, s0, s1, s2]) rfl (FIN.out _ _ _ _ C7.out)
  · obtain ⟨⟨lq, c0, c1, c2, f0, f1, f2⟩, ⟨lr, d0, d1, d2, k0, k1, k2⟩⟩ := C5.out.facts
    go_wp2_with fail
    obtain ⟨s0, s1, s2⟩ := three_set C5.out.res (.int .i64 (1 + v1)) (.int .i64 v2) (.int .i64 z)
    exact bodyPost_ret (v := .agg #[.int .i64 (1 + v1), .int .i64 v2, .int .i64 z]) (by simp [results, Tryd.results27, go_sem, s0, s1, s2]) rfl (FIN.out _ _ _ _ C5.out)
end Go.Proofs.YtfjhgagpmhedfaaDoor
