/- Slices of hits: read, made; szHitS, toHitS, eqHitS of the laws. -/
import Derived.Test.YtfjhgagpmhedfaaDoorRMC
import Derived.Test.YtfjhgagpmhedfaaDoorSG1
import Derived.Test.YtfjhgagpmhedfaaDoorSG2
import Derived.Test.YtfjhgagpmhedfaaDoorSZI
import Derived.Test.YtfjhgagpmhedfaaDoorVA
import Derived.Deep.RegionHeld3
import Derived.Deep.Slices
namespace Go.Proofs.YtfjhgagpmhedfaaDoor
open Go.RowKit
set_option maxRecDepth 8000
set_option linter.unusedSimpArgs false
set_option linter.unusedVariables false

structure Ht where
  x : Int
  y : Int
  z : Int
abbrev HtL := Nat → Ht
def hcell (H : HtL) (j : Nat) : Value := .int .i64 (if j % 3 = 0 then (H (j / 3)).x else if j % 3 = 1 then (H (j / 3)).y else (H (j / 3)).z)

theorem hcell_0 (H : HtL) (i : Nat) : hcell H (i * 3) = .int .i64 (H i).x := by
  unfold hcell; rw [if_pos (by omega), show i * 3 / 3 = i by omega]

theorem hcell_1 (H : HtL) (i : Nat) : hcell H (i * 3 + 1) = .int .i64 (H i).y := by
  unfold hcell; rw [if_neg (by omega), if_pos (by omega), show (i * 3 + 1) / 3 = i by omega]

theorem hcell_2 (H : HtL) (i : Nat) : hcell H (i * 3 + 2) = .int .i64 (H i).z := by
  unfold hcell; rw [if_neg (by omega), if_neg (by omega), show (i * 3 + 2) / 3 = i by omega]
/-- A hit at a place. -/
structure HAt (w : World) (b o : Nat) (h : Ht) : Prop where
  c0 : w.cell? ⟨b, o, none⟩ = some (.int .i64 h.x)
  c1 : w.cell? ⟨b, o + 1, none⟩ = some (.int .i64 h.y)
  c2 : w.cell? ⟨b, o + 2, none⟩ = some (.int .i64 h.z)

theorem HAt.below {B : Nat} {w w' : World} {b o : Nat} {h : Ht} (k : HAt w b o h) (hb : Below B w w') (lt : b < B) : HAt w' b o h :=
  ⟨(hb.cell (p := ⟨b, o, none⟩) lt).trans k.c0, (hb.cell (p := ⟨b, o + 1, none⟩) lt).trans k.c1, (hb.cell (p := ⟨b, o + 2, none⟩) lt).trans k.c2⟩
/-- A slice of hits that is read. -/
structure HtR (w : World) (a : Option Addr) (n : Nat) (H : HtL) : Prop where
  lies : n = 0 ∨ ∃ b off, a = some ⟨b, off, none⟩ ∧ b < w.heap.size ∧ ∀ i, i < n → HAt w b (off + i * 3) (H i)

theorem HtR.below {w w' : World} {a : Option Addr} {n : Nat} {H : HtL} (h : HtR w a n H) (hb : Below w.heap.size w w') : HtR w' a n H := by
  rcases h.lies with h0 | ⟨b, off, e, lt, hc⟩
  · exact ⟨.inl h0⟩
  · exact ⟨.inr ⟨b, off, e, Nat.lt_of_lt_of_le lt hb.size, fun i hi => (hc i hi).below hb lt⟩⟩
/-- A slice of hits of the call's own. -/
def OwnH (w : World) (b n : Nat) (H : HtL) : Prop := w.rowIs b 38 (n * 3) (hcell H)

theorem OwnH.at {w : World} {b n : Nat} {H : HtL} (h : OwnH w b n H) {i : Nat} (hi : i < n) : HAt w b (i * 3) (H i) :=
  ⟨by rw [World.rowIs.cell h (show i * 3 < n * 3 by omega), hcell_0], by rw [World.rowIs.cell h (show i * 3 + 1 < n * 3 by omega), hcell_1], by rw [World.rowIs.cell h (show i * 3 + 2 < n * 3 by omega), hcell_2]⟩

theorem OwnH.row {w : World} {b n : Nat} {H : HtL} (h : OwnH w b n H) : HtR w (some ⟨b, 0, none⟩) n H :=
  ⟨.inr ⟨b, 0, rfl, World.rowIs.lt h, fun i hi => by rw [Nat.zero_add]; exact h.at hi⟩⟩

theorem OwnH.below {w w' : World} {b n : Nat} {H : HtL} (h : OwnH w b n H) (hb : Below w.heap.size w w') : OwnH w' b n H := World.rowIs.of_block h (hb.block b (World.rowIs.lt h))
def upH (k : Nat) (H : HtL) : HtL := fun i => if i < k then H i else ⟨0, 0, 0⟩

theorem OwnH.made (w : World) (n : Nat) (H : HtL) : OwnH (w.alloc (.cells (madeCells #[.int .i64 0, .int .i64 0, .int .i64 0] (n * 3)) 38)) w.heap.size n (upH 0 H) := by
  refine ⟨_, Go.Deep.blk_alloc_new _ _, size_madeCells _ _, fun i hi => ?_⟩
  rcases (show i % 3 = 0 ∨ i % 3 = 1 ∨ i % 3 = 2 by omega) with h | h | h <;> simp [madeCells, hi, h, hcell, upH]

theorem OwnH.step {w : World} {b n k : Nat} {H : HtL} (h : OwnH w b n (upH k H)) :
    OwnH (((w.setCell ⟨b, k * 3, none⟩ (.int .i64 (H k).x)).setCell ⟨b, k * 3 + 1, none⟩ (.int .i64 (H k).y)).setCell ⟨b, k * 3 + 2, none⟩ (.int .i64 (H k).z)) b n (upH (k + 1) H) := by
  refine (World.rowIs.set (World.rowIs.set (World.rowIs.set h (k * 3) _) (k * 3 + 1) _) (k * 3 + 2) _).congr fun j hj => ?_
  have at_k : upH (k + 1) H k = H k := by simp [upH]
  by_cases e2 : j = k * 3 + 2
  · subst e2; rw [if_pos rfl, hcell_2, at_k]
  · rw [if_neg e2]
    by_cases e1 : j = k * 3 + 1
    · subst e1; rw [if_pos rfl, hcell_1, at_k]
    · rw [if_neg e1]
      by_cases e0 : j = k * 3
      · subst e0; rw [if_pos rfl, hcell_0, at_k]
      · rw [if_neg e0]
        have ne : ¬ j / 3 = k := by omega
        have eq : upH (k + 1) H (j / 3) = upH k H (j / 3) := by
          unfold upH
          by_cases l : j / 3 < k
          · rw [if_pos l, if_pos (by omega)]
          · rw [if_neg l, if_neg (by omega)]
        unfold hcell
        rw [eq]

theorem OwnH.full {w : World} {b n : Nat} {H : HtL} (h : OwnH w b n (upH n H)) : OwnH w b n H :=
  World.rowIs.congr h fun j hj => by
    have : upH n H (j / 3) = H (j / 3) := by unfold upH; rw [if_pos (by omega)]
    unfold hcell
    rw [this]

theorem Tryd.infoHit : (Tryd.prog.info? 38).map (fun i => (i.zero, i.size, i.bytes)) = some (some (.agg #[.int .i64 0, .int .i64 0, .int .i64 0]), 3, 24) := by kernel_rfl

set_option maxHeartbeats 400000 in
theorem szHits_any (a : Option Addr) (n cap : Nat) (left : Int) (w : World) (h0 : 0 ≤ left) (h1 : left ≤ 1048576) (hn : n ≤ 9223372036854775807) :
    Calls Tryd.prog 12 #[.slice a n cap, .int .i64 left] w fun e w' => e = .returned (.int .i64 (szN left n)) ∧ w' = w := by
  unfold szN
  by_cases h : left - (n : Int) < 0
  · rw [if_pos h]
    go_enter Tryd.func12, Tryd.ntmps12
    go_wp2
    go_ret
    exact ⟨rfl, rfl⟩
  · rw [if_neg h]
    go_enter Tryd.func12, Tryd.ntmps12
    go_wp2
    go_ret
    exact ⟨rfl, rfl⟩

def ToHs (w : World) (n : Nat) (H : HtL) (e : Ending) (w' : World) : Prop :=
  ∃ b, e = .returned (.slice (some ⟨b, 0, none⟩) n n) ∧ w.heap.size ≤ b ∧ OwnH w' b n H ∧ Below w.heap.size w w'

set_option maxHeartbeats 800000 in
theorem toHits_some (b off n cap : Nat) (H : HtL) (w : World) (hn : n ≤ 1048576) (hb : b < w.heap.size) (hc : ∀ i, i < n → HAt w b (off + i * 3) (H i)) :
    Calls Tryd.prog 16 #[.slice (some ⟨b, off, none⟩) n cap] w fun e w' => ToHs w n H e w' := by
  have hmk := run_make_cells (P := Tryd.prog) 28 38 (.agg #[.int .i64 0, .int .i64 0, .int .i64 0]) #[.int .i64 0, .int .i64 0, .int .i64 0] 24 rfl Tryd.underlying28 Tryd.infoHit .i64 .i64 n (by omega) (by omega)
  have HC := hide hc
  clear hc
  go_enter Tryd.func16, Tryd.ntmps16
  go_wp2_with fail
  go_loopw [4] (fun i wr => ∃ k : Nat, k ≤ n ∧ i = .int .i64 k ∧ Hid (OwnH wr w.heap.size n (upH k H)) ∧ Hid (Below w.heap.size w wr)) (fun i _ => n - (intOf i).toNat)
  case atStart => exact ⟨0, Nat.zero_le _, rfl, hide (OwnH.made w n H), hide (by repeat' first | with_reducible exact Below.refl _ _ | with_reducible assumption | with_reducible refine below_drewN ?_ _ | with_reducible refine balloc ?_ _ | with_reducible refine Below.drew ?_ | with_reducible refine Below.setCell ?_ (by first | (simp; done) | (simp; omega) | omega) _ | with_reducible refine bstep ?_ (by assumption))⟩
  case round =>
    obtain ⟨k, hk, rfl, HR, HB⟩ := hrel
    by_cases hlt : k < n
    · obtain ⟨c0, c1, c2⟩ := (HC.out k hlt).below HB.out hb
      have R := hide (toHit_any (H k).x (H k).y (H k).z wr)
      go_wp2_with fail
      refine R.out.mono ?_
      rintro e w1 ⟨rfl, hb1⟩
      have H1 := hide (HR.out.below hb1)
      have B1 := hide (bstep HB.out hb1)
      have HS := hide H1.out.step
      have lw := World.rowIs.lt H1.out
      have y0 := World.rowIs.cell H1.out (i := k * 3) (by omega)
      have y1 := World.rowIs.cell H1.out (i := k * 3 + 1) (by omega)
      have y2 := World.rowIs.cell H1.out (i := k * 3 + 2) (by omega)
      have y3 := World.rowIs.frozen H1.out (k * 3)
      have y4 := World.rowIs.frozen H1.out (k * 3 + 1)
      have y5 := World.rowIs.frozen H1.out (k * 3 + 2)
      clear hb1 c0 c1 c2 R HR
      go_wp2_with fail
      go_roundw
      case rel => exact ⟨k + 1, by omega, by go_num, HS, hide (((B1.out.setCell (Nat.le_refl _) _).setCell (Nat.le_refl _) _).setCell (Nat.le_refl _) _)⟩
      case measure => simp [intOf]; omega
    · obtain rfl : k = n := by omega
      go_wp2_with fail
      go_ret
      exact ⟨w.heap.size, rfl, Nat.le_refl _, HR.out.full, HB.out⟩

set_option maxHeartbeats 400000 in
theorem toHits_none (a : Option Addr) (n cap : Nat) (H : HtL) (w : World) (hn : n < 1) :
    Calls Tryd.prog 16 #[.slice a n cap] w fun e w' => ToHs w n H e w' := by
  have hmk := run_make_cells (P := Tryd.prog) 28 38 (.agg #[.int .i64 0, .int .i64 0, .int .i64 0]) #[.int .i64 0, .int .i64 0, .int .i64 0] 24 rfl Tryd.underlying28 Tryd.infoHit .i64 .i64 n (by omega) (by omega)
  go_enter Tryd.func16, Tryd.ntmps16
  go_wp2
  refine wp_loop_rounds 1 ?_
  rw [rounds_succ]
  go_wp2
  go_ret
  have : n = 0 := by omega
  subst this
  exact ⟨w.heap.size, rfl, Nat.le_refl _, (OwnH.made w 0 H).full, (by repeat' first | with_reducible exact Below.refl _ _ | with_reducible assumption | with_reducible refine below_drewN ?_ _ | with_reducible refine balloc ?_ _ | with_reducible refine Below.drew ?_ | with_reducible refine Below.setCell ?_ (by first | (simp; done) | (simp; omega) | omega) _ | with_reducible refine bstep ?_ (by assumption))⟩

theorem toHits_any (a : Option Addr) (n cap : Nat) (H : HtL) (w : World) (h : HtR w a n H) (hn : n ≤ 1048576) :
    Calls Tryd.prog 16 #[.slice a n cap] w fun e w' => ToHs w n H e w' := by
  by_cases h0 : n = 0
  · exact toHits_none a n cap H w (by omega)
  · rcases h.lies with q | ⟨b, off, rfl, lt, hc⟩
    · omega
    · exact toHits_some b off n cap H w hn lt hc

/-- Two hits that are read. -/
structure TwoHt (w : World) (b o b1 o' : Nat) (x : Ht) : Prop where
  l : b < w.heap.size
  l' : b1 < w.heap.size
  c0 : w.cell? ⟨b, o, none⟩ = some (.int .i64 x.x)
  c1 : w.cell? ⟨b, o + 1, none⟩ = some (.int .i64 x.y)
  c2 : w.cell? ⟨b, o + 2, none⟩ = some (.int .i64 x.z)
  d0 : w.cell? ⟨b1, o', none⟩ = some (.int .i64 x.x)
  d1 : w.cell? ⟨b1, o' + 1, none⟩ = some (.int .i64 x.y)
  d2 : w.cell? ⟨b1, o' + 2, none⟩ = some (.int .i64 x.z)

theorem TwoHt.below {w w' : World} {b o b1 o' : Nat} {x : Ht} (h : TwoHt w b o b1 o' x) (hb : Below w.heap.size w w') : TwoHt w' b o b1 o' x :=
  ⟨Nat.lt_of_lt_of_le h.l hb.size, Nat.lt_of_lt_of_le h.l' hb.size, (hb.cell (p := ⟨b, o, none⟩) h.l).trans h.c0, (hb.cell (p := ⟨b, o + 1, none⟩) h.l).trans h.c1, (hb.cell (p := ⟨b, o + 2, none⟩) h.l).trans h.c2, (hb.cell (p := ⟨b1, o', none⟩) h.l').trans h.d0, (hb.cell (p := ⟨b1, o' + 1, none⟩) h.l').trans h.d1, (hb.cell (p := ⟨b1, o' + 2, none⟩) h.l').trans h.d2⟩

theorem TwoHt.drew {w : World} {b o b1 o' : Nat} {x : Ht} (h : TwoHt w b o b1 o' x) : TwoHt w.drew b o b1 o' x := h.below (Below.drew (Below.refl _ _))

set_option maxHeartbeats 1000000 in
theorem eqHt_any (x y z : Int) (w : World) :
    Calls Tryd.prog 36 #[.agg #[.int .i64 x, .int .i64 y, .int .i64 z], .agg #[.int .i64 x, .int .i64 y, .int .i64 z]] w fun e w' => e = .returned (.bool true) ∧ Below w.heap.size w w' := by
  have t0 : (x != x) = false := by simp
  have t1 : (y != y) = false := by simp
  have t2 : (z != z) = false := by simp
  go_enter Tryd.func36, Tryd.ntmps36
  go_wp2_with fail
  go_ret
  exact ⟨rfl, (by repeat' first | with_reducible exact Below.refl _ _ | with_reducible assumption | with_reducible refine below_drewN ?_ _ | with_reducible refine balloc ?_ _ | with_reducible refine Below.drew ?_ | with_reducible refine Below.setCell ?_ (by first | (simp; done) | (simp; omega) | omega) _ | with_reducible refine bstep ?_ (by assumption))⟩

set_option maxHeartbeats 2000000 in
set_option maxRecDepth 4000 in
theorem eqHits_some (b off n cap b1 off1 cap1 : Nat) (H : HtL) (w : World) (hn : n ≤ 1048576) (hb : b < w.heap.size) (hb1 : b1 < w.heap.size)
    (hc : ∀ i, i < n → HAt w b (off + i * 3) (H i)) (hc1 : ∀ i, i < n → HAt w b1 (off1 + i * 3) (H i)) :
    Calls Tryd.prog 22 #[.slice (some ⟨b, off, none⟩) n cap, .slice (some ⟨b1, off1, none⟩) n cap1] w fun e w' => e = .returned (.bool true) ∧ Below w.heap.size w w' := by
  have HC := hide hc
  have HC1 := hide hc1
  clear hc hc1
  go_enter Tryd.func22, Tryd.ntmps22
  go_wp2
  go_loopw [5] (fun i wr => ∃ k : Nat, k ≤ n ∧ i = .int .i64 k ∧ Hid (Below w.heap.size w wr)) (fun i _ => n - (intOf i).toNat)
  case atStart => exact ⟨0, Nat.zero_le _, rfl, hide (by repeat' first | with_reducible exact Below.refl _ _ | with_reducible assumption | with_reducible refine below_drewN ?_ _ | with_reducible refine balloc ?_ _ | with_reducible refine Below.drew ?_ | with_reducible refine Below.setCell ?_ (by first | (simp; done) | (simp; omega) | omega) _ | with_reducible refine bstep ?_ (by assumption))⟩
  case round =>
    obtain ⟨k, hk, rfl, HB⟩ := hrel
    by_cases hlt : k < n
    · obtain ⟨c0, c1, c2⟩ := (HC.out k hlt).below HB.out hb
      obtain ⟨d0, d1, d2⟩ := (HC1.out k hlt).below HB.out hb1
      have T := hide (TwoHt.mk (Nat.lt_of_lt_of_le hb HB.out.size) (Nat.lt_of_lt_of_le hb1 HB.out.size) c0 c1 c2 d0 d1 d2)
      have R := hide (fun w1 => eqHt_any (H k).x (H k).y (H k).z w1)
      have hlt' : (k : Int) < (n : Int) := by omega
      clear c0 c1 c2 d0 d1 d2
      go_upto_region 6 with fail
      refine wp_region_held_drew (S := fun wx => TwoHt wx b (off + k * 3) b1 (off1 + k * 3) (H k)) (by kernel_rfl) (T.out.drew) (fun hH0 => ?_)
      refine wpAnyH_take (i := 0) (oi := { dst := some 17, op := _, type := _, pos := _, after := _, guard := _ }) (v := ?_) rfl (by kernel_rfl) (by kernel_rfl) (by kernel_rfl) (fun _ _ _ h => h) (Or.inl ⟨by rfl, ?_⟩) (hH0) ?_
      rotate_left
      · (intro wx hSw; obtain ⟨l0, l1, q0, q1, q2, q3, q4, q5⟩ := hSw; go_simp <;> with_reducible rfl)
      simp only [Act.put, List.setIfInBounds_toArray, List.set_cons_zero, List.set_cons_succ]
      refine wpAnyH_take (i := 1) (oi := { dst := some 18, op := _, type := _, pos := _, after := _, guard := _ }) (v := ?_) rfl (by kernel_rfl) (by kernel_rfl) (by kernel_rfl) (fun _ _ _ h => h) (Or.inl ⟨by rfl, ?_⟩) (hH0) ?_
      rotate_left
      · (intro wx hSw; obtain ⟨l0, l1, q0, q1, q2, q3, q4, q5⟩ := hSw; go_simp <;> with_reducible rfl)
      simp only [Act.put, List.setIfInBounds_toArray, List.set_cons_zero, List.set_cons_succ]
      refine wpAnyH_take (i := 2) (oi := { dst := some 19, op := _, type := _, pos := _, after := _, guard := _ }) (v := ?_) rfl (by kernel_rfl) (by kernel_rfl) (by kernel_rfl) (fun _ _ _ h => h) (Or.inl ⟨by rfl, ?_⟩) (hH0) ?_
      rotate_left
      · (intro wx hSw; obtain ⟨l0, l1, q0, q1, q2, q3, q4, q5⟩ := hSw; go_simp <;> with_reducible rfl)
      simp only [Act.put, List.setIfInBounds_toArray, List.set_cons_zero, List.set_cons_succ]
      refine wpAnyH_take (i := 3) (oi := { dst := some 20, op := _, type := _, pos := _, after := _, guard := _ }) (v := ?_) rfl (by kernel_rfl) (by kernel_rfl) (by kernel_rfl) (fun _ _ _ h => h) (Or.inl ⟨by rfl, ?_⟩) (hH0) ?_
      rotate_left
      · (intro wx hSw; obtain ⟨l0, l1, q0, q1, q2, q3, q4, q5⟩ := hSw; go_simp <;> with_reducible rfl)
      simp only [Act.put, List.setIfInBounds_toArray, List.set_cons_zero, List.set_cons_succ]
      refine wpAnyH_take (i := 4) (oi := { dst := some 21, op := _, type := _, pos := _, after := _, guard := _ }) (v := ?_) rfl (by kernel_rfl) (by kernel_rfl) (by kernel_rfl) (fun _ _ _ h => h) (Or.inl ⟨by rfl, ?_⟩) (hH0) ?_
      rotate_left
      · (intro wx hSw; obtain ⟨l0, l1, q0, q1, q2, q3, q4, q5⟩ := hSw; go_simp <;> with_reducible rfl)
      simp only [Act.put, List.setIfInBounds_toArray, List.set_cons_zero, List.set_cons_succ]
      refine wpAnyH_take (i := 5) (oi := { dst := some 22, op := _, type := _, pos := _, after := _, guard := _ }) (v := ?_) rfl (by kernel_rfl) (by kernel_rfl) (by kernel_rfl) (fun _ _ _ h => h) (Or.inl ⟨by rfl, ?_⟩) (hH0) ?_
      rotate_left
      · (intro wx hSw; obtain ⟨l0, l1, q0, q1, q2, q3, q4, q5⟩ := hSw; go_simp <;> with_reducible rfl)
      simp only [Act.put, List.setIfInBounds_toArray, List.set_cons_zero, List.set_cons_succ]
      refine wpAnyH_take (i := 6) (oi := { dst := some 23, op := _, type := _, pos := _, after := _, guard := _ }) (v := ?_) rfl (by kernel_rfl) (by kernel_rfl) (by kernel_rfl) (fun _ _ _ h => h) (Or.inl ⟨by rfl, ?_⟩) (hH0) ?_
      rotate_left
      · (intro wx hSw; obtain ⟨l0, l1, q0, q1, q2, q3, q4, q5⟩ := hSw; go_simp <;> with_reducible rfl)
      simp only [Act.put, List.setIfInBounds_toArray, List.set_cons_zero, List.set_cons_succ]
      refine wpAnyH_take (i := 7) (oi := { dst := some 24, op := _, type := _, pos := _, after := _, guard := _ }) (v := ?_) rfl (by kernel_rfl) (by kernel_rfl) (by kernel_rfl) (fun _ _ _ h => h) (Or.inl ⟨by rfl, ?_⟩) (hH0) ?_
      rotate_left
      · (intro wx hSw; obtain ⟨l0, l1, q0, q1, q2, q3, q4, q5⟩ := hSw; go_simp <;> with_reducible rfl)
      simp only [Act.put, List.setIfInBounds_toArray, List.set_cons_zero, List.set_cons_succ]
      refine wpAnyH_ready (rs := [8]) (by kernel_rfl) (by simp) ?_
      refine AllReadyH.cons (o := { dst := some 25, op := _, type := _, pos := _, after := _, guard := _ }) rfl (fun K hK => ?_) AllReadyH.nil
      go_simp
      refine (R.out _).mono ?_
      rintro e w_c25_1 ⟨rfl, hb_c25_1⟩
      dsimp only
      refine hK.out _ _ (TwoHt.below hH0 hb_c25_1) (fun hH1 => ?_)
      clear hK K
      refine wpAnyH_take (i := 9) (oi := { dst := some 26, op := _, type := _, pos := _, after := _, guard := _ }) (v := ?_) rfl (by kernel_rfl) (by kernel_rfl) (by kernel_rfl) (fun _ _ _ h => h) (Or.inl ⟨by rfl, ?_⟩) (hH1) ?_
      rotate_left
      · (intro wx hSw; obtain ⟨l0, l1, q0, q1, q2, q3, q4, q5⟩ := hSw; go_simp <;> with_reducible rfl)
      simp only [Act.put, List.setIfInBounds_toArray, List.set_cons_zero, List.set_cons_succ]
      refine wpAnyH_done (by kernel_rfl) ?_ _
      -- behind it: go_wp2_with fail, then go_meet (a cut) or go_ret; the condition at the end: hH1
      go_wp2_with fail
      go_roundw
      case rel =>
        have hbel := HB.out
        exact ⟨k + 1, by omega, by go_num, hide (by repeat' first | with_reducible exact Below.refl _ _ | with_reducible assumption | with_reducible refine below_drewN ?_ _ | with_reducible refine balloc ?_ _ | with_reducible refine Below.drew ?_ | with_reducible refine Below.setCell ?_ (by first | (simp; done) | (simp; omega) | omega) _ | with_reducible refine bstep ?_ (by assumption))⟩
      case measure => simp [intOf]; omega
    · go_wp2
      go_ret
      exact ⟨rfl, HB.out⟩

set_option maxHeartbeats 400000 in
theorem eqHits_none (a a1 : Option Addr) (n cap cap1 : Nat) (w : World) (hn : n < 1) :
    Calls Tryd.prog 22 #[.slice a n cap, .slice a1 n cap1] w fun e w' => e = .returned (.bool true) ∧ Below w.heap.size w w' := by
  go_enter Tryd.func22, Tryd.ntmps22
  go_wp2
  refine wp_loop_rounds 1 ?_
  rw [rounds_succ]
  go_wp2
  go_ret
  exact ⟨rfl, (by repeat' first | with_reducible exact Below.refl _ _ | with_reducible assumption | with_reducible refine below_drewN ?_ _ | with_reducible refine balloc ?_ _ | with_reducible refine Below.drew ?_ | with_reducible refine Below.setCell ?_ (by first | (simp; done) | (simp; omega) | omega) _ | with_reducible refine bstep ?_ (by assumption))⟩

theorem eqHits_self (a a1 : Option Addr) (n cap cap1 : Nat) (H : HtL) (w : World) (h : HtR w a n H) (h1 : HtR w a1 n H) (hn : n ≤ 1048576) :
    Calls Tryd.prog 22 #[.slice a n cap, .slice a1 n cap1] w fun e w' => e = .returned (.bool true) ∧ Below w.heap.size w w' := by
  by_cases h0 : n = 0
  · exact eqHits_none a a1 n cap cap1 w (by omega)
  · rcases h.lies with q | ⟨b, off, rfl, lt, hc⟩
    · omega
    · rcases h1.lies with q | ⟨b1, off1, rfl, lt1, hc1⟩
      · omega
      · exact eqHits_some b off n cap b1 off1 cap1 H w hn lt lt1 hc hc1
end Go.Proofs.YtfjhgagpmhedfaaDoor
