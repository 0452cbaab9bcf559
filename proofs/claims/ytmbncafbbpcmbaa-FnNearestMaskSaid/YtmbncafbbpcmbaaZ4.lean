/- Whether an id is right. -/
import Derived.Test.YtmbncafbbpcmbaaZ3
import Derived.Deep.RegionHeld3
import Derived.BigQuiet
import Derived.Deep.QuietTactic
import Derived.Deep.AppendLies
namespace Go.Proofs.Ytmbncafbbpcmbaa
open Go.RowKit
set_option maxRecDepth 8000
set_option linter.unusedSimpArgs false

set_option maxHeartbeats 400000 in
theorem idOk_any (n : Int) (w : World) :
    Calls Try.prog 62 #[.int .i64 n] w fun e w' => e = .returned (.bool (inB n 1 9999)) ∧ w' = w := by
  by_cases h1 : 1 ≤ n <;> by_cases h2 : n ≤ 9999
  all_goals
    simp only [inB, h1, h2, and_true, and_false, decide_true, decide_false]
    go_enter Try.func62, Try.ntmps62
    go_wp2
    go_ret
    exact ⟨rfl, rfl⟩

set_option maxHeartbeats 400000 in
theorem l6Id_any (n : Int) (w : World) :
    Calls Try.prog 49 #[.int .i64 n] w fun e w' => e = .returned (.bool (inB n 1 9999)) ∧ w' = w := by
  go_enter Try.func49, Try.ntmps49
  go_wp2_with (go_at_call 27; refine (l1In_any _ _ _ _).mono ?_; rintro e w' ⟨rfl, rfl⟩)
  go_ret
  exact ⟨rfl, rfl⟩
end Go.Proofs.Ytmbncafbbpcmbaa

/- Whether an item is right: l7Item, l7Dim of the model, fits of the program. -/
namespace Go.Proofs.Ytmbncafbbpcmbaa
open Go.RowKit
set_option maxRecDepth 8000
set_option linter.unusedSimpArgs false
set_option linter.unusedVariables false

set_option maxHeartbeats 400000 in
theorem tagsOk_any (n : Int) (w : World) :
    Calls Try.prog 63 #[.int .i64 n] w fun e w' => e = .returned (.bool (inB n 0 255)) ∧ w' = w := by
  by_cases h1 : 0 ≤ n <;> by_cases h2 : n ≤ 255
  all_goals
    simp only [inB, h1, h2, and_true, and_false, decide_true, decide_false]
    go_enter Try.func63, Try.ntmps63
    go_wp2
    go_ret
    exact ⟨rfl, rfl⟩

set_option maxHeartbeats 400000 in
theorem l7Dim_any (n : Int) (w : World) :
    Calls Try.prog 31 #[.int .i64 n] w fun e w' => e = .returned (.bool (inB n 1 8)) ∧ w' = w := by
  go_enter Try.func31, Try.ntmps31
  go_wp2_with (go_at_call 27; refine (l1In_any _ _ _ _).mono ?_; rintro e w' ⟨rfl, rfl⟩)
  go_ret
  exact ⟨rfl, rfl⟩

/-- An item of a dim. -/
def itemB (dim : Int) (x : It) : Bool := inB x.id 1 9999 && inB x.tags 0 255 && vecOkB x.vec && decide ((x.vec.length : Int) = dim)

set_option maxHeartbeats 1600000 in
theorem l7Item_any (dim : Int) (x : It) (a : Option Addr) (n cap : Nat) (w : World) (h : Row w a n x.vec) (hn : n ≤ 1048576) :
    Calls Try.prog 30 #[.int .i64 dim, .agg #[.int .i64 x.id, .int .i64 x.tags, .slice a n cap]] w fun e w' => e = .returned (.bool (itemB dim x)) ∧ Below w.heap.size w w' := by
  have hl := h.len
  have V := hide (fun w1 (hb : Below w.heap.size w w1) => sVecOk_any a n cap x.vec w1 (h.below hb) hn)
  clear h
  unfold itemB
  rw [hl]
  obtain ⟨x0, x1, xs⟩ := x
  dsimp only at *
  cases h0 : inB x0 1 9999
  · simp only [Bool.and_true, Bool.and_false, Bool.true_and, Bool.false_and]
    go_enter Try.func30, Try.ntmps30
    go_wp2_with fail
    refine (l6Id_any _ _).mono ?_
    rintro e w' ⟨rfl, rfl⟩
    rw [h0]
    go_wp2_with fail
    go_ret
    exact ⟨rfl, (by repeat' first | with_reducible exact Below.refl _ _ | with_reducible assumption | with_reducible refine below_drewN ?_ _ | with_reducible refine balloc ?_ _ | with_reducible refine Below.drew ?_ | with_reducible refine Below.setCell ?_ (by first | (simp; done) | (simp; omega) | omega) _ | with_reducible refine bstep ?_ (by assumption))⟩
  · cases h1 : inB x1 0 255
    · simp only [Bool.and_true, Bool.and_false, Bool.true_and, Bool.false_and]
      go_enter Try.func30, Try.ntmps30
      go_wp2_with fail
      refine (l6Id_any _ _).mono ?_
      rintro e w' ⟨rfl, rfl⟩
      rw [h0]
      go_wp2_with fail
      refine (l1In_any _ _ _ _).mono ?_
      rintro e w' ⟨rfl, rfl⟩
      rw [h1]
      go_wp2_with fail
      go_ret
      exact ⟨rfl, (by repeat' first | with_reducible exact Below.refl _ _ | with_reducible assumption | with_reducible refine below_drewN ?_ _ | with_reducible refine balloc ?_ _ | with_reducible refine Below.drew ?_ | with_reducible refine Below.setCell ?_ (by first | (simp; done) | (simp; omega) | omega) _ | with_reducible refine bstep ?_ (by assumption))⟩
    · cases h2 : vecOkB xs
      · rw [h2] at V
        simp only [Bool.and_true, Bool.and_false, Bool.true_and, Bool.false_and]
        go_enter Try.func30, Try.ntmps30
        go_wp2_with fail
        refine (l6Id_any _ _).mono ?_
        rintro e w' ⟨rfl, rfl⟩
        rw [h0]
        go_wp2_with fail
        refine (l1In_any _ _ _ _).mono ?_
        rintro e w' ⟨rfl, rfl⟩
        rw [h1]
        go_wp2_with fail
        refine (V.out _ (by repeat' first | with_reducible exact Below.refl _ _ | with_reducible assumption | with_reducible refine below_drewN ?_ _ | with_reducible refine balloc ?_ _ | with_reducible refine Below.drew ?_ | with_reducible refine Below.setCell ?_ (by first | (simp; done) | (simp; omega) | omega) _ | with_reducible refine bstep ?_ (by assumption))).mono ?_
        rintro e w' ⟨rfl, rfl⟩
        go_wp2_with fail
        go_ret
        exact ⟨rfl, (by repeat' first | with_reducible exact Below.refl _ _ | with_reducible assumption | with_reducible refine below_drewN ?_ _ | with_reducible refine balloc ?_ _ | with_reducible refine Below.drew ?_ | with_reducible refine Below.setCell ?_ (by first | (simp; done) | (simp; omega) | omega) _ | with_reducible refine bstep ?_ (by assumption))⟩
      · rw [h2] at V
        simp only [Bool.and_true, Bool.and_false, Bool.true_and, Bool.false_and]
        obtain ⟨u, hu⟩ : ∃ u, decide ((n : Int) = dim) = u := ⟨_, rfl⟩
        have hu1 : ((n : Int) == dim) = u := by rw [← hu]; rfl
        rw [hu]
        clear hu
        go_enter Try.func30, Try.ntmps30
        go_wp2_with fail
        refine (l6Id_any _ _).mono ?_
        rintro e w' ⟨rfl, rfl⟩
        rw [h0]
        go_wp2_with fail
        refine (l1In_any _ _ _ _).mono ?_
        rintro e w' ⟨rfl, rfl⟩
        rw [h1]
        go_wp2_with fail
        refine (V.out _ (by repeat' first | with_reducible exact Below.refl _ _ | with_reducible assumption | with_reducible refine below_drewN ?_ _ | with_reducible refine balloc ?_ _ | with_reducible refine Below.drew ?_ | with_reducible refine Below.setCell ?_ (by first | (simp; done) | (simp; omega) | omega) _ | with_reducible refine bstep ?_ (by assumption))).mono ?_
        rintro e w' ⟨rfl, rfl⟩
        go_wp2_with fail
        go_ret
        exact ⟨rfl, (by repeat' first | with_reducible exact Below.refl _ _ | with_reducible assumption | with_reducible refine below_drewN ?_ _ | with_reducible refine balloc ?_ _ | with_reducible refine Below.drew ?_ | with_reducible refine Below.setCell ?_ (by first | (simp; done) | (simp; omega) | omega) _ | with_reducible refine bstep ?_ (by assumption))⟩

set_option maxHeartbeats 1600000 in
theorem fits_any (dim : Int) (x : It) (a : Option Addr) (n cap : Nat) (w : World) (h : Row w a n x.vec) (hn : n ≤ 1048576) :
    Calls Try.prog 53 #[.agg #[.int .i64 x.id, .int .i64 x.tags, .slice a n cap], .int .i64 dim] w fun e w' => e = .returned (.bool (itemB dim x)) ∧ Below w.heap.size w w' := by
  have hl := h.len
  have V := hide (fun w1 (hb : Below w.heap.size w w1) => iVecOk_any a n cap x.vec w1 (h.below hb) hn)
  clear h
  unfold itemB
  rw [hl]
  obtain ⟨x0, x1, xs⟩ := x
  dsimp only at *
  cases h0 : inB x0 1 9999
  · simp only [Bool.and_true, Bool.and_false, Bool.true_and, Bool.false_and]
    go_enter Try.func53, Try.ntmps53
    go_wp2_with fail
    refine (idOk_any _ _).mono ?_
    rintro e w' ⟨rfl, rfl⟩
    rw [h0]
    go_wp2_with fail
    go_ret
    exact ⟨rfl, (by repeat' first | with_reducible exact Below.refl _ _ | with_reducible assumption | with_reducible refine below_drewN ?_ _ | with_reducible refine balloc ?_ _ | with_reducible refine Below.drew ?_ | with_reducible refine Below.setCell ?_ (by first | (simp; done) | (simp; omega) | omega) _ | with_reducible refine bstep ?_ (by assumption))⟩
  · cases h1 : inB x1 0 255
    · simp only [Bool.and_true, Bool.and_false, Bool.true_and, Bool.false_and]
      go_enter Try.func53, Try.ntmps53
      go_wp2_with fail
      refine (idOk_any _ _).mono ?_
      rintro e w' ⟨rfl, rfl⟩
      rw [h0]
      go_wp2_with fail
      refine (tagsOk_any _ _).mono ?_
      rintro e w' ⟨rfl, rfl⟩
      rw [h1]
      go_wp2_with fail
      go_ret
      exact ⟨rfl, (by repeat' first | with_reducible exact Below.refl _ _ | with_reducible assumption | with_reducible refine below_drewN ?_ _ | with_reducible refine balloc ?_ _ | with_reducible refine Below.drew ?_ | with_reducible refine Below.setCell ?_ (by first | (simp; done) | (simp; omega) | omega) _ | with_reducible refine bstep ?_ (by assumption))⟩
    · cases h2 : vecOkB xs
      · rw [h2] at V
        simp only [Bool.and_true, Bool.and_false, Bool.true_and, Bool.false_and]
        go_enter Try.func53, Try.ntmps53
        go_wp2_with fail
        refine (idOk_any _ _).mono ?_
        rintro e w' ⟨rfl, rfl⟩
        rw [h0]
        go_wp2_with fail
        refine (tagsOk_any _ _).mono ?_
        rintro e w' ⟨rfl, rfl⟩
        rw [h1]
        go_wp2_with fail
        refine (V.out _ (by repeat' first | with_reducible exact Below.refl _ _ | with_reducible assumption | with_reducible refine below_drewN ?_ _ | with_reducible refine balloc ?_ _ | with_reducible refine Below.drew ?_ | with_reducible refine Below.setCell ?_ (by first | (simp; done) | (simp; omega) | omega) _ | with_reducible refine bstep ?_ (by assumption))).mono ?_
        rintro e w1 ⟨rfl, hb1⟩
        go_wp2_with fail
        go_ret
        exact ⟨rfl, (by repeat' first | with_reducible exact Below.refl _ _ | with_reducible assumption | with_reducible refine below_drewN ?_ _ | with_reducible refine balloc ?_ _ | with_reducible refine Below.drew ?_ | with_reducible refine Below.setCell ?_ (by first | (simp; done) | (simp; omega) | omega) _ | with_reducible refine bstep ?_ (by assumption))⟩
      · rw [h2] at V
        simp only [Bool.and_true, Bool.and_false, Bool.true_and, Bool.false_and]
        obtain ⟨u, hu⟩ : ∃ u, decide ((n : Int) = dim) = u := ⟨_, rfl⟩
        have hu1 : ((n : Int) == dim) = u := by rw [← hu]; rfl
        rw [hu]
        clear hu
        go_enter Try.func53, Try.ntmps53
        go_wp2_with fail
        refine (idOk_any _ _).mono ?_
        rintro e w' ⟨rfl, rfl⟩
        rw [h0]
        go_wp2_with fail
        refine (tagsOk_any _ _).mono ?_
        rintro e w' ⟨rfl, rfl⟩
        rw [h1]
        go_wp2_with fail
        refine (V.out _ (by repeat' first | with_reducible exact Below.refl _ _ | with_reducible assumption | with_reducible refine below_drewN ?_ _ | with_reducible refine balloc ?_ _ | with_reducible refine Below.drew ?_ | with_reducible refine Below.setCell ?_ (by first | (simp; done) | (simp; omega) | omega) _ | with_reducible refine bstep ?_ (by assumption))).mono ?_
        rintro e w1 ⟨rfl, hb1⟩
        obtain ⟨q0, q1, q2, q3, _⟩ := (Tri.new w (.int .i64 x0) (.int .i64 x1) (.slice a n cap) 55).below hb1
        go_wp2_with fail
        go_ret
        exact ⟨rfl, (by repeat' first | with_reducible exact Below.refl _ _ | with_reducible assumption | with_reducible refine below_drewN ?_ _ | with_reducible refine balloc ?_ _ | with_reducible refine Below.drew ?_ | with_reducible refine Below.setCell ?_ (by first | (simp; done) | (simp; omega) | omega) _ | with_reducible refine bstep ?_ (by assumption))⟩
end Go.Proofs.Ytmbncafbbpcmbaa

/- ItemsOk of the model and of the program. -/
namespace Go.Proofs.Ytmbncafbbpcmbaa
open Go.RowKit
set_option maxRecDepth 8000
set_option linter.unusedSimpArgs false
set_option linter.unusedVariables false

def okI (dim : Int) (L : IL) (k : Nat) : Bool := itemB dim (L k) && (decide (k = 0) || !decide ((L k).id ≤ (L (k - 1)).id))
def itemsB (dim : Int) (n : Nat) (L : IL) : Bool := inB dim 1 8 && decide (n ≤ 60) && allN n (okI dim L)

/-- What a look at one item reads: its cells, and the id of the one ahead. -/
structure IV (w : World) (b o o1 : Nat) (x : It) (y : Int) (a : Option Addr) (n c : Nat) : Prop where
  l : b < w.heap.size
  r : Row w a n x.vec
  c0 : w.cell? ⟨b, o, none⟩ = some (.int .i64 x.id)
  c1 : w.cell? ⟨b, o + 1, none⟩ = some (.int .i64 x.tags)
  c2 : w.cell? ⟨b, o + 2, none⟩ = some (.slice a n c)
  d0 : w.cell? ⟨b, o1, none⟩ = some (.int .i64 y)
theorem IV.below {w w' : World} {b o o1 : Nat} {x : It} {y : Int} {a : Option Addr} {n c : Nat} (h : IV w b o o1 x y a n c) (hb : Below w.heap.size w w') : IV w' b o o1 x y a n c :=
  ⟨Nat.lt_of_lt_of_le h.l hb.size, h.r.below hb, (hb.cell (p := ⟨b, o, none⟩) h.l).trans h.c0, (hb.cell (p := ⟨b, o + 1, none⟩) h.l).trans h.c1, (hb.cell (p := ⟨b, o + 2, none⟩) h.l).trans h.c2, (hb.cell (p := ⟨b, o1, none⟩) h.l).trans h.d0⟩
theorem IV.drew {w : World} {b o o1 : Nat} {x : It} {y : Int} {a : Option Addr} {n c : Nat} (h : IV w b o o1 x y a n c) : IV w.drew b o o1 x y a n c :=
  ⟨h.l, ⟨h.r.len, h.r.lies⟩, h.c0, h.c1, h.c2, h.d0⟩

theorem okI_no1 {dim : Int} {L : IL} {k : Nat} (h : itemB dim (L k) = false) : okI dim L k = false := by unfold okI; rw [h]; rfl
theorem okI_0 {dim : Int} {L : IL} (h : itemB dim (L 0) = true) : okI dim L 0 = true := by unfold okI; rw [h]; rfl
theorem okI_s {dim : Int} {L : IL} {p : Nat} {d : Bool} (h : itemB dim (L (p + 1)) = true) (hd : decide ((L (p + 1)).id ≤ (L p).id) = d) : okI dim L (p + 1) = !d := by
  unfold okI
  rw [h, decide_eq_false (by omega), Nat.add_sub_cancel, hd]
  rfl

set_option maxRecDepth 4000 in
set_option maxHeartbeats 4000000 in
theorem sItemsOk_some (dim : Int) (b off n cap : Nat) (L : IL) (w : World) (hn : n ≤ 1048576) (hv : ∀ i, i < n → (L i).vec.length ≤ 1048576) (hb : b < w.heap.size) (hc : ∀ i, i < n → IAt w b (off + i * 3) (L i)) :
    Calls Try.prog 10 #[.int .i64 dim, .slice (some ⟨b, off, none⟩) n cap] w fun e w' => e = .returned (.bool (itemsB dim n L)) ∧ Below w.heap.size w w' := by
  have HC := hide hc
  have HV := hide hv
  clear hc hv
  go_enter Try.func10, Try.ntmps10
  go_wp2_with fail
  go_loopw [5] (fun i wr => ∃ k : Nat, k ≤ n ∧ i = .int .i64 k ∧ (∀ j, j < k → okI dim L j = true) ∧ Below w.heap.size w wr) (fun i _ => n - (intOf i).toNat)
  case atStart => exact ⟨0, Nat.zero_le _, rfl, fun j h => absurd h (by omega), (by repeat' first | with_reducible exact Below.refl _ _ | with_reducible assumption | with_reducible refine below_drewN ?_ _ | with_reducible refine balloc ?_ _ | with_reducible refine Below.drew ?_ | with_reducible refine Below.setCell ?_ (by first | (simp; done) | (simp; omega) | omega) _ | with_reducible refine bstep ?_ (by assumption))⟩
  case round =>
    obtain ⟨k, hk, rfl, hpre, hbel⟩ := hrel
    have HP := hide hpre
    have HB := hide hbel
    by_cases hlt : k < n
    · obtain ⟨c0, c1, va, vn, vc, c2, vr⟩ := (HC.out k hlt).below hb hbel
      have R := hide (fun w1 {y : Int} {o1 : Nat} (t : IV w1 b (off + k * 3) o1 (L k) y va vn vc) => l7Item_any dim (L k) va vn vc w1 t.r (by rw [← vr.len]; exact HV.out k hlt))
      have hlt' : (k : Int) < (n : Int) := by omega
      have hl1 : b < wr.heap.size := Nat.lt_of_lt_of_le hb hbel.size
      cases hit : itemB dim (L k)
      · have hno : itemsB dim n L = false := by unfold itemsB; rw [allN_no hlt (okI_no1 hit), Bool.and_false]
        have HN := hide hno
        have T := hide (IV.mk (o1 := off + k * 3) hl1 vr c0 c1 c2 c0)
        simp only [hit] at R
        clear hbel hpre vr c0 c1 c2 hno hit
        go_upto_region 6 with fail
        refine wp_region_held_drew (S := fun wx => IV wx b (off + k * 3) (off + k * 3) (L k) (L k).id va vn vc) (by kernel_rfl) (T.out.drew) (fun hH0 => ?_)
        refine wpAnyH_take (i := 0) (oi := { dst := some 12, op := _, type := _, pos := _, after := _, guard := _ }) (v := ?_) rfl (by kernel_rfl) (by kernel_rfl) (by kernel_rfl) (fun _ _ _ h => h) (Or.inl ⟨by rfl, ?_⟩) (hH0) ?_
        rotate_left
        · (intro wx hSw; obtain ⟨l0, r0, q0, q1, q2, q3⟩ := hSw; go_simp <;> with_reducible rfl)
        simp only [Act.put, List.setIfInBounds_toArray, List.set_cons_zero, List.set_cons_succ]
        refine wpAnyH_take (i := 1) (oi := { dst := some 13, op := _, type := _, pos := _, after := _, guard := _ }) (v := ?_) rfl (by kernel_rfl) (by kernel_rfl) (by kernel_rfl) (fun _ _ _ h => h) (Or.inl ⟨by rfl, ?_⟩) (hH0) ?_
        rotate_left
        · (intro wx hSw; obtain ⟨l0, r0, q0, q1, q2, q3⟩ := hSw; go_simp <;> with_reducible rfl)
        simp only [Act.put, List.setIfInBounds_toArray, List.set_cons_zero, List.set_cons_succ]
        refine wpAnyH_take (i := 2) (oi := { dst := some 14, op := _, type := _, pos := _, after := _, guard := _ }) (v := ?_) rfl (by kernel_rfl) (by kernel_rfl) (by kernel_rfl) (fun _ _ _ h => h) (Or.inl ⟨by rfl, ?_⟩) (hH0) ?_
        rotate_left
        · (intro wx hSw; obtain ⟨l0, r0, q0, q1, q2, q3⟩ := hSw; go_simp <;> with_reducible rfl)
        simp only [Act.put, List.setIfInBounds_toArray, List.set_cons_zero, List.set_cons_succ]
        refine wpAnyH_take (i := 3) (oi := { dst := some 15, op := _, type := _, pos := _, after := _, guard := _ }) (v := ?_) rfl (by kernel_rfl) (by kernel_rfl) (by kernel_rfl) (fun _ _ _ h => h) (Or.inl ⟨by rfl, ?_⟩) (hH0) ?_
        rotate_left
        · (intro wx hSw; obtain ⟨l0, r0, q0, q1, q2, q3⟩ := hSw; go_simp <;> with_reducible rfl)
        simp only [Act.put, List.setIfInBounds_toArray, List.set_cons_zero, List.set_cons_succ]
        refine wpAnyH_take (i := 4) (oi := { dst := some 16, op := _, type := _, pos := _, after := _, guard := _ }) (v := ?_) rfl (by kernel_rfl) (by kernel_rfl) (by kernel_rfl) (fun _ _ _ h => h) (Or.inl ⟨by rfl, ?_⟩) (hH0) ?_
        rotate_left
        · (intro wx hSw; obtain ⟨l0, r0, q0, q1, q2, q3⟩ := hSw; go_simp <;> with_reducible rfl)
        simp only [Act.put, List.setIfInBounds_toArray, List.set_cons_zero, List.set_cons_succ]
        refine wpAnyH_ready (rs := [5]) (by kernel_rfl) (by simp) ?_
        refine AllReadyH.cons (o := { dst := some 17, op := _, type := _, pos := _, after := _, guard := _ }) rfl (fun K hK => ?_) AllReadyH.nil
        go_simp
        refine (R.out _ hH0).mono ?_
        rintro e w_c17_1 ⟨rfl, hb_c17_1⟩
        dsimp only
        refine hK.out _ _ (IV.below hH0 hb_c17_1) (fun hH1 => ?_)
        clear hK K
        refine wpAnyH_take (i := 6) (oi := { dst := some 18, op := _, type := _, pos := _, after := _, guard := _ }) (v := ?_) rfl (by kernel_rfl) (by kernel_rfl) (by kernel_rfl) (fun _ _ _ h => h) (Or.inl ⟨by rfl, ?_⟩) (hH1) ?_
        rotate_left
        · (intro wx hSw; obtain ⟨l0, r0, q0, q1, q2, q3⟩ := hSw; go_simp <;> with_reducible rfl)
        simp only [Act.put, List.setIfInBounds_toArray, List.set_cons_zero, List.set_cons_succ]
        refine wpAnyH_take (i := 7) (oi := { dst := some 19, op := _, type := _, pos := _, after := _, guard := _ }) (v := ?_) rfl (by kernel_rfl) (by kernel_rfl) (by kernel_rfl) (fun _ _ _ h => h) (Or.inl ⟨by rfl, ?_⟩) (hH1) ?_
        rotate_left
        · (intro wx hSw; obtain ⟨l0, r0, q0, q1, q2, q3⟩ := hSw; go_simp <;> with_reducible rfl)
        simp only [Act.put, List.setIfInBounds_toArray, List.set_cons_zero, List.set_cons_succ]
        refine wpAnyH_take (i := 8) (oi := { dst := some 20, op := _, type := _, pos := _, after := _, guard := _ }) (v := _) rfl (by kernel_rfl) (by kernel_rfl) (by kernel_rfl) (fun _ _ _ h => h) (Or.inr ⟨by rfl, rfl⟩) (hH1) ?_
        simp only [Act.put, List.setIfInBounds_toArray, List.set_cons_zero, List.set_cons_succ]
        refine wpAnyH_take (i := 9) (oi := { dst := some 21, op := _, type := _, pos := _, after := _, guard := _ }) (v := _) rfl (by kernel_rfl) (by kernel_rfl) (by kernel_rfl) (fun _ _ _ h => h) (Or.inr ⟨by rfl, rfl⟩) (hH1) ?_
        simp only [Act.put, List.setIfInBounds_toArray, List.set_cons_zero, List.set_cons_succ]
        refine wpAnyH_take (i := 10) (oi := { dst := some 22, op := _, type := _, pos := _, after := _, guard := _ }) (v := _) rfl (by kernel_rfl) (by kernel_rfl) (by kernel_rfl) (fun _ _ _ h => h) (Or.inr ⟨by rfl, rfl⟩) (hH1) ?_
        simp only [Act.put, List.setIfInBounds_toArray, List.set_cons_zero, List.set_cons_succ]
        refine wpAnyH_take (i := 11) (oi := { dst := some 23, op := _, type := _, pos := _, after := _, guard := _ }) (v := _) rfl (by kernel_rfl) (by kernel_rfl) (by kernel_rfl) (fun _ _ _ h => h) (Or.inr ⟨by rfl, rfl⟩) (hH1) ?_
        simp only [Act.put, List.setIfInBounds_toArray, List.set_cons_zero, List.set_cons_succ]
        refine wpAnyH_take (i := 12) (oi := { dst := some 24, op := _, type := _, pos := _, after := _, guard := _ }) (v := _) rfl (by kernel_rfl) (by kernel_rfl) (by kernel_rfl) (fun _ _ _ h => h) (Or.inr ⟨by rfl, rfl⟩) (hH1) ?_
        simp only [Act.put, List.setIfInBounds_toArray, List.set_cons_zero, List.set_cons_succ]
        refine wpAnyH_take (i := 13) (oi := { dst := some 25, op := _, type := _, pos := _, after := _, guard := _ }) (v := _) rfl (by kernel_rfl) (by kernel_rfl) (by kernel_rfl) (fun _ _ _ h => h) (Or.inr ⟨by rfl, rfl⟩) (hH1) ?_
        simp only [Act.put, List.setIfInBounds_toArray, List.set_cons_zero, List.set_cons_succ]
        refine wpAnyH_take (i := 14) (oi := { dst := some 26, op := _, type := _, pos := _, after := _, guard := _ }) (v := _) rfl (by kernel_rfl) (by kernel_rfl) (by kernel_rfl) (fun _ _ _ h => h) (Or.inr ⟨by rfl, rfl⟩) (hH1) ?_
        simp only [Act.put, List.setIfInBounds_toArray, List.set_cons_zero, List.set_cons_succ]
        refine wpAnyH_take (i := 15) (oi := { dst := some 27, op := _, type := _, pos := _, after := _, guard := _ }) (v := _) rfl (by kernel_rfl) (by kernel_rfl) (by kernel_rfl) (fun _ _ _ h => h) (Or.inr ⟨by rfl, rfl⟩) (hH1) ?_
        simp only [Act.put, List.setIfInBounds_toArray, List.set_cons_zero, List.set_cons_succ]
        refine wpAnyH_take (i := 16) (oi := { dst := some 28, op := _, type := _, pos := _, after := _, guard := _ }) (v := _) rfl (by kernel_rfl) (by kernel_rfl) (by kernel_rfl) (fun _ _ _ h => h) (Or.inr ⟨by rfl, rfl⟩) (hH1) ?_
        simp only [Act.put, List.setIfInBounds_toArray, List.set_cons_zero, List.set_cons_succ]
        refine wpAnyH_take (i := 17) (oi := { dst := some 29, op := _, type := _, pos := _, after := _, guard := _ }) (v := _) rfl (by kernel_rfl) (by kernel_rfl) (by kernel_rfl) (fun _ _ _ h => h) (Or.inr ⟨by rfl, rfl⟩) (hH1) ?_
        simp only [Act.put, List.setIfInBounds_toArray, List.set_cons_zero, List.set_cons_succ]
        refine wpAnyH_take (i := 18) (oi := { dst := some 30, op := _, type := _, pos := _, after := _, guard := _ }) (v := _) rfl (by kernel_rfl) (by kernel_rfl) (by kernel_rfl) (fun _ _ _ h => h) (Or.inr ⟨by rfl, rfl⟩) (hH1) ?_
        simp only [Act.put, List.setIfInBounds_toArray, List.set_cons_zero, List.set_cons_succ]
        refine wpAnyH_take (i := 19) (oi := { dst := some 31, op := _, type := _, pos := _, after := _, guard := _ }) (v := _) rfl (by kernel_rfl) (by kernel_rfl) (by kernel_rfl) (fun _ _ _ h => h) (Or.inr ⟨by rfl, rfl⟩) (hH1) ?_
        simp only [Act.put, List.setIfInBounds_toArray, List.set_cons_zero, List.set_cons_succ]
        refine wpAnyH_take (i := 20) (oi := { dst := some 32, op := _, type := _, pos := _, after := _, guard := _ }) (v := _) rfl (by kernel_rfl) (by kernel_rfl) (by kernel_rfl) (fun _ _ _ h => h) (Or.inr ⟨by rfl, rfl⟩) (hH1) ?_
        simp only [Act.put, List.setIfInBounds_toArray, List.set_cons_zero, List.set_cons_succ]
        refine wpAnyH_take (i := 21) (oi := { dst := some 33, op := _, type := _, pos := _, after := _, guard := _ }) (v := _) rfl (by kernel_rfl) (by kernel_rfl) (by kernel_rfl) (fun _ _ _ h => h) (Or.inr ⟨by rfl, rfl⟩) (hH1) ?_
        simp only [Act.put, List.setIfInBounds_toArray, List.set_cons_zero, List.set_cons_succ]
        refine wpAnyH_take (i := 22) (oi := { dst := some 34, op := _, type := _, pos := _, after := _, guard := _ }) (v := _) rfl (by kernel_rfl) (by kernel_rfl) (by kernel_rfl) (fun _ _ _ h => h) (Or.inr ⟨by rfl, rfl⟩) (hH1) ?_
        simp only [Act.put, List.setIfInBounds_toArray, List.set_cons_zero, List.set_cons_succ]
        refine wpAnyH_take (i := 23) (oi := { dst := some 35, op := _, type := _, pos := _, after := _, guard := _ }) (v := _) rfl (by kernel_rfl) (by kernel_rfl) (by kernel_rfl) (fun _ _ _ h => h) (Or.inr ⟨by rfl, rfl⟩) (hH1) ?_
        simp only [Act.put, List.setIfInBounds_toArray, List.set_cons_zero, List.set_cons_succ]
        refine wpAnyH_take (i := 24) (oi := { dst := some 36, op := _, type := _, pos := _, after := _, guard := _ }) (v := ?_) rfl (by kernel_rfl) (by kernel_rfl) (by kernel_rfl) (fun _ _ _ h => h) (Or.inl ⟨by rfl, ?_⟩) (hH1) ?_
        rotate_left
        · (intro wx hSw; obtain ⟨l0, r0, q0, q1, q2, q3⟩ := hSw; go_simp <;> with_reducible rfl)
        simp only [Act.put, List.setIfInBounds_toArray, List.set_cons_zero, List.set_cons_succ]
        refine wpAnyH_done (by kernel_rfl) ?_ _
        -- behind it: go_wp2_with fail, then go_meet (a cut) or go_ret; the condition at the end: hH1
        go_wp2_with fail
        go_ret
        have hbel := HB.out
        exact ⟨by rw [HN.out]; rfl, (by repeat' first | with_reducible exact Below.refl _ _ | with_reducible assumption | with_reducible refine below_drewN ?_ _ | with_reducible refine balloc ?_ _ | with_reducible refine Below.drew ?_ | with_reducible refine Below.setCell ?_ (by first | (simp; done) | (simp; omega) | omega) _ | with_reducible refine bstep ?_ (by assumption))⟩
      · simp only [hit] at R
        by_cases hk0 : k = 0
        · have HK := hide (show okI dim L k = true by rw [hk0] at hit ⊢; exact okI_0 hit)
          have T := hide (IV.mk (o1 := off + k * 3) hl1 vr c0 c1 c2 c0)
          have hz : decide (0 < k) = false := decide_eq_false (by omega)
          have HK0 := hide hk0
          clear hbel hpre vr c0 c1 c2 hit hk0
          go_upto_region 6 with fail
          refine wp_region_held_drew (S := fun wx => IV wx b (off + k * 3) (off + k * 3) (L k) (L k).id va vn vc) (by kernel_rfl) (T.out.drew) (fun hH0 => ?_)
          refine wpAnyH_take (i := 0) (oi := { dst := some 12, op := _, type := _, pos := _, after := _, guard := _ }) (v := ?_) rfl (by kernel_rfl) (by kernel_rfl) (by kernel_rfl) (fun _ _ _ h => h) (Or.inl ⟨by rfl, ?_⟩) (hH0) ?_
          rotate_left
          · (intro wx hSw; obtain ⟨l0, r0, q0, q1, q2, q3⟩ := hSw; go_simp <;> with_reducible rfl)
          simp only [Act.put, List.setIfInBounds_toArray, List.set_cons_zero, List.set_cons_succ]
          refine wpAnyH_take (i := 1) (oi := { dst := some 13, op := _, type := _, pos := _, after := _, guard := _ }) (v := ?_) rfl (by kernel_rfl) (by kernel_rfl) (by kernel_rfl) (fun _ _ _ h => h) (Or.inl ⟨by rfl, ?_⟩) (hH0) ?_
          rotate_left
          · (intro wx hSw; obtain ⟨l0, r0, q0, q1, q2, q3⟩ := hSw; go_simp <;> with_reducible rfl)
          simp only [Act.put, List.setIfInBounds_toArray, List.set_cons_zero, List.set_cons_succ]
          refine wpAnyH_take (i := 2) (oi := { dst := some 14, op := _, type := _, pos := _, after := _, guard := _ }) (v := ?_) rfl (by kernel_rfl) (by kernel_rfl) (by kernel_rfl) (fun _ _ _ h => h) (Or.inl ⟨by rfl, ?_⟩) (hH0) ?_
          rotate_left
          · (intro wx hSw; obtain ⟨l0, r0, q0, q1, q2, q3⟩ := hSw; go_simp <;> with_reducible rfl)
          simp only [Act.put, List.setIfInBounds_toArray, List.set_cons_zero, List.set_cons_succ]
          refine wpAnyH_take (i := 3) (oi := { dst := some 15, op := _, type := _, pos := _, after := _, guard := _ }) (v := ?_) rfl (by kernel_rfl) (by kernel_rfl) (by kernel_rfl) (fun _ _ _ h => h) (Or.inl ⟨by rfl, ?_⟩) (hH0) ?_
          rotate_left
          · (intro wx hSw; obtain ⟨l0, r0, q0, q1, q2, q3⟩ := hSw; go_simp <;> with_reducible rfl)
          simp only [Act.put, List.setIfInBounds_toArray, List.set_cons_zero, List.set_cons_succ]
          refine wpAnyH_take (i := 4) (oi := { dst := some 16, op := _, type := _, pos := _, after := _, guard := _ }) (v := ?_) rfl (by kernel_rfl) (by kernel_rfl) (by kernel_rfl) (fun _ _ _ h => h) (Or.inl ⟨by rfl, ?_⟩) (hH0) ?_
          rotate_left
          · (intro wx hSw; obtain ⟨l0, r0, q0, q1, q2, q3⟩ := hSw; go_simp <;> with_reducible rfl)
          simp only [Act.put, List.setIfInBounds_toArray, List.set_cons_zero, List.set_cons_succ]
          refine wpAnyH_ready (rs := [5]) (by kernel_rfl) (by simp) ?_
          refine AllReadyH.cons (o := { dst := some 17, op := _, type := _, pos := _, after := _, guard := _ }) rfl (fun K hK => ?_) AllReadyH.nil
          go_simp
          refine (R.out _ hH0).mono ?_
          rintro e w_c17_1 ⟨rfl, hb_c17_1⟩
          dsimp only
          refine hK.out _ _ (IV.below hH0 hb_c17_1) (fun hH1 => ?_)
          clear hK K
          refine wpAnyH_take (i := 6) (oi := { dst := some 18, op := _, type := _, pos := _, after := _, guard := _ }) (v := ?_) rfl (by kernel_rfl) (by kernel_rfl) (by kernel_rfl) (fun _ _ _ h => h) (Or.inl ⟨by rfl, ?_⟩) (hH1) ?_
          rotate_left
          · (intro wx hSw; obtain ⟨l0, r0, q0, q1, q2, q3⟩ := hSw; go_simp <;> with_reducible rfl)
          simp only [Act.put, List.setIfInBounds_toArray, List.set_cons_zero, List.set_cons_succ]
          refine wpAnyH_take (i := 7) (oi := { dst := some 19, op := _, type := _, pos := _, after := _, guard := _ }) (v := ?_) rfl (by kernel_rfl) (by kernel_rfl) (by kernel_rfl) (fun _ _ _ h => h) (Or.inl ⟨by rfl, ?_⟩) (hH1) ?_
          rotate_left
          · (intro wx hSw; obtain ⟨l0, r0, q0, q1, q2, q3⟩ := hSw; go_simp <;> with_reducible rfl)
          simp only [Act.put, List.setIfInBounds_toArray, List.set_cons_zero, List.set_cons_succ]
          refine wpAnyH_take (i := 8) (oi := { dst := some 20, op := _, type := _, pos := _, after := _, guard := _ }) (v := ?_) rfl (by kernel_rfl) (by kernel_rfl) (by kernel_rfl) (fun _ _ _ h => h) (Or.inl ⟨by rfl, ?_⟩) (hH1) ?_
          rotate_left
          · (intro wx hSw; obtain ⟨l0, r0, q0, q1, q2, q3⟩ := hSw; go_simp <;> with_reducible rfl)
          simp only [Act.put, List.setIfInBounds_toArray, List.set_cons_zero, List.set_cons_succ]
          refine wpAnyH_take (i := 9) (oi := { dst := some 21, op := _, type := _, pos := _, after := _, guard := _ }) (v := ?_) rfl (by kernel_rfl) (by kernel_rfl) (by kernel_rfl) (fun _ _ _ h => h) (Or.inl ⟨by rfl, ?_⟩) (hH1) ?_
          rotate_left
          · (intro wx hSw; obtain ⟨l0, r0, q0, q1, q2, q3⟩ := hSw; go_simp <;> with_reducible rfl)
          simp only [Act.put, List.setIfInBounds_toArray, List.set_cons_zero, List.set_cons_succ]
          refine wpAnyH_take (i := 10) (oi := { dst := some 22, op := _, type := _, pos := _, after := _, guard := _ }) (v := ?_) rfl (by kernel_rfl) (by kernel_rfl) (by kernel_rfl) (fun _ _ _ h => h) (Or.inl ⟨by rfl, ?_⟩) (hH1) ?_
          rotate_left
          · (intro wx hSw; obtain ⟨l0, r0, q0, q1, q2, q3⟩ := hSw; go_simp <;> with_reducible rfl)
          simp only [Act.put, List.setIfInBounds_toArray, List.set_cons_zero, List.set_cons_succ]
          refine wpAnyH_take (i := 11) (oi := { dst := some 23, op := _, type := _, pos := _, after := _, guard := _ }) (v := _) rfl (by kernel_rfl) (by kernel_rfl) (by kernel_rfl) (fun _ _ _ h => h) (Or.inr ⟨by rfl, rfl⟩) (hH1) ?_
          simp only [Act.put, List.setIfInBounds_toArray, List.set_cons_zero, List.set_cons_succ]
          refine wpAnyH_take (i := 12) (oi := { dst := some 24, op := _, type := _, pos := _, after := _, guard := _ }) (v := _) rfl (by kernel_rfl) (by kernel_rfl) (by kernel_rfl) (fun _ _ _ h => h) (Or.inr ⟨by rfl, rfl⟩) (hH1) ?_
          simp only [Act.put, List.setIfInBounds_toArray, List.set_cons_zero, List.set_cons_succ]
          refine wpAnyH_take (i := 13) (oi := { dst := some 25, op := _, type := _, pos := _, after := _, guard := _ }) (v := _) rfl (by kernel_rfl) (by kernel_rfl) (by kernel_rfl) (fun _ _ _ h => h) (Or.inr ⟨by rfl, rfl⟩) (hH1) ?_
          simp only [Act.put, List.setIfInBounds_toArray, List.set_cons_zero, List.set_cons_succ]
          refine wpAnyH_take (i := 14) (oi := { dst := some 26, op := _, type := _, pos := _, after := _, guard := _ }) (v := _) rfl (by kernel_rfl) (by kernel_rfl) (by kernel_rfl) (fun _ _ _ h => h) (Or.inr ⟨by rfl, rfl⟩) (hH1) ?_
          simp only [Act.put, List.setIfInBounds_toArray, List.set_cons_zero, List.set_cons_succ]
          refine wpAnyH_take (i := 15) (oi := { dst := some 27, op := _, type := _, pos := _, after := _, guard := _ }) (v := _) rfl (by kernel_rfl) (by kernel_rfl) (by kernel_rfl) (fun _ _ _ h => h) (Or.inr ⟨by rfl, rfl⟩) (hH1) ?_
          simp only [Act.put, List.setIfInBounds_toArray, List.set_cons_zero, List.set_cons_succ]
          refine wpAnyH_take (i := 16) (oi := { dst := some 28, op := _, type := _, pos := _, after := _, guard := _ }) (v := _) rfl (by kernel_rfl) (by kernel_rfl) (by kernel_rfl) (fun _ _ _ h => h) (Or.inr ⟨by rfl, rfl⟩) (hH1) ?_
          simp only [Act.put, List.setIfInBounds_toArray, List.set_cons_zero, List.set_cons_succ]
          refine wpAnyH_take (i := 17) (oi := { dst := some 29, op := _, type := _, pos := _, after := _, guard := _ }) (v := _) rfl (by kernel_rfl) (by kernel_rfl) (by kernel_rfl) (fun _ _ _ h => h) (Or.inr ⟨by rfl, rfl⟩) (hH1) ?_
          simp only [Act.put, List.setIfInBounds_toArray, List.set_cons_zero, List.set_cons_succ]
          refine wpAnyH_take (i := 18) (oi := { dst := some 30, op := _, type := _, pos := _, after := _, guard := _ }) (v := _) rfl (by kernel_rfl) (by kernel_rfl) (by kernel_rfl) (fun _ _ _ h => h) (Or.inr ⟨by rfl, rfl⟩) (hH1) ?_
          simp only [Act.put, List.setIfInBounds_toArray, List.set_cons_zero, List.set_cons_succ]
          refine wpAnyH_take (i := 19) (oi := { dst := some 31, op := _, type := _, pos := _, after := _, guard := _ }) (v := _) rfl (by kernel_rfl) (by kernel_rfl) (by kernel_rfl) (fun _ _ _ h => h) (Or.inr ⟨by rfl, rfl⟩) (hH1) ?_
          simp only [Act.put, List.setIfInBounds_toArray, List.set_cons_zero, List.set_cons_succ]
          refine wpAnyH_take (i := 20) (oi := { dst := some 32, op := _, type := _, pos := _, after := _, guard := _ }) (v := _) rfl (by kernel_rfl) (by kernel_rfl) (by kernel_rfl) (fun _ _ _ h => h) (Or.inr ⟨by rfl, rfl⟩) (hH1) ?_
          simp only [Act.put, List.setIfInBounds_toArray, List.set_cons_zero, List.set_cons_succ]
          refine wpAnyH_take (i := 21) (oi := { dst := some 33, op := _, type := _, pos := _, after := _, guard := _ }) (v := _) rfl (by kernel_rfl) (by kernel_rfl) (by kernel_rfl) (fun _ _ _ h => h) (Or.inr ⟨by rfl, rfl⟩) (hH1) ?_
          simp only [Act.put, List.setIfInBounds_toArray, List.set_cons_zero, List.set_cons_succ]
          refine wpAnyH_take (i := 22) (oi := { dst := some 34, op := _, type := _, pos := _, after := _, guard := _ }) (v := _) rfl (by kernel_rfl) (by kernel_rfl) (by kernel_rfl) (fun _ _ _ h => h) (Or.inr ⟨by rfl, rfl⟩) (hH1) ?_
          simp only [Act.put, List.setIfInBounds_toArray, List.set_cons_zero, List.set_cons_succ]
          refine wpAnyH_take (i := 23) (oi := { dst := some 35, op := _, type := _, pos := _, after := _, guard := _ }) (v := ?_) rfl (by kernel_rfl) (by kernel_rfl) (by kernel_rfl) (fun _ _ _ h => h) (Or.inl ⟨by rfl, ?_⟩) (hH1) ?_
          rotate_left
          · (intro wx hSw; obtain ⟨l0, r0, q0, q1, q2, q3⟩ := hSw; go_simp <;> with_reducible rfl)
          simp only [Act.put, List.setIfInBounds_toArray, List.set_cons_zero, List.set_cons_succ]
          refine wpAnyH_take (i := 24) (oi := { dst := some 36, op := _, type := _, pos := _, after := _, guard := _ }) (v := ?_) rfl (by kernel_rfl) (by kernel_rfl) (by kernel_rfl) (fun _ _ _ h => h) (Or.inl ⟨by rfl, ?_⟩) (hH1) ?_
          rotate_left
          · (intro wx hSw; obtain ⟨l0, r0, q0, q1, q2, q3⟩ := hSw; go_simp <;> with_reducible rfl)
          simp only [Act.put, List.setIfInBounds_toArray, List.set_cons_zero, List.set_cons_succ]
          refine wpAnyH_done (by kernel_rfl) ?_ _
          -- behind it: go_wp2_with fail, then go_meet (a cut) or go_ret; the condition at the end: hH1
          go_wp2_with fail
          go_roundw
          case rel =>
            have hbel := HB.out
            exact ⟨k + 1, by omega, by go_num, fun j hj => (by rcases Nat.lt_succ_iff_lt_or_eq.1 hj with h | h; exact HP.out j h; rw [h]; exact HK.out), (by repeat' first | with_reducible exact Below.refl _ _ | with_reducible assumption | with_reducible refine below_drewN ?_ _ | with_reducible refine balloc ?_ _ | with_reducible refine Below.drew ?_ | with_reducible refine Below.setCell ?_ (by first | (simp; done) | (simp; omega) | omega) _ | with_reducible refine bstep ?_ (by assumption))⟩
          case measure => simp [intOf]; omega
        · obtain ⟨p, rfl⟩ : ∃ p, k = p + 1 := ⟨k - 1, by omega⟩
          obtain ⟨d, hd⟩ : ∃ d, decide ((L (p + 1)).id ≤ (L p).id) = d := ⟨_, rfl⟩
          have HK := hide (okI_s hit hd)
          have d0 := ((HC.out p (by omega)).below hb hbel).c0
          have T := hide (IV.mk (o1 := off + p * 3) hl1 vr c0 c1 c2 d0)
          have hq : IntKind.i64.wrap (((p + 1 : Nat) : Int) - 1) = (p : Int) := by rw [wrapIn _ (by omega) (by omega)]; omega
          have hpi : (p : Int) < (n : Int) := by omega
          have hz : decide (0 < p + 1) = true := decide_eq_true (by omega)
          obtain ⟨k, hkk⟩ : ∃ k, p + 1 = k := ⟨_, rfl⟩
          rw [hkk] at hk HP hlt hlt' R HK T hq hz hd ⊢
          have HKK := hide hkk
          clear hbel hpre vr c0 c1 c2 hit d0 hk0 hkk
          go_upto_region 6 with fail
          refine wp_region_held_drew (S := fun wx => IV wx b (off + k * 3) (off + p * 3) (L k) (L p).id va vn vc) (by kernel_rfl) (T.out.drew) (fun hH0 => ?_)
          refine wpAnyH_take (i := 0) (oi := { dst := some 12, op := _, type := _, pos := _, after := _, guard := _ }) (v := ?_) rfl (by kernel_rfl) (by kernel_rfl) (by kernel_rfl) (fun _ _ _ h => h) (Or.inl ⟨by rfl, ?_⟩) (hH0) ?_
          rotate_left
          · (intro wx hSw; obtain ⟨l0, r0, q0, q1, q2, q3⟩ := hSw; go_simp <;> with_reducible rfl)
          simp only [Act.put, List.setIfInBounds_toArray, List.set_cons_zero, List.set_cons_succ]
          refine wpAnyH_take (i := 1) (oi := { dst := some 13, op := _, type := _, pos := _, after := _, guard := _ }) (v := ?_) rfl (by kernel_rfl) (by kernel_rfl) (by kernel_rfl) (fun _ _ _ h => h) (Or.inl ⟨by rfl, ?_⟩) (hH0) ?_
          rotate_left
          · (intro wx hSw; obtain ⟨l0, r0, q0, q1, q2, q3⟩ := hSw; go_simp <;> with_reducible rfl)
          simp only [Act.put, List.setIfInBounds_toArray, List.set_cons_zero, List.set_cons_succ]
          refine wpAnyH_take (i := 2) (oi := { dst := some 14, op := _, type := _, pos := _, after := _, guard := _ }) (v := ?_) rfl (by kernel_rfl) (by kernel_rfl) (by kernel_rfl) (fun _ _ _ h => h) (Or.inl ⟨by rfl, ?_⟩) (hH0) ?_
          rotate_left
          · (intro wx hSw; obtain ⟨l0, r0, q0, q1, q2, q3⟩ := hSw; go_simp <;> with_reducible rfl)
          simp only [Act.put, List.setIfInBounds_toArray, List.set_cons_zero, List.set_cons_succ]
          refine wpAnyH_take (i := 3) (oi := { dst := some 15, op := _, type := _, pos := _, after := _, guard := _ }) (v := ?_) rfl (by kernel_rfl) (by kernel_rfl) (by kernel_rfl) (fun _ _ _ h => h) (Or.inl ⟨by rfl, ?_⟩) (hH0) ?_
          rotate_left
          · (intro wx hSw; obtain ⟨l0, r0, q0, q1, q2, q3⟩ := hSw; go_simp <;> with_reducible rfl)
          simp only [Act.put, List.setIfInBounds_toArray, List.set_cons_zero, List.set_cons_succ]
          refine wpAnyH_take (i := 4) (oi := { dst := some 16, op := _, type := _, pos := _, after := _, guard := _ }) (v := ?_) rfl (by kernel_rfl) (by kernel_rfl) (by kernel_rfl) (fun _ _ _ h => h) (Or.inl ⟨by rfl, ?_⟩) (hH0) ?_
          rotate_left
          · (intro wx hSw; obtain ⟨l0, r0, q0, q1, q2, q3⟩ := hSw; go_simp <;> with_reducible rfl)
          simp only [Act.put, List.setIfInBounds_toArray, List.set_cons_zero, List.set_cons_succ]
          refine wpAnyH_ready (rs := [5]) (by kernel_rfl) (by simp) ?_
          refine AllReadyH.cons (o := { dst := some 17, op := _, type := _, pos := _, after := _, guard := _ }) rfl (fun K hK => ?_) AllReadyH.nil
          go_simp
          refine (R.out _ hH0).mono ?_
          rintro e w_c17_1 ⟨rfl, hb_c17_1⟩
          dsimp only
          refine hK.out _ _ (IV.below hH0 hb_c17_1) (fun hH1 => ?_)
          clear hK K
          refine wpAnyH_take (i := 6) (oi := { dst := some 18, op := _, type := _, pos := _, after := _, guard := _ }) (v := ?_) rfl (by kernel_rfl) (by kernel_rfl) (by kernel_rfl) (fun _ _ _ h => h) (Or.inl ⟨by rfl, ?_⟩) (hH1) ?_
          rotate_left
          · (intro wx hSw; obtain ⟨l0, r0, q0, q1, q2, q3⟩ := hSw; go_simp <;> with_reducible rfl)
          simp only [Act.put, List.setIfInBounds_toArray, List.set_cons_zero, List.set_cons_succ]
          refine wpAnyH_take (i := 7) (oi := { dst := some 19, op := _, type := _, pos := _, after := _, guard := _ }) (v := ?_) rfl (by kernel_rfl) (by kernel_rfl) (by kernel_rfl) (fun _ _ _ h => h) (Or.inl ⟨by rfl, ?_⟩) (hH1) ?_
          rotate_left
          · (intro wx hSw; obtain ⟨l0, r0, q0, q1, q2, q3⟩ := hSw; go_simp <;> with_reducible rfl)
          simp only [Act.put, List.setIfInBounds_toArray, List.set_cons_zero, List.set_cons_succ]
          refine wpAnyH_take (i := 8) (oi := { dst := some 20, op := _, type := _, pos := _, after := _, guard := _ }) (v := ?_) rfl (by kernel_rfl) (by kernel_rfl) (by kernel_rfl) (fun _ _ _ h => h) (Or.inl ⟨by rfl, ?_⟩) (hH1) ?_
          rotate_left
          · (intro wx hSw; obtain ⟨l0, r0, q0, q1, q2, q3⟩ := hSw; go_simp <;> with_reducible rfl)
          simp only [Act.put, List.setIfInBounds_toArray, List.set_cons_zero, List.set_cons_succ]
          refine wpAnyH_take (i := 9) (oi := { dst := some 21, op := _, type := _, pos := _, after := _, guard := _ }) (v := ?_) rfl (by kernel_rfl) (by kernel_rfl) (by kernel_rfl) (fun _ _ _ h => h) (Or.inl ⟨by rfl, ?_⟩) (hH1) ?_
          rotate_left
          · (intro wx hSw; obtain ⟨l0, r0, q0, q1, q2, q3⟩ := hSw; go_simp <;> with_reducible rfl)
          simp only [Act.put, List.setIfInBounds_toArray, List.set_cons_zero, List.set_cons_succ]
          refine wpAnyH_take (i := 10) (oi := { dst := some 22, op := _, type := _, pos := _, after := _, guard := _ }) (v := ?_) rfl (by kernel_rfl) (by kernel_rfl) (by kernel_rfl) (fun _ _ _ h => h) (Or.inl ⟨by rfl, ?_⟩) (hH1) ?_
          rotate_left
          · (intro wx hSw; obtain ⟨l0, r0, q0, q1, q2, q3⟩ := hSw; go_simp <;> with_reducible rfl)
          simp only [Act.put, List.setIfInBounds_toArray, List.set_cons_zero, List.set_cons_succ]
          refine wpAnyH_take (i := 11) (oi := { dst := some 23, op := _, type := _, pos := _, after := _, guard := _ }) (v := ?_) rfl (by kernel_rfl) (by kernel_rfl) (by kernel_rfl) (fun _ _ _ h => h) (Or.inl ⟨by rfl, ?_⟩) (hH1) ?_
          rotate_left
          · (intro wx hSw; obtain ⟨l0, r0, q0, q1, q2, q3⟩ := hSw; go_simp <;> with_reducible rfl)
          simp only [Act.put, List.setIfInBounds_toArray, List.set_cons_zero, List.set_cons_succ]
          refine wpAnyH_take (i := 12) (oi := { dst := some 24, op := _, type := _, pos := _, after := _, guard := _ }) (v := ?_) rfl (by kernel_rfl) (by kernel_rfl) (by kernel_rfl) (fun _ _ _ h => h) (Or.inl ⟨by rfl, ?_⟩) (hH1) ?_
          rotate_left
          · (intro wx hSw; obtain ⟨l0, r0, q0, q1, q2, q3⟩ := hSw; go_simp <;> with_reducible rfl)
          simp only [Act.put, List.setIfInBounds_toArray, List.set_cons_zero, List.set_cons_succ]
          refine wpAnyH_take (i := 13) (oi := { dst := some 25, op := _, type := _, pos := _, after := _, guard := _ }) (v := ?_) rfl (by kernel_rfl) (by kernel_rfl) (by kernel_rfl) (fun _ _ _ h => h) (Or.inl ⟨by rfl, ?_⟩) (hH1) ?_
          rotate_left
          · (intro wx hSw; obtain ⟨l0, r0, q0, q1, q2, q3⟩ := hSw; go_simp <;> with_reducible rfl)
          simp only [Act.put, List.setIfInBounds_toArray, List.set_cons_zero, List.set_cons_succ]
          refine wpAnyH_take (i := 14) (oi := { dst := some 26, op := _, type := _, pos := _, after := _, guard := _ }) (v := ?_) rfl (by kernel_rfl) (by kernel_rfl) (by kernel_rfl) (fun _ _ _ h => h) (Or.inl ⟨by rfl, ?_⟩) (hH1) ?_
          rotate_left
          · (intro wx hSw; obtain ⟨l0, r0, q0, q1, q2, q3⟩ := hSw; go_simp <;> with_reducible rfl)
          simp only [Act.put, List.setIfInBounds_toArray, List.set_cons_zero, List.set_cons_succ]
          refine wpAnyH_take (i := 15) (oi := { dst := some 27, op := _, type := _, pos := _, after := _, guard := _ }) (v := ?_) rfl (by kernel_rfl) (by kernel_rfl) (by kernel_rfl) (fun _ _ _ h => h) (Or.inl ⟨by rfl, ?_⟩) (hH1) ?_
          rotate_left
          · (intro wx hSw; obtain ⟨l0, r0, q0, q1, q2, q3⟩ := hSw; go_simp <;> with_reducible rfl)
          simp only [Act.put, List.setIfInBounds_toArray, List.set_cons_zero, List.set_cons_succ]
          refine wpAnyH_take (i := 16) (oi := { dst := some 28, op := _, type := _, pos := _, after := _, guard := _ }) (v := ?_) rfl (by kernel_rfl) (by kernel_rfl) (by kernel_rfl) (fun _ _ _ h => h) (Or.inl ⟨by rfl, ?_⟩) (hH1) ?_
          rotate_left
          · (intro wx hSw; obtain ⟨l0, r0, q0, q1, q2, q3⟩ := hSw; go_simp <;> with_reducible rfl)
          simp only [Act.put, List.setIfInBounds_toArray, List.set_cons_zero, List.set_cons_succ]
          refine wpAnyH_take (i := 17) (oi := { dst := some 29, op := _, type := _, pos := _, after := _, guard := _ }) (v := ?_) rfl (by kernel_rfl) (by kernel_rfl) (by kernel_rfl) (fun _ _ _ h => h) (Or.inl ⟨by rfl, ?_⟩) (hH1) ?_
          rotate_left
          · (intro wx hSw; obtain ⟨l0, r0, q0, q1, q2, q3⟩ := hSw; go_simp <;> with_reducible rfl)
          simp only [Act.put, List.setIfInBounds_toArray, List.set_cons_zero, List.set_cons_succ]
          refine wpAnyH_take (i := 18) (oi := { dst := some 30, op := _, type := _, pos := _, after := _, guard := _ }) (v := ?_) rfl (by kernel_rfl) (by kernel_rfl) (by kernel_rfl) (fun _ _ _ h => h) (Or.inl ⟨by rfl, ?_⟩) (hH1) ?_
          rotate_left
          · (intro wx hSw; obtain ⟨l0, r0, q0, q1, q2, q3⟩ := hSw; go_simp <;> with_reducible rfl)
          simp only [Act.put, List.setIfInBounds_toArray, List.set_cons_zero, List.set_cons_succ]
          refine wpAnyH_take (i := 19) (oi := { dst := some 31, op := _, type := _, pos := _, after := _, guard := _ }) (v := ?_) rfl (by kernel_rfl) (by kernel_rfl) (by kernel_rfl) (fun _ _ _ h => h) (Or.inl ⟨by rfl, ?_⟩) (hH1) ?_
          rotate_left
          · (intro wx hSw; obtain ⟨l0, r0, q0, q1, q2, q3⟩ := hSw; go_simp <;> with_reducible rfl)
          simp only [Act.put, List.setIfInBounds_toArray, List.set_cons_zero, List.set_cons_succ]
          refine wpAnyH_take (i := 20) (oi := { dst := some 32, op := _, type := _, pos := _, after := _, guard := _ }) (v := ?_) rfl (by kernel_rfl) (by kernel_rfl) (by kernel_rfl) (fun _ _ _ h => h) (Or.inl ⟨by rfl, ?_⟩) (hH1) ?_
          rotate_left
          · (intro wx hSw; obtain ⟨l0, r0, q0, q1, q2, q3⟩ := hSw; go_simp <;> with_reducible rfl)
          simp only [Act.put, List.setIfInBounds_toArray, List.set_cons_zero, List.set_cons_succ]
          refine wpAnyH_take (i := 21) (oi := { dst := some 33, op := _, type := _, pos := _, after := _, guard := _ }) (v := ?_) rfl (by kernel_rfl) (by kernel_rfl) (by kernel_rfl) (fun _ _ _ h => h) (Or.inl ⟨by rfl, ?_⟩) (hH1) ?_
          rotate_left
          · (intro wx hSw; obtain ⟨l0, r0, q0, q1, q2, q3⟩ := hSw; go_simp <;> with_reducible rfl)
          simp only [Act.put, List.setIfInBounds_toArray, List.set_cons_zero, List.set_cons_succ]
          refine wpAnyH_take (i := 22) (oi := { dst := some 34, op := _, type := _, pos := _, after := _, guard := _ }) (v := ?_) rfl (by kernel_rfl) (by kernel_rfl) (by kernel_rfl) (fun _ _ _ h => h) (Or.inl ⟨by rfl, ?_⟩) (hH1) ?_
          rotate_left
          · (intro wx hSw; obtain ⟨l0, r0, q0, q1, q2, q3⟩ := hSw; go_simp <;> with_reducible rfl)
          simp only [Act.put, List.setIfInBounds_toArray, List.set_cons_zero, List.set_cons_succ]
          refine wpAnyH_take (i := 23) (oi := { dst := some 35, op := _, type := _, pos := _, after := _, guard := _ }) (v := ?_) rfl (by kernel_rfl) (by kernel_rfl) (by kernel_rfl) (fun _ _ _ h => h) (Or.inl ⟨by rfl, ?_⟩) (hH1) ?_
          rotate_left
          · (intro wx hSw; obtain ⟨l0, r0, q0, q1, q2, q3⟩ := hSw; go_simp <;> with_reducible rfl)
          simp only [Act.put, List.setIfInBounds_toArray, List.set_cons_zero, List.set_cons_succ]
          refine wpAnyH_take (i := 24) (oi := { dst := some 36, op := _, type := _, pos := _, after := _, guard := _ }) (v := ?_) rfl (by kernel_rfl) (by kernel_rfl) (by kernel_rfl) (fun _ _ _ h => h) (Or.inl ⟨by rfl, ?_⟩) (hH1) ?_
          rotate_left
          · (intro wx hSw; obtain ⟨l0, r0, q0, q1, q2, q3⟩ := hSw; go_simp <;> with_reducible rfl)
          simp only [Act.put, List.setIfInBounds_toArray, List.set_cons_zero, List.set_cons_succ]
          refine wpAnyH_done (by kernel_rfl) ?_ _
          -- behind it: go_wp2_with fail, then go_meet (a cut) or go_ret; the condition at the end: hH1
          cases d
          · go_wp2_with fail
            go_roundw
            case rel =>
              have hbel := HB.out
              exact ⟨k + 1, by omega, by go_num, fun j hj => (by rcases Nat.lt_succ_iff_lt_or_eq.1 hj with h | h; exact HP.out j h; rw [h]; exact HK.out), (by repeat' first | with_reducible exact Below.refl _ _ | with_reducible assumption | with_reducible refine below_drewN ?_ _ | with_reducible refine balloc ?_ _ | with_reducible refine Below.drew ?_ | with_reducible refine Below.setCell ?_ (by first | (simp; done) | (simp; omega) | omega) _ | with_reducible refine bstep ?_ (by assumption))⟩
            case measure => simp [intOf]; omega
          · have hno : itemsB dim n L = false := by unfold itemsB; rw [allN_no hlt HK.out, Bool.and_false]
            have HN := hide hno
            clear hno
            go_wp2_with fail
            go_ret
            have hbel := HB.out
            exact ⟨by rw [HN.out]; rfl, (by repeat' first | with_reducible exact Below.refl _ _ | with_reducible assumption | with_reducible refine below_drewN ?_ _ | with_reducible refine balloc ?_ _ | with_reducible refine Below.drew ?_ | with_reducible refine Below.setCell ?_ (by first | (simp; done) | (simp; omega) | omega) _ | with_reducible refine bstep ?_ (by assumption))⟩
    · obtain rfl : k = n := by omega
      have e : itemsB dim k L = (inB dim 1 8 && decide (k ≤ 60)) := by unfold itemsB; rw [allN_yes HP.out, Bool.and_true]
      have E := hide e
      clear e hpre hbel
      cases hd : inB dim 1 8
      · rw [hd] at E
        go_wp2_with fail
        refine (l7Dim_any _ _).mono ?_
        rintro e w1 ⟨rfl, rfl⟩
        rw [hd]
        go_wp2_with fail
        go_ret
        exact ⟨by rw [E.out]; rfl, HB.out⟩
      · rw [hd, Bool.true_and] at E
        by_cases h60 : k ≤ 60
        · rw [decide_eq_true h60] at E
          have h61 : (k : Int) ≤ 60 := by omega
          go_wp2_with fail
          refine (l7Dim_any _ _).mono ?_
          rintro e w1 ⟨rfl, rfl⟩
          rw [hd]
          go_wp2_with fail
          go_ret
          exact ⟨by rw [E.out]; first | rfl | (simp [h60]; done) | (simp [h61]; done) | (simp; omega), HB.out⟩
        · rw [decide_eq_false h60] at E
          have h61 : 60 < k := by omega
          have h62 : decide (k ≤ 60) = false := decide_eq_false h60
          go_wp2_with fail
          refine (l7Dim_any _ _).mono ?_
          rintro e w1 ⟨rfl, rfl⟩
          rw [hd]
          go_wp2_with fail
          go_ret
          exact ⟨by rw [E.out]; first | rfl | (simp [h60]; done) | (simp [h61]; done) | (simp; omega), HB.out⟩

set_option maxHeartbeats 400000 in
theorem sItemsOk_none (dim : Int) (a : Option Addr) (n cap : Nat) (L : IL) (w : World) (hn : n < 1) :
    Calls Try.prog 10 #[.int .i64 dim, .slice a n cap] w fun e w' => e = .returned (.bool (itemsB dim n L)) ∧ Below w.heap.size w w' := by
  have e : itemsB dim n L = inB dim 1 8 := by unfold itemsB; rw [allN_yes (fun i hi => absurd hi (by omega)), Bool.and_true, decide_eq_true (by omega), Bool.and_true]
  rw [e]
  obtain ⟨u, hu⟩ : ∃ u, inB dim 1 8 = u := ⟨_, rfl⟩
  rw [hu]
  have h60 : n ≤ 60 := by omega
  have h61 : (n : Int) ≤ 60 := by omega
  cases u
  all_goals
    go_enter Try.func10, Try.ntmps10
    go_wp2
    refine wp_loop_rounds 1 ?_
    rw [rounds_succ]
    go_wp2_with (go_at_call 31; refine (l7Dim_any _ _).mono ?_; rintro e w' ⟨rfl, rfl⟩)
    go_ret
    exact ⟨by first | rfl | (simp; done), (by repeat' first | with_reducible exact Below.refl _ _ | with_reducible assumption | with_reducible refine below_drewN ?_ _ | with_reducible refine balloc ?_ _ | with_reducible refine Below.drew ?_ | with_reducible refine Below.setCell ?_ (by first | (simp; done) | (simp; omega) | omega) _ | with_reducible refine bstep ?_ (by assumption))⟩

theorem sItemsOk_any (dim : Int) (a : Option Addr) (n cap : Nat) (L : IL) (w : World) (h : IRow w a n L) (hn : n ≤ 1048576) (hv : ∀ i, i < n → (L i).vec.length ≤ 1048576) :
    Calls Try.prog 10 #[.int .i64 dim, .slice a n cap] w fun e w' => e = .returned (.bool (itemsB dim n L)) ∧ Below w.heap.size w w' := by
  rcases h.lies with h0 | ⟨b, off, rfl, lt, hc⟩
  · exact sItemsOk_none dim a n cap L w (by omega)
  · exact sItemsOk_some dim b off n cap L w hn hv lt hc
end Go.Proofs.Ytmbncafbbpcmbaa

/- ItemsOk of the program. -/
namespace Go.Proofs.Ytmbncafbbpcmbaa
open Go.RowKit
set_option maxRecDepth 8000
set_option linter.unusedSimpArgs false
set_option linter.unusedVariables false

/-- What a look at one item reads: its box, and the id of the one ahead. -/
structure IW (w : World) (b o1 q : Nat) (x : It) (y : Int) (a : Option Addr) (n c : Nat) : Prop where
  l : b < w.heap.size
  t : Tri w q (.int .i64 x.id) (.int .i64 x.tags) (.slice a n c)
  r : Row w a n x.vec
  d0 : w.cell? ⟨b, o1, none⟩ = some (.int .i64 y)
theorem IW.below {w w' : World} {b o1 q : Nat} {x : It} {y : Int} {a : Option Addr} {n c : Nat} (h : IW w b o1 q x y a n c) (hb : Below w.heap.size w w') : IW w' b o1 q x y a n c :=
  ⟨Nat.lt_of_lt_of_le h.l hb.size, h.t.below hb, h.r.below hb, (hb.cell (p := ⟨b, o1, none⟩) h.l).trans h.d0⟩
theorem IW.drew {w : World} {b o1 q : Nat} {x : It} {y : Int} {a : Option Addr} {n c : Nat} (h : IW w b o1 q x y a n c) : IW w.drew b o1 q x y a n c :=
  ⟨h.l, h.t.drew, ⟨h.r.len, h.r.lies⟩, h.d0⟩
theorem IW.new {w : World} {b o1 : Nat} {x : It} {y : Int} {a : Option Addr} {n c : Nat} (T : TypeId) (l : b < w.heap.size) (r : Row w a n x.vec) (d0 : w.cell? ⟨b, o1, none⟩ = some (.int .i64 y)) : IW (w.alloc (.cells #[.int .i64 x.id, .int .i64 x.tags, .slice a n c] T)) b o1 w.heap.size x y a n c :=
  have hb := balloc (Below.refl _ w) (.cells #[.int .i64 x.id, .int .i64 x.tags, .slice a n c] T)
  ⟨Nat.lt_of_lt_of_le l hb.size, Tri.new w _ _ _ T, r.below hb, (hb.cell (p := ⟨b, o1, none⟩) l).trans d0⟩

set_option maxRecDepth 4000 in
set_option maxHeartbeats 4000000 in
theorem iItemsOk_some (dim : Int) (b off n cap : Nat) (L : IL) (w : World) (hd1 : 1 ≤ dim) (hd8 : dim ≤ 8) (hn : n ≤ 60) (hv : ∀ i, i < n → (L i).vec.length ≤ 1048576) (hb : b < w.heap.size) (hc : ∀ i, i < n → IAt w b (off + i * 3) (L i)) :
    Calls Try.prog 41 #[.int .i64 dim, .slice (some ⟨b, off, none⟩) n cap] w fun e w' => e = .returned (.bool (allN n (okI dim L))) ∧ Below w.heap.size w w' := by
  have HC := hide hc
  have HV := hide hv
  clear hc hv
  go_enter Try.func41, Try.ntmps41
  go_wp2_with fail
  go_loopw [20] (fun i wr => ∃ k : Nat, k ≤ n ∧ i = .int .i64 k ∧ (∀ j, j < k → okI dim L j = true) ∧ Below w.heap.size w wr) (fun i _ => n - (intOf i).toNat)
  case atStart => exact ⟨0, Nat.zero_le _, rfl, fun j h => absurd h (by omega), (by repeat' first | with_reducible exact Below.refl _ _ | with_reducible assumption | with_reducible refine below_drewN ?_ _ | with_reducible refine balloc ?_ _ | with_reducible refine Below.drew ?_ | with_reducible refine Below.setCell ?_ (by first | (simp; done) | (simp; omega) | omega) _ | with_reducible refine bstep ?_ (by assumption))⟩
  case round =>
    obtain ⟨k, hk, rfl, hpre, hbel⟩ := hrel
    have HP := hide hpre
    have HB := hide hbel
    by_cases hlt : k < n
    · obtain ⟨c0, c1, va, vn, vc, c2, vr⟩ := (HC.out k hlt).below hb hbel
      have R := hide (fun w1 {y : Int} {o1 q : Nat} (t : IW w1 b o1 q (L k) y va vn vc) => fits_any dim (L k) va vn vc w1 t.r (by rw [← vr.len]; exact HV.out k hlt))
      have hlt' : (k : Int) < (n : Int) := by omega
      have hl1 : b < wr.heap.size := Nat.lt_of_lt_of_le hb hbel.size
      cases hit : itemB dim (L k)
      · have hno : allN n (okI dim L) = false := allN_no hlt (okI_no1 hit)
        have HN := hide hno
        have T := hide (IW.new (c := vc) 55 hl1 vr c0)
        simp only [hit] at R
        clear hbel hpre vr hno hit
        go_upto_region 6 with fail
        clear c0 c1 c2
        refine wp_region_held_drew (S := fun wx => IW wx b (off + k * 3) wr.heap.size (L k) (L k).id va vn vc) (by kernel_rfl) (T.out.drew) (fun hH0 => ?_)
        refine wpAnyH_take (i := 0) (oi := { dst := some 25, op := _, type := _, pos := _, after := _, guard := _ }) (v := ?_) rfl (by kernel_rfl) (by kernel_rfl) (by kernel_rfl) (fun _ _ _ h => h) (Or.inl ⟨by rfl, ?_⟩) (hH0) ?_
        rotate_left
        · (intro wx hSw; obtain ⟨l0, ⟨_, q0, q1, q2, _, _, _⟩, r0, q3⟩ := hSw; go_simp <;> with_reducible rfl)
        simp only [Act.put, List.setIfInBounds_toArray, List.set_cons_zero, List.set_cons_succ]
        refine wpAnyH_take (i := 1) (oi := { dst := some 26, op := _, type := _, pos := _, after := _, guard := _ }) (v := ?_) rfl (by kernel_rfl) (by kernel_rfl) (by kernel_rfl) (fun _ _ _ h => h) (Or.inl ⟨by rfl, ?_⟩) (hH0) ?_
        rotate_left
        · (intro wx hSw; obtain ⟨l0, ⟨_, q0, q1, q2, _, _, _⟩, r0, q3⟩ := hSw; go_simp <;> with_reducible rfl)
        simp only [Act.put, List.setIfInBounds_toArray, List.set_cons_zero, List.set_cons_succ]
        refine wpAnyH_ready (rs := [2]) (by kernel_rfl) (by simp) ?_
        refine AllReadyH.cons (o := { dst := some 27, op := _, type := _, pos := _, after := _, guard := _ }) rfl (fun K hK => ?_) AllReadyH.nil
        go_simp
        refine (R.out _ hH0).mono ?_
        rintro e w_c27_1 ⟨rfl, hb_c27_1⟩
        dsimp only
        refine hK.out _ _ (IW.below hH0 hb_c27_1) (fun hH1 => ?_)
        clear hK K
        refine wpAnyH_take (i := 3) (oi := { dst := some 28, op := _, type := _, pos := _, after := _, guard := _ }) (v := ?_) rfl (by kernel_rfl) (by kernel_rfl) (by kernel_rfl) (fun _ _ _ h => h) (Or.inl ⟨by rfl, ?_⟩) (hH1) ?_
        rotate_left
        · (intro wx hSw; obtain ⟨l0, ⟨_, q0, q1, q2, _, _, _⟩, r0, q3⟩ := hSw; go_simp <;> with_reducible rfl)
        simp only [Act.put, List.setIfInBounds_toArray, List.set_cons_zero, List.set_cons_succ]
        refine wpAnyH_take (i := 4) (oi := { dst := some 29, op := _, type := _, pos := _, after := _, guard := _ }) (v := ?_) rfl (by kernel_rfl) (by kernel_rfl) (by kernel_rfl) (fun _ _ _ h => h) (Or.inl ⟨by rfl, ?_⟩) (hH1) ?_
        rotate_left
        · (intro wx hSw; obtain ⟨l0, ⟨_, q0, q1, q2, _, _, _⟩, r0, q3⟩ := hSw; go_simp <;> with_reducible rfl)
        simp only [Act.put, List.setIfInBounds_toArray, List.set_cons_zero, List.set_cons_succ]
        refine wpAnyH_take (i := 5) (oi := { dst := some 30, op := _, type := _, pos := _, after := _, guard := _ }) (v := _) rfl (by kernel_rfl) (by kernel_rfl) (by kernel_rfl) (fun _ _ _ h => h) (Or.inr ⟨by rfl, rfl⟩) (hH1) ?_
        simp only [Act.put, List.setIfInBounds_toArray, List.set_cons_zero, List.set_cons_succ]
        refine wpAnyH_take (i := 6) (oi := { dst := some 31, op := _, type := _, pos := _, after := _, guard := _ }) (v := _) rfl (by kernel_rfl) (by kernel_rfl) (by kernel_rfl) (fun _ _ _ h => h) (Or.inr ⟨by rfl, rfl⟩) (hH1) ?_
        simp only [Act.put, List.setIfInBounds_toArray, List.set_cons_zero, List.set_cons_succ]
        refine wpAnyH_take (i := 7) (oi := { dst := some 32, op := _, type := _, pos := _, after := _, guard := _ }) (v := _) rfl (by kernel_rfl) (by kernel_rfl) (by kernel_rfl) (fun _ _ _ h => h) (Or.inr ⟨by rfl, rfl⟩) (hH1) ?_
        simp only [Act.put, List.setIfInBounds_toArray, List.set_cons_zero, List.set_cons_succ]
        refine wpAnyH_take (i := 8) (oi := { dst := some 33, op := _, type := _, pos := _, after := _, guard := _ }) (v := _) rfl (by kernel_rfl) (by kernel_rfl) (by kernel_rfl) (fun _ _ _ h => h) (Or.inr ⟨by rfl, rfl⟩) (hH1) ?_
        simp only [Act.put, List.setIfInBounds_toArray, List.set_cons_zero, List.set_cons_succ]
        refine wpAnyH_take (i := 9) (oi := { dst := some 34, op := _, type := _, pos := _, after := _, guard := _ }) (v := _) rfl (by kernel_rfl) (by kernel_rfl) (by kernel_rfl) (fun _ _ _ h => h) (Or.inr ⟨by rfl, rfl⟩) (hH1) ?_
        simp only [Act.put, List.setIfInBounds_toArray, List.set_cons_zero, List.set_cons_succ]
        refine wpAnyH_take (i := 10) (oi := { dst := some 35, op := _, type := _, pos := _, after := _, guard := _ }) (v := _) rfl (by kernel_rfl) (by kernel_rfl) (by kernel_rfl) (fun _ _ _ h => h) (Or.inr ⟨by rfl, rfl⟩) (hH1) ?_
        simp only [Act.put, List.setIfInBounds_toArray, List.set_cons_zero, List.set_cons_succ]
        refine wpAnyH_take (i := 11) (oi := { dst := some 36, op := _, type := _, pos := _, after := _, guard := _ }) (v := _) rfl (by kernel_rfl) (by kernel_rfl) (by kernel_rfl) (fun _ _ _ h => h) (Or.inr ⟨by rfl, rfl⟩) (hH1) ?_
        simp only [Act.put, List.setIfInBounds_toArray, List.set_cons_zero, List.set_cons_succ]
        refine wpAnyH_take (i := 12) (oi := { dst := some 37, op := _, type := _, pos := _, after := _, guard := _ }) (v := _) rfl (by kernel_rfl) (by kernel_rfl) (by kernel_rfl) (fun _ _ _ h => h) (Or.inr ⟨by rfl, rfl⟩) (hH1) ?_
        simp only [Act.put, List.setIfInBounds_toArray, List.set_cons_zero, List.set_cons_succ]
        refine wpAnyH_take (i := 13) (oi := { dst := some 38, op := _, type := _, pos := _, after := _, guard := _ }) (v := _) rfl (by kernel_rfl) (by kernel_rfl) (by kernel_rfl) (fun _ _ _ h => h) (Or.inr ⟨by rfl, rfl⟩) (hH1) ?_
        simp only [Act.put, List.setIfInBounds_toArray, List.set_cons_zero, List.set_cons_succ]
        refine wpAnyH_take (i := 14) (oi := { dst := some 39, op := _, type := _, pos := _, after := _, guard := _ }) (v := _) rfl (by kernel_rfl) (by kernel_rfl) (by kernel_rfl) (fun _ _ _ h => h) (Or.inr ⟨by rfl, rfl⟩) (hH1) ?_
        simp only [Act.put, List.setIfInBounds_toArray, List.set_cons_zero, List.set_cons_succ]
        refine wpAnyH_take (i := 15) (oi := { dst := some 40, op := _, type := _, pos := _, after := _, guard := _ }) (v := _) rfl (by kernel_rfl) (by kernel_rfl) (by kernel_rfl) (fun _ _ _ h => h) (Or.inr ⟨by rfl, rfl⟩) (hH1) ?_
        simp only [Act.put, List.setIfInBounds_toArray, List.set_cons_zero, List.set_cons_succ]
        refine wpAnyH_take (i := 16) (oi := { dst := some 41, op := _, type := _, pos := _, after := _, guard := _ }) (v := _) rfl (by kernel_rfl) (by kernel_rfl) (by kernel_rfl) (fun _ _ _ h => h) (Or.inr ⟨by rfl, rfl⟩) (hH1) ?_
        simp only [Act.put, List.setIfInBounds_toArray, List.set_cons_zero, List.set_cons_succ]
        refine wpAnyH_take (i := 17) (oi := { dst := some 42, op := _, type := _, pos := _, after := _, guard := _ }) (v := _) rfl (by kernel_rfl) (by kernel_rfl) (by kernel_rfl) (fun _ _ _ h => h) (Or.inr ⟨by rfl, rfl⟩) (hH1) ?_
        simp only [Act.put, List.setIfInBounds_toArray, List.set_cons_zero, List.set_cons_succ]
        refine wpAnyH_take (i := 18) (oi := { dst := some 43, op := _, type := _, pos := _, after := _, guard := _ }) (v := ?_) rfl (by kernel_rfl) (by kernel_rfl) (by kernel_rfl) (fun _ _ _ h => h) (Or.inl ⟨by rfl, ?_⟩) (hH1) ?_
        rotate_left
        · (intro wx hSw; obtain ⟨l0, ⟨_, q0, q1, q2, _, _, _⟩, r0, q3⟩ := hSw; go_simp <;> with_reducible rfl)
        simp only [Act.put, List.setIfInBounds_toArray, List.set_cons_zero, List.set_cons_succ]
        refine wpAnyH_done (by kernel_rfl) ?_ _
        -- behind it: go_wp2_with fail, then go_meet (a cut) or go_ret; the condition at the end: hH1
        go_wp2_with fail
        go_ret
        have hbel := HB.out
        exact ⟨by rw [HN.out]; rfl, (by repeat' first | with_reducible exact Below.refl _ _ | with_reducible assumption | with_reducible refine below_drewN ?_ _ | with_reducible refine balloc ?_ _ | with_reducible refine Below.drew ?_ | with_reducible refine Below.setCell ?_ (by first | (simp; done) | (simp; omega) | omega) _ | with_reducible refine bstep ?_ (by assumption))⟩
      · simp only [hit] at R
        by_cases hk0 : k = 0
        · have HK := hide (show okI dim L k = true by rw [hk0] at hit ⊢; exact okI_0 hit)
          have T := hide (IW.new (c := vc) 55 hl1 vr c0)
          have hz : decide (0 < k) = false := decide_eq_false (by omega)
          have HK0 := hide hk0
          clear hbel hpre vr hit hk0
          go_upto_region 6 with fail
          clear c0 c1 c2
          refine wp_region_held_drew (S := fun wx => IW wx b (off + k * 3) wr.heap.size (L k) (L k).id va vn vc) (by kernel_rfl) (T.out.drew) (fun hH0 => ?_)
          refine wpAnyH_take (i := 0) (oi := { dst := some 25, op := _, type := _, pos := _, after := _, guard := _ }) (v := ?_) rfl (by kernel_rfl) (by kernel_rfl) (by kernel_rfl) (fun _ _ _ h => h) (Or.inl ⟨by rfl, ?_⟩) (hH0) ?_
          rotate_left
          · (intro wx hSw; obtain ⟨l0, ⟨_, q0, q1, q2, _, _, _⟩, r0, q3⟩ := hSw; go_simp <;> with_reducible rfl)
          simp only [Act.put, List.setIfInBounds_toArray, List.set_cons_zero, List.set_cons_succ]
          refine wpAnyH_take (i := 1) (oi := { dst := some 26, op := _, type := _, pos := _, after := _, guard := _ }) (v := ?_) rfl (by kernel_rfl) (by kernel_rfl) (by kernel_rfl) (fun _ _ _ h => h) (Or.inl ⟨by rfl, ?_⟩) (hH0) ?_
          rotate_left
          · (intro wx hSw; obtain ⟨l0, ⟨_, q0, q1, q2, _, _, _⟩, r0, q3⟩ := hSw; go_simp <;> with_reducible rfl)
          simp only [Act.put, List.setIfInBounds_toArray, List.set_cons_zero, List.set_cons_succ]
          refine wpAnyH_ready (rs := [2]) (by kernel_rfl) (by simp) ?_
          refine AllReadyH.cons (o := { dst := some 27, op := _, type := _, pos := _, after := _, guard := _ }) rfl (fun K hK => ?_) AllReadyH.nil
          go_simp
          refine (R.out _ hH0).mono ?_
          rintro e w_c27_1 ⟨rfl, hb_c27_1⟩
          dsimp only
          refine hK.out _ _ (IW.below hH0 hb_c27_1) (fun hH1 => ?_)
          clear hK K
          refine wpAnyH_take (i := 3) (oi := { dst := some 28, op := _, type := _, pos := _, after := _, guard := _ }) (v := ?_) rfl (by kernel_rfl) (by kernel_rfl) (by kernel_rfl) (fun _ _ _ h => h) (Or.inl ⟨by rfl, ?_⟩) (hH1) ?_
          rotate_left
          · (intro wx hSw; obtain ⟨l0, ⟨_, q0, q1, q2, _, _, _⟩, r0, q3⟩ := hSw; go_simp <;> with_reducible rfl)
          simp only [Act.put, List.setIfInBounds_toArray, List.set_cons_zero, List.set_cons_succ]
          refine wpAnyH_take (i := 4) (oi := { dst := some 29, op := _, type := _, pos := _, after := _, guard := _ }) (v := ?_) rfl (by kernel_rfl) (by kernel_rfl) (by kernel_rfl) (fun _ _ _ h => h) (Or.inl ⟨by rfl, ?_⟩) (hH1) ?_
          rotate_left
          · (intro wx hSw; obtain ⟨l0, ⟨_, q0, q1, q2, _, _, _⟩, r0, q3⟩ := hSw; go_simp <;> with_reducible rfl)
          simp only [Act.put, List.setIfInBounds_toArray, List.set_cons_zero, List.set_cons_succ]
          refine wpAnyH_take (i := 5) (oi := { dst := some 30, op := _, type := _, pos := _, after := _, guard := _ }) (v := ?_) rfl (by kernel_rfl) (by kernel_rfl) (by kernel_rfl) (fun _ _ _ h => h) (Or.inl ⟨by rfl, ?_⟩) (hH1) ?_
          rotate_left
          · (intro wx hSw; obtain ⟨l0, ⟨_, q0, q1, q2, _, _, _⟩, r0, q3⟩ := hSw; go_simp <;> with_reducible rfl)
          simp only [Act.put, List.setIfInBounds_toArray, List.set_cons_zero, List.set_cons_succ]
          refine wpAnyH_take (i := 6) (oi := { dst := some 31, op := _, type := _, pos := _, after := _, guard := _ }) (v := ?_) rfl (by kernel_rfl) (by kernel_rfl) (by kernel_rfl) (fun _ _ _ h => h) (Or.inl ⟨by rfl, ?_⟩) (hH1) ?_
          rotate_left
          · (intro wx hSw; obtain ⟨l0, ⟨_, q0, q1, q2, _, _, _⟩, r0, q3⟩ := hSw; go_simp <;> with_reducible rfl)
          simp only [Act.put, List.setIfInBounds_toArray, List.set_cons_zero, List.set_cons_succ]
          refine wpAnyH_take (i := 7) (oi := { dst := some 32, op := _, type := _, pos := _, after := _, guard := _ }) (v := ?_) rfl (by kernel_rfl) (by kernel_rfl) (by kernel_rfl) (fun _ _ _ h => h) (Or.inl ⟨by rfl, ?_⟩) (hH1) ?_
          rotate_left
          · (intro wx hSw; obtain ⟨l0, ⟨_, q0, q1, q2, _, _, _⟩, r0, q3⟩ := hSw; go_simp <;> with_reducible rfl)
          simp only [Act.put, List.setIfInBounds_toArray, List.set_cons_zero, List.set_cons_succ]
          refine wpAnyH_take (i := 8) (oi := { dst := some 33, op := _, type := _, pos := _, after := _, guard := _ }) (v := _) rfl (by kernel_rfl) (by kernel_rfl) (by kernel_rfl) (fun _ _ _ h => h) (Or.inr ⟨by rfl, rfl⟩) (hH1) ?_
          simp only [Act.put, List.setIfInBounds_toArray, List.set_cons_zero, List.set_cons_succ]
          refine wpAnyH_take (i := 9) (oi := { dst := some 34, op := _, type := _, pos := _, after := _, guard := _ }) (v := _) rfl (by kernel_rfl) (by kernel_rfl) (by kernel_rfl) (fun _ _ _ h => h) (Or.inr ⟨by rfl, rfl⟩) (hH1) ?_
          simp only [Act.put, List.setIfInBounds_toArray, List.set_cons_zero, List.set_cons_succ]
          refine wpAnyH_take (i := 10) (oi := { dst := some 35, op := _, type := _, pos := _, after := _, guard := _ }) (v := _) rfl (by kernel_rfl) (by kernel_rfl) (by kernel_rfl) (fun _ _ _ h => h) (Or.inr ⟨by rfl, rfl⟩) (hH1) ?_
          simp only [Act.put, List.setIfInBounds_toArray, List.set_cons_zero, List.set_cons_succ]
          refine wpAnyH_take (i := 11) (oi := { dst := some 36, op := _, type := _, pos := _, after := _, guard := _ }) (v := _) rfl (by kernel_rfl) (by kernel_rfl) (by kernel_rfl) (fun _ _ _ h => h) (Or.inr ⟨by rfl, rfl⟩) (hH1) ?_
          simp only [Act.put, List.setIfInBounds_toArray, List.set_cons_zero, List.set_cons_succ]
          refine wpAnyH_take (i := 12) (oi := { dst := some 37, op := _, type := _, pos := _, after := _, guard := _ }) (v := _) rfl (by kernel_rfl) (by kernel_rfl) (by kernel_rfl) (fun _ _ _ h => h) (Or.inr ⟨by rfl, rfl⟩) (hH1) ?_
          simp only [Act.put, List.setIfInBounds_toArray, List.set_cons_zero, List.set_cons_succ]
          refine wpAnyH_take (i := 13) (oi := { dst := some 38, op := _, type := _, pos := _, after := _, guard := _ }) (v := _) rfl (by kernel_rfl) (by kernel_rfl) (by kernel_rfl) (fun _ _ _ h => h) (Or.inr ⟨by rfl, rfl⟩) (hH1) ?_
          simp only [Act.put, List.setIfInBounds_toArray, List.set_cons_zero, List.set_cons_succ]
          refine wpAnyH_take (i := 14) (oi := { dst := some 39, op := _, type := _, pos := _, after := _, guard := _ }) (v := _) rfl (by kernel_rfl) (by kernel_rfl) (by kernel_rfl) (fun _ _ _ h => h) (Or.inr ⟨by rfl, rfl⟩) (hH1) ?_
          simp only [Act.put, List.setIfInBounds_toArray, List.set_cons_zero, List.set_cons_succ]
          refine wpAnyH_take (i := 15) (oi := { dst := some 40, op := _, type := _, pos := _, after := _, guard := _ }) (v := _) rfl (by kernel_rfl) (by kernel_rfl) (by kernel_rfl) (fun _ _ _ h => h) (Or.inr ⟨by rfl, rfl⟩) (hH1) ?_
          simp only [Act.put, List.setIfInBounds_toArray, List.set_cons_zero, List.set_cons_succ]
          refine wpAnyH_take (i := 16) (oi := { dst := some 41, op := _, type := _, pos := _, after := _, guard := _ }) (v := _) rfl (by kernel_rfl) (by kernel_rfl) (by kernel_rfl) (fun _ _ _ h => h) (Or.inr ⟨by rfl, rfl⟩) (hH1) ?_
          simp only [Act.put, List.setIfInBounds_toArray, List.set_cons_zero, List.set_cons_succ]
          refine wpAnyH_take (i := 17) (oi := { dst := some 42, op := _, type := _, pos := _, after := _, guard := _ }) (v := ?_) rfl (by kernel_rfl) (by kernel_rfl) (by kernel_rfl) (fun _ _ _ h => h) (Or.inl ⟨by rfl, ?_⟩) (hH1) ?_
          rotate_left
          · (intro wx hSw; obtain ⟨l0, ⟨_, q0, q1, q2, _, _, _⟩, r0, q3⟩ := hSw; go_simp <;> with_reducible rfl)
          simp only [Act.put, List.setIfInBounds_toArray, List.set_cons_zero, List.set_cons_succ]
          refine wpAnyH_take (i := 18) (oi := { dst := some 43, op := _, type := _, pos := _, after := _, guard := _ }) (v := ?_) rfl (by kernel_rfl) (by kernel_rfl) (by kernel_rfl) (fun _ _ _ h => h) (Or.inl ⟨by rfl, ?_⟩) (hH1) ?_
          rotate_left
          · (intro wx hSw; obtain ⟨l0, ⟨_, q0, q1, q2, _, _, _⟩, r0, q3⟩ := hSw; go_simp <;> with_reducible rfl)
          simp only [Act.put, List.setIfInBounds_toArray, List.set_cons_zero, List.set_cons_succ]
          refine wpAnyH_done (by kernel_rfl) ?_ _
          -- behind it: go_wp2_with fail, then go_meet (a cut) or go_ret; the condition at the end: hH1
          go_wp2_with fail
          go_roundw
          case rel =>
            have hbel := HB.out
            exact ⟨k + 1, by omega, by go_num, fun j hj => (by rcases Nat.lt_succ_iff_lt_or_eq.1 hj with h | h; exact HP.out j h; rw [h]; exact HK.out), (by repeat' first | with_reducible exact Below.refl _ _ | with_reducible assumption | with_reducible refine below_drewN ?_ _ | with_reducible refine balloc ?_ _ | with_reducible refine Below.drew ?_ | with_reducible refine Below.setCell ?_ (by first | (simp; done) | (simp; omega) | omega) _ | with_reducible refine bstep ?_ (by assumption))⟩
          case measure => simp [intOf]; omega
        · obtain ⟨p, rfl⟩ : ∃ p, k = p + 1 := ⟨k - 1, by omega⟩
          obtain ⟨d, hd⟩ : ∃ d, decide ((L (p + 1)).id ≤ (L p).id) = d := ⟨_, rfl⟩
          have HK := hide (okI_s hit hd)
          have d0 := ((HC.out p (by omega)).below hb hbel).c0
          have T := hide (IW.new (c := vc) 55 hl1 vr d0)
          have hq : IntKind.i64.wrap (((p + 1 : Nat) : Int) - 1) = (p : Int) := by rw [wrapIn _ (by omega) (by omega)]; omega
          have hpi : (p : Int) < (n : Int) := by omega
          have hz : decide (0 < p + 1) = true := decide_eq_true (by omega)
          obtain ⟨k, hkk⟩ : ∃ k, p + 1 = k := ⟨_, rfl⟩
          rw [hkk] at hk HP hlt hlt' R HK T hq hz hd c0 c1 c2 ⊢
          have HKK := hide hkk
          clear hbel hpre vr hit d0 hk0 hkk
          go_upto_region 6 with fail
          clear c0 c1 c2
          refine wp_region_held_drew (S := fun wx => IW wx b (off + p * 3) wr.heap.size (L k) (L p).id va vn vc) (by kernel_rfl) (T.out.drew) (fun hH0 => ?_)
          refine wpAnyH_take (i := 0) (oi := { dst := some 25, op := _, type := _, pos := _, after := _, guard := _ }) (v := ?_) rfl (by kernel_rfl) (by kernel_rfl) (by kernel_rfl) (fun _ _ _ h => h) (Or.inl ⟨by rfl, ?_⟩) (hH0) ?_
          rotate_left
          · (intro wx hSw; obtain ⟨l0, ⟨_, q0, q1, q2, _, _, _⟩, r0, q3⟩ := hSw; go_simp <;> with_reducible rfl)
          simp only [Act.put, List.setIfInBounds_toArray, List.set_cons_zero, List.set_cons_succ]
          refine wpAnyH_take (i := 1) (oi := { dst := some 26, op := _, type := _, pos := _, after := _, guard := _ }) (v := ?_) rfl (by kernel_rfl) (by kernel_rfl) (by kernel_rfl) (fun _ _ _ h => h) (Or.inl ⟨by rfl, ?_⟩) (hH0) ?_
          rotate_left
          · (intro wx hSw; obtain ⟨l0, ⟨_, q0, q1, q2, _, _, _⟩, r0, q3⟩ := hSw; go_simp <;> with_reducible rfl)
          simp only [Act.put, List.setIfInBounds_toArray, List.set_cons_zero, List.set_cons_succ]
          refine wpAnyH_ready (rs := [2]) (by kernel_rfl) (by simp) ?_
          refine AllReadyH.cons (o := { dst := some 27, op := _, type := _, pos := _, after := _, guard := _ }) rfl (fun K hK => ?_) AllReadyH.nil
          go_simp
          refine (R.out _ hH0).mono ?_
          rintro e w_c27_1 ⟨rfl, hb_c27_1⟩
          dsimp only
          refine hK.out _ _ (IW.below hH0 hb_c27_1) (fun hH1 => ?_)
          clear hK K
          refine wpAnyH_take (i := 3) (oi := { dst := some 28, op := _, type := _, pos := _, after := _, guard := _ }) (v := ?_) rfl (by kernel_rfl) (by kernel_rfl) (by kernel_rfl) (fun _ _ _ h => h) (Or.inl ⟨by rfl, ?_⟩) (hH1) ?_
          rotate_left
          · (intro wx hSw; obtain ⟨l0, ⟨_, q0, q1, q2, _, _, _⟩, r0, q3⟩ := hSw; go_simp <;> with_reducible rfl)
          simp only [Act.put, List.setIfInBounds_toArray, List.set_cons_zero, List.set_cons_succ]
          refine wpAnyH_take (i := 4) (oi := { dst := some 29, op := _, type := _, pos := _, after := _, guard := _ }) (v := ?_) rfl (by kernel_rfl) (by kernel_rfl) (by kernel_rfl) (fun _ _ _ h => h) (Or.inl ⟨by rfl, ?_⟩) (hH1) ?_
          rotate_left
          · (intro wx hSw; obtain ⟨l0, ⟨_, q0, q1, q2, _, _, _⟩, r0, q3⟩ := hSw; go_simp <;> with_reducible rfl)
          simp only [Act.put, List.setIfInBounds_toArray, List.set_cons_zero, List.set_cons_succ]
          refine wpAnyH_take (i := 5) (oi := { dst := some 30, op := _, type := _, pos := _, after := _, guard := _ }) (v := ?_) rfl (by kernel_rfl) (by kernel_rfl) (by kernel_rfl) (fun _ _ _ h => h) (Or.inl ⟨by rfl, ?_⟩) (hH1) ?_
          rotate_left
          · (intro wx hSw; obtain ⟨l0, ⟨_, q0, q1, q2, _, _, _⟩, r0, q3⟩ := hSw; go_simp <;> with_reducible rfl)
          simp only [Act.put, List.setIfInBounds_toArray, List.set_cons_zero, List.set_cons_succ]
          refine wpAnyH_take (i := 6) (oi := { dst := some 31, op := _, type := _, pos := _, after := _, guard := _ }) (v := ?_) rfl (by kernel_rfl) (by kernel_rfl) (by kernel_rfl) (fun _ _ _ h => h) (Or.inl ⟨by rfl, ?_⟩) (hH1) ?_
          rotate_left
          · (intro wx hSw; obtain ⟨l0, ⟨_, q0, q1, q2, _, _, _⟩, r0, q3⟩ := hSw; go_simp <;> with_reducible rfl)
          simp only [Act.put, List.setIfInBounds_toArray, List.set_cons_zero, List.set_cons_succ]
          refine wpAnyH_take (i := 7) (oi := { dst := some 32, op := _, type := _, pos := _, after := _, guard := _ }) (v := ?_) rfl (by kernel_rfl) (by kernel_rfl) (by kernel_rfl) (fun _ _ _ h => h) (Or.inl ⟨by rfl, ?_⟩) (hH1) ?_
          rotate_left
          · (intro wx hSw; obtain ⟨l0, ⟨_, q0, q1, q2, _, _, _⟩, r0, q3⟩ := hSw; go_simp <;> with_reducible rfl)
          simp only [Act.put, List.setIfInBounds_toArray, List.set_cons_zero, List.set_cons_succ]
          refine wpAnyH_take (i := 8) (oi := { dst := some 33, op := _, type := _, pos := _, after := _, guard := _ }) (v := ?_) rfl (by kernel_rfl) (by kernel_rfl) (by kernel_rfl) (fun _ _ _ h => h) (Or.inl ⟨by rfl, ?_⟩) (hH1) ?_
          rotate_left
          · (intro wx hSw; obtain ⟨l0, ⟨_, q0, q1, q2, _, _, _⟩, r0, q3⟩ := hSw; go_simp <;> with_reducible rfl)
          simp only [Act.put, List.setIfInBounds_toArray, List.set_cons_zero, List.set_cons_succ]
          refine wpAnyH_take (i := 9) (oi := { dst := some 34, op := _, type := _, pos := _, after := _, guard := _ }) (v := ?_) rfl (by kernel_rfl) (by kernel_rfl) (by kernel_rfl) (fun _ _ _ h => h) (Or.inl ⟨by rfl, ?_⟩) (hH1) ?_
          rotate_left
          · (intro wx hSw; obtain ⟨l0, ⟨_, q0, q1, q2, _, _, _⟩, r0, q3⟩ := hSw; go_simp <;> with_reducible rfl)
          simp only [Act.put, List.setIfInBounds_toArray, List.set_cons_zero, List.set_cons_succ]
          refine wpAnyH_take (i := 10) (oi := { dst := some 35, op := _, type := _, pos := _, after := _, guard := _ }) (v := ?_) rfl (by kernel_rfl) (by kernel_rfl) (by kernel_rfl) (fun _ _ _ h => h) (Or.inl ⟨by rfl, ?_⟩) (hH1) ?_
          rotate_left
          · (intro wx hSw; obtain ⟨l0, ⟨_, q0, q1, q2, _, _, _⟩, r0, q3⟩ := hSw; go_simp <;> with_reducible rfl)
          simp only [Act.put, List.setIfInBounds_toArray, List.set_cons_zero, List.set_cons_succ]
          refine wpAnyH_take (i := 11) (oi := { dst := some 36, op := _, type := _, pos := _, after := _, guard := _ }) (v := ?_) rfl (by kernel_rfl) (by kernel_rfl) (by kernel_rfl) (fun _ _ _ h => h) (Or.inl ⟨by rfl, ?_⟩) (hH1) ?_
          rotate_left
          · (intro wx hSw; obtain ⟨l0, ⟨_, q0, q1, q2, _, _, _⟩, r0, q3⟩ := hSw; go_simp <;> with_reducible rfl)
          simp only [Act.put, List.setIfInBounds_toArray, List.set_cons_zero, List.set_cons_succ]
          refine wpAnyH_take (i := 12) (oi := { dst := some 37, op := _, type := _, pos := _, after := _, guard := _ }) (v := ?_) rfl (by kernel_rfl) (by kernel_rfl) (by kernel_rfl) (fun _ _ _ h => h) (Or.inl ⟨by rfl, ?_⟩) (hH1) ?_
          rotate_left
          · (intro wx hSw; obtain ⟨l0, ⟨_, q0, q1, q2, _, _, _⟩, r0, q3⟩ := hSw; go_simp <;> with_reducible rfl)
          simp only [Act.put, List.setIfInBounds_toArray, List.set_cons_zero, List.set_cons_succ]
          refine wpAnyH_take (i := 13) (oi := { dst := some 38, op := _, type := _, pos := _, after := _, guard := _ }) (v := ?_) rfl (by kernel_rfl) (by kernel_rfl) (by kernel_rfl) (fun _ _ _ h => h) (Or.inl ⟨by rfl, ?_⟩) (hH1) ?_
          rotate_left
          · (intro wx hSw; obtain ⟨l0, ⟨_, q0, q1, q2, _, _, _⟩, r0, q3⟩ := hSw; go_simp <;> with_reducible rfl)
          simp only [Act.put, List.setIfInBounds_toArray, List.set_cons_zero, List.set_cons_succ]
          refine wpAnyH_take (i := 14) (oi := { dst := some 39, op := _, type := _, pos := _, after := _, guard := _ }) (v := ?_) rfl (by kernel_rfl) (by kernel_rfl) (by kernel_rfl) (fun _ _ _ h => h) (Or.inl ⟨by rfl, ?_⟩) (hH1) ?_
          rotate_left
          · (intro wx hSw; obtain ⟨l0, ⟨_, q0, q1, q2, _, _, _⟩, r0, q3⟩ := hSw; go_simp <;> with_reducible rfl)
          simp only [Act.put, List.setIfInBounds_toArray, List.set_cons_zero, List.set_cons_succ]
          refine wpAnyH_take (i := 15) (oi := { dst := some 40, op := _, type := _, pos := _, after := _, guard := _ }) (v := ?_) rfl (by kernel_rfl) (by kernel_rfl) (by kernel_rfl) (fun _ _ _ h => h) (Or.inl ⟨by rfl, ?_⟩) (hH1) ?_
          rotate_left
          · (intro wx hSw; obtain ⟨l0, ⟨_, q0, q1, q2, _, _, _⟩, r0, q3⟩ := hSw; go_simp <;> with_reducible rfl)
          simp only [Act.put, List.setIfInBounds_toArray, List.set_cons_zero, List.set_cons_succ]
          refine wpAnyH_take (i := 16) (oi := { dst := some 41, op := _, type := _, pos := _, after := _, guard := _ }) (v := ?_) rfl (by kernel_rfl) (by kernel_rfl) (by kernel_rfl) (fun _ _ _ h => h) (Or.inl ⟨by rfl, ?_⟩) (hH1) ?_
          rotate_left
          · (intro wx hSw; obtain ⟨l0, ⟨_, q0, q1, q2, _, _, _⟩, r0, q3⟩ := hSw; go_simp <;> with_reducible rfl)
          simp only [Act.put, List.setIfInBounds_toArray, List.set_cons_zero, List.set_cons_succ]
          refine wpAnyH_take (i := 17) (oi := { dst := some 42, op := _, type := _, pos := _, after := _, guard := _ }) (v := ?_) rfl (by kernel_rfl) (by kernel_rfl) (by kernel_rfl) (fun _ _ _ h => h) (Or.inl ⟨by rfl, ?_⟩) (hH1) ?_
          rotate_left
          · (intro wx hSw; obtain ⟨l0, ⟨_, q0, q1, q2, _, _, _⟩, r0, q3⟩ := hSw; go_simp <;> with_reducible rfl)
          simp only [Act.put, List.setIfInBounds_toArray, List.set_cons_zero, List.set_cons_succ]
          refine wpAnyH_take (i := 18) (oi := { dst := some 43, op := _, type := _, pos := _, after := _, guard := _ }) (v := ?_) rfl (by kernel_rfl) (by kernel_rfl) (by kernel_rfl) (fun _ _ _ h => h) (Or.inl ⟨by rfl, ?_⟩) (hH1) ?_
          rotate_left
          · (intro wx hSw; obtain ⟨l0, ⟨_, q0, q1, q2, _, _, _⟩, r0, q3⟩ := hSw; go_simp <;> with_reducible rfl)
          simp only [Act.put, List.setIfInBounds_toArray, List.set_cons_zero, List.set_cons_succ]
          refine wpAnyH_done (by kernel_rfl) ?_ _
          -- behind it: go_wp2_with fail, then go_meet (a cut) or go_ret; the condition at the end: hH1
          cases d
          · go_wp2_with fail
            go_roundw
            case rel =>
              have hbel := HB.out
              exact ⟨k + 1, by omega, by go_num, fun j hj => (by rcases Nat.lt_succ_iff_lt_or_eq.1 hj with h | h; exact HP.out j h; rw [h]; exact HK.out), (by repeat' first | with_reducible exact Below.refl _ _ | with_reducible assumption | with_reducible refine below_drewN ?_ _ | with_reducible refine balloc ?_ _ | with_reducible refine Below.drew ?_ | with_reducible refine Below.setCell ?_ (by first | (simp; done) | (simp; omega) | omega) _ | with_reducible refine bstep ?_ (by assumption))⟩
            case measure => simp [intOf]; omega
          · have hno : allN n (okI dim L) = false := allN_no hlt HK.out
            have HN := hide hno
            clear hno
            go_wp2_with fail
            go_ret
            have hbel := HB.out
            exact ⟨by rw [HN.out]; rfl, (by repeat' first | with_reducible exact Below.refl _ _ | with_reducible assumption | with_reducible refine below_drewN ?_ _ | with_reducible refine balloc ?_ _ | with_reducible refine Below.drew ?_ | with_reducible refine Below.setCell ?_ (by first | (simp; done) | (simp; omega) | omega) _ | with_reducible refine bstep ?_ (by assumption))⟩
    · obtain rfl : k = n := by omega
      have e : allN k (okI dim L) = true := allN_yes HP.out
      have E := hide e
      clear e hpre hbel
      go_wp2_with fail
      go_ret
      exact ⟨by rw [E.out]; rfl, HB.out⟩

set_option maxHeartbeats 400000 in
theorem iItemsOk_no (dim : Int) (a : Option Addr) (n cap : Nat) (w : World) (h : ¬ (1 ≤ dim ∧ dim ≤ 8 ∧ n ≤ 60)) (hn : n ≤ 1048576) :
    Calls Try.prog 41 #[.int .i64 dim, .slice a n cap] w fun e w' => e = .returned (.bool false) ∧ Below w.heap.size w w' := by
  by_cases h1 : dim < 1
  · go_enter Try.func41, Try.ntmps41
    go_wp2
    go_ret
    exact ⟨rfl, (by repeat' first | with_reducible exact Below.refl _ _ | with_reducible assumption | with_reducible refine below_drewN ?_ _ | with_reducible refine balloc ?_ _ | with_reducible refine Below.drew ?_ | with_reducible refine Below.setCell ?_ (by first | (simp; done) | (simp; omega) | omega) _ | with_reducible refine bstep ?_ (by assumption))⟩
  · by_cases h2 : 8 < dim
    · go_enter Try.func41, Try.ntmps41
      go_wp2
      go_ret
      exact ⟨rfl, (by repeat' first | with_reducible exact Below.refl _ _ | with_reducible assumption | with_reducible refine below_drewN ?_ _ | with_reducible refine balloc ?_ _ | with_reducible refine Below.drew ?_ | with_reducible refine Below.setCell ?_ (by first | (simp; done) | (simp; omega) | omega) _ | with_reducible refine bstep ?_ (by assumption))⟩
    · have h3 : 60 < n := by omega
      have h4 : (60 : Int) < (n : Int) := by omega
      go_enter Try.func41, Try.ntmps41
      go_wp2
      go_ret
      exact ⟨rfl, (by repeat' first | with_reducible exact Below.refl _ _ | with_reducible assumption | with_reducible refine below_drewN ?_ _ | with_reducible refine balloc ?_ _ | with_reducible refine Below.drew ?_ | with_reducible refine Below.setCell ?_ (by first | (simp; done) | (simp; omega) | omega) _ | with_reducible refine bstep ?_ (by assumption))⟩

set_option maxHeartbeats 400000 in
theorem iItemsOk_none (dim : Int) (a : Option Addr) (n cap : Nat) (w : World) (hd1 : 1 ≤ dim) (hd8 : dim ≤ 8) (hn : n < 1) :
    Calls Try.prog 41 #[.int .i64 dim, .slice a n cap] w fun e w' => e = .returned (.bool true) ∧ Below w.heap.size w w' := by
  obtain rfl : n = 0 := by omega
  go_enter Try.func41, Try.ntmps41
  go_wp2
  refine wp_loop_rounds 1 ?_
  rw [rounds_succ]
  go_wp2
  go_ret
  exact ⟨rfl, (by repeat' first | with_reducible exact Below.refl _ _ | with_reducible assumption | with_reducible refine below_drewN ?_ _ | with_reducible refine balloc ?_ _ | with_reducible refine Below.drew ?_ | with_reducible refine Below.setCell ?_ (by first | (simp; done) | (simp; omega) | omega) _ | with_reducible refine bstep ?_ (by assumption))⟩

theorem iItemsOk_any (dim : Int) (a : Option Addr) (n cap : Nat) (L : IL) (w : World) (h : IRow w a n L) (hn : n ≤ 1048576) (hv : ∀ i, i < n → (L i).vec.length ≤ 1048576) :
    Calls Try.prog 41 #[.int .i64 dim, .slice a n cap] w fun e w' => e = .returned (.bool (itemsB dim n L)) ∧ Below w.heap.size w w' := by
  by_cases hd : 1 ≤ dim ∧ dim ≤ 8 ∧ n ≤ 60
  · have e : itemsB dim n L = allN n (okI dim L) := by
      unfold itemsB inB
      rw [decide_eq_true (show 1 ≤ dim ∧ dim ≤ 8 from ⟨hd.1, hd.2.1⟩), decide_eq_true hd.2.2]
      rfl
    rw [e]
    rcases h.lies with h0 | ⟨b, off, rfl, lt, hc⟩
    · rw [allN_yes (fun i hi => absurd hi (by omega))]
      exact iItemsOk_none dim a n cap w hd.1 hd.2.1 (by omega)
    · exact iItemsOk_some dim b off n cap L w hd.1 hd.2.1 hd.2.2 hv lt hc
  · have e : itemsB dim n L = false := by
      unfold itemsB inB
      by_cases h1 : 1 ≤ dim ∧ dim ≤ 8
      · rw [decide_eq_true h1, decide_eq_false (show ¬ n ≤ 60 from fun h => hd ⟨h1.1, h1.2, h⟩)]
        rfl
      · rw [decide_eq_false h1]
        rfl
    rw [e]
    exact iItemsOk_no dim a n cap w hd hn
end Go.Proofs.Ytmbncafbbpcmbaa

/- placeOf of the program: sort.Search over items that rise. -/
namespace Go.Proofs.Ytmbncafbbpcmbaa
open Go.RowKit
set_option maxRecDepth 8000
set_option linter.unusedSimpArgs false
set_option linter.unusedVariables false



/-- Where the item of an id is, or would be. -/
structure IsPlace (n : Nat) (L : IL) (id : Int) (p : Nat) : Prop where
  le : p ≤ n
  lo : ∀ i, i < p → (L i).id < id
  hi : ∀ i, p ≤ i → i < n → id ≤ (L i).id



/-- The answer of placeOf. -/
def PlaceR (w : World) (n : Nat) (L : IL) (id : Int) (e : Ending) (w' : World) : Prop :=
  ∃ p : Nat, e = .returned (.tuple #[.int .i64 p, .bool (decide (p < n ∧ (L p).id = id))]) ∧ IsPlace n L id p ∧ Below w.heap.size w w'







end Go.Proofs.Ytmbncafbbpcmbaa
/- Items that grow by append: the row in one block, the vectors in blocks of their own. -/
namespace Go.Proofs.Ytmbncafbbpcmbaa
open Go.RowKit
set_option maxRecDepth 8000
set_option linter.unusedSimpArgs false
set_option linter.unusedVariables false

/-- The cells of the first k items, as a list. -/
def icl (M : IL) (sv : Nat → Value) : Nat → List Value
  | 0 => []
  | k + 1 => icl M sv k ++ [.int .i64 (M k).id, .int .i64 (M k).tags, sv k]
theorem icl_len (M : IL) (sv : Nat → Value) (k : Nat) : (icl M sv k).length = k * 3 := by
  induction k with
  | zero => rfl
  | succ k ih => simp only [icl, List.length_append, ih]; simp; omega
theorem icl_congr {M N : IL} {sv sv' : Nat → Value} {k : Nat} (h : ∀ i, i < k → M i = N i) (h' : ∀ i, i < k → sv i = sv' i) : icl M sv k = icl N sv' k := by
  induction k with
  | zero => rfl
  | succ k ih => simp only [icl]; rw [ih (fun i hi => h i (by omega)) (fun i hi => h' i (by omega)), h k (by omega), h' k (by omega)]
theorem icl_put (M : IL) (sv : Nat → Value) (k : Nat) (x : It) (v : Value) : icl (M.put k x) (putF sv k v) (k + 1) = icl M sv k ++ [.int .i64 x.id, .int .i64 x.tags, v] := by
  simp only [icl]
  rw [IL.put_at, putF_at, icl_congr (fun i hi => IL.put_off M x (show i ≠ k by omega)) (fun i hi => putF_off sv v (show i ≠ k by omega))]
theorem icl_at (M : IL) (sv : Nat → Value) {k j : Nat} (hj : j < k * 3) : (icl M sv k)[j]? = some (icell M sv j) := by
  induction k with
  | zero => omega
  | succ k ih =>
    simp only [icl]
    by_cases h : j < k * 3
    · rw [List.getElem?_append_left (by rw [icl_len]; exact h)]
      exact ih h
    · rw [List.getElem?_append_right (by rw [icl_len]; omega), icl_len]
      rcases (show j = k * 3 ∨ j = k * 3 + 1 ∨ j = k * 3 + 2 by omega) with rfl | rfl | rfl
      · rw [icell_0, Nat.sub_self]; rfl
      · rw [icell_1, show k * 3 + 1 - k * 3 = 1 by omega]; rfl
      · rw [icell_2, show k * 3 + 2 - k * 3 = 2 by omega]; rfl

structure GI (w : World) (base g cap m : Nat) (M : IL) (V : Nat → Nat) (sv : Nat → Value) : Prop where
  own : w.ownsRow base 55 3 (.slice (some ⟨g, 0, none⟩) m cap) m (icl M sv m)
  vecs : Vecs w base m M V sv g
theorem GI.shape {w : World} {base g cap m : Nat} {M : IL} {V : Nat → Nat} {sv : Nat → Value} (h : GI w base g cap m M V sv) : base ≤ g ∧ ∃ cur, w.heap[g]? = some (.cells cur 55 (0, 0)) ∧ m ≤ cap ∧ cap ≤ maxLen ∧ cur.size = cap * 3 ∧ cur.toList.take (m * 3) = icl M sv m := by
  rcases h.own.2 with ⟨h0, _⟩ | ⟨g', cap', cur, hv, hb, hg, hcap, hm, hsz, htake⟩
  · cases h0
  · simp only [Value.slice.injEq, Option.some.injEq, Addr.mk.injEq] at hv
    obtain ⟨⟨rfl, _⟩, _, rfl⟩ := hv
    exact ⟨hb, cur, hg, hcap, hm, hsz, htake⟩
theorem GI.lt {w : World} {base g cap m : Nat} {M : IL} {V : Nat → Nat} {sv : Nat → Value} (h : GI w base g cap m M V sv) : g < w.heap.size := by
  obtain ⟨_, cur, hg, _⟩ := h.shape
  exact (Array.getElem?_eq_some_iff.1 hg).1
theorem GI.below {w w' : World} {base g cap m : Nat} {M : IL} {V : Nat → Nat} {sv : Nat → Value} (h : GI w base g cap m M V sv) (hb : Below w.heap.size w w') : GI w' base g cap m M V sv := by
  obtain ⟨h1, cur, hg, h2, h3, h4, h5⟩ := h.shape
  exact ⟨⟨icl_len _ _ _, .inr ⟨g, cap, cur, rfl, h1, (hb.block g h.lt).trans hg, h2, h3, h4, h5⟩⟩, h.vecs.below hb⟩
theorem GI.arr {w : World} {base g cap m : Nat} {M : IL} {V : Nat → Nat} {sv : Nat → Value} (h : GI w base g cap m M V sv) : Arr w g (m * 3) (icell M sv) := by
  obtain ⟨h1, cur, hg, h2, h3, h4, h5⟩ := h.shape
  refine ⟨cur, _, hg, by omega, fun j hj => ?_⟩
  rw [← icl_at M sv hj, ← h5, List.getElem?_take_of_lt hj, Array.getElem?_toList]
theorem GI.its {w : World} {base g cap m : Nat} {M : IL} {V : Nat → Nat} {sv : Nat → Value} (h : GI w base g cap m M V sv) : Its w base w.heap.size (some ⟨g, 0, none⟩) m M g V sv := h.vecs.its h.shape.1 h.arr
theorem GI.new (w : World) (V : Nat → Nat) (sv : Nat → Value) (M : IL) : GI (w.alloc (.cells #[] 55)) w.heap.size w.heap.size 0 0 M V sv :=
  ⟨⟨rfl, .inr ⟨w.heap.size, 0, #[], rfl, Nat.le_refl _, Go.Deep.blk_alloc_new _ _, Nat.le_refl _, Nat.zero_le _, rfl, rfl⟩⟩, Vecs.zero _ _ _ _ _ _⟩
/-- One more. -/
theorem GI.step {w w1 w2 w3 : World} {base g cap m : Nat} {M : IL} {V : Nat → Nat} {sv : Nat → Value} (h : GI w base g cap m M V sv) (hB : base ≤ w.heap.size) (hb : Below w.heap.size w w1) (x : It) (v : Value) (gv : Nat) (hv : VSl w1 w.heap.size w1.heap.size v x.vec gv)
    (hb2 : Below w1.heap.size w1 w2) {g' cap' : Nat} (hown : w3.ownsRow base 55 3 (.slice (some ⟨g', 0, none⟩) (m + 1) cap') (m + 1) (icl M sv m ++ [.int .i64 x.id, .int .i64 x.tags, v]))
    (hgrow : w2.grownBy w3 (some g)) (hat : some g = some g' ∨ g' = w2.heap.size) : GI w3 base g' cap' (m + 1) (M.put m x) (putF V m gv) (putF sv m v) := by
  have hs := (h.vecs.step hb hB h.lt x v gv hv).below hb2
  have hr := hs.row hgrow.size fun i hi hne => hgrow.block i hi (by simpa using hne)
  refine ⟨by rw [icl_put]; exact hown, hr.vec, fun i hi h0 => ⟨?_, (hr.sep i hi h0).2⟩⟩
  rcases hat with e | e
  · cases e; exact (hr.sep i hi h0).1
  · have := ((hs.vec i hi).lt h0).2.2
    omega

theorem itemInfo : ∃ i : TypeInfo, Try.prog.info? 55 = some i ∧ i.zero = some (.agg #[.int .i64 0, .int .i64 0, .slice none 0 0]) ∧ i.size = 3 ∧ i.bytes = 40 := by
  obtain ⟨i, hi, hzz⟩ := Option.map_eq_some_iff.1 Try.infoItem
  simp only [Prod.mk.injEq] at hzz
  exact ⟨i, hi, hzz.1, hzz.2.1, hzz.2.2⟩
theorem three_new (w : World) (x y z : Value) (t : TypeId) : ∀ (j : Nat) (u : Value), [x, y, z][j]? = some u → (w.alloc (.cells #[x, y, z] t)).cell? ((⟨w.heap.size, 0, none⟩ : Addr).add j) = some u := by
  intro j u hj
  match j, hj with
  | 0, hj => simp at hj; subst hj; simp [Addr.add]
  | 1, hj => simp at hj; subst hj; simp [Addr.add]
  | 2, hj => simp at hj; subst hj; simp [Addr.add]
  | j + 3, hj => simp at hj
theorem three_one (x y : Int) (a : Option Addr) (n c : Nat) : ∀ u ∈ [Value.int .i64 x, .int .i64 y, .slice a n c], u.oneCell' = true := by
  intro u hu
  simp at hu
  rcases hu with rfl | rfl | rfl <;> rfl

/-- How many of the first k are such, and these. -/
def cntP (p : It → Bool) (L : IL) : Nat → Nat
  | 0 => 0
  | k + 1 => if p (L k) then cntP p L k + 1 else cntP p L k
def fil (p : It → Bool) (L : IL) : Nat → IL
  | 0 => fun _ => ⟨0, 0, []⟩
  | k + 1 => if p (L k) then (fil p L k).put (cntP p L k) (L k) else fil p L k
theorem cntP_le (p : It → Bool) (L : IL) (k : Nat) : cntP p L k ≤ k := by
  induction k with
  | zero => exact Nat.le_refl _
  | succ k ih => simp only [cntP]; split <;> omega
theorem cntP_yes {p : It → Bool} {L : IL} {k : Nat} (h : p (L k) = true) : cntP p L (k + 1) = cntP p L k + 1 := by simp [cntP, h]
theorem cntP_no {p : It → Bool} {L : IL} {k : Nat} (h : p (L k) = false) : cntP p L (k + 1) = cntP p L k := by simp [cntP, h]
theorem fil_yes {p : It → Bool} {L : IL} {k : Nat} (h : p (L k) = true) : fil p L (k + 1) = (fil p L k).put (cntP p L k) (L k) := by simp [fil, h]
theorem fil_no {p : It → Bool} {L : IL} {k : Nat} (h : p (L k) = false) : fil p L (k + 1) = fil p L k := by simp [fil, h]
theorem sumV_congr {M N : IL} {k : Nat} (h : ∀ i, i < k → M i = N i) : sumV M k = sumV N k := by
  induction k with
  | zero => rfl
  | succ k ih => simp only [sumV]; rw [ih (fun i hi => h i (by omega)), h k (by omega)]
theorem sumV_fil (p : It → Bool) (L : IL) (k : Nat) : sumV (fil p L k) (cntP p L k) ≤ sumV L k := by
  induction k with
  | zero => exact Nat.le_refl _
  | succ k ih =>
    cases h : p (L k)
    · rw [cntP_no h, fil_no h]; simp only [sumV]; omega
    · rw [cntP_yes h, fil_yes h]
      simp only [sumV]
      rw [IL.put_at, sumV_congr (N := fil p L k) (fun i hi => IL.put_off _ _ (show i ≠ cntP p L k by omega))]
      omega
theorem fil_mem (p : It → Bool) (L : IL) (k : Nat) : ∀ i, i < cntP p L k → ∃ j, j < k ∧ fil p L k i = L j := by
  induction k with
  | zero => intro i hi; exact absurd hi (by simp [cntP])
  | succ k ih =>
    intro i hi
    cases h : p (L k)
    · rw [cntP_no h] at hi
      obtain ⟨j, hj, e⟩ := ih i hi
      exact ⟨j, by omega, by rw [fil_no h, e]⟩
    · rw [cntP_yes h] at hi
      rw [fil_yes h]
      by_cases e : i = cntP p L k
      · subst e; exact ⟨k, by omega, IL.put_at _ _ _⟩
      · obtain ⟨j, hj, e'⟩ := ih i (by omega)
        exact ⟨j, by omega, by rw [IL.put_off _ _ e, e']⟩
/-- Whether an item has all bits of a mask. -/
def mtB (mask : Int) (x : It) : Bool := bits .and .i64 x.tags mask == mask
end Go.Proofs.Ytmbncafbbpcmbaa

/- copiedItems of the program: items of several slices, one behind the other. -/
namespace Go.Proofs.Ytmbncafbbpcmbaa
open Go.RowKit
set_option maxRecDepth 8000
set_option linter.unusedSimpArgs false
set_option linter.unusedVariables false

/-- How many items the first i parts have, and these. -/
def catN (pn : Nat → Nat) : Nat → Nat
  | 0 => 0
  | i + 1 => catN pn i + pn i
def catL (pn : Nat → Nat) (PL : Nat → IL) : Nat → IL
  | 0 => fun _ => ⟨0, 0, []⟩
  | i + 1 => fun j => if j < catN pn i then catL pn PL i j else PL i (j - catN pn i)
theorem catN_mono {pn : Nat → Nat} {i j : Nat} (h : i ≤ j) : catN pn i ≤ catN pn j := by
  induction j with
  | zero => rw [show i = 0 by omega]; exact Nat.le_refl _
  | succ j ih =>
    by_cases e : i = j + 1
    · subst e; exact Nat.le_refl _
    · have := ih (by omega); show catN pn i ≤ catN pn j + _; omega
theorem GI.congr {w : World} {base g cap m : Nat} {M N : IL} {V : Nat → Nat} {sv : Nat → Value} (h : GI w base g cap m M V sv) (e : ∀ i, i < m → M i = N i) : GI w base g cap m N V sv :=
  ⟨by rw [← icl_congr e (fun _ _ => rfl)]; exact h.own, h.vecs.congr e (fun _ _ => rfl) (fun _ _ => rfl)⟩
/-- Items that grow, which are the first m of N. -/
def GIs (w : World) (base : Nat) (v : Value) (m : Nat) (N : IL) : Prop := ∃ g c V sv, v = .slice (some ⟨g, 0, none⟩) m c ∧ GI w base g c m N V sv

/-- The slices that lie in a block, one cell each. -/
structure Parts (w : World) (pb np : Nat) (pa : Nat → Option Addr) (pn pc : Nat → Nat) (PL : Nat → IL) : Prop where
  lt : pb < w.heap.size
  cell : ∀ i, i < np → w.cell? ⟨pb, i, none⟩ = some (.slice (pa i) (pn i) (pc i))
  row : ∀ i, i < np → IRow w (pa i) (pn i) (PL i)
theorem Parts.below {w w' : World} {pb np : Nat} {pa : Nat → Option Addr} {pn pc : Nat → Nat} {PL : Nat → IL} (h : Parts w pb np pa pn pc PL) (hb : Below w.heap.size w w') : Parts w' pb np pa pn pc PL :=
  ⟨Nat.lt_of_lt_of_le h.lt hb.size, fun i hi => (hb.cell (p := ⟨pb, i, none⟩) h.lt).trans (h.cell i hi), fun i hi => (h.row i hi).below hb⟩

/-- The answer of copiedItems. -/
def CatR (w : World) (m : Nat) (N : IL) (e : Ending) (w' : World) : Prop :=
  ∃ v, e = .returned v ∧ GIs w' w.heap.size v m N ∧ Below w.heap.size w w'

end Go.Proofs.Ytmbncafbbpcmbaa
/- ItemDrop, plain: what is left of items that rise without one of them; of the model and of the program. -/
namespace Go.Proofs.Ytmbncafbbpcmbaa
open Go.RowKit
set_option maxRecDepth 8000
set_option linter.unusedSimpArgs false
set_option linter.unusedVariables false

theorem itemsB_n {dim : Int} {n : Nat} {L : IL} (h : itemsB dim n L = true) : n ≤ 60 := by
  unfold itemsB at h
  simp only [Bool.and_eq_true, decide_eq_true_eq] at h
  exact h.1.2
theorem itemsB_ok {dim : Int} {n : Nat} {L : IL} (h : itemsB dim n L = true) {k : Nat} (hk : k < n) : okI dim L k = true := by
  unfold itemsB at h
  simp only [Bool.and_eq_true] at h
  cases e : okI dim L k
  · rw [allN_no hk e] at h; exact absurd h.2 (by simp)
  · rfl
theorem itemsB_next {dim : Int} {n : Nat} {L : IL} (h : itemsB dim n L = true) {k : Nat} (hk : k + 1 < n) : (L k).id < (L (k + 1)).id := by
  have := itemsB_ok h hk
  unfold okI at this
  simp only [Bool.and_eq_true, Bool.or_eq_true, decide_eq_true_eq, Bool.not_eq_true', decide_eq_false_iff_not, Nat.add_sub_cancel] at this
  rcases this.2 with h | h <;> omega
theorem itemsB_rise {dim : Int} {n : Nat} {L : IL} (h : itemsB dim n L = true) {i j : Nat} (hij : i < j) (hj : j < n) : (L i).id < (L j).id := by
  induction j with
  | zero => omega
  | succ j ih =>
    have := itemsB_next h hj
    by_cases e : i = j
    · subst e; exact this
    · have := ih (by omega) (by omega); omega
theorem itemsB_le {dim : Int} {n : Nat} {L : IL} (h : itemsB dim n L = true) (i j : Nat) (hij : i ≤ j) (hj : j < n) : (L i).id ≤ (L j).id := by
  by_cases e : i = j
  · subst e; exact Int.le_refl _
  · exact Int.le_of_lt (itemsB_rise h (by omega) hj)

def neB (id : Int) (x : It) : Bool := x.id != id
/-- All but the p-th. -/
def sansL (L : IL) (p : Nat) : IL := fun j => if j < p then L j else L (j + 1)
theorem sans_fil {L : IL} {id : Int} {n p : Nat} (hp : p < n) (he : (L p).id = id) (hne : ∀ i, i < n → i ≠ p → (L i).id ≠ id) : ∀ k, k ≤ n → (k ≤ p → cntP (neB id) L k = k ∧ ∀ j, j < k → fil (neB id) L k j = L j) ∧ (p < k → cntP (neB id) L k = k - 1 ∧ ∀ j, j < k - 1 → fil (neB id) L k j = sansL L p j) := by
  intro k
  induction k with
  | zero => intro _; exact ⟨fun _ => ⟨rfl, fun j hj => absurd hj (by omega)⟩, fun h => absurd h (by omega)⟩
  | succ k ih =>
    intro hk
    obtain ⟨i1, i2⟩ := ih (by omega)
    by_cases e : k = p
    · subst e
      have hb : neB id (L k) = false := by simp [neB, he]
      obtain ⟨q1, q2⟩ := i1 (Nat.le_refl _)
      refine ⟨fun h => absurd h (by omega), fun _ => ⟨by rw [cntP_no hb, q1]; omega, fun j hj => ?_⟩⟩
      rw [fil_no hb, q2 j (by omega)]
      simp [sansL, show j < k by omega]
    · have hb : neB id (L k) = true := by simpa [neB] using hne k (by omega) e
      by_cases hkp : k < p
      · obtain ⟨q1, q2⟩ := i1 (by omega)
        refine ⟨fun _ => ⟨by rw [cntP_yes hb, q1], fun j hj => ?_⟩, fun h => absurd h (by omega)⟩
        rw [fil_yes hb, q1]
        by_cases ej : j = k
        · subst ej; rw [IL.put_at]
        · rw [IL.put_off _ _ ej, q2 j (by omega)]
      · obtain ⟨q1, q2⟩ := i2 (by omega)
        refine ⟨fun h => absurd h (by omega), fun _ => ⟨by rw [cntP_yes hb, q1]; omega, fun j hj => ?_⟩⟩
        rw [fil_yes hb, q1]
        by_cases ej : j = k - 1
        · subst ej
          rw [IL.put_at]
          simp only [sansL]
          rw [if_neg (by omega), show k - 1 + 1 = k by omega]
        · rw [IL.put_off _ _ ej, q2 j (by omega)]

/-- The place that was found is of the first one that has the id. -/
theorem place_find {dim : Int} {n : Nat} {L : IL} {id : Int} {p : Nat} (hit : itemsB dim n L = true) (hp : IsPlace n L id p) : (findX n L id).2 = decide (p < n ∧ (L p).id = id) := by
  by_cases h : p < n ∧ (L p).id = id
  · rw [decide_eq_true h, findX_hit h.1 h.2 fun j hj => by have := hp.lo j hj; omega]
  · rw [decide_eq_false h, findX_miss fun j hj e => ?_]
    rcases Nat.lt_or_ge j p with hlt | hge
    · have := hp.lo j hlt; omega
    · by_cases hpj : p = j
      · subst hpj; exact h ⟨hj, e⟩
      · have h1 := hp.hi p (Nat.le_refl _) (by omega)
        have h2 := itemsB_rise hit (show p < j by omega) hj
        omega

/-- The answer of ItemDrop, and of whoever tells items and something beside them. -/
def TwoR (w : World) (m : Nat) (N : IL) (u : Value) (e : Ending) (w' : World) : Prop :=
  ∃ a cap g V sv, e = .returned (.tuple #[.slice a m cap, u]) ∧ Its w' w.heap.size w'.heap.size a m N g V sv ∧ Below w.heap.size w w'
theorem twoR_nil {w w' : World} {u : Value} {N : IL} {e : Ending} (he : e = .returned (.tuple #[.slice none 0 0, u])) (hb : Below w.heap.size w w') : TwoR w 0 N u e w' :=
  ⟨none, 0, 0, fun _ => 0, fun _ => .slice none 0 0, he, ⟨.inl rfl, fun i hi => absurd hi (by omega), fun i hi => absurd hi (by omega)⟩, hb⟩

theorem GI.low {w : World} {base base' g cap m : Nat} {M : IL} {V : Nat → Nat} {sv : Nat → Value} (h : GI w base g cap m M V sv) (hb : base' ≤ base) : GI w base' g cap m M V sv := by
  obtain ⟨h1, cur, hg, h2⟩ := h.shape
  exact ⟨⟨icl_len _ _ _, .inr ⟨g, cap, cur, rfl, by omega, hg, h2⟩⟩, fun i hi => (h.vecs.vec i hi).mono hb (Nat.le_refl _), h.vecs.sep⟩
/-- As TwoR, and the row's room is known. -/
def TwoG (w : World) (m : Nat) (N : IL) (u : Value) (e : Ending) (w' : World) : Prop :=
  ∃ v, e = .returned (.tuple #[v, u]) ∧ ((v = .slice none 0 0 ∧ m = 0) ∨ GIs w' w.heap.size v m N) ∧ Below w.heap.size w w'
def TwoGs (w : World) (m : Nat) (N : IL) (u : Value) (e : Ending) (w' : World) : Prop :=
  ∃ v, e = .returned (.tuple #[v, u]) ∧ GIs w' w.heap.size v m N ∧ Below w.heap.size w w'
theorem TwoGs.g {w : World} {m : Nat} {N : IL} {u : Value} {e : Ending} {w' : World} (h : TwoGs w m N u e w') : TwoG w m N u e w' := by
  obtain ⟨v, he, hg, hb⟩ := h
  exact ⟨v, he, .inr hg, hb⟩
theorem twoG_nil {w w' : World} {u : Value} {N : IL} {e : Ending} (he : e = .returned (.tuple #[.slice none 0 0, u])) (hb : Below w.heap.size w w') : TwoG w 0 N u e w' :=
  ⟨_, he, .inl ⟨rfl, rfl⟩, hb⟩
theorem TwoG.two {w : World} {m : Nat} {N : IL} {u : Value} {e : Ending} {w' : World} (h : TwoG w m N u e w') : TwoR w m N u e w' := by
  obtain ⟨v, he, ⟨rfl, rfl⟩ | ⟨g, c, V, sv, rfl, hg⟩, hb⟩ := h
  · exact twoR_nil he hb
  · exact ⟨_, c, g, V, sv, he, hg.its, hb⟩
theorem TwoG.less {w : World} {m : Nat} {N M : IL} {u : Value} {e : Ending} {w' : World} (h : TwoG w m N u e w') (he : ∀ i, i < m → N i = M i) : TwoG w m M u e w' := by
  obtain ⟨v, h1, ⟨rfl, rfl⟩ | ⟨g, c, V, sv, rfl, hg⟩, hb⟩ := h
  · exact ⟨_, h1, .inl ⟨rfl, rfl⟩, hb⟩
  · exact ⟨_, h1, .inr ⟨g, c, V, sv, rfl, hg.congr he⟩, hb⟩

def dropB (dim : Int) (n : Nat) (L : IL) (id : Int) : Bool := itemsB dim n L && (findX n L id).2
def dropN (dim : Int) (n : Nat) (L : IL) (id : Int) : Nat := if dropB dim n L id then cntP (neB id) L n else 0
end Go.Proofs.Ytmbncafbbpcmbaa
