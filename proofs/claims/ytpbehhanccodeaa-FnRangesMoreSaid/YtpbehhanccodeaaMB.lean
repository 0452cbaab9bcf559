/- rangeAt of the program. -/
import Derived.Test.YtpbehhanccodeaaMA
import Derived.Deep.RegionHeld3
namespace Go.Proofs.Ytpbehhanccodeaa
open Go.RowKit
set_option maxRecDepth 8000
set_option linter.unusedSimpArgs false
set_option linter.unusedVariables false

set_option maxHeartbeats 400000 in
theorem joinAt (al ah bl bh : Int) (w : World) :
    Calls Try.prog 32 #[.agg #[.int .i64 al, .int .i64 ah], .agg #[.int .i64 bl, .int .i64 bh]] w fun e w' => e = .returned (.agg #[.int .i64 (min al bl), .int .i64 (max ah bh)]) ∧ Below w.heap.size w w' := by
  go_enter Try.func32, Try.ntmps32
  go_wp2
  all_goals exact bodyPost_ret (v := .agg #[.int .i64 (min al bl), .int .i64 (max ah bh)]) (by simp [results, Try.results32, go_sem]; omega) rfl ⟨rfl, (by repeat' first | with_reducible exact Below.refl _ _ | with_reducible assumption | with_reducible refine below_drewN ?_ _ | with_reducible refine balloc ?_ _ | with_reducible refine Below.drew ?_ | with_reducible refine Below.setCell ?_ (by first | (simp; done) | (simp; omega) | omega) _ | with_reducible refine bstep ?_ (by assumption))⟩

def loF (xss : List (List Int)) (p : Nat) : Nat → Int
  | 0 => nth (row xss 0) p
  | k + 1 => min (loF xss p k) (nth (row xss k) p)
def hiF (xss : List (List Int)) (p : Nat) : Nat → Int
  | 0 => nth (row xss 0) p
  | k + 1 => max (hiF xss p k) (nth (row xss k) p)

/-- A box of two cells that may be written. -/
structure Pr (w : World) (b : Nat) (x y : Value) : Prop where
  lt : b < w.heap.size
  c0 : w.cell? ⟨b, 0, none⟩ = some x
  c1 : w.cell? ⟨b, 1, none⟩ = some y
  f0 : w.frozen? ⟨b, 0, none⟩ = false
  f1 : w.frozen? ⟨b, 1, none⟩ = false

theorem Pr.below {w w' : World} {b : Nat} {x y : Value} (h : Pr w b x y) (hb : Below w.heap.size w w') : Pr w' b x y :=
  ⟨Nat.lt_of_lt_of_le h.lt hb.size, (hb.cell (p := ⟨b, 0, none⟩) h.lt).trans h.c0, (hb.cell (p := ⟨b, 1, none⟩) h.lt).trans h.c1, (hb.frozen (p := ⟨b, 0, none⟩) h.lt).trans h.f0, (hb.frozen (p := ⟨b, 1, none⟩) h.lt).trans h.f1⟩

theorem Pr.alloc {w : World} {b : Nat} {x y : Value} (h : Pr w b x y) (o : Obj) : Pr (w.alloc o) b x y := h.below (balloc (Below.refl _ _) o)

theorem Pr.new (w : World) (x y : Value) (T : TypeId) : Pr (w.alloc (.cells #[x, y] T)) w.heap.size x y := ⟨by simp, by simp, by simp, by simp, by simp⟩

theorem Pr.drew {w : World} {b : Nat} {x y : Value} (h : Pr w b x y) : Pr w.drew b x y := ⟨h.lt, h.c0, h.c1, h.f0, h.f1⟩

theorem Pr.set {w : World} {b : Nat} {x y : Value} (h : Pr w b x y) (x' y' : Value) : Pr ((w.setCell ⟨b, 0, none⟩ x').setCell ⟨b, 1, none⟩ y') b x' y' := by
  obtain ⟨lt, c0, c1, f0, f1⟩ := h
  have e1 : (w.setCell ⟨b, 0, none⟩ x').cell? ⟨b, 1, none⟩ = some y := (World.cell?_setCell_other _ _ _ _ (by simp)).trans c1
  refine ⟨by simpa [World.setCell] using lt, ?_, World.cell?_setCell_same _ _ _ e1, ?_, ?_⟩
  · rw [World.cell?_setCell_other _ _ _ _ (by simp)]
    exact World.cell?_setCell_same _ _ _ c0
  · simp [go_sem, f0]
  · simp [go_sem, f1]

theorem Pr.far {w : World} {b g : Nat} {x y : Value} (h : Pr w b x y) (hne : g ≠ b) (o : Nat) (v : Value) : Pr (w.setCell ⟨g, o, none⟩ v) b x y := by
  obtain ⟨lt, c0, c1, f0, f1⟩ := h
  refine ⟨by simpa [World.setCell] using lt, ?_, ?_, ?_, ?_⟩
  · rw [World.cell?_setCell_other _ _ _ _ (by simp [hne])]; exact c0
  · rw [World.cell?_setCell_other _ _ _ _ (by simp [hne])]; exact c1
  · simp [go_sem, f0]
  · simp [go_sem, f1]

set_option maxRecDepth 4000 in
set_option maxHeartbeats 2000000 in
theorem rangeAt_any (b off m cap p : Nat) (xss : List (List Int)) (w : World) (hb : b < w.heap.size) (h1 : 1 ≤ m) (hm : m ≤ 1048576) (hp : p ≤ 1048576)
    (hc : ∀ i, i < m → ∃ b' o' n' c', w.cell? ⟨b, off + i, none⟩ = some (.slice (some ⟨b', o', none⟩) n' c') ∧ p < n' ∧ b' < w.heap.size ∧ w.cell? ⟨b', o' + p, none⟩ = some (.int .i64 (nth (row xss i) p))) :
    Calls Try.prog 19 #[.slice (some ⟨b, off, none⟩) m cap, .int .i64 p] w fun e w' => e = .returned (.agg #[.int .i64 (loF xss p m), .int .i64 (hiF xss p m)]) ∧ Below w.heap.size w w' := by
  obtain ⟨b0, o0, n0, c0, t0, p0, l0, u0⟩ := hc 0 (by omega)
  have t0 : w.cell? ⟨b, off, none⟩ = some (.slice (some ⟨b0, o0, none⟩) n0 c0) := t0
  have HC := hide hc
  have hm0 : (0 : Int) < (m : Int) := by omega
  have hmN : 0 < m := by omega
  have hp0 : (0 : Int) ≤ (p : Int) := by omega
  have hp1 : (p : Int) < (n0 : Int) := by omega
  obtain ⟨x, ex⟩ : ∃ x, nth (row xss 0) p = x := ⟨_, rfl⟩
  rw [ex] at u0
  have EX := hide ex
  clear hc ex
  go_enter Try.func19, Try.ntmps19
  go_wp2_with fail
  go_region_held3 (fun w' => w'.cell? ⟨b, off, none⟩ = some (.slice (some ⟨b0, o0, none⟩) n0 c0) ∧ w'.cell? ⟨b0, o0 + p, none⟩ = some (.int .i64 x)) (go_keep) (fail)
  go_wp2_with fail
  go_loopw [23] (fun i wr => ∃ k : Nat, k ≤ m ∧ i = .int .i64 k ∧ Pr wr (w.heap.size + 1) (.int .i64 (loF xss p k)) (.int .i64 (hiF xss p k)) ∧ Pr wr w.heap.size (.int .i64 0) (.int .i64 0) ∧ Below w.heap.size w wr) (fun i _ => m - (intOf i).toNat)
  case atStart =>
    refine ⟨0, Nat.zero_le _, rfl, ?_, (Pr.new w _ _ _).alloc _ |>.drew, (by repeat' first | with_reducible exact Below.refl _ _ | with_reducible assumption | with_reducible refine below_drewN ?_ _ | with_reducible refine balloc ?_ _ | with_reducible refine Below.drew ?_ | with_reducible refine Below.setCell ?_ (by first | (simp; done) | (simp; omega) | omega) _ | with_reducible refine bstep ?_ (by assumption))⟩
    have := Pr.new (w.alloc (.cells #[.int .i64 0, .int .i64 0] 32)) (.int .i64 x) (.int .i64 x) 32
    rw [World.size_alloc] at this
    unfold loF hiF
    rw [EX.out]
    exact this.drew
  case round =>
    obtain ⟨k, hk, rfl, pr, p0r, hbel⟩ := hrel
    have HB := hide hbel
    have PR := hide pr
    have P0 := hide p0r
    clear t0 u0
    by_cases hlt : k < m
    · obtain ⟨b1, o1, n1, c1, t1, q1, l1, u1⟩ := HC.out k hlt
      have t1 := (hbel.cell (p := ⟨b, off + k, none⟩) hb).trans t1
      have u1 := (hbel.cell (p := ⟨b1, o1 + p, none⟩) l1).trans u1
      obtain ⟨y, ey⟩ : ∃ y, nth (row xss k) p = y := ⟨_, rfl⟩
      obtain ⟨lo, elo⟩ : ∃ lo, loF xss p k = lo := ⟨_, rfl⟩
      obtain ⟨hi, ehi⟩ : ∃ hi, hiF xss p k = hi := ⟨_, rfl⟩
      rw [ey] at u1
      rw [elo, ehi] at PR pr
      obtain ⟨g0, g1, g2, g3, g4⟩ := pr
      have hlt' : (k : Int) < (m : Int) := by omega
      have hq : (p : Int) < (n1 : Int) := by omega
      have E1 : Hid (loF xss p (k + 1) = min lo y ∧ hiF xss p (k + 1) = max hi y) := ⟨by unfold loF; rw [elo, ey], by unfold hiF; rw [ehi, ey]⟩
      have J := hide (fun w => joinAt lo hi y y w)
      clear ey elo ehi hbel p0r
      go_wp2_with fail
      refine wp_region_noPanic ?_
      refine wp_region_held_drew (S := fun wx => wx.cell? ⟨b1, o1 + p, none⟩ = some (.int .i64 y)) (by kernel_rfl) (u1) (fun hH0 => ?_)
      refine wpAnyH_take (i := 1) (oi := { dst := some 28, op := _, type := _, pos := _, after := _, guard := _ }) (v := ?_) rfl (by kernel_rfl) (by kernel_rfl) (by kernel_rfl) (fun _ _ _ h => h) (Or.inl ⟨by rfl, ?_⟩) (hH0) ?_
      rotate_left
      · (intro wx hSw; go_simp <;> with_reducible rfl)
      simp only [Act.put, List.setIfInBounds_toArray, List.set_cons_zero, List.set_cons_succ]
      refine wpAnyH_take (i := 2) (oi := { dst := some 29, op := _, type := _, pos := _, after := _, guard := _ }) (v := ?_) rfl (by kernel_rfl) (by kernel_rfl) (by kernel_rfl) (fun _ _ _ h => h) (Or.inl ⟨by rfl, ?_⟩) (hH0) ?_
      rotate_left
      · (intro wx hSw; go_simp <;> with_reducible rfl)
      simp only [Act.put, List.setIfInBounds_toArray, List.set_cons_zero, List.set_cons_succ]
      refine wpAnyH_take (i := 3) (oi := { dst := some 30, op := _, type := _, pos := _, after := _, guard := _ }) (v := ?_) rfl (by kernel_rfl) (by kernel_rfl) (by kernel_rfl) (fun _ _ _ h => h) (Or.inl ⟨by rfl, ?_⟩) (hH0) ?_
      rotate_left
      · (intro wx hSw; go_simp <;> with_reducible rfl)
      simp only [Act.put, List.setIfInBounds_toArray, List.set_cons_zero, List.set_cons_succ]
      refine wpAnyH_take (i := 4) (oi := { dst := some 31, op := _, type := _, pos := _, after := _, guard := _ }) (v := ?_) rfl (by kernel_rfl) (by kernel_rfl) (by kernel_rfl) (fun _ _ _ h => h) (Or.inl ⟨by rfl, ?_⟩) (hH0) ?_
      rotate_left
      · (intro wx hSw; go_simp <;> with_reducible rfl)
      simp only [Act.put, List.setIfInBounds_toArray, List.set_cons_zero, List.set_cons_succ]
      refine wpAnyH_take (i := 5) (oi := { dst := some 32, op := _, type := _, pos := _, after := _, guard := _ }) (v := ?_) rfl (by kernel_rfl) (by kernel_rfl) (by kernel_rfl) (fun _ _ _ h => h) (Or.inl ⟨by rfl, ?_⟩) (hH0) ?_
      rotate_left
      · (intro wx hSw; go_simp <;> with_reducible rfl)
      simp only [Act.put, List.setIfInBounds_toArray, List.set_cons_zero, List.set_cons_succ]
      refine wpAnyH_take (i := 6) (oi := { dst := some 33, op := _, type := _, pos := _, after := _, guard := _ }) (v := ?_) rfl (by kernel_rfl) (by kernel_rfl) (by kernel_rfl) (fun _ _ _ h => h) (Or.inl ⟨by rfl, ?_⟩) (hH0) ?_
      rotate_left
      · (intro wx hSw; go_simp <;> with_reducible rfl)
      simp only [Act.put, List.setIfInBounds_toArray, List.set_cons_zero, List.set_cons_succ]
      refine wpAnyH_take (i := 7) (oi := { dst := some 34, op := _, type := _, pos := _, after := _, guard := _ }) (v := ?_) rfl (by kernel_rfl) (by kernel_rfl) (by kernel_rfl) (fun _ _ _ h => h) (Or.inl ⟨by rfl, ?_⟩) (hH0) ?_
      rotate_left
      · (intro wx hSw; go_simp <;> with_reducible rfl)
      simp only [Act.put, List.setIfInBounds_toArray, List.set_cons_zero, List.set_cons_succ]
      refine wpAnyH_take (i := 8) (oi := { dst := some 35, op := _, type := _, pos := _, after := _, guard := _ }) (v := ?_) rfl (by kernel_rfl) (by kernel_rfl) (by kernel_rfl) (fun _ _ _ h => h) (Or.inl ⟨by rfl, ?_⟩) (hH0) ?_
      rotate_left
      · (intro wx hSw; go_simp <;> with_reducible rfl)
      simp only [Act.put, List.setIfInBounds_toArray, List.set_cons_zero, List.set_cons_succ]
      refine wpAnyH_take (i := 9) (oi := { dst := some 36, op := _, type := _, pos := _, after := _, guard := _ }) (v := ?_) rfl (by kernel_rfl) (by kernel_rfl) (by kernel_rfl) (fun _ _ _ h => h) (Or.inl ⟨by rfl, ?_⟩) (hH0) ?_
      rotate_left
      · (intro wx hSw; go_simp <;> with_reducible rfl)
      simp only [Act.put, List.setIfInBounds_toArray, List.set_cons_zero, List.set_cons_succ]
      refine wpAnyH_ready (rs := [0]) (by kernel_rfl) (by simp) ?_
      refine AllReadyH.cons (o := { dst := some 27, op := _, type := _, pos := _, after := _, guard := _ }) rfl (fun K hK => ?_) AllReadyH.nil
      go_simp
      refine hK.out _ _ hH0 (fun hH1 => ?_)
      clear hK K
      refine wpAnyH_ready (rs := [10]) (by kernel_rfl) (by simp) ?_
      refine AllReadyH.cons (o := { dst := some 37, op := _, type := _, pos := _, after := _, guard := _ }) rfl (fun K hK => ?_) AllReadyH.nil
      go_simp
      refine (J.out _).mono ?_
      rintro e w2 ⟨rfl, hb2⟩
      dsimp only
      have hb2 : Below wr.heap.size wr w2 := ⟨hb2.os, hb2.tape, hb2.output, hb2.size, hb2.block⟩
      have lt1 : b1 < wr.heap.size := Nat.lt_of_lt_of_le l1 HB.out.size
      have y2 : w2.cell? ⟨b1, o1 + p, none⟩ = some (.int .i64 y) := (hb2.cell (p := ⟨b1, o1 + p, none⟩) lt1).trans u1
      have PR2 := hide (PR.out.below hb2)
      have P02 := hide (P0.out.below hb2)
      obtain ⟨k0, k1, k2, k3, k4⟩ := PR2.out
      refine hK.out _ _ y2 (fun hH2 => ?_)
      clear hK K
      refine wpAnyH_ready (rs := [11]) (by kernel_rfl) (by simp) ?_
      refine AllReadyH.cons (o := { dst := none, op := _, type := _, pos := _, after := _, guard := _ }) rfl (fun K hK => ?_) AllReadyH.nil
      go_simp
      refine hK.out _ _ ?_ (fun hH3 => ?_)
      · rw [World.cell?_setCell_other _ _ _ _ (by simp <;> omega), World.cell?_setCell_other _ _ _ _ (by simp <;> omega)]; exact y2
      clear hK K
      refine wpAnyH_done (by kernel_rfl) ?_ _
      refine NoPanic.normal ?_
      go_wp2_with fail
      go_roundw
      case rel => exact ⟨k + 1, by omega, by go_num, by rw [E1.out.1, E1.out.2]; exact PR2.out.set _ _, (P02.out.far (by omega) _ _).far (by omega) _ _, ((bstep HB.out hb2).setCell (by simp) _).setCell (by simp) _⟩
      case measure => simp [intOf]; omega
    · have hkm : k = m := by omega
      subst hkm
      obtain ⟨g0, g1, g2, g3, g4⟩ := PR.out
      obtain ⟨k0, k1, k2, k3, k4⟩ := P0.out
      clear pr p0r
      go_wp2_with fail
      have hB := HB.out
      refine bodyPost_ret (v := .agg #[.int .i64 (loF xss p k), .int .i64 (hiF xss p k)]) ?_ rfl ⟨rfl, ?_⟩
      · simp [results, Try.results19, go_sem, k1, k2, g1, g2]
      · exact (by repeat' first | with_reducible exact Below.refl _ _ | with_reducible assumption | with_reducible refine below_drewN ?_ _ | with_reducible refine balloc ?_ _ | with_reducible refine Below.drew ?_ | with_reducible refine Below.setCell ?_ (by first | (simp; done) | (simp; omega) | omega) _ | with_reducible refine bstep ?_ (by assumption))
end Go.Proofs.Ytpbehhanccodeaa
