/- Texts of hits: HitText of the program and of the model. -/
import Derived.Test.YtfjhgagpmhedfaaDoorSD1
import Derived.Test.YtfjhgagpmhedfaaDoorIDK
import Derived.Deep.RegionHeld3
import Derived.BigQuiet
namespace Go.Proofs.YtfjhgagpmhedfaaDoor
open Go.RowKit
set_option maxRecDepth 8000
set_option linter.unusedSimpArgs false
set_option linter.unusedVariables false

def hitB (id lo hi : Int) : Bool := inB id 1 9999 && (decide (0 ≤ lo) && (decide (lo ≤ hi) && decide (hi ≤ 1125899906842624)))
def hitT (id lo hi : Int) : List UInt8 := (Lib.itoa id ++ [58]) ++ Lib.itoa lo ++ (if lo = hi then [] else 46 :: 46 :: Lib.itoa hi)
def hitTB (id lo hi : Int) : List UInt8 := if hitB id lo hi then hitT id lo hi else []
structure Box3 (w : World) (b : Nat) (x y z : Int) : Prop where
  lt : b < w.heap.size
  c0 : w.cell? ⟨b, 0, none⟩ = some (.int .i64 x)
  c1 : w.cell? ⟨b, 1, none⟩ = some (.int .i64 y)
  c2 : w.cell? ⟨b, 2, none⟩ = some (.int .i64 z)

theorem Box3.below {w w' : World} {b : Nat} {x y z : Int} (h : Box3 w b x y z) (hb : Below w.heap.size w w') : Box3 w' b x y z :=
  ⟨Nat.lt_of_lt_of_le h.lt hb.size, (hb.cell (p := ⟨b, 0, none⟩) h.lt).trans h.c0, (hb.cell (p := ⟨b, 1, none⟩) h.lt).trans h.c1, (hb.cell (p := ⟨b, 2, none⟩) h.lt).trans h.c2⟩

theorem Box3.new (w : World) (x y z : Int) (T : TypeId) : Box3 (w.alloc (.cells #[.int .i64 x, .int .i64 y, .int .i64 z] T)) w.heap.size x y z := ⟨by simp, by simp, by simp, by simp⟩
/-- What a hit's text is written with. -/
structure HQ (w0 w : World) (b : Nat) (x y z : Int) : Prop where
  box : Box3 w b x y z
  bel : Below w0.heap.size w0 w

theorem HQ.below {w0 w w' : World} {b : Nat} {x y z : Int} (h : HQ w0 w b x y z) (hb : Below w.heap.size w w') : HQ w0 w' b x y z := ⟨h.box.below hb, bstep h.bel hb⟩

theorem HQ.drew {w0 w : World} {b : Nat} {x y z : Int} (h : HQ w0 w b x y z) : HQ w0 w.drew b x y z := h.below (Below.drew (Below.refl _ _))

theorem bytes_eqH {a b : ByteArray} (h : a.data.toList = b.data.toList) : a = b := by rw [← bs_of a, h, bs_of]

theorem l1Dec_bs (x : Int) (w : World) (h0 : -9223372036854775808 ≤ x) (h1 : x ≤ 9223372036854775807) :
    Calls Tryd.prog 14 #[.int .i64 x] w fun e w' => e = .returned (.string (bs (Lib.itoa x))) ∧ Below w.heap.size w w' := l1Dec_any x w h0 h1

theorem itoa_len21 {x : Int} (h0 : -9223372036854775808 ≤ x) (h1 : x ≤ 9223372036854775807) : (bs (Lib.itoa x)).size ≤ 21 := by
  rw [bs_size]
  rcases lt_or_geI x 0 with p | p
  · rw [itoa_min p, List.length_cons]
    have := dec_len20 (n := x.natAbs) (by omega)
    omega
  · rw [itoa_pos p]
    have := dec_len20 (n := x.toNat) (by omega)
    omega

theorem hit_parts {id lo hi : Int} (h : hitB id lo hi = true) : inB id 1 9999 = true ∧ 0 ≤ lo ∧ lo ≤ hi ∧ hi ≤ 1125899906842624 ∧ 1 ≤ id ∧ id ≤ 9999 := by
  unfold hitB at h
  simp only [Bool.and_eq_true, decide_eq_true_eq] at h
  have : 1 ≤ id ∧ id ≤ 9999 := of_decide_eq_true h.1
  exact ⟨h.1, h.2.1, h.2.2.1, h.2.2.2, this.1, this.2⟩

set_option maxHeartbeats 4000000 in
set_option maxRecDepth 4000 in
theorem iHitText_any (id lo hi : Int) (w : World) (T : Tab w) :
    Calls Tryd.prog 20 #[.agg #[.int .i64 id, .int .i64 lo, .int .i64 hi]] w fun e w' => e = .returned (.string (bs (hitTB id lo hi))) ∧ Below w.heap.size w w' := by
  have IO := hide (idOk_any id)
  unfold hitTB
  cases hB : hitB id lo hi
  · rw [if_neg (by decide)]
    clear T
    cases h1 : inB id 1 9999
    · rw [h1] at IO
      go_enter Tryd.func20, Tryd.ntmps20
      go_wp2_with fail
      refine (IO.out _).mono ?_
      rintro e w1 ⟨rfl, hw⟩
      have hw' := hw.symm
      subst hw'
      clear hw
      go_wp2_with fail
      go_ret
      exact ⟨rfl, (by repeat' first | with_reducible exact Below.refl _ _ | with_reducible assumption | with_reducible refine below_drewN ?_ _ | with_reducible refine balloc ?_ _ | with_reducible refine Below.drew ?_ | with_reducible refine Below.setCell ?_ (by first | (simp; done) | (simp; omega) | omega) _ | with_reducible refine bstep ?_ (by assumption))⟩
    · rw [h1] at IO
      have hD : lo < 0 ∨ (¬ lo < 0 ∧ hi < lo) ∨ (¬ lo < 0 ∧ ¬ hi < lo ∧ 1125899906842624 < hi) := by
        unfold hitB at hB
        rw [h1] at hB
        simp only [Bool.true_and, Bool.and_eq_false_iff, decide_eq_false_iff_not] at hB
        omega
      clear hB h1
      rcases hD with g1 | ⟨g1, g2⟩ | ⟨g1, g2, g3⟩
      all_goals
        go_enter Tryd.func20, Tryd.ntmps20
        go_wp2_with fail
        refine (IO.out _).mono ?_
        rintro e w1 ⟨rfl, hw⟩
        have hw' := hw.symm
        subst hw'
        clear hw
        go_wp2_with fail
        go_ret
        exact ⟨rfl, (by repeat' first | with_reducible exact Below.refl _ _ | with_reducible assumption | with_reducible refine below_drewN ?_ _ | with_reducible refine balloc ?_ _ | with_reducible refine Below.drew ?_ | with_reducible refine Below.setCell ?_ (by first | (simp; done) | (simp; omega) | omega) _ | with_reducible refine bstep ?_ (by assumption))⟩
  · rw [if_pos rfl]
    obtain ⟨h1, a1, a2, a3, a4, a5⟩ := hit_parts hB
    rw [h1] at IO
    have g1 : ¬ lo < 0 := by omega
    have g2 : ¬ hi < lo := by omega
    have g3 : ¬ 1125899906842624 < hi := by omega
    have N0 := hide (fun x h0 h1 w1 (q : HQ w w1 w.heap.size id lo hi) => numberText_any x w1 h0 h1 (T.below q.bel))
    have N1 := hide (N0.out id (by omega) (by omega))
    have N2 := hide (N0.out lo (by omega) (by omega))
    have N3 := hide (N0.out hi (by omega) (by omega))
    have s1 := itoa_len21 (x := id) (by omega) (by omega)
    have s2 := itoa_len21 (x := lo) (by omega) (by omega)
    have s3 := itoa_len21 (x := hi) (by omega) (by omega)
    have E1 := hide (bs_list (Lib.itoa id))
    have E2 := hide (bs_list (Lib.itoa lo))
    have E3 := hide (bs_list (Lib.itoa hi))
    obtain ⟨A, hA⟩ : ∃ A, bs (Lib.itoa id) = A := ⟨_, rfl⟩
    obtain ⟨B, hBB⟩ : ∃ A, bs (Lib.itoa lo) = A := ⟨_, rfl⟩
    obtain ⟨C, hC⟩ : ∃ A, bs (Lib.itoa hi) = A := ⟨_, rfl⟩
    rw [hA] at N1 s1 E1
    rw [hBB] at N2 s2 E2
    rw [hC] at N3 s3 E3
    have q1 : ¬ 9223372036854775807 < A.size + 1 := by omega
    have q2 : ¬ 9223372036854775807 < A.size + 1 + B.size := by omega
    have Q0 := hide (⟨Box3.new w id lo hi 38, balloc (Below.refl _ _) _⟩ : HQ w (w.alloc (.cells #[.int .i64 id, .int .i64 lo, .int .i64 hi] 38)) w.heap.size id lo hi)
    clear T hB h1 N0 hA hBB hC a4 a5
    go_enter Tryd.func20, Tryd.ntmps20
    go_wp2_with fail
    refine (IO.out _).mono ?_
    rintro e w1 ⟨rfl, hw⟩
    have hw' := hw.symm
    subst hw'
    clear hw
    go_wp2_with fail
    refine wp_region_held_drew (S := fun wx => HQ w wx w.heap.size id lo hi) (by kernel_rfl) (Q0.out.drew) (fun hH0 => ?_)
    refine wpAnyH_take (i := 0) (oi := { dst := some 25, op := _, type := _, pos := _, after := _, guard := _ }) (v := ?_) rfl (by kernel_rfl) (by kernel_rfl) (by kernel_rfl) (fun _ _ _ h => h) (Or.inl ⟨by rfl, ?_⟩) (hH0) ?_
    rotate_left
    · (intro wx hSw; obtain ⟨⟨_, y0, y1, y2⟩, _⟩ := hSw; go_simp <;> with_reducible rfl)
    simp only [Act.put, List.setIfInBounds_toArray, List.set_cons_zero, List.set_cons_succ]
    refine wpAnyH_take (i := 1) (oi := { dst := some 26, op := _, type := _, pos := _, after := _, guard := _ }) (v := ?_) rfl (by kernel_rfl) (by kernel_rfl) (by kernel_rfl) (fun _ _ _ h => h) (Or.inl ⟨by rfl, ?_⟩) (hH0) ?_
    rotate_left
    · (intro wx hSw; obtain ⟨⟨_, y0, y1, y2⟩, _⟩ := hSw; go_simp <;> with_reducible rfl)
    simp only [Act.put, List.setIfInBounds_toArray, List.set_cons_zero, List.set_cons_succ]
    refine wpAnyH_take (i := 4) (oi := { dst := some 29, op := _, type := _, pos := _, after := _, guard := _ }) (v := ?_) rfl (by kernel_rfl) (by kernel_rfl) (by kernel_rfl) (fun _ _ _ h => h) (Or.inl ⟨by rfl, ?_⟩) (hH0) ?_
    rotate_left
    · (intro wx hSw; obtain ⟨⟨_, y0, y1, y2⟩, _⟩ := hSw; go_simp <;> with_reducible rfl)
    simp only [Act.put, List.setIfInBounds_toArray, List.set_cons_zero, List.set_cons_succ]
    refine wpAnyH_take (i := 5) (oi := { dst := some 30, op := _, type := _, pos := _, after := _, guard := _ }) (v := ?_) rfl (by kernel_rfl) (by kernel_rfl) (by kernel_rfl) (fun _ _ _ h => h) (Or.inl ⟨by rfl, ?_⟩) (hH0) ?_
    rotate_left
    · (intro wx hSw; obtain ⟨⟨_, y0, y1, y2⟩, _⟩ := hSw; go_simp <;> with_reducible rfl)
    simp only [Act.put, List.setIfInBounds_toArray, List.set_cons_zero, List.set_cons_succ]
    refine wpAnyH_ready (rs := [2]) (by kernel_rfl) (by simp) ?_
    refine AllReadyH.cons (o := { dst := some 27, op := _, type := _, pos := _, after := _, guard := _ }) rfl (fun K hK => ?_) AllReadyH.nil
    go_simp
    refine (N1.out _ hH0).mono ?_
    rintro e w_c27_1 ⟨rfl, hb_c27_1⟩
    dsimp only
    refine hK.out _ _ (HQ.below hH0 hb_c27_1) (fun hH1 => ?_)
    clear hK K
    refine wpAnyH_take (i := 3) (oi := { dst := some 28, op := _, type := _, pos := _, after := _, guard := _ }) (v := ?_) rfl (by kernel_rfl) (by kernel_rfl) (by kernel_rfl) (fun _ _ _ h => h) (Or.inl ⟨by rfl, ?_⟩) (hH1) ?_
    rotate_left
    · (intro wx hSw; obtain ⟨⟨_, y0, y1, y2⟩, _⟩ := hSw; go_simp <;> with_reducible rfl)
    simp only [Act.put, List.setIfInBounds_toArray, List.set_cons_zero, List.set_cons_succ]
    refine wpAnyH_ready (rs := [6]) (by kernel_rfl) (by simp) ?_
    refine AllReadyH.cons (o := { dst := some 31, op := _, type := _, pos := _, after := _, guard := _ }) rfl (fun K hK => ?_) AllReadyH.nil
    go_simp
    refine (N2.out _ hH1).mono ?_
    rintro e w_c31_2 ⟨rfl, hb_c31_2⟩
    dsimp only
    refine hK.out _ _ (HQ.below hH1 hb_c31_2) (fun hH2 => ?_)
    clear hK K
    refine wpAnyH_take (i := 7) (oi := { dst := some 32, op := _, type := _, pos := _, after := _, guard := _ }) (v := ?_) rfl (by kernel_rfl) (by kernel_rfl) (by kernel_rfl) (fun _ _ _ h => h) (Or.inl ⟨by rfl, ?_⟩) (hH2) ?_
    rotate_left
    · (intro wx hSw; obtain ⟨⟨_, y0, y1, y2⟩, _⟩ := hSw; go_simp <;> with_reducible rfl)
    simp only [Act.put, List.setIfInBounds_toArray, List.set_cons_zero, List.set_cons_succ]
    refine wpAnyH_take (i := 8) (oi := { dst := some 3, op := _, type := _, pos := _, after := _, guard := _ }) (v := ?_) rfl (by kernel_rfl) (by kernel_rfl) (by kernel_rfl) (fun _ _ _ h => h) (Or.inl ⟨by rfl, ?_⟩) (hH2) ?_
    rotate_left
    · (intro wx hSw; obtain ⟨⟨_, y0, y1, y2⟩, _⟩ := hSw; go_simp <;> with_reducible rfl)
    simp only [Act.put, List.setIfInBounds_toArray, List.set_cons_zero, List.set_cons_succ]
    refine wpAnyH_done (by kernel_rfl) ?_ _
    -- behind it: go_wp2_with fail, then go_meet (a cut) or go_ret; the condition at the end: hH2
    have Q1 := hide hH2
    clear N1 N2 Q0
    obtain ⟨⟨_, y0, y1, y2⟩, _⟩ := Q1.out
    by_cases he : lo = hi
    · go_wp2_with fail
      go_ret
      refine ⟨ret_str ?_, Q1.out.bel⟩
      unfold hitT
      rw [if_pos he, List.append_nil]
      exact bytes_eqH (by rw [bs_list, str_app, str_app, E1.out, E2.out])
    · go_wp2_with fail
      refine (N3.out _ Q1.out).mono ?_
      rintro e w3 ⟨rfl, hb3⟩
      have B3 := hide (bstep Q1.out.bel hb3)
      clear y0 y1 y2 hb3
      go_wp2_with fail
      go_ret
      refine ⟨ret_str ?_, B3.out⟩
      unfold hitT
      rw [if_neg he]
      exact bytes_eqH (by rw [bs_list, str_app, str_app, str_app, str_app, E1.out, E2.out, E3.out]; simp)
end Go.Proofs.YtfjhgagpmhedfaaDoor
