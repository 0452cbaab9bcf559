/- Texts of hits: HitText of the program and of the model. -/
import Derived.Test.YtgckhnnkphlciaaDoorZ16
import Derived.Test.YtgckhnnkphlciaaDoorZ3
import Derived.Deep.RegionHeld3
import Derived.BigQuiet
import Derived.Test.YtgckhnnkphlciaaDoorZ4
namespace Go.Proofs.YtgckhnnkphlciaaDoor
open Go.RowKit
set_option maxRecDepth 8000
set_option linter.unusedSimpArgs false
set_option linter.unusedVariables false

def hitB (id lo hi : Int) : Bool := inB id 1 9999 && (decide (0 ≤ lo) && (decide (lo ≤ hi) && decide (hi ≤ 1125899906842624)))
def hitT (id lo hi : Int) : List UInt8 := (Lib.itoa id ++ [58]) ++ Lib.itoa lo ++ (if lo = hi then [] else 46 :: 46 :: Lib.itoa hi)
def hitTB (id lo hi : Int) : List UInt8 := if hitB id lo hi then hitT id lo hi else []
structure Box3 (w : World) (b : Nat) (x y z : Int) : Prop where
  lt : b < w.heap.size
  c0 : w.cell? ⟨b, 0, none⟩ = some (.int .i64 x)
  c1 : w.cell? ⟨b, 1, none⟩ = some (.int .i64 y)
  c2 : w.cell? ⟨b, 2, none⟩ = some (.int .i64 z)

theorem Box3.below {w w' : World} {b : Nat} {x y z : Int} (h : Box3 w b x y z) (hb : Below w.heap.size w w') : Box3 w' b x y z :=
  ⟨Nat.lt_of_lt_of_le h.lt hb.size, (hb.cell (p := ⟨b, 0, none⟩) h.lt).trans h.c0, (hb.cell (p := ⟨b, 1, none⟩) h.lt).trans h.c1, (hb.cell (p := ⟨b, 2, none⟩) h.lt).trans h.c2⟩

theorem Box3.new (w : World) (x y z : Int) (T : TypeId) : Box3 (w.alloc (.cells #[.int .i64 x, .int .i64 y, .int .i64 z] T)) w.heap.size x y z := ⟨by simp, by simp, by simp, by simp⟩
/-- What a hit's text is written with. -/
structure HQ (w0 w : World) (b : Nat) (x y z : Int) : Prop where
  box : Box3 w b x y z
  bel : Below w0.heap.size w0 w

theorem HQ.below {w0 w w' : World} {b : Nat} {x y z : Int} (h : HQ w0 w b x y z) (hb : Below w.heap.size w w') : HQ w0 w' b x y z := ⟨h.box.below hb, bstep h.bel hb⟩

theorem HQ.drew {w0 w : World} {b : Nat} {x y z : Int} (h : HQ w0 w b x y z) : HQ w0 w.drew b x y z := h.below (Below.drew (Below.refl _ _))

theorem bytes_eqH {a b : ByteArray} (h : a.data.toList = b.data.toList) : a = b := by rw [← bs_of a, h, bs_of]

theorem l1Dec_bs (x : Int) (w : World) (h0 : -9223372036854775808 ≤ x) (h1 : x ≤ 9223372036854775807) :
    Calls Tryd.prog 24 #[.int .i64 x] w fun e w' => e = .returned (.string (bs (Lib.itoa x))) ∧ Below w.heap.size w w' := l1Dec_any x w h0 h1

theorem itoa_len21 {x : Int} (h0 : -9223372036854775808 ≤ x) (h1 : x ≤ 9223372036854775807) : (bs (Lib.itoa x)).size ≤ 21 := by
  rw [bs_size]
  rcases lt_or_geI x 0 with p | p
  · rw [itoa_min p, List.length_cons]
    have := dec_len20 (n := x.natAbs) (by omega)
    omega
  · rw [itoa_pos p]
    have := dec_len20 (n := x.toNat) (by omega)
    omega

theorem hit_parts {id lo hi : Int} (h : hitB id lo hi = true) : inB id 1 9999 = true ∧ 0 ≤ lo ∧ lo ≤ hi ∧ hi ≤ 1125899906842624 ∧ 1 ≤ id ∧ id ≤ 9999 := by
  unfold hitB at h
  simp only [Bool.and_eq_true, decide_eq_true_eq] at h
  have : 1 ≤ id ∧ id ≤ 9999 := of_decide_eq_true h.1
  exact ⟨h.1, h.2.1, h.2.2.1, h.2.2.2, this.1, this.2⟩

set_option maxHeartbeats 4000000 in
set_option maxRecDepth 4000 in
theorem iHitText_any (id lo hi : Int) (w : World) (T : Tab w) :
    Calls Tryd.prog 18 #[.agg #[.int .i64 id, .int .i64 lo, .int .i64 hi]] w fun e w' => e = .returned (.string (bs (hitTB id lo hi))) ∧ Below w.heap.size w w' := by
  have IO := hide (idOk_any id)
  unfold hitTB
  cases hB : hitB id lo hi
  · rw [if_neg (by decide)]
    clear T
    cases h1 : inB id 1 9999
    · rw [h1] at IO
      go_enter Tryd.func18, Tryd.ntmps18
      go_wp2_with fail
      refine (IO.out _).mono ?_
      rintro e w1 ⟨rfl, hw⟩
      have hw' := hw.symm
      subst hw'
      clear hw
      go_wp2_with fail
      go_ret
      exact ⟨rfl, (by repeat' first | with_reducible exact Below.refl _ _ | with_reducible assumption | with_reducible refine below_drewN ?_ _ | with_reducible refine balloc ?_ _ | with_reducible refine Below.drew ?_ | with_reducible refine Below.setCell ?_ (by first | (simp; done) | (simp; omega) | omega) _ | with_reducible refine bstep ?_ (by assumption))⟩
    · rw [h1] at IO
      have hD : lo < 0 ∨ (¬ lo < 0 ∧ hi < lo) ∨ (¬ lo < 0 ∧ ¬ hi < lo ∧ 1125899906842624 < hi) := by
        unfold hitB at hB
        rw [h1] at hB
        simp only [Bool.true_and, Bool.and_eq_false_iff, decide_eq_false_iff_not] at hB
        omega
      clear hB h1
      rcases hD with g1 | ⟨g1, g2⟩ | ⟨g1, g2, g3⟩
      all_goals
        go_enter Tryd.func18, Tryd.ntmps18
        go_wp2_with fail
        refine (IO.out _).mono ?_
        rintro e w1 ⟨rfl, hw⟩
        have hw' := hw.symm
        subst hw'
        clear hw
        go_wp2_with fail
        go_ret
        exact ⟨rfl, (by repeat' first | with_reducible exact Below.refl _ _ | with_reducible assumption | with_reducible refine below_drewN ?_ _ | with_reducible refine balloc ?_ _ | with_reducible refine Below.drew ?_ | with_reducible refine Below.setCell ?_ (by first | (simp; done) | (simp; omega) | omega) _ | with_reducible refine bstep ?_ (by assumption))⟩
  · rw [if_pos rfl]
    obtain ⟨h1, a1, a2, a3, a4, a5⟩ := hit_parts hB
    rw [h1] at IO
    have g1 : ¬ lo < 0 := by omega
    have g2 : ¬ hi < lo := by omega
    have g3 : ¬ 1125899906842624 < hi := by omega
    have N0 := hide (fun x h0 h1 w1 (q : HQ w w1 w.heap.size id lo hi) => numberText_any x w1 h0 h1 (T.below q.bel))
    have N1 := hide (N0.out id (by omega) (by omega))
    have N2 := hide (N0.out lo (by omega) (by omega))
    have N3 := hide (N0.out hi (by omega) (by omega))
    have s1 := itoa_len21 (x := id) (by omega) (by omega)
    have s2 := itoa_len21 (x := lo) (by omega) (by omega)
    have s3 := itoa_len21 (x := hi) (by omega) (by omega)
    have E1 := hide (bs_list (Lib.itoa id))
    have E2 := hide (bs_list (Lib.itoa lo))
    have E3 := hide (bs_list (Lib.itoa hi))
    obtain ⟨A, hA⟩ : ∃ A, bs (Lib.itoa id) = A := ⟨_, rfl⟩
    obtain ⟨B, hBB⟩ : ∃ A, bs (Lib.itoa lo) = A := ⟨_, rfl⟩
    obtain ⟨C, hC⟩ : ∃ A, bs (Lib.itoa hi) = A := ⟨_, rfl⟩
    rw [hA] at N1 s1 E1
    rw [hBB] at N2 s2 E2
    rw [hC] at N3 s3 E3
    have q1 : ¬ 9223372036854775807 < A.size + 1 := by omega
    have q2 : ¬ 9223372036854775807 < A.size + 1 + B.size := by omega
    have Q0 := hide (⟨Box3.new w id lo hi 38, balloc (Below.refl _ _) _⟩ : HQ w (w.alloc (.cells #[.int .i64 id, .int .i64 lo, .int .i64 hi] 38)) w.heap.size id lo hi)
    clear T hB h1 N0 hA hBB hC a4 a5
    go_enter Tryd.func18, Tryd.ntmps18
    go_wp2_with fail
    refine (IO.out _).mono ?_
    rintro e w1 ⟨rfl, hw⟩
    have hw' := hw.symm
    subst hw'
    clear hw
    go_wp2_with fail
    refine wp_region_held_drew (S := fun wx => HQ w wx w.heap.size id lo hi) (by kernel_rfl) (Q0.out.drew) (fun hH0 => ?_)
    refine wpAnyH_take (i := 0) (oi := { dst := some 25, op := _, type := _, pos := _, after := _, guard := _ }) (v := ?_) rfl (by kernel_rfl) (by kernel_rfl) (by kernel_rfl) (fun _ _ _ h => h) (Or.inl ⟨by rfl, ?_⟩) (hH0) ?_
    rotate_left
    · (intro wx hSw; obtain ⟨⟨_, y0, y1, y2⟩, _⟩ := hSw; go_simp <;> with_reducible rfl)
    simp only [Act.put, List.setIfInBounds_toArray, List.set_cons_zero, List.set_cons_succ]
    refine wpAnyH_take (i := 1) (oi := { dst := some 26, op := _, type := _, pos := _, after := _, guard := _ }) (v := ?_) rfl (by kernel_rfl) (by kernel_rfl) (by kernel_rfl) (fun _ _ _ h => h) (Or.inl ⟨by rfl, ?_⟩) (hH0) ?_
    rotate_left
    · (intro wx hSw; obtain ⟨⟨_, y0, y1, y2⟩, _⟩ := hSw; go_simp <;> with_reducible rfl)
    simp only [Act.put, List.setIfInBounds_toArray, List.set_cons_zero, List.set_cons_succ]
    refine wpAnyH_take (i := 4) (oi := { dst := some 29, op := _, type := _, pos := _, after := _, guard := _ }) (v := ?_) rfl (by kernel_rfl) (by kernel_rfl) (by kernel_rfl) (fun _ _ _ h => h) (Or.inl ⟨by rfl, ?_⟩) (hH0) ?_
    rotate_left
    · (intro wx hSw; obtain ⟨⟨_, y0, y1, y2⟩, _⟩ := hSw; go_simp <;> with_reducible rfl)
    simp only [Act.put, List.setIfInBounds_toArray, List.set_cons_zero, List.set_cons_succ]
    refine wpAnyH_take (i := 5) (oi := { dst := some 30, op := _, type := _, pos := _, after := _, guard := _ }) (v := ?_) rfl (by kernel_rfl) (by kernel_rfl) (by kernel_rfl) (fun _ _ _ h => h) (Or.inl ⟨by rfl, ?_⟩) (hH0) ?_
    rotate_left
    · (intro wx hSw; obtain ⟨⟨_, y0, y1, y2⟩, _⟩ := hSw; go_simp <;> with_reducible rfl)
    simp only [Act.put, List.setIfInBounds_toArray, List.set_cons_zero, List.set_cons_succ]
    refine wpAnyH_ready (rs := [2]) (by kernel_rfl) (by simp) ?_
    refine AllReadyH.cons (o := { dst := some 27, op := _, type := _, pos := _, after := _, guard := _ }) rfl (fun K hK => ?_) AllReadyH.nil
    go_simp
    refine (N1.out _ hH0).mono ?_
    rintro e w_c27_1 ⟨rfl, hb_c27_1⟩
    dsimp only
    refine hK.out _ _ (HQ.below hH0 hb_c27_1) (fun hH1 => ?_)
    clear hK K
    refine wpAnyH_take (i := 3) (oi := { dst := some 28, op := _, type := _, pos := _, after := _, guard := _ }) (v := ?_) rfl (by kernel_rfl) (by kernel_rfl) (by kernel_rfl) (fun _ _ _ h => h) (Or.inl ⟨by rfl, ?_⟩) (hH1) ?_
    rotate_left
    · (intro wx hSw; obtain ⟨⟨_, y0, y1, y2⟩, _⟩ := hSw; go_simp <;> with_reducible rfl)
    simp only [Act.put, List.setIfInBounds_toArray, List.set_cons_zero, List.set_cons_succ]
    refine wpAnyH_ready (rs := [6]) (by kernel_rfl) (by simp) ?_
    refine AllReadyH.cons (o := { dst := some 31, op := _, type := _, pos := _, after := _, guard := _ }) rfl (fun K hK => ?_) AllReadyH.nil
    go_simp
    refine (N2.out _ hH1).mono ?_
    rintro e w_c31_2 ⟨rfl, hb_c31_2⟩
    dsimp only
    refine hK.out _ _ (HQ.below hH1 hb_c31_2) (fun hH2 => ?_)
    clear hK K
    refine wpAnyH_take (i := 7) (oi := { dst := some 32, op := _, type := _, pos := _, after := _, guard := _ }) (v := ?_) rfl (by kernel_rfl) (by kernel_rfl) (by kernel_rfl) (fun _ _ _ h => h) (Or.inl ⟨by rfl, ?_⟩) (hH2) ?_
    rotate_left
    · (intro wx hSw; obtain ⟨⟨_, y0, y1, y2⟩, _⟩ := hSw; go_simp <;> with_reducible rfl)
    simp only [Act.put, List.setIfInBounds_toArray, List.set_cons_zero, List.set_cons_succ]
    refine wpAnyH_take (i := 8) (oi := { dst := some 3, op := _, type := _, pos := _, after := _, guard := _ }) (v := ?_) rfl (by kernel_rfl) (by kernel_rfl) (by kernel_rfl) (fun _ _ _ h => h) (Or.inl ⟨by rfl, ?_⟩) (hH2) ?_
    rotate_left
    · (intro wx hSw; obtain ⟨⟨_, y0, y1, y2⟩, _⟩ := hSw; go_simp <;> with_reducible rfl)
    simp only [Act.put, List.setIfInBounds_toArray, List.set_cons_zero, List.set_cons_succ]
    refine wpAnyH_done (by kernel_rfl) ?_ _
    -- behind it: go_wp2_with fail, then go_meet (a cut) or go_ret; the condition at the end: hH2
    have Q1 := hide hH2
    clear N1 N2 Q0
    obtain ⟨⟨_, y0, y1, y2⟩, _⟩ := Q1.out
    by_cases he : lo = hi
    · go_wp2_with fail
      go_ret
      refine ⟨ret_str ?_, Q1.out.bel⟩
      unfold hitT
      rw [if_pos he, List.append_nil]
      exact bytes_eqH (by rw [bs_list, str_app, str_app, E1.out, E2.out])
    · go_wp2_with fail
      refine (N3.out _ Q1.out).mono ?_
      rintro e w3 ⟨rfl, hb3⟩
      have B3 := hide (bstep Q1.out.bel hb3)
      clear y0 y1 y2 hb3
      go_wp2_with fail
      go_ret
      refine ⟨ret_str ?_, B3.out⟩
      unfold hitT
      rw [if_neg he]
      exact bytes_eqH (by rw [bs_list, str_app, str_app, str_app, str_app, E1.out, E2.out, E3.out]; simp)
end Go.Proofs.YtgckhnnkphlciaaDoor

/- Hits that are read out of a text; plain. -/
namespace Go.Proofs.YtgckhnnkphlciaaDoor
open Go.RowKit
set_option maxRecDepth 8000
open Go.Lib
set_option linter.unusedSimpArgs false
set_option linter.unusedVariables false

/-- The numbers that a text is read as, before it is held against theirs. -/
def hId (l : List UInt8) : Int := numV (cutL 58 l).1
def hBnd (l : List UInt8) : List UInt8 := (cutL 58 l).2.1
def hLow (l : List UInt8) : Int := numV (cutL 46 (hBnd l)).1
def hUp (l : List UInt8) : List UInt8 := (cutL 46 (hBnd l)).2.1
def hHigh (l : List UInt8) : Int := if (cutL 46 (hBnd l)).2.2 = true ∧ 0 < (hUp l).length then numV ((hUp l).drop 1) else hLow l
def rdHitB (l : List UInt8) : Bool := !l.isEmpty && decide (hitTB (hId l) (hLow l) (hHigh l) = l)
/-- The three words that the program reads. -/
def hWords (l : List UInt8) : List (List UInt8) := [(cutL 58 l).1, (cutL 46 (hBnd l)).1, if (cutL 46 (hBnd l)).1 = hBnd l then (cutL 46 (hBnd l)).1 else (cutL 46 (hUp l)).2.1]

theorem not_in_itoa {x : Int} (h : 0 ≤ x) {c : UInt8} (hc : ¬ (48 ≤ c.toNat ∧ c.toNat ≤ 57)) : c ∉ itoa x := fun q => by
  rw [itoa_pos h] at q
  exact hc (dec_dig (x.toNat + 1) x.toNat (by omega) c q)

theorem numV_itoa {x : Int} (h0 : 0 ≤ x) (h1 : x ≤ 9999999999999999) : numV (itoa x) = x ∧ (numL (itoa x)).isSome = true := by
  unfold numV; rw [numL_itoa (by omega) h1]; exact ⟨rfl, rfl⟩
/-- A hit's text is read as that hit. -/
theorem hit_back {id lo hi : Int} (h : hitB id lo hi = true) :
    hId (hitT id lo hi) = id ∧ hLow (hitT id lo hi) = lo ∧ hHigh (hitT id lo hi) = hi ∧ allNum (hWords (hitT id lo hi)) = true ∧ (hWords (hitT id lo hi)).map numV = [id, lo, hi] := by
  obtain ⟨_, a1, a2, a3, a4, a5⟩ := hit_parts h
  have n1 := numV_itoa (x := id) (by omega) (by omega)
  have n2 := numV_itoa (x := lo) (by omega) (by omega)
  have n3 := numV_itoa (x := hi) (by omega) (by omega)
  have i1 := not_in_itoa (x := id) (by omega) (c := 58) (by decide)
  have i2 := not_in_itoa (x := lo) (by omega) (c := 46) (by decide)
  have e1 : cutL 58 (hitT id lo hi) = (itoa id, itoa lo ++ (if lo = hi then [] else 46 :: 46 :: itoa hi), true) := by
    unfold hitT
    rw [List.append_assoc, List.append_assoc, List.singleton_append]
    exact cut_app 58 _ _ i1
  have e2 : hBnd (hitT id lo hi) = itoa lo ++ (if lo = hi then [] else 46 :: 46 :: itoa hi) := by unfold hBnd; rw [e1]
  by_cases e : lo = hi
  · subst e
    rw [if_pos rfl, List.append_nil] at e2
    have e3 := cut_not 46 _ i2
    refine ⟨?_, ?_, ?_, ?_, ?_⟩
    · unfold hId; rw [e1]; exact n1.1
    · unfold hLow; rw [e2, e3]; exact n2.1
    · unfold hHigh hLow; rw [e2, e3, if_neg (by simp)]; exact n2.1
    · unfold hWords; rw [e1, e2, e3, if_pos rfl]; simp [allNum, n1.2, n2.2]
    · unfold hWords; rw [e1, e2, e3, if_pos rfl]; simp [n1.1, n2.1]
  · rw [if_neg e] at e2
    have e3 := cut_app 46 _ (46 :: itoa hi) i2
    have e4 : hUp (hitT id lo hi) = 46 :: itoa hi := by unfold hUp; rw [e2, e3]
    have e5 : cutL 46 (46 :: itoa hi) = ([], itoa hi, true) := by simp [cutL]
    have e6 : ¬ itoa lo = itoa lo ++ 46 :: 46 :: itoa hi := fun q => by
      have := congrArg List.length q
      simp at this
    refine ⟨?_, ?_, ?_, ?_, ?_⟩
    · unfold hId; rw [e1]; exact n1.1
    · unfold hLow; rw [e2, e3]; exact n2.1
    · unfold hHigh; rw [e4, e2, e3, if_pos ⟨rfl, by simp⟩]; exact n3.1
    · unfold hWords; rw [e4, e1, e2, e3, e5, if_neg e6]; simp [allNum, n1.2, n2.2, n3.2]
    · unfold hWords; rw [e4, e1, e2, e3, e5, if_neg e6]; simp [n1.1, n2.1, n3.1]

theorem hitT_ne (id lo hi : Int) : hitT id lo hi ≠ [] := by unfold hitT; simp

theorem hitTB_is {id lo hi : Int} {l : List UInt8} (h : hitTB id lo hi = l) (hl : l ≠ []) : hitB id lo hi = true ∧ hitT id lo hi = l := by
  unfold hitTB at h
  cases q : hitB id lo hi
  · rw [q, if_neg (by decide)] at h; exact absurd h.symm hl
  · rw [q, if_pos rfl] at h; exact ⟨rfl, h⟩

theorem rdHit_iff {l : List UInt8} : rdHitB l = true ↔ l ≠ [] ∧ hitTB (hId l) (hLow l) (hHigh l) = l := by
  unfold rdHitB
  rw [Bool.and_eq_true, decide_eq_true_eq]
  cases l <;> simp
/-- What the program reads: all three words are numbers, and their hit's text is the text. -/
theorem rdHit_words {l : List UInt8} {x0 x1 x2 : Int} (hx : allNum (hWords l) = true → x0 = nth ((hWords l).map numV) 0 ∧ x1 = nth ((hWords l).map numV) 1 ∧ x2 = nth ((hWords l).map numV) 2) :
    (allNum (hWords l) = true ∧ hitTB x0 x1 x2 = l ↔ rdHitB l = true) ∧ (rdHitB l = true → x0 = hId l ∧ x1 = hLow l ∧ x2 = hHigh l) := by
  have back : rdHitB l = true → allNum (hWords l) = true ∧ (hWords l).map numV = [hId l, hLow l, hHigh l] := fun h => by
    obtain ⟨h1, h2⟩ := rdHit_iff.1 h
    obtain ⟨q1, q2⟩ := hitTB_is h2 h1
    obtain ⟨_, _, _, b4, b5⟩ := hit_back q1
    rw [q2] at b4 b5
    exact ⟨b4, b5⟩
  have vals : rdHitB l = true → x0 = hId l ∧ x1 = hLow l ∧ x2 = hHigh l := fun h => by
    obtain ⟨b1, b2⟩ := back h
    have := hx b1
    rw [b2] at this
    exact this
  refine ⟨⟨fun ⟨ha, ht⟩ => ?_, fun h => ?_⟩, vals⟩
  · have hl : l ≠ [] := fun q => by
      subst q
      have : allNum (hWords []) = false := by decide
      rw [this] at ha; cases ha
    obtain ⟨q1, q2⟩ := hitTB_is ht hl
    obtain ⟨b1, b2, b3, _, _⟩ := hit_back q1
    rw [q2] at b1 b2 b3
    rw [rdHit_iff, b1, b2, b3]
    exact ⟨hl, ht⟩
  · obtain ⟨v0, v1, v2⟩ := vals h
    rw [v0, v1, v2]
    exact ⟨(back h).1, (rdHit_iff.1 h).2⟩
end Go.Proofs.YtgckhnnkphlciaaDoor

/- HitText of the model; toHit of the laws; the walk of the law FnExactHitText. -/
namespace Go.Proofs.YtgckhnnkphlciaaDoor
open Go.RowKit
set_option maxRecDepth 8000
set_option linter.unusedSimpArgs false
set_option linter.unusedVariables false

set_option maxHeartbeats 4000000 in
set_option maxRecDepth 4000 in
theorem sHitText_any (id lo hi : Int) (w : World) :
    Calls Tryd.prog 16 #[.agg #[.int .i64 id, .int .i64 lo, .int .i64 hi]] w fun e w' => e = .returned (.string (bs (hitTB id lo hi))) ∧ Below w.heap.size w w' := by
  have IO := hide (l6Id_any id)
  have IN := hide (fun w => l1In_any lo 0 hi w)
  unfold hitTB
  cases hB : hitB id lo hi
  · rw [if_neg (by decide)]
    cases h1 : inB id 1 9999
    · rw [h1] at IO
      go_enter Tryd.func16, Tryd.ntmps16
      go_wp2_with fail
      refine (IO.out _).mono ?_
      rintro e w1 ⟨rfl, hw⟩
      have hw' := hw.symm
      subst hw'
      clear hw
      go_wp2_with fail
      go_ret
      exact ⟨rfl, (by repeat' first | with_reducible exact Below.refl _ _ | with_reducible assumption | with_reducible refine below_drewN ?_ _ | with_reducible refine balloc ?_ _ | with_reducible refine Below.drew ?_ | with_reducible refine Below.setCell ?_ (by first | (simp; done) | (simp; omega) | omega) _ | with_reducible refine bstep ?_ (by assumption))⟩
    · rw [h1] at IO
      have hD : inB lo 0 hi = false ∨ (inB lo 0 hi = true ∧ 1125899906842624 < hi) := by
        unfold hitB at hB
        rw [h1] at hB
        simp only [Bool.true_and, Bool.and_eq_false_iff, decide_eq_false_iff_not] at hB
        unfold inB
        simp only [decide_eq_false_iff_not, decide_eq_true_eq]
        omega
      clear hB h1
      rcases hD with g1 | ⟨g1, g2⟩
      all_goals
        rw [g1] at IN
        clear g1
        go_enter Tryd.func16, Tryd.ntmps16
        go_wp2_with fail
        refine (IO.out _).mono ?_
        rintro e w1 ⟨rfl, hw⟩
        have hw' := hw.symm
        subst hw'
        clear hw
        go_wp2_with fail
        refine (IN.out _).mono ?_
        rintro e w1 ⟨rfl, hw⟩
        have hw' := hw.symm
        subst hw'
        clear hw
        go_wp2_with fail
        go_ret
        exact ⟨rfl, (by repeat' first | with_reducible exact Below.refl _ _ | with_reducible assumption | with_reducible refine below_drewN ?_ _ | with_reducible refine balloc ?_ _ | with_reducible refine Below.drew ?_ | with_reducible refine Below.setCell ?_ (by first | (simp; done) | (simp; omega) | omega) _ | with_reducible refine bstep ?_ (by assumption))⟩
  · rw [if_pos rfl]
    obtain ⟨h1, a1, a2, a3, a4, a5⟩ := hit_parts hB
    rw [h1] at IO
    have gi : inB lo 0 hi = true := decide_eq_true (by omega)
    rw [gi] at IN
    clear gi
    have g3 : ¬ 1125899906842624 < hi := by omega
    have N0 := hide (fun x h0 h1 w1 (q : HQ w w1 w.heap.size id lo hi) => l1Dec_bs x w1 h0 h1)
    have N1 := hide (N0.out id (by omega) (by omega))
    have N2 := hide (N0.out lo (by omega) (by omega))
    have N3 := hide (N0.out hi (by omega) (by omega))
    have s1 := itoa_len21 (x := id) (by omega) (by omega)
    have s2 := itoa_len21 (x := lo) (by omega) (by omega)
    have s3 := itoa_len21 (x := hi) (by omega) (by omega)
    have E1 := hide (bs_list (Lib.itoa id))
    have E2 := hide (bs_list (Lib.itoa lo))
    have E3 := hide (bs_list (Lib.itoa hi))
    obtain ⟨A, hA⟩ : ∃ A, bs (Lib.itoa id) = A := ⟨_, rfl⟩
    obtain ⟨B, hBB⟩ : ∃ A, bs (Lib.itoa lo) = A := ⟨_, rfl⟩
    obtain ⟨C, hC⟩ : ∃ A, bs (Lib.itoa hi) = A := ⟨_, rfl⟩
    rw [hA] at N1 s1 E1
    rw [hBB] at N2 s2 E2
    rw [hC] at N3 s3 E3
    have q1 : ¬ 9223372036854775807 < A.size + 1 := by omega
    have q2 : ¬ 9223372036854775807 < A.size + 1 + B.size := by omega
    have Q0 := hide (⟨Box3.new w id lo hi 38, balloc (Below.refl _ _) _⟩ : HQ w (w.alloc (.cells #[.int .i64 id, .int .i64 lo, .int .i64 hi] 38)) w.heap.size id lo hi)
    clear hB h1 N0 hA hBB hC a4 a5
    go_enter Tryd.func16, Tryd.ntmps16
    go_wp2_with fail
    refine (IO.out _).mono ?_
    rintro e w1 ⟨rfl, hw⟩
    have hw' := hw.symm
    subst hw'
    clear hw
    go_wp2_with fail
    refine (IN.out _).mono ?_
    rintro e w1 ⟨rfl, hw⟩
    have hw' := hw.symm
    subst hw'
    clear hw
    go_wp2_with fail
    refine wp_region_held_drew (S := fun wx => HQ w wx w.heap.size id lo hi) (by kernel_rfl) (Q0.out.drew) (fun hH0 => ?_)
    refine wpAnyH_take (i := 0) (oi := { dst := some 21, op := _, type := _, pos := _, after := _, guard := _ }) (v := ?_) rfl (by kernel_rfl) (by kernel_rfl) (by kernel_rfl) (fun _ _ _ h => h) (Or.inl ⟨by rfl, ?_⟩) (hH0) ?_
    rotate_left
    · (intro wx hSw; obtain ⟨⟨_, y0, y1, y2⟩, _⟩ := hSw; go_simp <;> with_reducible rfl)
    simp only [Act.put, List.setIfInBounds_toArray, List.set_cons_zero, List.set_cons_succ]
    refine wpAnyH_take (i := 1) (oi := { dst := some 22, op := _, type := _, pos := _, after := _, guard := _ }) (v := ?_) rfl (by kernel_rfl) (by kernel_rfl) (by kernel_rfl) (fun _ _ _ h => h) (Or.inl ⟨by rfl, ?_⟩) (hH0) ?_
    rotate_left
    · (intro wx hSw; obtain ⟨⟨_, y0, y1, y2⟩, _⟩ := hSw; go_simp <;> with_reducible rfl)
    simp only [Act.put, List.setIfInBounds_toArray, List.set_cons_zero, List.set_cons_succ]
    refine wpAnyH_take (i := 4) (oi := { dst := some 25, op := _, type := _, pos := _, after := _, guard := _ }) (v := ?_) rfl (by kernel_rfl) (by kernel_rfl) (by kernel_rfl) (fun _ _ _ h => h) (Or.inl ⟨by rfl, ?_⟩) (hH0) ?_
    rotate_left
    · (intro wx hSw; obtain ⟨⟨_, y0, y1, y2⟩, _⟩ := hSw; go_simp <;> with_reducible rfl)
    simp only [Act.put, List.setIfInBounds_toArray, List.set_cons_zero, List.set_cons_succ]
    refine wpAnyH_take (i := 5) (oi := { dst := some 26, op := _, type := _, pos := _, after := _, guard := _ }) (v := ?_) rfl (by kernel_rfl) (by kernel_rfl) (by kernel_rfl) (fun _ _ _ h => h) (Or.inl ⟨by rfl, ?_⟩) (hH0) ?_
    rotate_left
    · (intro wx hSw; obtain ⟨⟨_, y0, y1, y2⟩, _⟩ := hSw; go_simp <;> with_reducible rfl)
    simp only [Act.put, List.setIfInBounds_toArray, List.set_cons_zero, List.set_cons_succ]
    refine wpAnyH_ready (rs := [2]) (by kernel_rfl) (by simp) ?_
    refine AllReadyH.cons (o := { dst := some 23, op := _, type := _, pos := _, after := _, guard := _ }) rfl (fun K hK => ?_) AllReadyH.nil
    go_simp
    refine (N1.out _ hH0).mono ?_
    rintro e w_c23_1 ⟨rfl, hb_c23_1⟩
    dsimp only
    refine hK.out _ _ (HQ.below hH0 hb_c23_1) (fun hH1 => ?_)
    clear hK K
    refine wpAnyH_take (i := 3) (oi := { dst := some 24, op := _, type := _, pos := _, after := _, guard := _ }) (v := ?_) rfl (by kernel_rfl) (by kernel_rfl) (by kernel_rfl) (fun _ _ _ h => h) (Or.inl ⟨by rfl, ?_⟩) (hH1) ?_
    rotate_left
    · (intro wx hSw; obtain ⟨⟨_, y0, y1, y2⟩, _⟩ := hSw; go_simp <;> with_reducible rfl)
    simp only [Act.put, List.setIfInBounds_toArray, List.set_cons_zero, List.set_cons_succ]
    refine wpAnyH_ready (rs := [6]) (by kernel_rfl) (by simp) ?_
    refine AllReadyH.cons (o := { dst := some 27, op := _, type := _, pos := _, after := _, guard := _ }) rfl (fun K hK => ?_) AllReadyH.nil
    go_simp
    refine (N2.out _ hH1).mono ?_
    rintro e w_c27_2 ⟨rfl, hb_c27_2⟩
    dsimp only
    refine hK.out _ _ (HQ.below hH1 hb_c27_2) (fun hH2 => ?_)
    clear hK K
    refine wpAnyH_take (i := 7) (oi := { dst := some 28, op := _, type := _, pos := _, after := _, guard := _ }) (v := ?_) rfl (by kernel_rfl) (by kernel_rfl) (by kernel_rfl) (fun _ _ _ h => h) (Or.inl ⟨by rfl, ?_⟩) (hH2) ?_
    rotate_left
    · (intro wx hSw; obtain ⟨⟨_, y0, y1, y2⟩, _⟩ := hSw; go_simp <;> with_reducible rfl)
    simp only [Act.put, List.setIfInBounds_toArray, List.set_cons_zero, List.set_cons_succ]
    refine wpAnyH_take (i := 8) (oi := { dst := some 3, op := _, type := _, pos := _, after := _, guard := _ }) (v := ?_) rfl (by kernel_rfl) (by kernel_rfl) (by kernel_rfl) (fun _ _ _ h => h) (Or.inl ⟨by rfl, ?_⟩) (hH2) ?_
    rotate_left
    · (intro wx hSw; obtain ⟨⟨_, y0, y1, y2⟩, _⟩ := hSw; go_simp <;> with_reducible rfl)
    simp only [Act.put, List.setIfInBounds_toArray, List.set_cons_zero, List.set_cons_succ]
    refine wpAnyH_done (by kernel_rfl) ?_ _
    -- behind it: go_wp2_with fail, then go_meet (a cut) or go_ret; the condition at the end: hH2
    have Q1 := hide hH2
    clear N1 N2 Q0
    obtain ⟨⟨_, y0, y1, y2⟩, _⟩ := Q1.out
    by_cases he : lo = hi
    · go_wp2_with fail
      go_ret
      refine ⟨ret_str ?_, Q1.out.bel⟩
      unfold hitT
      rw [if_pos he, List.append_nil]
      exact bytes_eqH (by rw [bs_list, str_app, str_app, E1.out, E2.out])
    · go_wp2_with fail
      refine (N3.out _ Q1.out).mono ?_
      rintro e w3 ⟨rfl, hb3⟩
      have B3 := hide (bstep Q1.out.bel hb3)
      clear y0 y1 y2 hb3
      go_wp2_with fail
      go_ret
      refine ⟨ret_str ?_, B3.out⟩
      unfold hitT
      rw [if_neg he]
      exact bytes_eqH (by rw [bs_list, str_app, str_app, str_app, str_app, E1.out, E2.out, E3.out]; simp)

set_option maxHeartbeats 1000000 in
theorem toHit_any (x y z : Int) (w : World) :
    Calls Tryd.prog 17 #[.agg #[.int .i64 x, .int .i64 y, .int .i64 z]] w fun e w' => e = .returned (.agg #[.int .i64 x, .int .i64 y, .int .i64 z]) ∧ Below w.heap.size w w' := by
  go_enter Tryd.func17, Tryd.ntmps17
  go_wp2_with fail
  refine bodyPost_ret (v := .agg #[.int .i64 x, .int .i64 y, .int .i64 z]) (by simp [results, Tryd.results17, go_sem]) rfl ⟨rfl, (by repeat' first | with_reducible exact Below.refl _ _ | with_reducible assumption | with_reducible refine below_drewN ?_ _ | with_reducible refine balloc ?_ _ | with_reducible refine Below.drew ?_ | with_reducible refine Below.setCell ?_ (by first | (simp; done) | (simp; omega) | omega) _ | with_reducible refine bstep ?_ (by assumption))⟩

set_option maxHeartbeats 1000000 in
theorem exactHitText_walk (x y z : Int) (w : World) (T : Tab w) (wx : (Lit.int .i64 x).wf = true) (wy : (Lit.int .i64 y).wf = true) (wz : (Lit.int .i64 z).wf = true) :
    Calls Tryd.prog 5 #[.agg #[.int .i64 x, .int .i64 y, .int .i64 z]] w fun e w' => e = .returned (.bool true) ∧ Below w.heap.size w w' := by
  have X0 := hide (Box3.new w x y z 36)
  have B0 := hide (balloc (Below.refl w.heap.size w) (.cells #[.int .i64 x, .int .i64 y, .int .i64 z] 36))
  have TH := hide (toHit_any x y z)
  have SH := hide (sHitText_any x y z)
  have IH := hide (iHitText_any x y z)
  have HT := hide T
  clear T wx wy wz
  obtain ⟨R, hR⟩ : ∃ R, bs (hitTB x y z) = R := ⟨_, rfl⟩
  rw [hR] at SH IH
  clear hR
  go_enter Tryd.func5, Tryd.ntmps5
  go_wp2_with fail
  refine (TH.out _).mono ?_
  rintro e w1 ⟨rfl, hb1⟩
  have X1 := hide (X0.out.below hb1)
  have B1 := hide (bstep B0.out hb1)
  clear hb1
  go_wp2_with fail
  refine (SH.out _).mono ?_
  rintro e w2 ⟨rfl, hb2⟩
  have X2 := hide (X1.out.below hb2)
  have B2 := hide (bstep B1.out hb2)
  obtain ⟨_, c0, c1, c2⟩ := X2.out
  clear hb2
  go_wp2_with fail
  refine (TH.out _).mono ?_
  rintro e w3 ⟨rfl, hb3⟩
  have B3 := hide (bstep B2.out hb3)
  clear hb3 c0 c1 c2
  go_wp2_with fail
  refine (IH.out _ (HT.out.below B3.out)).mono ?_
  rintro e w4 ⟨rfl, hb4⟩
  have B4 := hide (bstep B3.out hb4)
  clear hb4
  go_wp2_with fail
  go_ret
  exact ⟨rfl, B4.out⟩
end Go.Proofs.YtgckhnnkphlciaaDoor
