/- RowOk of the model. -/
import Derived.Test.YtfbigielooemaaaKJ
import Derived.Test.YtfbigielooemaaaVD0
namespace Go.Proofs.Ytfbigielooemaaa
open Go.RowKit
set_option linter.unusedSimpArgs false
set_option linter.unusedVariables false

/-- The number that the model takes for a code of tier 3. -/
def numS (lo hi c : Int) : Int := if c = -1 ∧ lo = cellLo lo hi 3 c then cellHi lo hi 3 c else cellLo lo hi 3 c

theorem numS_def (lo hi c : Int) : numS lo hi c = if c = -1 ∧ lo = cellLo lo hi 3 c then cellHi lo hi 3 c else cellLo lo hi 3 c := rfl
theorem TriW.belowAt {w w' : World} {b X : Nat} {v0 v1 v2 : Value} (h : TriW w b v0 v1 v2) (hb : Below X w w') (hX : b < X) : TriW w' b v0 v1 v2 :=
  ⟨Nat.lt_of_lt_of_le h.lt hb.size, (hb.cell (p := ⟨b, 0, none⟩) hX).trans h.c0, (hb.cell (p := ⟨b, 1, none⟩) hX).trans h.c1, (hb.cell (p := ⟨b, 2, none⟩) hX).trans h.c2,
    (hb.frozen (p := ⟨b, 0, none⟩) hX).trans h.f0, (hb.frozen (p := ⟨b, 1, none⟩) hX).trans h.f1, (hb.frozen (p := ⟨b, 2, none⟩) hX).trans h.f2⟩
theorem below_appQ {X B : Nat} {w wr w2 : World} {v : Value} {k : Nat} {e : TypeId} {size : Nat} {xs : List Value} (hb : Below X w wr) (hX : X ≤ wr.heap.size) (hXB : X ≤ B) (ho : wr.ownsRow B e size v k xs) (hg : wr.grownBy w2 v.ownBlock) : Below X w w2 :=
  hb.grown hg hX fun k' hk' => Nat.le_trans hXB (ho.lt k' hk').1

theorem codeB_off {lo hi t x : Int} (h : ¬ (lo ≤ x ∧ x ≤ hi)) : codeB lo hi t x = -1 := by
  have : hasB lo hi x = false := by unfold hasB inB; rw [decide_eq_false h, Bool.and_false]
  simp [codeB, this]

theorem rowAt_model {lo hi a b c : Int} (hr : rightB lo hi = true) : (cellB lo hi 3 c && ((codeB lo hi 1 (numS lo hi c) == a) && ((codeB lo hi 2 (numS lo hi c) == b) && (codeB lo hi 3 (numS lo hi c) == c)))) = rowAt lo hi a b c := by
  obtain ⟨a1, a2, a3, a4, a5⟩ := right_nums hr
  unfold rowAt
  by_cases hc : c = -1
  · subst hc
    have hcB : cellB lo hi 3 (-1) = true := by simp [cellB, hr, tierB]
    have hlo : cellLo lo hi 3 (-1) = -1048576 := by simp [cellLo, hcB]
    have hhi : cellHi lo hi 3 (-1) = 1048576 := by simp [cellHi, hcB]
    simp only [numI, numIB, if_true, hcB, Bool.true_and]
    by_cases h1 : -1048576 < lo
    · have hs : ¬ (lo ≤ numS lo hi (-1) ∧ numS lo hi (-1) ≤ hi) := by
        unfold numS; rw [hlo, if_neg (by omega)]; omega
      simp only [h1, if_true, decide_true, Bool.true_or, Bool.true_and]
      rw [codeB_off hs, codeB_off hs, codeB_off hs, codeB_off (x := lo - 1) (by omega), codeB_off (x := lo - 1) (by omega), codeB_off (x := lo - 1) (by omega)]
    · have hl : lo = -1048576 := by omega
      have hn : numS lo hi (-1) = 1048576 := by unfold numS; rw [hlo, if_pos ⟨rfl, hl⟩, hhi]
      rw [hn]
      by_cases h2 : hi < 1048576
      · simp only [h1, h2, if_true, if_false, decide_true, decide_false, Bool.or_true, Bool.true_and]
        rw [codeB_off (x := 1048576) (by omega), codeB_off (x := 1048576) (by omega), codeB_off (x := 1048576) (by omega), codeB_off (x := hi + 1) (by omega), codeB_off (x := hi + 1) (by omega), codeB_off (x := hi + 1) (by omega)]
      · simp only [h1, h2, if_false, decide_false, Bool.or_false, Bool.false_and]
        have hh : hasB lo hi 1048576 = true := by unfold hasB inB; rw [hr, decide_eq_true (by omega)]; rfl
        have h3 : codeB lo hi 3 1048576 ≠ -1 := by
          simp only [codeB, hh, show tierB 3 = true from rfl, Bool.and_self, if_true, show cellsN 3 = 256 from rfl]
          have := code_nonneg lo hi 256 1048576 (by omega) (by omega) a5
          omega
        simp [h3]
  · have hn : numS lo hi c = numI lo hi c := by unfold numS numI; rw [if_neg (by omega), if_neg hc]
    rw [hn]
    simp only [numIB, hc, if_false]

/-- Where the model looks in a round: nothing that was there has turned. -/
structure KS (w0 w : World) (p0 p1 p2 p3 : Addr) (v0 v1 v2 v3 : Value) : Prop where
  bel : Below w0.heap.size w0 w
  c0 : w.cell? p0 = some v0
  c1 : w.cell? p1 = some v1
  c2 : w.cell? p2 = some v2
  c3 : w.cell? p3 = some v3
theorem KS.of {w0 w : World} {p0 p1 p2 p3 : Addr} {v0 v1 v2 v3 : Value} (hb : Below w0.heap.size w0 w) (h0 : w0.cell? p0 = some v0) (h1 : w0.cell? p1 = some v1) (h2 : w0.cell? p2 = some v2) (h3 : w0.cell? p3 = some v3) : KS w0 w p0 p1 p2 p3 v0 v1 v2 v3 :=
  ⟨hb, (hb.cell (cellLt h0)).trans h0, (hb.cell (cellLt h1)).trans h1, (hb.cell (cellLt h2)).trans h2, (hb.cell (cellLt h3)).trans h3⟩
theorem KS.below {w0 w w' : World} {p0 p1 p2 p3 : Addr} {v0 v1 v2 v3 : Value} (h : KS w0 w p0 p1 p2 p3 v0 v1 v2 v3) (hb : Below w.heap.size w w') : KS w0 w' p0 p1 p2 p3 v0 v1 v2 v3 :=
  ⟨bstep h.bel hb, (hb.cell (cellLt h.c0)).trans h.c0, (hb.cell (cellLt h.c1)).trans h.c1, (hb.cell (cellLt h.c2)).trans h.c2, (hb.cell (cellLt h.c3)).trans h.c3⟩

/-- Whether the row of the model's numbers is this one. -/
def sameRowB (n : Nat) (f g : Nat → Int) (L1 L2 L3 : List Int) : Bool :=
  decide (ints (vcode f g (ints (fun i => numS (f i) (g i) (nth L3 i)) n) 1) n = L1) && (decide (ints (vcode f g (ints (fun i => numS (f i) (g i) (nth L3 i)) n) 2) n = L2) && decide (ints (vcode f g (ints (fun i => numS (f i) (g i) (nth L3 i)) n) 3) n = L3))

theorem Below.drewN {X : Nat} {a b : World} (h : Below X a b) (n : Nat) : Below X a (b.drewN n) := ⟨h.os, h.tape, h.output, h.size, h.block⟩
theorem owns_drewNP {w : World} {base : Nat} {e : TypeId} {size : Nat} {v : Value} {n : Nat} {xs : List Value} (m : Nat) (h : w.ownsRow base e size v n xs) : (w.drewN m).ownsRow base e size v n xs := h
theorem balloc' {X : Nat} {w a : World} (h : Below X w a) (hX : X ≤ a.heap.size) (o : Obj) : Below X w (a.alloc o) := h.alloc hX o

set_option maxHeartbeats 8000000 in
set_option maxRecDepth 4000 in
theorem sRowOk_some (b off n cap : Nat) (f g : Nat → Int) (b3 o3 k3 : Nat) (a1 a2 : Option Addr) (m1 m2 k1 k2 : Nat) (L1 L2 L3 : List Int) (w : World) (h8 : n ≤ 8) (h1 : 1 ≤ n) (hb : b < w.heap.size) (hb3 : b3 < w.heap.size) (l3 : L3.length = n) (r1 : Row w a1 m1 L1) (r2 : Row w a2 m2 L2)
    (hc : ∀ i, i < n → w.cell? ⟨b, off + i * 2, none⟩ = some (.int .i64 (f i)) ∧ w.cell? ⟨b, off + i * 2 + 1, none⟩ = some (.int .i64 (g i)))
    (hc3 : ∀ i, i < n → w.cell? ⟨b3, o3 + i, none⟩ = some (.int .i64 (nth L3 i)))
    (BO : Hid (∀ w1, Below w.heap.size w w1 → Calls Try.prog 28 #[.slice (some ⟨b, off, none⟩) n cap] w1 fun e w' => e = .returned (.bool true) ∧ Below w1.heap.size w1 w')) :
    Calls Try.prog 16 #[.slice (some ⟨b, off, none⟩) n cap, .agg #[.slice a1 m1 k1, .slice a2 m2 k2, .slice (some ⟨b3, o3, none⟩) n k3]] w fun e w' => e = .returned (.bool (allN n (fun i => cellB (f i) (g i) 3 (nth L3 i)) && sameRowB n f g L1 L2 L3)) ∧ Below w.heap.size w w' := by
  obtain ⟨okk, hokk⟩ : ∃ v, (allN n (fun i => cellB (f i) (g i) 3 (nth L3 i)) && sameRowB n f g L1 L2 L3) = v := ⟨_, rfl⟩
  have HOKK := hide hokk
  rw [hokk]
  clear hokk
  have HR1 := hide r1
  have HR2 := hide r2
  have HR3 := hide (show Row w (some ⟨b3, o3, none⟩) n L3 from ⟨l3, .inr ⟨b3, o3, rfl, hb3, hc3⟩⟩)
  clear r1 r2
  obtain ⟨i0, hi, hz0, hz1, hz2⟩ := infoI64_parts
  have HC := hide hc
  have HC3 := hide hc3
  clear hc hc3
  have hnn : ((n : Int) != (n : Int)) = false := by simp
  have CL := hide (fun (k : Nat) => sCellOf_any (f k) (g k) 3 (nth L3 k))
  unfold cellT at CL
  go_enter Try.func16, Try.ntmps16
  go_wp2_with fail
  refine (BO.out _ (by repeat' first | with_reducible exact Below.refl _ _ | with_reducible assumption | with_reducible refine below_drewN ?_ _ | with_reducible refine balloc ?_ _ | with_reducible refine Below.drew ?_ | with_reducible refine Below.setCell ?_ (by first | (simp; done) | (simp; omega) | omega) _ | with_reducible refine bstep ?_ (by assumption))).mono ?_
  rintro e w1 ⟨rfl, hw1⟩
  have T1 : TriW w1 w.heap.size (.slice a1 m1 k1) (.slice a2 m2 k2) (.slice (some ⟨b3, o3, none⟩) n k3) := (TriW.new w _ _ _ _ _ rfl).below hw1
  have B1 : Below w.heap.size w w1 := (by repeat' first | with_reducible exact Below.refl _ _ | with_reducible assumption | with_reducible refine below_drewN ?_ _ | with_reducible refine balloc ?_ _ | with_reducible refine Below.drew ?_ | with_reducible refine Below.setCell ?_ (by first | (simp; done) | (simp; omega) | omega) _ | with_reducible refine bstep ?_ (by assumption))
  have HT1 := hide T1
  have HB1 := hide B1
  have lw := T1.lt
  obtain ⟨_, t0, t1, t2, _, _, _⟩ := T1
  clear hw1 B1
  go_wp2_with fail
  go_loopw [5, 6] (fun v i wr => ∃ k : Nat, k ≤ n ∧ i = .int .i64 k ∧ (∀ j, j < k → cellB (f j) (g j) 3 (nth L3 j) = true) ∧ wr.ownsRow w1.heap.size 2 1 v k (vals (fun i => numS (f i) (g i) (nth L3 i)) k) ∧ TriW wr w.heap.size (.slice a1 m1 k1) (.slice a2 m2 k2) (.slice (some ⟨b3, o3, none⟩) n k3) ∧ Below w.heap.size w wr ∧ w1.heap.size ≤ wr.heap.size) (fun _ i _ => n - (intOf i).toNat)
  case atStart =>
    have B1 := HB1.out
    exact ⟨0, Nat.zero_le _, rfl, fun j h => absurd h (by omega), World.ownsRow_made w1 #[] 0 (Nat.le_refl _) (Nat.zero_le _) rfl, HT1.out.alloc _, (by repeat' first | with_reducible exact Below.refl _ _ | with_reducible assumption | with_reducible refine below_drewN ?_ _ | with_reducible refine balloc ?_ _ | with_reducible refine Below.drew ?_ | with_reducible refine Below.setCell ?_ (by first | (simp; done) | (simp; omega) | omega) _ | with_reducible refine bstep ?_ (by assumption)), by simp⟩
  case round =>
    clear t0 t1 t2 HT1 HB1
    obtain ⟨k, hk, rfl, hpre, hown, hT, hbel, hs1⟩ := hrel
    have HPRE := hide hpre
    have HO := hide hown
    have HT := hide hT
    have HB := hide hbel
    clear hpre hown
    by_cases hlt : k < n
    · have y1 : wr.cell? ⟨b, off + k * 2, none⟩ = some (.int .i64 (f k)) := (hbel.cell (p := ⟨b, off + k * 2, none⟩) hb).trans (HC.out k hlt).1
      have y2 : wr.cell? ⟨b, off + k * 2 + 1, none⟩ = some (.int .i64 (g k)) := (hbel.cell (p := ⟨b, off + k * 2 + 1, none⟩) hb).trans (HC.out k hlt).2
      have y3 : wr.cell? ⟨b3, o3 + k, none⟩ = some (.int .i64 (nth L3 k)) := (hbel.cell (p := ⟨b3, o3 + k, none⟩) hb3).trans (HC3.out k hlt)
      have hlt' : (k : Int) < (n : Int) := by omega
      obtain ⟨lt, t0, t1, t2, _, _, _⟩ := hT
      have S0 : Hid (KS wr wr.drew ⟨b, off + k * 2, none⟩ ⟨b, off + k * 2 + 1, none⟩ ⟨w.heap.size, 2, none⟩ ⟨b3, o3 + k, none⟩ (.int .i64 (f k)) (.int .i64 (g k)) (.slice (some ⟨b3, o3, none⟩) n k3) (.int .i64 (nth L3 k))) := hide (KS.of (Below.drew (Below.refl _ _)) y1 y2 t2 y3)
      have C := hide (CL.out k)
      have NS := hide (numS_def (f k) (g k) (nth L3 k))
      generalize cellLo (f k) (g k) 3 (nth L3 k) = p at C NS
      generalize cellHi (f k) (g k) 3 (nth L3 k) = q at C NS
      obtain ⟨ok, hok⟩ : ∃ v, cellB (f k) (g k) 3 (nth L3 k) = v := ⟨_, rfl⟩
      rw [hok] at C
      have HOK := hide hok
      clear hok hbel
      go_upto_region 7 with fail
      go_cut [7, 8] from 22 to 66 (fun s7 s8 wx => ∃ z, s7 = .pointer (some ⟨z, 0, none⟩) ∧ s8 = .bool ok ∧ wr.heap.size ≤ z ∧ z < wx.heap.size ∧ wx.cell? ⟨z, 0, none⟩ = some (.int .i64 p) ∧ wx.cell? ⟨z, 1, none⟩ = some (.int .i64 q) ∧ KS wr wx ⟨b, off + k * 2, none⟩ ⟨b, off + k * 2 + 1, none⟩ ⟨w.heap.size, 2, none⟩ ⟨b3, o3 + k, none⟩ (.int .i64 (f k)) (.int .i64 (g k)) (.slice (some ⟨b3, o3, none⟩) n k3) (.int .i64 (nth L3 k)))
      case first =>
        refine wp_region_held_drew (S := fun wx => KS wr wx ⟨b, off + k * 2, none⟩ ⟨b, off + k * 2 + 1, none⟩ ⟨w.heap.size, 2, none⟩ ⟨b3, o3 + k, none⟩ (.int .i64 (f k)) (.int .i64 (g k)) (.slice (some ⟨b3, o3, none⟩) n k3) (.int .i64 (nth L3 k))) (by kernel_rfl) (S0.out) (fun hH0 => ?_)
        refine wpAnyH_take (i := 0) (oi := { dst := some 29, op := _, type := _, pos := _, after := _, guard := _ }) (v := ?_) rfl (by kernel_rfl) (by kernel_rfl) (by kernel_rfl) (fun _ _ _ h => h) (Or.inl ⟨by rfl, ?_⟩) (hH0) ?_
        rotate_left
        · (intro wx hSw; obtain ⟨_, q0, q1, q2, q3⟩ := hSw; go_simp <;> with_reducible rfl)
        simp only [Act.put, List.setIfInBounds_toArray, List.set_cons_zero, List.set_cons_succ]
        refine wpAnyH_take (i := 1) (oi := { dst := some 30, op := _, type := _, pos := _, after := _, guard := _ }) (v := ?_) rfl (by kernel_rfl) (by kernel_rfl) (by kernel_rfl) (fun _ _ _ h => h) (Or.inl ⟨by rfl, ?_⟩) (hH0) ?_
        rotate_left
        · (intro wx hSw; obtain ⟨_, q0, q1, q2, q3⟩ := hSw; go_simp <;> with_reducible rfl)
        simp only [Act.put, List.setIfInBounds_toArray, List.set_cons_zero, List.set_cons_succ]
        refine wpAnyH_take (i := 2) (oi := { dst := some 31, op := _, type := _, pos := _, after := _, guard := _ }) (v := ?_) rfl (by kernel_rfl) (by kernel_rfl) (by kernel_rfl) (fun _ _ _ h => h) (Or.inl ⟨by rfl, ?_⟩) (hH0) ?_
        rotate_left
        · (intro wx hSw; obtain ⟨_, q0, q1, q2, q3⟩ := hSw; go_simp <;> with_reducible rfl)
        simp only [Act.put, List.setIfInBounds_toArray, List.set_cons_zero, List.set_cons_succ]
        refine wpAnyH_take (i := 3) (oi := { dst := some 32, op := _, type := _, pos := _, after := _, guard := _ }) (v := ?_) rfl (by kernel_rfl) (by kernel_rfl) (by kernel_rfl) (fun _ _ _ h => h) (Or.inl ⟨by rfl, ?_⟩) (hH0) ?_
        rotate_left
        · (intro wx hSw; obtain ⟨_, q0, q1, q2, q3⟩ := hSw; go_simp <;> with_reducible rfl)
        simp only [Act.put, List.setIfInBounds_toArray, List.set_cons_zero, List.set_cons_succ]
        refine wpAnyH_take (i := 4) (oi := { dst := some 33, op := _, type := _, pos := _, after := _, guard := _ }) (v := ?_) rfl (by kernel_rfl) (by kernel_rfl) (by kernel_rfl) (fun _ _ _ h => h) (Or.inl ⟨by rfl, ?_⟩) (hH0) ?_
        rotate_left
        · (intro wx hSw; obtain ⟨_, q0, q1, q2, q3⟩ := hSw; go_simp <;> with_reducible rfl)
        simp only [Act.put, List.setIfInBounds_toArray, List.set_cons_zero, List.set_cons_succ]
        refine wpAnyH_take (i := 5) (oi := { dst := some 34, op := _, type := _, pos := _, after := _, guard := _ }) (v := ?_) rfl (by kernel_rfl) (by kernel_rfl) (by kernel_rfl) (fun _ _ _ h => h) (Or.inl ⟨by rfl, ?_⟩) (hH0) ?_
        rotate_left
        · (intro wx hSw; obtain ⟨_, q0, q1, q2, q3⟩ := hSw; go_simp <;> with_reducible rfl)
        simp only [Act.put, List.setIfInBounds_toArray, List.set_cons_zero, List.set_cons_succ]
        refine wpAnyH_take (i := 6) (oi := { dst := some 35, op := _, type := _, pos := _, after := _, guard := _ }) (v := ?_) rfl (by kernel_rfl) (by kernel_rfl) (by kernel_rfl) (fun _ _ _ h => h) (Or.inl ⟨by rfl, ?_⟩) (hH0) ?_
        rotate_left
        · (intro wx hSw; obtain ⟨_, q0, q1, q2, q3⟩ := hSw; go_simp <;> with_reducible rfl)
        simp only [Act.put, List.setIfInBounds_toArray, List.set_cons_zero, List.set_cons_succ]
        refine wpAnyH_take (i := 7) (oi := { dst := some 36, op := _, type := _, pos := _, after := _, guard := _ }) (v := ?_) rfl (by kernel_rfl) (by kernel_rfl) (by kernel_rfl) (fun _ _ _ h => h) (Or.inl ⟨by rfl, ?_⟩) (hH0) ?_
        rotate_left
        · (intro wx hSw; obtain ⟨_, q0, q1, q2, q3⟩ := hSw; go_simp <;> with_reducible rfl)
        simp only [Act.put, List.setIfInBounds_toArray, List.set_cons_zero, List.set_cons_succ]
        refine wpAnyH_take (i := 8) (oi := { dst := some 37, op := _, type := _, pos := _, after := _, guard := _ }) (v := ?_) rfl (by kernel_rfl) (by kernel_rfl) (by kernel_rfl) (fun _ _ _ h => h) (Or.inl ⟨by rfl, ?_⟩) (hH0) ?_
        rotate_left
        · (intro wx hSw; obtain ⟨_, q0, q1, q2, q3⟩ := hSw; go_simp <;> with_reducible rfl)
        simp only [Act.put, List.setIfInBounds_toArray, List.set_cons_zero, List.set_cons_succ]
        -- behind it: go_wp2_with fail, then go_meet (a cut) or go_ret; the condition at the end: hH0
        refine wpAnyH_ready (rs := [9, 13]) (by kernel_rfl) (by simp) ?_
        refine AllReadyH.cons (o := { dst := some 38, op := _, type := _, pos := _, after := _, guard := _ }) rfl (fun K hK => ?_) (AllReadyH.cons (o := { dst := some 7, op := _, type := _, pos := _, after := _, guard := _ }) rfl (fun K hK => ?_) AllReadyH.nil)
        · go_simp
          refine (C.out _).mono ?_
          rintro e wa ⟨rfl, hba⟩
          dsimp only
          refine hK.out _ _ (KS.below hH0 hba) (fun hH1 => ?_)
          clear hK K
          refine wpAnyH_take (i := 10) (oi := { dst := some 28, op := _, type := _, pos := _, after := _, guard := _ }) (v := ?_) rfl (by kernel_rfl) (by kernel_rfl) (by kernel_rfl) (fun _ _ _ h => h) (Or.inl ⟨by rfl, ?_⟩) (hH1) ?_
          rotate_left
          · (intro wx hSw; obtain ⟨_, q0, q1, q2, q3⟩ := hSw; go_simp <;> with_reducible rfl)
          simp only [Act.put, List.setIfInBounds_toArray, List.set_cons_zero, List.set_cons_succ]
          refine wpAnyH_take (i := 11) (oi := { dst := some 39, op := _, type := _, pos := _, after := _, guard := _ }) (v := ?_) rfl (by kernel_rfl) (by kernel_rfl) (by kernel_rfl) (fun _ _ _ h => h) (Or.inl ⟨by rfl, ?_⟩) (hH1) ?_
          rotate_left
          · (intro wx hSw; obtain ⟨_, q0, q1, q2, q3⟩ := hSw; go_simp <;> with_reducible rfl)
          simp only [Act.put, List.setIfInBounds_toArray, List.set_cons_zero, List.set_cons_succ]
          refine wpAnyH_take (i := 12) (oi := { dst := some 40, op := _, type := _, pos := _, after := _, guard := _ }) (v := ?_) rfl (by kernel_rfl) (by kernel_rfl) (by kernel_rfl) (fun _ _ _ h => h) (Or.inl ⟨by rfl, ?_⟩) (hH1) ?_
          rotate_left
          · (intro wx hSw; obtain ⟨_, q0, q1, q2, q3⟩ := hSw; go_simp <;> with_reducible rfl)
          simp only [Act.put, List.setIfInBounds_toArray, List.set_cons_zero, List.set_cons_succ]
          refine wpAnyH_ready (rs := [13]) (by kernel_rfl) (by simp) ?_
          refine AllReadyH.cons (o := { dst := some 7, op := _, type := _, pos := _, after := _, guard := _ }) rfl (fun K hK => ?_) AllReadyH.nil
          go_simp
          refine hK.out _ _ (KS.below hH1 (balloc (Below.refl _ _) _)) (fun hH12 => ?_)
          clear hK K
          -- behind it: go_wp2_with fail, then go_meet (a cut) or go_ret; the condition at the end: hH12
          refine wpAnyH_ready (rs := [14]) (by kernel_rfl) (by simp) ?_
          refine AllReadyH.cons (o := { dst := none, op := _, type := _, pos := _, after := _, guard := _ }) rfl (fun K hK => ?_) AllReadyH.nil
          go_simp
          refine hK.out _ _ (KS.below hH1 (balloc (Below.refl _ _) _)) (fun hH50 => ?_)
          clear hK K
          refine wpAnyH_take (i := 15) (oi := { dst := some 8, op := _, type := _, pos := _, after := _, guard := _ }) (v := ?_) rfl (by kernel_rfl) (by kernel_rfl) (by kernel_rfl) (fun _ _ _ h => h) (Or.inl ⟨by rfl, ?_⟩) (hH50) ?_
          rotate_left
          · (intro wx hSw; obtain ⟨_, q0, q1, q2, q3⟩ := hSw; go_simp <;> with_reducible rfl)
          simp only [Act.put, List.setIfInBounds_toArray, List.set_cons_zero, List.set_cons_succ]
          refine wpAnyH_done (by kernel_rfl) ?_ _
          -- behind it: go_wp2_with fail, then go_meet (a cut) or go_ret; the condition at the end: hH50
          go_wp2_with fail
          go_meet
          exact ⟨_, rfl, rfl, hH1.bel.size, by simp, by simp, by simp, hH50⟩
        · go_simp
          refine hK.out _ _ (KS.below hH0 (balloc (Below.refl _ _) _)) (fun hH1 => ?_)
          clear hK K
          refine wpAnyH_ready (rs := [9]) (by kernel_rfl) (by simp) ?_
          refine AllReadyH.cons (o := { dst := some 38, op := _, type := _, pos := _, after := _, guard := _ }) rfl (fun K hK => ?_) AllReadyH.nil
          go_simp
          refine (C.out _).mono ?_
          rintro e w_c38_12 ⟨rfl, hb_c38_12⟩
          dsimp only
          refine hK.out _ _ (KS.below hH1 hb_c38_12) (fun hH12 => ?_)
          clear hK K
          refine wpAnyH_take (i := 10) (oi := { dst := some 28, op := _, type := _, pos := _, after := _, guard := _ }) (v := ?_) rfl (by kernel_rfl) (by kernel_rfl) (by kernel_rfl) (fun _ _ _ h => h) (Or.inl ⟨by rfl, ?_⟩) (hH12) ?_
          rotate_left
          · (intro wx hSw; obtain ⟨_, q0, q1, q2, q3⟩ := hSw; go_simp <;> with_reducible rfl)
          simp only [Act.put, List.setIfInBounds_toArray, List.set_cons_zero, List.set_cons_succ]
          refine wpAnyH_take (i := 11) (oi := { dst := some 39, op := _, type := _, pos := _, after := _, guard := _ }) (v := ?_) rfl (by kernel_rfl) (by kernel_rfl) (by kernel_rfl) (fun _ _ _ h => h) (Or.inl ⟨by rfl, ?_⟩) (hH12) ?_
          rotate_left
          · (intro wx hSw; obtain ⟨_, q0, q1, q2, q3⟩ := hSw; go_simp <;> with_reducible rfl)
          simp only [Act.put, List.setIfInBounds_toArray, List.set_cons_zero, List.set_cons_succ]
          refine wpAnyH_take (i := 12) (oi := { dst := some 40, op := _, type := _, pos := _, after := _, guard := _ }) (v := ?_) rfl (by kernel_rfl) (by kernel_rfl) (by kernel_rfl) (fun _ _ _ h => h) (Or.inl ⟨by rfl, ?_⟩) (hH12) ?_
          rotate_left
          · (intro wx hSw; obtain ⟨_, q0, q1, q2, q3⟩ := hSw; go_simp <;> with_reducible rfl)
          simp only [Act.put, List.setIfInBounds_toArray, List.set_cons_zero, List.set_cons_succ]
          -- behind it: go_wp2_with fail, then go_meet (a cut) or go_ret; the condition at the end: hH12
          have w0 : w_c38_12.cell? ⟨wr.heap.size, 0, none⟩ = some (.int .i64 0) := (hb_c38_12.cell (p := ⟨wr.heap.size, 0, none⟩) (by simp)).trans (by simp [go_sem])
          have w1' : w_c38_12.cell? ⟨wr.heap.size, 1, none⟩ = some (.int .i64 0) := (hb_c38_12.cell (p := ⟨wr.heap.size, 1, none⟩) (by simp)).trans (by simp [go_sem])
          have w2 : w_c38_12.frozen? ⟨wr.heap.size, 0, none⟩ = false := (hb_c38_12.frozen (p := ⟨wr.heap.size, 0, none⟩) (by simp)).trans (by simp [go_sem])
          have w3 : w_c38_12.frozen? ⟨wr.heap.size, 1, none⟩ = false := (hb_c38_12.frozen (p := ⟨wr.heap.size, 1, none⟩) (by simp)).trans (by simp [go_sem])
          refine wpAnyH_ready (rs := [14]) (by kernel_rfl) (by simp) ?_
          refine AllReadyH.cons (o := { dst := none, op := _, type := _, pos := _, after := _, guard := _ }) rfl (fun K hK => ?_) AllReadyH.nil
          go_simp
          refine hK.out _ _ (KS.of ((hH12.bel.setCell (by simp) _).setCell (by simp) _) y1 y2 t2 y3) (fun hH50 => ?_)
          clear hK K
          refine wpAnyH_take (i := 15) (oi := { dst := some 8, op := _, type := _, pos := _, after := _, guard := _ }) (v := ?_) rfl (by kernel_rfl) (by kernel_rfl) (by kernel_rfl) (fun _ _ _ h => h) (Or.inl ⟨by rfl, ?_⟩) (hH50) ?_
          rotate_left
          · (intro wx hSw; obtain ⟨_, q0, q1, q2, q3⟩ := hSw; go_simp <;> with_reducible rfl)
          simp only [Act.put, List.setIfInBounds_toArray, List.set_cons_zero, List.set_cons_succ]
          refine wpAnyH_done (by kernel_rfl) ?_ _
          -- behind it: go_wp2_with fail, then go_meet (a cut) or go_ret; the condition at the end: hH50
          go_wp2_with fail
          go_meet
          have lz : wr.heap.size < w_c38_12.heap.size := by have := hb_c38_12.size; simp at this; omega
          exact ⟨_, rfl, rfl, Nat.le_refl _, by simpa [World.setCell] using lz, by simp [go_sem, w0, w1'], by simp [go_sem, w0, w1'], hH50⟩
      case rest =>
        obtain ⟨z, rfl, rfl, lz, lz', c0, c1, hK⟩ := hcut
        have HK := hide hK
        obtain ⟨bc, d0, d1, d2, d3⟩ := hK
        have hsz := bc.size
        have HOc := hide (owns_below HO.out bc)
        have HTc := hide (HT.out.below bc)
        have HBc := hide (bstep HB.out bc)
        clear y1 y2 y3 t0 t1 t2 S0 bc
        have hD : ((nth L3 k == -1) = true ∧ (f k == p) = true ∧ numS (f k) (g k) (nth L3 k) = q) ∨ ((nth L3 k == -1) = true ∧ (f k == p) = false ∧ numS (f k) (g k) (nth L3 k) = p) ∨ ((nth L3 k == -1) = false ∧ numS (f k) (g k) (nth L3 k) = p) := by
          rw [NS.out]
          by_cases e1 : nth L3 k = -1 <;> by_cases e2 : f k = p <;> simp [e1, e2]
        clear NS
        rcases hD with ⟨g1, g2, hx⟩ | ⟨g1, g2, hx⟩ | ⟨g1, hx⟩
        · have HN := hide hx
          clear hx
          go_wp2_with fail
          go_quiet (fail)
          cases ok
          · go_wp2_with fail
            go_ret
            have hz : okk = false := by rw [← HOKK.out, allN_no hlt HOK.out, Bool.false_and]
            have hB := HBc.out
            exact ⟨by rw [hz]; rfl, (by repeat' first | with_reducible exact Below.refl _ _ | with_reducible assumption | with_reducible refine below_drewN ?_ _ | with_reducible refine balloc ?_ _ | with_reducible refine Below.drew ?_ | with_reducible refine Below.setCell ?_ (by first | (simp; done) | (simp; omega) | omega) _ | with_reducible refine bstep ?_ (by assumption))⟩
          · go_wp2_with (at_builtin; refine wpList_append_own _ rfl _ _ 23 rfl w1.heap.size 2 i0 (.int .i64 0) 1 8 Try.underlying23 hi hz0 hz1 hz2 rfl (by decide) _ _ _ rfl (World.ownsRow.alloc (owns_drewNP _ HOc.out) _) ⟨_, 0, none⟩ 1 1 [.int .i64 q] rfl rfl ?c1 ?c2 ?c3 ?c4 ?c5 ?_)
            case c1 => exact one_new _ _ _
            case c2 => intro u hu; simp at hu; subst hu; rfl
            case c3 => unfold maxLen; omega
            case c4 => omega
            case c5 => simp; omega
            intro v' w2 hown2 hgrow _
            have bq := hide (below_appQ (X := w1.heap.size) (w := wc) (hg := hgrow) (hb := balloc' (Below.drewN (Below.refl _ _) _) (by simp; omega) _) (hX := by simp; omega) (hXB := Nat.le_refl _) (ho := World.ownsRow.alloc (owns_drewNP _ HOc.out) _))
            have HO2 := hide hown2
            clear hgrow hown2
            have s2 := bq.out.size
            go_wp2_with fail
            go_roundw
            case rel =>
              refine ⟨k + 1, by omega, by go_num, fun j hj => (by rcases Nat.lt_succ_iff_lt_or_eq.1 hj with h | h; exact HPRE.out j h; rw [h]; exact HOK.out), by rw [vals_succ, HN.out]; exact HO2.out, HTc.out.belowAt bq.out lw, (HBc.out).trans (bq.out.mono (by omega)), by omega⟩
            case measure => simp [intOf]; omega
        · have HN := hide hx
          clear hx
          go_wp2_with fail
          go_quiet (fail)
          cases ok
          · go_wp2_with fail
            go_ret
            have hz : okk = false := by rw [← HOKK.out, allN_no hlt HOK.out, Bool.false_and]
            have hB := HBc.out
            exact ⟨by rw [hz]; rfl, (by repeat' first | with_reducible exact Below.refl _ _ | with_reducible assumption | with_reducible refine below_drewN ?_ _ | with_reducible refine balloc ?_ _ | with_reducible refine Below.drew ?_ | with_reducible refine Below.setCell ?_ (by first | (simp; done) | (simp; omega) | omega) _ | with_reducible refine bstep ?_ (by assumption))⟩
          · go_wp2_with (at_builtin; refine wpList_append_own _ rfl _ _ 23 rfl w1.heap.size 2 i0 (.int .i64 0) 1 8 Try.underlying23 hi hz0 hz1 hz2 rfl (by decide) _ _ _ rfl (World.ownsRow.alloc (owns_drewNP _ HOc.out) _) ⟨_, 0, none⟩ 1 1 [.int .i64 p] rfl rfl ?c1 ?c2 ?c3 ?c4 ?c5 ?_)
            case c1 => exact one_new _ _ _
            case c2 => intro u hu; simp at hu; subst hu; rfl
            case c3 => unfold maxLen; omega
            case c4 => omega
            case c5 => simp; omega
            intro v' w2 hown2 hgrow _
            have bq := hide (below_appQ (X := w1.heap.size) (w := wc) (hg := hgrow) (hb := balloc' (Below.drewN (Below.refl _ _) _) (by simp; omega) _) (hX := by simp; omega) (hXB := Nat.le_refl _) (ho := World.ownsRow.alloc (owns_drewNP _ HOc.out) _))
            have HO2 := hide hown2
            clear hgrow hown2
            have s2 := bq.out.size
            go_wp2_with fail
            go_roundw
            case rel =>
              refine ⟨k + 1, by omega, by go_num, fun j hj => (by rcases Nat.lt_succ_iff_lt_or_eq.1 hj with h | h; exact HPRE.out j h; rw [h]; exact HOK.out), by rw [vals_succ, HN.out]; exact HO2.out, HTc.out.belowAt bq.out lw, (HBc.out).trans (bq.out.mono (by omega)), by omega⟩
            case measure => simp [intOf]; omega
        · have HN := hide hx
          clear hx
          go_wp2_with fail
          go_quiet (fail)
          cases ok
          · go_wp2_with fail
            go_ret
            have hz : okk = false := by rw [← HOKK.out, allN_no hlt HOK.out, Bool.false_and]
            have hB := HBc.out
            exact ⟨by rw [hz]; rfl, (by repeat' first | with_reducible exact Below.refl _ _ | with_reducible assumption | with_reducible refine below_drewN ?_ _ | with_reducible refine balloc ?_ _ | with_reducible refine Below.drew ?_ | with_reducible refine Below.setCell ?_ (by first | (simp; done) | (simp; omega) | omega) _ | with_reducible refine bstep ?_ (by assumption))⟩
          · go_wp2_with (at_builtin; refine wpList_append_own _ rfl _ _ 23 rfl w1.heap.size 2 i0 (.int .i64 0) 1 8 Try.underlying23 hi hz0 hz1 hz2 rfl (by decide) _ _ _ rfl (World.ownsRow.alloc (owns_drewNP _ HOc.out) _) ⟨_, 0, none⟩ 1 1 [.int .i64 p] rfl rfl ?c1 ?c2 ?c3 ?c4 ?c5 ?_)
            case c1 => exact one_new _ _ _
            case c2 => intro u hu; simp at hu; subst hu; rfl
            case c3 => unfold maxLen; omega
            case c4 => omega
            case c5 => simp; omega
            intro v' w2 hown2 hgrow _
            have bq := hide (below_appQ (X := w1.heap.size) (w := wc) (hg := hgrow) (hb := balloc' (Below.drewN (Below.refl _ _) _) (by simp; omega) _) (hX := by simp; omega) (hXB := Nat.le_refl _) (ho := World.ownsRow.alloc (owns_drewNP _ HOc.out) _))
            have HO2 := hide hown2
            clear hgrow hown2
            have s2 := bq.out.size
            go_wp2_with fail
            go_roundw
            case rel =>
              refine ⟨k + 1, by omega, by go_num, fun j hj => (by rcases Nat.lt_succ_iff_lt_or_eq.1 hj with h | h; exact HPRE.out j h; rw [h]; exact HOK.out), by rw [vals_succ, HN.out]; exact HO2.out, HTc.out.belowAt bq.out lw, (HBc.out).trans (bq.out.mono (by omega)), by omega⟩
            case measure => simp [intOf]; omega
    · obtain rfl : k = n := by omega
      obtain ⟨av, cv, hv, rv, nv⟩ := row_of_owns HO.out
      subst hv
      have rv' := hide rv
      rcases rv.lies with q0 | ⟨bv, ov, rfl, ltv, hcv⟩
      · omega
      have LR := hide (fun (w2 : World) (hB : Below wr.heap.size wr w2) => l5Row_some b off k cap bv ov cv f g (ints (fun i => numS (f i) (g i) (nth L3 i)) k) w2 h8 (Nat.lt_of_lt_of_le (Nat.lt_of_lt_of_le hb hbel.size) hB.size) (Nat.lt_of_lt_of_le ltv hB.size)
        (fun i hi => ⟨(hB.cell (p := ⟨b, off + i * 2, none⟩) (Nat.lt_of_lt_of_le hb hbel.size)).trans ((hbel.cell (p := ⟨b, off + i * 2, none⟩) hb).trans (HC.out i hi).1), (hB.cell (p := ⟨b, off + i * 2 + 1, none⟩) (Nat.lt_of_lt_of_le hb hbel.size)).trans ((hbel.cell (p := ⟨b, off + i * 2 + 1, none⟩) hb).trans (HC.out i hi).2)⟩) (fun i hi => (hB.cell (p := ⟨bv, ov + i, none⟩) ltv).trans (hcv i hi)))
      have R1 := hide (HR1.out.below hbel)
      have R2 := hide (HR2.out.below hbel)
      have R3 := hide (HR3.out.below hbel)
      have hz : okk = sameRowB k f g L1 L2 L3 := by rw [← HOKK.out, allN_yes (fun j hj => HPRE.out j hj), Bool.true_and]
      have HZ := hide hz
      unfold sameRowB at HZ
      generalize vcode f g (ints (fun i => numS (f i) (g i) (nth L3 i)) k) 1 = d1 at LR HZ
      generalize vcode f g (ints (fun i => numS (f i) (g i) (nth L3 i)) k) 2 = d2 at LR HZ
      generalize vcode f g (ints (fun i => numS (f i) (g i) (nth L3 i)) k) 3 = d3 at LR HZ
      have SM := hide (fun (x1 x2 x3 : Option Addr) (j1 j2 j3 : Nat) (wa : World) (ra1 : Row wa x1 k (ints d1 k)) (ra2 : Row wa x2 k (ints d2 k)) (ra3 : Row wa x3 k (ints d3 k)) (hB : Below wr.heap.size wr wa) =>
        l5Same_any ⟨x1, x2, x3, k, k, k, j1, j2, j3⟩ ⟨a1, a2, some ⟨b3, o3, none⟩, m1, m2, k, k1, k2, k3⟩ _ _ _ _ _ _ wa ⟨ra1, ra2, ra3⟩ ⟨R1.out.below hB, R2.out.below hB, R3.out.below hB⟩ h1 h1 h1 (by show k ≤ _; omega) (by show k ≤ _; omega) (by show k ≤ _; omega))
      simp only [RowV.v] at SM
      rw [← HZ.out] at SM
      have S0 := hide (HT.out.drew)
      have bd : Below wr.heap.size wr wr.drew := Below.drew (Below.refl _ _)
      clear hz hT rv hcv hbel nv rv' R1 R2 R3 HZ
      go_upto_region 14 with fail
      refine wp_region_held_drew (S := fun wx => TriW wx w.heap.size (.slice a1 m1 k1) (.slice a2 m2 k2) (.slice (some ⟨b3, o3, none⟩) k k3)) (by kernel_rfl) (S0.out) (fun hH0 => ?_)
      refine wpAnyH_take (i := 0) (oi := { dst := some 67, op := _, type := _, pos := _, after := _, guard := _ }) (v := ?_) rfl (by kernel_rfl) (by kernel_rfl) (by kernel_rfl) (fun _ _ _ h => h) (Or.inl ⟨by rfl, ?_⟩) (hH0) ?_
      rotate_left
      · (intro wx hSw; obtain ⟨_, q0, q1, q2, _, _, _⟩ := hSw; go_simp <;> with_reducible rfl)
      simp only [Act.put, List.setIfInBounds_toArray, List.set_cons_zero, List.set_cons_succ]
      refine wpAnyH_take (i := 1) (oi := { dst := some 68, op := _, type := _, pos := _, after := _, guard := _ }) (v := ?_) rfl (by kernel_rfl) (by kernel_rfl) (by kernel_rfl) (fun _ _ _ h => h) (Or.inl ⟨by rfl, ?_⟩) (hH0) ?_
      rotate_left
      · (intro wx hSw; obtain ⟨_, q0, q1, q2, _, _, _⟩ := hSw; go_simp <;> with_reducible rfl)
      simp only [Act.put, List.setIfInBounds_toArray, List.set_cons_zero, List.set_cons_succ]
      refine wpAnyH_take (i := 3) (oi := { dst := some 70, op := _, type := _, pos := _, after := _, guard := _ }) (v := ?_) rfl (by kernel_rfl) (by kernel_rfl) (by kernel_rfl) (fun _ _ _ h => h) (Or.inl ⟨by rfl, ?_⟩) (hH0) ?_
      rotate_left
      · (intro wx hSw; obtain ⟨_, q0, q1, q2, _, _, _⟩ := hSw; go_simp <;> with_reducible rfl)
      simp only [Act.put, List.setIfInBounds_toArray, List.set_cons_zero, List.set_cons_succ]
      refine wpAnyH_ready (rs := [2]) (by kernel_rfl) (by simp) ?_
      refine AllReadyH.cons (o := { dst := some 69, op := _, type := _, pos := _, after := _, guard := _ }) rfl (fun K hK => ?_) AllReadyH.nil
      go_simp
      refine (LR.out _ bd).mono ?_
      rintro e wa ⟨v, rfl, x1, x2, x3, j1, j2, j3, rfl, ra1, ra2, ra3, _, _, _, hba⟩
      dsimp only
      refine hK.out _ _ (TriW.below hH0 hba) (fun hH1 => ?_)
      clear hK K
      refine wpAnyH_ready (rs := [4]) (by kernel_rfl) (by simp) ?_
      refine AllReadyH.cons (o := { dst := some 71, op := _, type := _, pos := _, after := _, guard := _ }) rfl (fun K hK => ?_) AllReadyH.nil
      go_simp
      refine (SM.out x1 x2 x3 j1 j2 j3 wa ra1 ra2 ra3 (bstep bd hba)).mono ?_
      rintro e wb ⟨rfl, hbb⟩
      dsimp only
      refine hK.out _ _ (TriW.below hH1 hbb) (fun hH2 => ?_)
      clear hK K
      refine wpAnyH_take (i := 5) (oi := { dst := some 4, op := _, type := _, pos := _, after := _, guard := _ }) (v := ?_) rfl (by kernel_rfl) (by kernel_rfl) (by kernel_rfl) (fun _ _ _ h => h) (Or.inl ⟨by rfl, ?_⟩) (hH2) ?_
      rotate_left
      · (intro wx hSw; obtain ⟨_, q0, q1, q2, _, _, _⟩ := hSw; go_simp <;> with_reducible rfl)
      simp only [Act.put, List.setIfInBounds_toArray, List.set_cons_zero, List.set_cons_succ]
      refine wpAnyH_done (by kernel_rfl) ?_ _
      -- behind it: go_wp2_with fail, then go_meet (a cut) or go_ret; the condition at the end: hH2
      go_wp2_with fail
      go_ret
      exact ⟨rfl, bstep (bstep (bstep HB.out bd) hba) hbb⟩
end Go.Proofs.Ytfbigielooemaaa
