/- RowOk of the model. -/
import Derived.Test.YtoiaamcnmpdglaaZ25
import Derived.Test.YtoiaamcnmpdglaaZ10
import Derived.Test.YtoiaamcnmpdglaaZ5
import Derived.Test.YtoiaamcnmpdglaaZ19
import Derived.Test.YtoiaamcnmpdglaaZ14
import Derived.Test.YtoiaamcnmpdglaaZ6
namespace Go.Proofs.Ytoiaamcnmpdglaa
open Go.RowKit
set_option maxRecDepth 8000
set_option linter.unusedSimpArgs false
set_option linter.unusedVariables false

/-- The number that the model takes for a code of tier 3. -/
def numS (lo hi c : Int) : Int := if c = -1 ∧ lo = cellLo lo hi 3 c then cellHi lo hi 3 c else cellLo lo hi 3 c

theorem numS_def (lo hi c : Int) : numS lo hi c = if c = -1 ∧ lo = cellLo lo hi 3 c then cellHi lo hi 3 c else cellLo lo hi 3 c := rfl

theorem TriW.belowAt {w w' : World} {b X : Nat} {v0 v1 v2 : Value} (h : TriW w b v0 v1 v2) (hb : Below X w w') (hX : b < X) : TriW w' b v0 v1 v2 :=
  ⟨Nat.lt_of_lt_of_le h.lt hb.size, (hb.cell (p := ⟨b, 0, none⟩) hX).trans h.c0, (hb.cell (p := ⟨b, 1, none⟩) hX).trans h.c1, (hb.cell (p := ⟨b, 2, none⟩) hX).trans h.c2,
    (hb.frozen (p := ⟨b, 0, none⟩) hX).trans h.f0, (hb.frozen (p := ⟨b, 1, none⟩) hX).trans h.f1, (hb.frozen (p := ⟨b, 2, none⟩) hX).trans h.f2⟩

theorem below_appQ {X B : Nat} {w wr w2 : World} {v : Value} {k : Nat} {e : TypeId} {size : Nat} {xs : List Value} (hb : Below X w wr) (hX : X ≤ wr.heap.size) (hXB : X ≤ B) (ho : wr.ownsRow B e size v k xs) (hg : wr.grownBy w2 v.ownBlock) : Below X w w2 :=
  hb.grown hg hX fun k' hk' => Nat.le_trans hXB (ho.lt k' hk').1

theorem codeB_off {lo hi t x : Int} (h : ¬ (lo ≤ x ∧ x ≤ hi)) : codeB lo hi t x = -1 := by
  have : hasB lo hi x = false := by unfold hasB inB; rw [decide_eq_false h, Bool.and_false]
  simp [codeB, this]

theorem rowAt_model {lo hi a b c : Int} (hr : rightB lo hi = true) : (cellB lo hi 3 c && ((codeB lo hi 1 (numS lo hi c) == a) && ((codeB lo hi 2 (numS lo hi c) == b) && (codeB lo hi 3 (numS lo hi c) == c)))) = rowAt lo hi a b c := by
  obtain ⟨a1, a2, a3, a4, a5⟩ := right_nums hr
  unfold rowAt
  by_cases hc : c = -1
  · subst hc
    have hcB : cellB lo hi 3 (-1) = true := by simp [cellB, hr, tierB]
    have hlo : cellLo lo hi 3 (-1) = -1048576 := by simp [cellLo, hcB]
    have hhi : cellHi lo hi 3 (-1) = 1048576 := by simp [cellHi, hcB]
    simp only [numI, numIB, if_true, hcB, Bool.true_and]
    by_cases h1 : -1048576 < lo
    · have hs : ¬ (lo ≤ numS lo hi (-1) ∧ numS lo hi (-1) ≤ hi) := by
        unfold numS; rw [hlo, if_neg (by omega)]; omega
      simp only [h1, if_true, decide_true, Bool.true_or, Bool.true_and]
      rw [codeB_off hs, codeB_off hs, codeB_off hs, codeB_off (x := lo - 1) (by omega), codeB_off (x := lo - 1) (by omega), codeB_off (x := lo - 1) (by omega)]
    · have hl : lo = -1048576 := by omega
      have hn : numS lo hi (-1) = 1048576 := by unfold numS; rw [hlo, if_pos ⟨rfl, hl⟩, hhi]
      rw [hn]
      by_cases h2 : hi < 1048576
      · simp only [h1, h2, if_true, if_false, decide_true, decide_false, Bool.or_true, Bool.true_and]
        rw [codeB_off (x := 1048576) (by omega), codeB_off (x := 1048576) (by omega), codeB_off (x := 1048576) (by omega), codeB_off (x := hi + 1) (by omega), codeB_off (x := hi + 1) (by omega), codeB_off (x := hi + 1) (by omega)]
      · simp only [h1, h2, if_false, decide_false, Bool.or_false, Bool.false_and]
        have hh : hasB lo hi 1048576 = true := by unfold hasB inB; rw [hr, decide_eq_true (by omega)]; rfl
        have h3 : codeB lo hi 3 1048576 ≠ -1 := by
          simp only [codeB, hh, show tierB 3 = true from rfl, Bool.and_self, if_true, show cellsN 3 = 256 from rfl]
          have := code_nonneg lo hi 256 1048576 (by omega) (by omega) a5
          omega
        simp [h3]
  · have hn : numS lo hi c = numI lo hi c := by unfold numS numI; rw [if_neg (by omega), if_neg hc]
    rw [hn]
    simp only [numIB, hc, if_false]

/-- Where the model looks in a round: nothing that was there has turned. -/
structure KS (w0 w : World) (p0 p1 p2 p3 : Addr) (v0 v1 v2 v3 : Value) : Prop where
  bel : Below w0.heap.size w0 w
  c0 : w.cell? p0 = some v0
  c1 : w.cell? p1 = some v1
  c2 : w.cell? p2 = some v2
  c3 : w.cell? p3 = some v3

theorem KS.of {w0 w : World} {p0 p1 p2 p3 : Addr} {v0 v1 v2 v3 : Value} (hb : Below w0.heap.size w0 w) (h0 : w0.cell? p0 = some v0) (h1 : w0.cell? p1 = some v1) (h2 : w0.cell? p2 = some v2) (h3 : w0.cell? p3 = some v3) : KS w0 w p0 p1 p2 p3 v0 v1 v2 v3 :=
  ⟨hb, (hb.cell (cellLt h0)).trans h0, (hb.cell (cellLt h1)).trans h1, (hb.cell (cellLt h2)).trans h2, (hb.cell (cellLt h3)).trans h3⟩

theorem KS.below {w0 w w' : World} {p0 p1 p2 p3 : Addr} {v0 v1 v2 v3 : Value} (h : KS w0 w p0 p1 p2 p3 v0 v1 v2 v3) (hb : Below w.heap.size w w') : KS w0 w' p0 p1 p2 p3 v0 v1 v2 v3 :=
  ⟨bstep h.bel hb, (hb.cell (cellLt h.c0)).trans h.c0, (hb.cell (cellLt h.c1)).trans h.c1, (hb.cell (cellLt h.c2)).trans h.c2, (hb.cell (cellLt h.c3)).trans h.c3⟩

/-- Whether the row of the model's numbers is this one. -/
def sameRowB (n : Nat) (f g : Nat → Int) (L1 L2 L3 : List Int) : Bool :=
  decide (ints (vcode f g (ints (fun i => numS (f i) (g i) (nth L3 i)) n) 1) n = L1) && (decide (ints (vcode f g (ints (fun i => numS (f i) (g i) (nth L3 i)) n) 2) n = L2) && decide (ints (vcode f g (ints (fun i => numS (f i) (g i) (nth L3 i)) n) 3) n = L3))

theorem Below.drewN {X : Nat} {a b : World} (h : Below X a b) (n : Nat) : Below X a (b.drewN n) := ⟨h.os, h.tape, h.output, h.size, h.block⟩

theorem owns_drewNP {w : World} {base : Nat} {e : TypeId} {size : Nat} {v : Value} {n : Nat} {xs : List Value} (m : Nat) (h : w.ownsRow base e size v n xs) : (w.drewN m).ownsRow base e size v n xs := h

theorem balloc' {X : Nat} {w a : World} (h : Below X w a) (hX : X ≤ a.heap.size) (o : Obj) : Below X w (a.alloc o) := h.alloc hX o

set_option maxHeartbeats 8000000 in
set_option maxRecDepth 4000 in
theorem sRowOk_some (b off n cap : Nat) (f g : Nat → Int) (b3 o3 k3 : Nat) (a1 a2 : Option Addr) (m1 m2 k1 k2 : Nat) (L1 L2 L3 : List Int) (w : World) (h8 : n ≤ 8) (h1 : 1 ≤ n) (hb : b < w.heap.size) (hb3 : b3 < w.heap.size) (l3 : L3.length = n) (r1 : Row w a1 m1 L1) (r2 : Row w a2 m2 L2)
    (hc : ∀ i, i < n → w.cell? ⟨b, off + i * 2, none⟩ = some (.int .i64 (f i)) ∧ w.cell? ⟨b, off + i * 2 + 1, none⟩ = some (.int .i64 (g i)))
    (hc3 : ∀ i, i < n → w.cell? ⟨b3, o3 + i, none⟩ = some (.int .i64 (nth L3 i)))
    (BO : Hid (∀ w1, Below w.heap.size w w1 → Calls Try.prog 43 #[.slice (some ⟨b, off, none⟩) n cap] w1 fun e w' => e = .returned (.bool true) ∧ Below w1.heap.size w1 w')) :
    Calls Try.prog 17 #[.slice (some ⟨b, off, none⟩) n cap, .agg #[.slice a1 m1 k1, .slice a2 m2 k2, .slice (some ⟨b3, o3, none⟩) n k3]] w fun e w' => e = .returned (.bool (allN n (fun i => cellB (f i) (g i) 3 (nth L3 i)) && sameRowB n f g L1 L2 L3)) ∧ Below w.heap.size w w' := by
  obtain ⟨okk, hokk⟩ : ∃ v, (allN n (fun i => cellB (f i) (g i) 3 (nth L3 i)) && sameRowB n f g L1 L2 L3) = v := ⟨_, rfl⟩
  have HOKK := hide hokk
  rw [hokk]
  clear hokk
  have HR1 := hide r1
  have HR2 := hide r2
  have HR3 := hide (show Row w (some ⟨b3, o3, none⟩) n L3 from ⟨l3, .inr ⟨b3, o3, rfl, hb3, hc3⟩⟩)
  clear r1 r2
  obtain ⟨i0, hi, hz0, hz1, hz2⟩ := infoI64_parts
  have HC := hide hc
  have HC3 := hide hc3
  clear hc hc3
  have hnn : ((n : Int) != (n : Int)) = false := by simp
  have CL := hide (fun (k : Nat) => sCellOf_any (f k) (g k) 3 (nth L3 k))
  unfold cellT at CL
  go_enter Try.func17, Try.ntmps17
  go_wp2_with fail
  refine (BO.out _ (by repeat' first | with_reducible exact Below.refl _ _ | with_reducible assumption | with_reducible refine below_drewN ?_ _ | with_reducible refine balloc ?_ _ | with_reducible refine Below.drew ?_ | with_reducible refine Below.setCell ?_ (by first | (simp; done) | (simp; omega) | omega) _ | with_reducible refine bstep ?_ (by assumption))).mono ?_
  rintro e w1 ⟨rfl, hw1⟩
  have T1 : TriW w1 w.heap.size (.slice a1 m1 k1) (.slice a2 m2 k2) (.slice (some ⟨b3, o3, none⟩) n k3) := (TriW.new w _ _ _ _ _ rfl).below hw1
  have B1 : Below w.heap.size w w1 := (by repeat' first | with_reducible exact Below.refl _ _ | with_reducible assumption | with_reducible refine below_drewN ?_ _ | with_reducible refine balloc ?_ _ | with_reducible refine Below.drew ?_ | with_reducible refine Below.setCell ?_ (by first | (simp; done) | (simp; omega) | omega) _ | with_reducible refine bstep ?_ (by assumption))
  have HT1 := hide T1
  have HB1 := hide B1
  have lw := T1.lt
  obtain ⟨_, t0, t1, t2, _, _, _⟩ := T1
  clear hw1 B1
  go_wp2_with fail
  go_loopw [5, 6] (fun v i wr => ∃ k : Nat, k ≤ n ∧ i = .int .i64 k ∧ (∀ j, j < k → cellB (f j) (g j) 3 (nth L3 j) = true) ∧ wr.ownsRow w1.heap.size 2 1 v k (vals (fun i => numS (f i) (g i) (nth L3 i)) k) ∧ TriW wr w.heap.size (.slice a1 m1 k1) (.slice a2 m2 k2) (.slice (some ⟨b3, o3, none⟩) n k3) ∧ Below w.heap.size w wr ∧ w1.heap.size ≤ wr.heap.size) (fun _ i _ => n - (intOf i).toNat)
  case atStart =>
    have B1 := HB1.out
    exact ⟨0, Nat.zero_le _, rfl, fun j h => absurd h (by omega), World.ownsRow_made w1 #[] 0 (Nat.le_refl _) (Nat.zero_le _) rfl, HT1.out.alloc _, (by repeat' first | with_reducible exact Below.refl _ _ | with_reducible assumption | with_reducible refine below_drewN ?_ _ | with_reducible refine balloc ?_ _ | with_reducible refine Below.drew ?_ | with_reducible refine Below.setCell ?_ (by first | (simp; done) | (simp; omega) | omega) _ | with_reducible refine bstep ?_ (by assumption)), by simp⟩
  case round =>
    clear t0 t1 t2 HT1 HB1
    obtain ⟨k, hk, rfl, hpre, hown, hT, hbel, hs1⟩ := hrel
    have HPRE := hide hpre
    have HO := hide hown
    have HT := hide hT
    have HB := hide hbel
    clear hpre hown
    by_cases hlt : k < n
    · have y1 : wr.cell? ⟨b, off + k * 2, none⟩ = some (.int .i64 (f k)) := (hbel.cell (p := ⟨b, off + k * 2, none⟩) hb).trans (HC.out k hlt).1
      have y2 : wr.cell? ⟨b, off + k * 2 + 1, none⟩ = some (.int .i64 (g k)) := (hbel.cell (p := ⟨b, off + k * 2 + 1, none⟩) hb).trans (HC.out k hlt).2
      have y3 : wr.cell? ⟨b3, o3 + k, none⟩ = some (.int .i64 (nth L3 k)) := (hbel.cell (p := ⟨b3, o3 + k, none⟩) hb3).trans (HC3.out k hlt)
      have hlt' : (k : Int) < (n : Int) := by omega
      obtain ⟨lt, t0, t1, t2, _, _, _⟩ := hT
      have S0 : Hid (KS wr wr.drew ⟨b, off + k * 2, none⟩ ⟨b, off + k * 2 + 1, none⟩ ⟨w.heap.size, 2, none⟩ ⟨b3, o3 + k, none⟩ (.int .i64 (f k)) (.int .i64 (g k)) (.slice (some ⟨b3, o3, none⟩) n k3) (.int .i64 (nth L3 k))) := hide (KS.of (Below.drew (Below.refl _ _)) y1 y2 t2 y3)
      have C := hide (CL.out k)
      have NS := hide (numS_def (f k) (g k) (nth L3 k))
      generalize cellLo (f k) (g k) 3 (nth L3 k) = p at C NS
      generalize cellHi (f k) (g k) 3 (nth L3 k) = q at C NS
      obtain ⟨ok, hok⟩ : ∃ v, cellB (f k) (g k) 3 (nth L3 k) = v := ⟨_, rfl⟩
      rw [hok] at C
      have HOK := hide hok
      clear hok hbel
      go_upto_region 7 with fail
      go_cut [7, 8] from 22 to 66 (fun s7 s8 wx => ∃ z, s7 = .pointer (some ⟨z, 0, none⟩) ∧ s8 = .bool ok ∧ wr.heap.size ≤ z ∧ z < wx.heap.size ∧ wx.cell? ⟨z, 0, none⟩ = some (.int .i64 p) ∧ wx.cell? ⟨z, 1, none⟩ = some (.int .i64 q) ∧ KS wr wx ⟨b, off + k * 2, none⟩ ⟨b, off + k * 2 + 1, none⟩ ⟨w.heap.size, 2, none⟩ ⟨b3, o3 + k, none⟩ (.int .i64 (f k)) (.int .i64 (g k)) (.slice (some ⟨b3, o3, none⟩) n k3) (.int .i64 (nth L3 k)))
      case first =>
        refine wp_region_held_drew (S := fun wx => KS wr wx ⟨b, off + k * 2, none⟩ ⟨b, off + k * 2 + 1, none⟩ ⟨w.heap.size, 2, none⟩ ⟨b3, o3 + k, none⟩ (.int .i64 (f k)) (.int .i64 (g k)) (.slice (some ⟨b3, o3, none⟩) n k3) (.int .i64 (nth L3 k))) (by kernel_rfl) (S0.out) (fun hH0 => ?_)
        refine wpAnyH_take (i := 0) (oi := { dst := some 29, op := _, type := _, pos := _, after := _, guard := _ }) (v := ?_) rfl (by kernel_rfl) (by kernel_rfl) (by kernel_rfl) (fun _ _ _ h => h) (Or.inl ⟨by rfl, ?_⟩) (hH0) ?_
        rotate_left
        · (intro wx hSw; obtain ⟨_, q0, q1, q2, q3⟩ := hSw; go_simp <;> with_reducible rfl)
        simp only [Act.put, List.setIfInBounds_toArray, List.set_cons_zero, List.set_cons_succ]
        refine wpAnyH_take (i := 1) (oi := { dst := some 30, op := _, type := _, pos := _, after := _, guard := _ }) (v := ?_) rfl (by kernel_rfl) (by kernel_rfl) (by kernel_rfl) (fun _ _ _ h => h) (Or.inl ⟨by rfl, ?_⟩) (hH0) ?_
        rotate_left
        · (intro wx hSw; obtain ⟨_, q0, q1, q2, q3⟩ := hSw; go_simp <;> with_reducible rfl)
        simp only [Act.put, List.setIfInBounds_toArray, List.set_cons_zero, List.set_cons_succ]
        refine wpAnyH_take (i := 2) (oi := { dst := some 31, op := _, type := _, pos := _, after := _, guard := _ }) (v := ?_) rfl (by kernel_rfl) (by kernel_rfl) (by kernel_rfl) (fun _ _ _ h => h) (Or.inl ⟨by rfl, ?_⟩) (hH0) ?_
        rotate_left
        · (intro wx hSw; obtain ⟨_, q0, q1, q2, q3⟩ := hSw; go_simp <;> with_reducible rfl)
        simp only [Act.put, List.setIfInBounds_toArray, List.set_cons_zero, List.set_cons_succ]
        refine wpAnyH_take (i := 3) (oi := { dst := some 32, op := _, type := _, pos := _, after := _, guard := _ }) (v := ?_) rfl (by kernel_rfl) (by kernel_rfl) (by kernel_rfl) (fun _ _ _ h => h) (Or.inl ⟨by rfl, ?_⟩) (hH0) ?_
        rotate_left
        · (intro wx hSw; obtain ⟨_, q0, q1, q2, q3⟩ := hSw; go_simp <;> with_reducible rfl)
        simp only [Act.put, List.setIfInBounds_toArray, List.set_cons_zero, List.set_cons_succ]
        refine wpAnyH_take (i := 4) (oi := { dst := some 33, op := _, type := _, pos := _, after := _, guard := _ }) (v := ?_) rfl (by kernel_rfl) (by kernel_rfl) (by kernel_rfl) (fun _ _ _ h => h) (Or.inl ⟨by rfl, ?_⟩) (hH0) ?_
        rotate_left
        · (intro wx hSw; obtain ⟨_, q0, q1, q2, q3⟩ := hSw; go_simp <;> with_reducible rfl)
        simp only [Act.put, List.setIfInBounds_toArray, List.set_cons_zero, List.set_cons_succ]
        refine wpAnyH_take (i := 5) (oi := { dst := some 34, op := _, type := _, pos := _, after := _, guard := _ }) (v := ?_) rfl (by kernel_rfl) (by kernel_rfl) (by kernel_rfl) (fun _ _ _ h => h) (Or.inl ⟨by rfl, ?_⟩) (hH0) ?_
        rotate_left
        · (intro wx hSw; obtain ⟨_, q0, q1, q2, q3⟩ := hSw; go_simp <;> with_reducible rfl)
        simp only [Act.put, List.setIfInBounds_toArray, List.set_cons_zero, List.set_cons_succ]
        refine wpAnyH_take (i := 6) (oi := { dst := some 35, op := _, type := _, pos := _, after := _, guard := _ }) (v := ?_) rfl (by kernel_rfl) (by kernel_rfl) (by kernel_rfl) (fun _ _ _ h => h) (Or.inl ⟨by rfl, ?_⟩) (hH0) ?_
        rotate_left
        · (intro wx hSw; obtain ⟨_, q0, q1, q2, q3⟩ := hSw; go_simp <;> with_reducible rfl)
        simp only [Act.put, List.setIfInBounds_toArray, List.set_cons_zero, List.set_cons_succ]
        refine wpAnyH_take (i := 7) (oi := { dst := some 36, op := _, type := _, pos := _, after := _, guard := _ }) (v := ?_) rfl (by kernel_rfl) (by kernel_rfl) (by kernel_rfl) (fun _ _ _ h => h) (Or.inl ⟨by rfl, ?_⟩) (hH0) ?_
        rotate_left
        · (intro wx hSw; obtain ⟨_, q0, q1, q2, q3⟩ := hSw; go_simp <;> with_reducible rfl)
        simp only [Act.put, List.setIfInBounds_toArray, List.set_cons_zero, List.set_cons_succ]
        refine wpAnyH_take (i := 8) (oi := { dst := some 37, op := _, type := _, pos := _, after := _, guard := _ }) (v := ?_) rfl (by kernel_rfl) (by kernel_rfl) (by kernel_rfl) (fun _ _ _ h => h) (Or.inl ⟨by rfl, ?_⟩) (hH0) ?_
        rotate_left
        · (intro wx hSw; obtain ⟨_, q0, q1, q2, q3⟩ := hSw; go_simp <;> with_reducible rfl)
        simp only [Act.put, List.setIfInBounds_toArray, List.set_cons_zero, List.set_cons_succ]
        -- behind it: go_wp2_with fail, then go_meet (a cut) or go_ret; the condition at the end: hH0
        refine wpAnyH_ready (rs := [9, 13]) (by kernel_rfl) (by simp) ?_
        refine AllReadyH.cons (o := { dst := some 38, op := _, type := _, pos := _, after := _, guard := _ }) rfl (fun K hK => ?_) (AllReadyH.cons (o := { dst := some 7, op := _, type := _, pos := _, after := _, guard := _ }) rfl (fun K hK => ?_) AllReadyH.nil)
        · go_simp
          refine (C.out _).mono ?_
          rintro e wa ⟨rfl, hba⟩
          dsimp only
          refine hK.out _ _ (KS.below hH0 hba) (fun hH1 => ?_)
          clear hK K
          refine wpAnyH_take (i := 10) (oi := { dst := some 28, op := _, type := _, pos := _, after := _, guard := _ }) (v := ?_) rfl (by kernel_rfl) (by kernel_rfl) (by kernel_rfl) (fun _ _ _ h => h) (Or.inl ⟨by rfl, ?_⟩) (hH1) ?_
          rotate_left
          · (intro wx hSw; obtain ⟨_, q0, q1, q2, q3⟩ := hSw; go_simp <;> with_reducible rfl)
          simp only [Act.put, List.setIfInBounds_toArray, List.set_cons_zero, List.set_cons_succ]
          refine wpAnyH_take (i := 11) (oi := { dst := some 39, op := _, type := _, pos := _, after := _, guard := _ }) (v := ?_) rfl (by kernel_rfl) (by kernel_rfl) (by kernel_rfl) (fun _ _ _ h => h) (Or.inl ⟨by rfl, ?_⟩) (hH1) ?_
          rotate_left
          · (intro wx hSw; obtain ⟨_, q0, q1, q2, q3⟩ := hSw; go_simp <;> with_reducible rfl)
          simp only [Act.put, List.setIfInBounds_toArray, List.set_cons_zero, List.set_cons_succ]
          refine wpAnyH_take (i := 12) (oi := { dst := some 40, op := _, type := _, pos := _, after := _, guard := _ }) (v := ?_) rfl (by kernel_rfl) (by kernel_rfl) (by kernel_rfl) (fun _ _ _ h => h) (Or.inl ⟨by rfl, ?_⟩) (hH1) ?_
          rotate_left
          · (intro wx hSw; obtain ⟨_, q0, q1, q2, q3⟩ := hSw; go_simp <;> with_reducible rfl)
          simp only [Act.put, List.setIfInBounds_toArray, List.set_cons_zero, List.set_cons_succ]
          refine wpAnyH_ready (rs := [13]) (by kernel_rfl) (by simp) ?_
          refine AllReadyH.cons (o := { dst := some 7, op := _, type := _, pos := _, after := _, guard := _ }) rfl (fun K hK => ?_) AllReadyH.nil
          go_simp
          refine hK.out _ _ (KS.below hH1 (balloc (Below.refl _ _) _)) (fun hH12 => ?_)
          clear hK K
          -- behind it: go_wp2_with fail, then go_meet (a cut) or go_ret; the condition at the end: hH12
          refine wpAnyH_ready (rs := [14]) (by kernel_rfl) (by simp) ?_
          refine AllReadyH.cons (o := { dst := none, op := _, type := _, pos := _, after := _, guard := _ }) rfl (fun K hK => ?_) AllReadyH.nil
          go_simp
          refine hK.out _ _ (KS.below hH1 (balloc (Below.refl _ _) _)) (fun hH50 => ?_)
          clear hK K
          refine wpAnyH_take (i := 15) (oi := { dst := some 8, op := _, type := _, pos := _, after := _, guard := _ }) (v := ?_) rfl (by kernel_rfl) (by kernel_rfl) (by kernel_rfl) (fun _ _ _ h => h) (Or.inl ⟨by rfl, ?_⟩) (hH50) ?_
          rotate_left
          · (intro wx hSw; obtain ⟨_, q0, q1, q2, q3⟩ := hSw; go_simp <;> with_reducible rfl)
          simp only [Act.put, List.setIfInBounds_toArray, List.set_cons_zero, List.set_cons_succ]
          refine wpAnyH_done (by kernel_rfl) ?_ _
          -- behind it: go_wp2_with fail, then go_meet (a cut) or go_ret; the condition at the end: hH50
          go_wp2_with fail
          go_meet
          exact ⟨_, rfl, rfl, hH1.bel.size, by simp, by simp, by simp, hH50⟩
        · go_simp
          refine hK.out _ _ (KS.below hH0 (balloc (Below.refl _ _) _)) (fun hH1 => ?_)
          clear hK K
          refine wpAnyH_ready (rs := [9]) (by kernel_rfl) (by simp) ?_
          refine AllReadyH.cons (o := { dst := some 38, op := _, type := _, pos := _, after := _, guard := _ }) rfl (fun K hK => ?_) AllReadyH.nil
          go_simp
          refine (C.out _).mono ?_
          rintro e w_c38_12 ⟨rfl, hb_c38_12⟩
          dsimp only
          refine hK.out _ _ (KS.below hH1 hb_c38_12) (fun hH12 => ?_)
          clear hK K
          refine wpAnyH_take (i := 10) (oi := { dst := some 28, op := _, type := _, pos := _, after := _, guard := _ }) (v := ?_) rfl (by kernel_rfl) (by kernel_rfl) (by kernel_rfl) (fun _ _ _ h => h) (Or.inl ⟨by rfl, ?_⟩) (hH12) ?_
          rotate_left
          · (intro wx hSw; obtain ⟨_, q0, q1, q2, q3⟩ := hSw; go_simp <;> with_reducible rfl)
          simp only [Act.put, List.setIfInBounds_toArray, List.set_cons_zero, List.set_cons_succ]
          refine wpAnyH_take (i := 11) (oi := { dst := some 39, op := _, type := _, pos := _, after := _, guard := _ }) (v := ?_) rfl (by kernel_rfl) (by kernel_rfl) (by kernel_rfl) (fun _ _ _ h => h) (Or.inl ⟨by rfl, ?_⟩) (hH12) ?_
          rotate_left
          · (intro wx hSw; obtain ⟨_, q0, q1, q2, q3⟩ := hSw; go_simp <;> with_reducible rfl)
          simp only [Act.put, List.setIfInBounds_toArray, List.set_cons_zero, List.set_cons_succ]
          refine wpAnyH_take (i := 12) (oi := { dst := some 40, op := _, type := _, pos := _, after := _, guard := _ }) (v := ?_) rfl (by kernel_rfl) (by kernel_rfl) (by kernel_rfl) (fun _ _ _ h => h) (Or.inl ⟨by rfl, ?_⟩) (hH12) ?_
          rotate_left
          · (intro wx hSw; obtain ⟨_, q0, q1, q2, q3⟩ := hSw; go_simp <;> with_reducible rfl)
          simp only [Act.put, List.setIfInBounds_toArray, List.set_cons_zero, List.set_cons_succ]
          -- behind it: go_wp2_with fail, then go_meet (a cut) or go_ret; the condition at the end: hH12
          have w0 : w_c38_12.cell? ⟨wr.heap.size, 0, none⟩ = some (.int .i64 0) := (hb_c38_12.cell (p := ⟨wr.heap.size, 0, none⟩) (by simp)).trans (by simp [go_sem])
          have w1' : w_c38_12.cell? ⟨wr.heap.size, 1, none⟩ = some (.int .i64 0) := (hb_c38_12.cell (p := ⟨wr.heap.size, 1, none⟩) (by simp)).trans (by simp [go_sem])
          have w2 : w_c38_12.frozen? ⟨wr.heap.size, 0, none⟩ = false := (hb_c38_12.frozen (p := ⟨wr.heap.size, 0, none⟩) (by simp)).trans (by simp [go_sem])
          have w3 : w_c38_12.frozen? ⟨wr.heap.size, 1, none⟩ = false := (hb_c38_12.frozen (p := ⟨wr.heap.size, 1, none⟩) (by simp)).trans (by simp [go_sem])
          refine wpAnyH_ready (rs := [14]) (by kernel_rfl) (by simp) ?_
          refine AllReadyH.cons (o := { dst := none, op := _, type := _, pos := _, after := _, guard := _ }) rfl (fun K hK => ?_) AllReadyH.nil
          go_simp
          refine hK.out _ _ (KS.of ((hH12.bel.setCell (by simp) _).setCell (by simp) _) y1 y2 t2 y3) (fun hH50 => ?_)
          clear hK K
          refine wpAnyH_take (i := 15) (oi := { dst := some 8, op := _, type := _, pos := _, after := _, guard := _ }) (v := ?_) rfl (by kernel_rfl) (by kernel_rfl) (by kernel_rfl) (fun _ _ _ h => h) (Or.inl ⟨by rfl, ?_⟩) (hH50) ?_
          rotate_left
          · (intro wx hSw; obtain ⟨_, q0, q1, q2, q3⟩ := hSw; go_simp <;> with_reducible rfl)
          simp only [Act.put, List.setIfInBounds_toArray, List.set_cons_zero, List.set_cons_succ]
          refine wpAnyH_done (by kernel_rfl) ?_ _
          -- behind it: go_wp2_with fail, then go_meet (a cut) or go_ret; the condition at the end: hH50
          go_wp2_with fail
          go_meet
          have lz : wr.heap.size < w_c38_12.heap.size := by have := hb_c38_12.size; simp at this; omega
          exact ⟨_, rfl, rfl, Nat.le_refl _, by simpa [World.setCell] using lz, by simp [go_sem, w0, w1'], by simp [go_sem, w0, w1'], hH50⟩
      case rest =>
        obtain ⟨z, rfl, rfl, lz, lz', c0, c1, hK⟩ := hcut
        have HK := hide hK
        obtain ⟨bc, d0, d1, d2, d3⟩ := hK
        have hsz := bc.size
        have HOc := hide (owns_below HO.out bc)
        have HTc := hide (HT.out.below bc)
        have HBc := hide (bstep HB.out bc)
        clear y1 y2 y3 t0 t1 t2 S0 bc
        have hD : ((nth L3 k == -1) = true ∧ (f k == p) = true ∧ numS (f k) (g k) (nth L3 k) = q) ∨ ((nth L3 k == -1) = true ∧ (f k == p) = false ∧ numS (f k) (g k) (nth L3 k) = p) ∨ ((nth L3 k == -1) = false ∧ numS (f k) (g k) (nth L3 k) = p) := by
          rw [NS.out]
          by_cases e1 : nth L3 k = -1 <;> by_cases e2 : f k = p <;> simp [e1, e2]
        clear NS
        rcases hD with ⟨g1, g2, hx⟩ | ⟨g1, g2, hx⟩ | ⟨g1, hx⟩
        · have HN := hide hx
          clear hx
          go_wp2_with fail
          go_quiet (fail)
          cases ok
          · go_wp2_with fail
            go_ret
            have hz : okk = false := by rw [← HOKK.out, allN_no hlt HOK.out, Bool.false_and]
            have hB := HBc.out
            exact ⟨by rw [hz]; rfl, (by repeat' first | with_reducible exact Below.refl _ _ | with_reducible assumption | with_reducible refine below_drewN ?_ _ | with_reducible refine balloc ?_ _ | with_reducible refine Below.drew ?_ | with_reducible refine Below.setCell ?_ (by first | (simp; done) | (simp; omega) | omega) _ | with_reducible refine bstep ?_ (by assumption))⟩
          · go_wp2_with (at_builtin; refine wpList_append_own _ rfl _ _ 25 rfl w1.heap.size 2 i0 (.int .i64 0) 1 8 Try.underlying25 hi hz0 hz1 hz2 rfl (by decide) _ _ _ rfl (World.ownsRow.alloc (owns_drewNP _ HOc.out) _) ⟨_, 0, none⟩ 1 1 [.int .i64 q] rfl rfl ?c1 ?c2 ?c3 ?c4 ?c5 ?_)
            case c1 => exact one_new _ _ _
            case c2 => intro u hu; simp at hu; subst hu; rfl
            case c3 => unfold maxLen; omega
            case c4 => omega
            case c5 => simp; omega
            intro v' w2 hown2 hgrow _
            have bq := hide (below_appQ (X := w1.heap.size) (w := wc) (hg := hgrow) (hb := balloc' (Below.drewN (Below.refl _ _) _) (by simp; omega) _) (hX := by simp; omega) (hXB := Nat.le_refl _) (ho := World.ownsRow.alloc (owns_drewNP _ HOc.out) _))
            have HO2 := hide hown2
            clear hgrow hown2
            have s2 := bq.out.size
            go_wp2_with fail
            go_roundw
            case rel =>
              refine ⟨k + 1, by omega, by go_num, fun j hj => (by rcases Nat.lt_succ_iff_lt_or_eq.1 hj with h | h; exact HPRE.out j h; rw [h]; exact HOK.out), by rw [vals_succ, HN.out]; exact HO2.out, HTc.out.belowAt bq.out lw, (HBc.out).trans (bq.out.mono (by omega)), by omega⟩
            case measure => simp [intOf]; omega
        · have HN := hide hx
          clear hx
          go_wp2_with fail
          go_quiet (fail)
          cases ok
          · go_wp2_with fail
            go_ret
            have hz : okk = false := by rw [← HOKK.out, allN_no hlt HOK.out, Bool.false_and]
            have hB := HBc.out
            exact ⟨by rw [hz]; rfl, (by repeat' first | with_reducible exact Below.refl _ _ | with_reducible assumption | with_reducible refine below_drewN ?_ _ | with_reducible refine balloc ?_ _ | with_reducible refine Below.drew ?_ | with_reducible refine Below.setCell ?_ (by first | (simp; done) | (simp; omega) | omega) _ | with_reducible refine bstep ?_ (by assumption))⟩
          · go_wp2_with (at_builtin; refine wpList_append_own _ rfl _ _ 25 rfl w1.heap.size 2 i0 (.int .i64 0) 1 8 Try.underlying25 hi hz0 hz1 hz2 rfl (by decide) _ _ _ rfl (World.ownsRow.alloc (owns_drewNP _ HOc.out) _) ⟨_, 0, none⟩ 1 1 [.int .i64 p] rfl rfl ?c1 ?c2 ?c3 ?c4 ?c5 ?_)
            case c1 => exact one_new _ _ _
            case c2 => intro u hu; simp at hu; subst hu; rfl
            case c3 => unfold maxLen; omega
            case c4 => omega
            case c5 => simp; omega
            intro v' w2 hown2 hgrow _
            have bq := hide (below_appQ (X := w1.heap.size) (w := wc) (hg := hgrow) (hb := balloc' (Below.drewN (Below.refl _ _) _) (by simp; omega) _) (hX := by simp; omega) (hXB := Nat.le_refl _) (ho := World.ownsRow.alloc (owns_drewNP _ HOc.out) _))
            have HO2 := hide hown2
            clear hgrow hown2
            have s2 := bq.out.size
            go_wp2_with fail
            go_roundw
            case rel =>
              refine ⟨k + 1, by omega, by go_num, fun j hj => (by rcases Nat.lt_succ_iff_lt_or_eq.1 hj with h | h; exact HPRE.out j h; rw [h]; exact HOK.out), by rw [vals_succ, HN.out]; exact HO2.out, HTc.out.belowAt bq.out lw, (HBc.out).trans (bq.out.mono (by omega)), by omega⟩
            case measure => simp [intOf]; omega
        · have HN := hide hx
          clear hx
          go_wp2_with fail
          go_quiet (fail)
          cases ok
          · go_wp2_with fail
            go_ret
            have hz : okk = false := by rw [← HOKK.out, allN_no hlt HOK.out, Bool.false_and]
            have hB := HBc.out
            exact ⟨by rw [hz]; rfl, (by repeat' first | with_reducible exact Below.refl _ _ | with_reducible assumption | with_reducible refine below_drewN ?_ _ | with_reducible refine balloc ?_ _ | with_reducible refine Below.drew ?_ | with_reducible refine Below.setCell ?_ (by first | (simp; done) | (simp; omega) | omega) _ | with_reducible refine bstep ?_ (by assumption))⟩
          · go_wp2_with (at_builtin; refine wpList_append_own _ rfl _ _ 25 rfl w1.heap.size 2 i0 (.int .i64 0) 1 8 Try.underlying25 hi hz0 hz1 hz2 rfl (by decide) _ _ _ rfl (World.ownsRow.alloc (owns_drewNP _ HOc.out) _) ⟨_, 0, none⟩ 1 1 [.int .i64 p] rfl rfl ?c1 ?c2 ?c3 ?c4 ?c5 ?_)
            case c1 => exact one_new _ _ _
            case c2 => intro u hu; simp at hu; subst hu; rfl
            case c3 => unfold maxLen; omega
            case c4 => omega
            case c5 => simp; omega
            intro v' w2 hown2 hgrow _
            have bq := hide (below_appQ (X := w1.heap.size) (w := wc) (hg := hgrow) (hb := balloc' (Below.drewN (Below.refl _ _) _) (by simp; omega) _) (hX := by simp; omega) (hXB := Nat.le_refl _) (ho := World.ownsRow.alloc (owns_drewNP _ HOc.out) _))
            have HO2 := hide hown2
            clear hgrow hown2
            have s2 := bq.out.size
            go_wp2_with fail
            go_roundw
            case rel =>
              refine ⟨k + 1, by omega, by go_num, fun j hj => (by rcases Nat.lt_succ_iff_lt_or_eq.1 hj with h | h; exact HPRE.out j h; rw [h]; exact HOK.out), by rw [vals_succ, HN.out]; exact HO2.out, HTc.out.belowAt bq.out lw, (HBc.out).trans (bq.out.mono (by omega)), by omega⟩
            case measure => simp [intOf]; omega
    · obtain rfl : k = n := by omega
      obtain ⟨av, cv, hv, rv, nv⟩ := row_of_owns HO.out
      subst hv
      have rv' := hide rv
      rcases rv.lies with q0 | ⟨bv, ov, rfl, ltv, hcv⟩
      · omega
      have LR := hide (fun (w2 : World) (hB : Below wr.heap.size wr w2) => l5Row_some b off k cap bv ov cv f g (ints (fun i => numS (f i) (g i) (nth L3 i)) k) w2 h8 (Nat.lt_of_lt_of_le (Nat.lt_of_lt_of_le hb hbel.size) hB.size) (Nat.lt_of_lt_of_le ltv hB.size)
        (fun i hi => ⟨(hB.cell (p := ⟨b, off + i * 2, none⟩) (Nat.lt_of_lt_of_le hb hbel.size)).trans ((hbel.cell (p := ⟨b, off + i * 2, none⟩) hb).trans (HC.out i hi).1), (hB.cell (p := ⟨b, off + i * 2 + 1, none⟩) (Nat.lt_of_lt_of_le hb hbel.size)).trans ((hbel.cell (p := ⟨b, off + i * 2 + 1, none⟩) hb).trans (HC.out i hi).2)⟩) (fun i hi => (hB.cell (p := ⟨bv, ov + i, none⟩) ltv).trans (hcv i hi)))
      have R1 := hide (HR1.out.below hbel)
      have R2 := hide (HR2.out.below hbel)
      have R3 := hide (HR3.out.below hbel)
      have hz : okk = sameRowB k f g L1 L2 L3 := by rw [← HOKK.out, allN_yes (fun j hj => HPRE.out j hj), Bool.true_and]
      have HZ := hide hz
      unfold sameRowB at HZ
      generalize vcode f g (ints (fun i => numS (f i) (g i) (nth L3 i)) k) 1 = d1 at LR HZ
      generalize vcode f g (ints (fun i => numS (f i) (g i) (nth L3 i)) k) 2 = d2 at LR HZ
      generalize vcode f g (ints (fun i => numS (f i) (g i) (nth L3 i)) k) 3 = d3 at LR HZ
      have SM := hide (fun (x1 x2 x3 : Option Addr) (j1 j2 j3 : Nat) (wa : World) (ra1 : Row wa x1 k (ints d1 k)) (ra2 : Row wa x2 k (ints d2 k)) (ra3 : Row wa x3 k (ints d3 k)) (hB : Below wr.heap.size wr wa) =>
        l5Same_any ⟨x1, x2, x3, k, k, k, j1, j2, j3⟩ ⟨a1, a2, some ⟨b3, o3, none⟩, m1, m2, k, k1, k2, k3⟩ _ _ _ _ _ _ wa ⟨ra1, ra2, ra3⟩ ⟨R1.out.below hB, R2.out.below hB, R3.out.below hB⟩ h1 h1 h1 (by show k ≤ _; omega) (by show k ≤ _; omega) (by show k ≤ _; omega))
      simp only [RowV.v] at SM
      rw [← HZ.out] at SM
      have S0 := hide (HT.out.drew)
      have bd : Below wr.heap.size wr wr.drew := Below.drew (Below.refl _ _)
      clear hz hT rv hcv hbel nv rv' R1 R2 R3 HZ
      go_upto_region 14 with fail
      refine wp_region_held_drew (S := fun wx => TriW wx w.heap.size (.slice a1 m1 k1) (.slice a2 m2 k2) (.slice (some ⟨b3, o3, none⟩) k k3)) (by kernel_rfl) (S0.out) (fun hH0 => ?_)
      refine wpAnyH_take (i := 0) (oi := { dst := some 67, op := _, type := _, pos := _, after := _, guard := _ }) (v := ?_) rfl (by kernel_rfl) (by kernel_rfl) (by kernel_rfl) (fun _ _ _ h => h) (Or.inl ⟨by rfl, ?_⟩) (hH0) ?_
      rotate_left
      · (intro wx hSw; obtain ⟨_, q0, q1, q2, _, _, _⟩ := hSw; go_simp <;> with_reducible rfl)
      simp only [Act.put, List.setIfInBounds_toArray, List.set_cons_zero, List.set_cons_succ]
      refine wpAnyH_take (i := 1) (oi := { dst := some 68, op := _, type := _, pos := _, after := _, guard := _ }) (v := ?_) rfl (by kernel_rfl) (by kernel_rfl) (by kernel_rfl) (fun _ _ _ h => h) (Or.inl ⟨by rfl, ?_⟩) (hH0) ?_
      rotate_left
      · (intro wx hSw; obtain ⟨_, q0, q1, q2, _, _, _⟩ := hSw; go_simp <;> with_reducible rfl)
      simp only [Act.put, List.setIfInBounds_toArray, List.set_cons_zero, List.set_cons_succ]
      refine wpAnyH_take (i := 3) (oi := { dst := some 70, op := _, type := _, pos := _, after := _, guard := _ }) (v := ?_) rfl (by kernel_rfl) (by kernel_rfl) (by kernel_rfl) (fun _ _ _ h => h) (Or.inl ⟨by rfl, ?_⟩) (hH0) ?_
      rotate_left
      · (intro wx hSw; obtain ⟨_, q0, q1, q2, _, _, _⟩ := hSw; go_simp <;> with_reducible rfl)
      simp only [Act.put, List.setIfInBounds_toArray, List.set_cons_zero, List.set_cons_succ]
      refine wpAnyH_ready (rs := [2]) (by kernel_rfl) (by simp) ?_
      refine AllReadyH.cons (o := { dst := some 69, op := _, type := _, pos := _, after := _, guard := _ }) rfl (fun K hK => ?_) AllReadyH.nil
      go_simp
      refine (LR.out _ bd).mono ?_
      rintro e wa ⟨v, rfl, x1, x2, x3, j1, j2, j3, rfl, ra1, ra2, ra3, _, _, _, hba⟩
      dsimp only
      refine hK.out _ _ (TriW.below hH0 hba) (fun hH1 => ?_)
      clear hK K
      refine wpAnyH_ready (rs := [4]) (by kernel_rfl) (by simp) ?_
      refine AllReadyH.cons (o := { dst := some 71, op := _, type := _, pos := _, after := _, guard := _ }) rfl (fun K hK => ?_) AllReadyH.nil
      go_simp
      refine (SM.out x1 x2 x3 j1 j2 j3 wa ra1 ra2 ra3 (bstep bd hba)).mono ?_
      rintro e wb ⟨rfl, hbb⟩
      dsimp only
      refine hK.out _ _ (TriW.below hH1 hbb) (fun hH2 => ?_)
      clear hK K
      refine wpAnyH_take (i := 5) (oi := { dst := some 4, op := _, type := _, pos := _, after := _, guard := _ }) (v := ?_) rfl (by kernel_rfl) (by kernel_rfl) (by kernel_rfl) (fun _ _ _ h => h) (Or.inl ⟨by rfl, ?_⟩) (hH2) ?_
      rotate_left
      · (intro wx hSw; obtain ⟨_, q0, q1, q2, _, _, _⟩ := hSw; go_simp <;> with_reducible rfl)
      simp only [Act.put, List.setIfInBounds_toArray, List.set_cons_zero, List.set_cons_succ]
      refine wpAnyH_done (by kernel_rfl) ?_ _
      -- behind it: go_wp2_with fail, then go_meet (a cut) or go_ret; the condition at the end: hH2
      go_wp2_with fail
      go_ret
      exact ⟨rfl, bstep (bstep (bstep HB.out bd) hba) hbb⟩
end Go.Proofs.Ytoiaamcnmpdglaa

/- RowOk: the model at all arguments; it is what the program asks. -/
namespace Go.Proofs.Ytoiaamcnmpdglaa
open Go.RowKit
set_option maxRecDepth 8000
set_option linter.unusedSimpArgs false
set_option linter.unusedVariables false

theorem ints_dec {c : Nat → Int} {n : Nat} {L : List Int} (hl : L.length = n) : decide (ints c n = L) = allN n (fun i => c i == nth L i) := by
  subst hl
  by_cases h : ints c L.length = L
  · rw [decide_eq_true h, allN_yes]
    intro i hi
    have : nth (ints c L.length) i = nth L i := by rw [h]
    rw [nth_ints _ _ _ hi] at this
    simp [this]
  · rw [decide_eq_false h]
    symm
    rw [Bool.eq_false_iff]
    intro q
    refine h (nth_ext (ints_len _ _) fun j hj => ?_)
    rw [ints_len] at hj
    rw [nth_ints _ _ _ hj]
    simpa using allN_at q hj

theorem allN_and (n : Nat) (p q : Nat → Bool) : (allN n p && allN n q) = allN n (fun i => p i && q i) := by
  rw [Bool.eq_iff_iff]
  constructor
  · intro h
    simp only [Bool.and_eq_true] at h
    exact allN_yes fun i hi => by rw [allN_at h.1 hi, allN_at h.2 hi]; rfl
  · intro h
    simp only [Bool.and_eq_true]
    have : ∀ i, i < n → p i = true ∧ q i = true := fun i hi => by simpa using allN_at h hi
    exact ⟨allN_yes fun i hi => (this i hi).1, allN_yes fun i hi => (this i hi).2⟩

theorem allN_same {n : Nat} {p q : Nat → Bool} (h : ∀ i, i < n → p i = q i) : allN n p = allN n q := by
  unfold allN
  rw [Bool.eq_iff_iff, List.all_eq_true, List.all_eq_true]
  constructor
  · intro k i hi; rw [← h i (List.mem_range.1 hi)]; exact k i hi
  · intro k i hi; rw [h i (List.mem_range.1 hi)]; exact k i hi

theorem rowOk_model {n : Nat} {f g : Nat → Int} {L1 L2 L3 : List Int} (hr : ∀ i, i < n → rightB (f i) (g i) = true) (l3 : L3.length = n) :
    (allN n (fun i => cellB (f i) (g i) 3 (nth L3 i)) && sameRowB n f g L1 L2 L3) = (decide (L1.length = n ∧ L2.length = n ∧ L3.length = n) && allN n (fun i => rowAt (f i) (g i) (nth L1 i) (nth L2 i) (nth L3 i))) := by
  unfold sameRowB
  by_cases h1 : L1.length = n
  · by_cases h2 : L2.length = n
    · rw [ints_dec h1, ints_dec h2, ints_dec l3, allN_and, allN_and, allN_and, decide_eq_true ⟨h1, h2, l3⟩, Bool.true_and]
      refine allN_same fun i hi => ?_
      rw [← rowAt_model (hr i hi)]
      simp only [vcode, nth_ints _ _ _ hi]
    · rw [show decide (L1.length = n ∧ L2.length = n ∧ L3.length = n) = false from decide_eq_false (fun q => h2 q.2.1), Bool.false_and]
      rw [show decide (ints (vcode f g (ints (fun i => numS (f i) (g i) (nth L3 i)) n) 2) n = L2) = false from decide_eq_false (fun q => h2 (by rw [← q, ints_len]))]
      simp
  · rw [show decide (L1.length = n ∧ L2.length = n ∧ L3.length = n) = false from decide_eq_false (fun q => h1 q.1), Bool.false_and]
    rw [show decide (ints (vcode f g (ints (fun i => numS (f i) (g i) (nth L3 i)) n) 1) n = L1) = false from decide_eq_false (fun q => h1 (by rw [← q, ints_len]))]
    simp

set_option maxHeartbeats 4000000 in
theorem sRowOk_no (a : Option Addr) (n cap : Nat) (r : RowV) (w : World) (v : Bool) (hh : v = true → ¬ r.m3 = n)
    (BO : Hid (∀ w1, Below w.heap.size w w1 → Calls Try.prog 43 #[.slice a n cap] w1 fun e w' => e = .returned (.bool v) ∧ Below w1.heap.size w1 w')) :
    Calls Try.prog 17 #[.slice a n cap, r.v] w fun e w' => e = .returned (.bool false) ∧ Below w.heap.size w w' := by
  obtain ⟨a1, a2, a3, m1, m2, m3, k1, k2, k3⟩ := r
  unfold RowV.v
  simp only at hh ⊢
  cases v
  · clear hh
    go_enter Try.func17, Try.ntmps17
    go_wp2_with fail
    refine (BO.out _ (by repeat' first | with_reducible exact Below.refl _ _ | with_reducible assumption | with_reducible refine below_drewN ?_ _ | with_reducible refine balloc ?_ _ | with_reducible refine Below.drew ?_ | with_reducible refine Below.setCell ?_ (by first | (simp; done) | (simp; omega) | omega) _ | with_reducible refine bstep ?_ (by assumption))).mono ?_
    rintro e w1 ⟨rfl, hw1⟩
    go_wp2_with fail
    go_ret
    exact ⟨rfl, (by repeat' first | with_reducible exact Below.refl _ _ | with_reducible assumption | with_reducible refine below_drewN ?_ _ | with_reducible refine balloc ?_ _ | with_reducible refine Below.drew ?_ | with_reducible refine Below.setCell ?_ (by first | (simp; done) | (simp; omega) | omega) _ | with_reducible refine bstep ?_ (by assumption))⟩
  · have hne : ((m3 : Int) != (n : Int)) = true := by have := hh rfl; rw [bne_iff_ne]; omega
    clear hh
    go_enter Try.func17, Try.ntmps17
    go_wp2_with fail
    refine (BO.out _ (by repeat' first | with_reducible exact Below.refl _ _ | with_reducible assumption | with_reducible refine below_drewN ?_ _ | with_reducible refine balloc ?_ _ | with_reducible refine Below.drew ?_ | with_reducible refine Below.setCell ?_ (by first | (simp; done) | (simp; omega) | omega) _ | with_reducible refine bstep ?_ (by assumption))).mono ?_
    rintro e w1 ⟨rfl, hw1⟩
    have T1 : TriW w1 w.heap.size (.slice a1 m1 k1) (.slice a2 m2 k2) (.slice a3 m3 k3) := (TriW.new w _ _ _ _ _ rfl).below hw1
    obtain ⟨_, t0, t1, t2, _, _, _⟩ := T1
    go_wp2_with fail
    go_ret
    exact ⟨rfl, (by repeat' first | with_reducible exact Below.refl _ _ | with_reducible assumption | with_reducible refine below_drewN ?_ _ | with_reducible refine balloc ?_ _ | with_reducible refine Below.drew ?_ | with_reducible refine Below.setCell ?_ (by first | (simp; done) | (simp; omega) | omega) _ | with_reducible refine bstep ?_ (by assumption))⟩

theorem sRowOk_any (a : Option Addr) (n cap : Nat) (f g : Nat → Int) (r : RowV) (L1 L2 L3 : List Int) (w : World) (h : PRow w a n f g) (hr : r.is w L1 L2 L3) (hn : n ≤ 1048576) :
    Calls Try.prog 17 #[.slice a n cap, r.v] w fun e w' => e = .returned (.bool (rowOkB n f g L1 L2 L3)) ∧ Below w.heap.size w w' := by
  have BO := hide (fun w1 (hb : Below w.heap.size w w1) => sBoxOk_any a n cap f g w1 (h.below hb) hn)
  unfold rowOkB
  have e3 := hr.r3.len
  cases hB : boxB n f g
  · rw [hB] at BO
    exact sRowOk_no a n cap r w false (fun q => by cases q) BO
  · rw [hB] at BO
    by_cases hm : L3.length = n
    · have hn8 := boxB_num' hB
      rw [Bool.true_and, ← rowOk_model (fun i hi => boxB_at' hB hi) hm]
      rcases h.lies with q | ⟨b, off, rfl, lt, hc⟩
      · omega
      · obtain ⟨a1, a2, a3, m1, m2, m3, k1, k2, k3⟩ := r
        obtain ⟨r1, r2, r3⟩ := hr
        simp only at r1 r2 r3 e3
        obtain rfl : m3 = n := by omega
        rcases r3.lies with q | ⟨b3, o3, rfl, lt3, hc3⟩
        · omega
        exact sRowOk_some b off m3 cap f g b3 o3 k3 a1 a2 m1 m2 k1 k2 L1 L2 L3 w hn8.2 hn8.1 lt lt3 hm r1 r2 hc hc3 BO
    · rw [show decide (L1.length = n ∧ L2.length = n ∧ L3.length = n) = false from decide_eq_false (fun q => hm q.2.2)]
      exact sRowOk_no a n cap r w true (fun _ q => hm (by omega)) BO

/-- szRow answers a number below 0 where the row has more than is left. -/
def szRowV (left : Int) (r : RowV) : Int := if left - (r.m1 : Int) - (r.m2 : Int) - (r.m3 : Int) < 0 then -1 else left - (r.m1 : Int) - (r.m2 : Int) - (r.m3 : Int)



/-- A row of the call's own, copied out of one that is read: each of its lists has a block of its own. -/
structure Mine3 (B C : Nat) (w : World) (g1 g2 g3 : Nat) (L1 L2 L3 : List Int) : Prop where
  o1 : Own w g1 L1
  o2 : Own w g2 L2
  o3 : Own w g3 L3
  lo : B ≤ g1 ∧ B ≤ g2 ∧ B ≤ g3
  hi : g1 < C ∧ g2 < C ∧ g3 < C
  apart : g1 ≠ g2 ∧ g1 ≠ g3 ∧ g2 ≠ g3

theorem Mine3.below {B C : Nat} {w w' : World} {g1 g2 g3 : Nat} {L1 L2 L3 : List Int} (h : Mine3 B C w g1 g2 g3 L1 L2 L3) (hb : Below w.heap.size w w') : Mine3 B C w' g1 g2 g3 L1 L2 L3 := ⟨h.o1.below hb, h.o2.below hb, h.o3.below hb, h.lo, h.hi, h.apart⟩
def rowM (g1 g2 g3 m1 m2 m3 : Nat) : RowV := ⟨some ⟨g1, 0, none⟩, some ⟨g2, 0, none⟩, some ⟨g3, 0, none⟩, m1, m2, m3, m1, m2, m3⟩

theorem Mine3.is {B C : Nat} {w : World} {g1 g2 g3 : Nat} {L1 L2 L3 : List Int} (h : Mine3 B C w g1 g2 g3 L1 L2 L3) : (rowM g1 g2 g3 L1.length L2.length L3.length).is w L1 L2 L3 := ⟨h.o1.row, h.o2.row, h.o3.row⟩

theorem TriW.set0 {w : World} {b : Nat} {v0 v1 v2 : Value} (h : TriW w b v0 v1 v2) (u : Value) : TriW (w.setCell ⟨b, 0, none⟩ u) b u v1 v2 := by
  obtain ⟨h0, h1, h2, h3, f0, f1, f2⟩ := h
  exact ⟨by simpa [World.setCell] using h0, by simp [go_sem, h1, h2, h3], by simp [go_sem, h1, h2, h3], by simp [go_sem, h1, h2, h3], by simp [go_sem, f0], by simp [go_sem, f1], by simp [go_sem, f2]⟩

theorem TriW.set1 {w : World} {b : Nat} {v0 v1 v2 : Value} (h : TriW w b v0 v1 v2) (u : Value) : TriW (w.setCell ⟨b, 1, none⟩ u) b v0 u v2 := by
  obtain ⟨h0, h1, h2, h3, f0, f1, f2⟩ := h
  exact ⟨by simpa [World.setCell] using h0, by simp [go_sem, h1, h2, h3], by simp [go_sem, h1, h2, h3], by simp [go_sem, h1, h2, h3], by simp [go_sem, f0], by simp [go_sem, f1], by simp [go_sem, f2]⟩

def ToRow (w : World) (L1 L2 L3 : List Int) (e : Ending) (w' : World) : Prop :=
  ∃ g1 g2 g3, e = .returned (rowM g1 g2 g3 L1.length L2.length L3.length).v ∧ Mine3 w.heap.size w'.heap.size w' g1 g2 g3 L1 L2 L3 ∧ Below w.heap.size w w'





end Go.Proofs.Ytoiaamcnmpdglaa

/- EscapesOf of the program and of the model. -/
namespace Go.Proofs.Ytoiaamcnmpdglaa
open Go.RowKit
set_option maxRecDepth 8000
set_option linter.unusedSimpArgs false
set_option linter.unusedVariables false

/-- How many of the first n are -1. -/
def escN (c : Nat → Int) : Nat → Nat
  | 0 => 0
  | k + 1 => escN c k + outD c k

theorem escN_le (c : Nat → Int) (n : Nat) : escN c n ≤ n := by
  induction n with
  | zero => simp [escN]
  | succ n ih => simp only [escN, outD]; split <;> omega
/-- How many bits of a byte are set. -/
def pop8 (D : Nat) : Nat := D % 2 + D / 2 % 2 + D / 4 % 2 + D / 8 % 2 + D / 16 % 2 + D / 32 % 2 + D / 64 % 2 + D / 128 % 2

theorem num2_bit (c : Nat → Int) (n i : Nat) : numN 2 (outD c) n / 2 ^ i % 2 = if i < n then outD c i else 0 := by
  have hd : ∀ j, j < n → outD c j < 2 := fun j _ => by simp only [outD]; split <;> omega
  by_cases h : i < n
  · rw [if_pos h]; exact num_digit (by omega) n hd i h
  · rw [if_neg h]
    have h1 := num_lt (base := 2) (by omega) hd n (Nat.le_refl _)
    have h2 : 2 ^ n ≤ 2 ^ i := Nat.pow_le_pow_right (by omega) (by omega)
    rw [Nat.div_eq_of_lt (by omega)]

theorem pop8_num (c : Nat → Int) (n : Nat) (h : n ≤ 8) : pop8 (numN 2 (outD c) n) = escN c n := by
  have b0 := num2_bit c n 0
  have b1 := num2_bit c n 1
  have b2 := num2_bit c n 2
  have b3 := num2_bit c n 3
  have b4 := num2_bit c n 4
  have b5 := num2_bit c n 5
  have b6 := num2_bit c n 6
  have b7 := num2_bit c n 7
  simp only [show (2 : Nat) ^ 0 = 1 from rfl, show (2 : Nat) ^ 1 = 2 from rfl, show (2 : Nat) ^ 2 = 4 from rfl, show (2 : Nat) ^ 3 = 8 from rfl, show (2 : Nat) ^ 4 = 16 from rfl, show (2 : Nat) ^ 5 = 32 from rfl, show (2 : Nat) ^ 6 = 64 from rfl, show (2 : Nat) ^ 7 = 128 from rfl, Nat.div_one] at b0 b1 b2 b3 b4 b5 b6 b7
  unfold pop8
  rw [b0, b1, b2, b3, b4, b5, b6, b7]
  rcases (show n = 0 ∨ n = 1 ∨ n = 2 ∨ n = 3 ∨ n = 4 ∨ n = 5 ∨ n = 6 ∨ n = 7 ∨ n = 8 by omega) with rfl | rfl | rfl | rfl | rfl | rfl | rfl | rfl | rfl <;> simp [escN] <;> omega

theorem lt256 (D : Nat) (h : D < 256) : (D : Int) < 256 := by omega

set_option maxHeartbeats 4000000 in
set_option maxRecDepth 100000 in
theorem onesCount8_any (D : Nat) (w : World) (h : D < 256) :
    Calls Try.prog 50 #[.int .u8 (D : Int)] w fun e w' => e = .returned (.int .i64 (pop8 D : Int)) ∧ w' = w := by
  go_enter Try.func50, Try.ntmps50
  go_wp2_with fail
  go_ret
  refine ⟨?_, rfl⟩
  refine congrArg (fun x => Ending.returned (Value.int .i64 x)) ?_
  clear w
  rename_i hx
  have e : hx = lt256 D h := rfl
  subst e
  revert D
  decide +kernel

theorem escN_nat (c : Nat → Int) (n : Nat) (h : n ≤ 8) : numN 2 (outD c) n < 256 := by
  have hd : ∀ j, j < n → outD c j < 2 := fun j _ => by simp only [outD]; split <;> omega
  have h1 := num_lt (base := 2) (by omega) hd n (Nat.le_refl _)
  have h2 : 2 ^ n ≤ 2 ^ 8 := Nat.pow_le_pow_right (by omega) h
  omega

def escV (ok : Bool) (c : Nat → Int) (n : Nat) : Int := if ok then (escN c n : Int) else -1

set_option maxHeartbeats 4000000 in
theorem iEscapesOf_any (a : Option Addr) (n cap : Nat) (f g : Nat → Int) (r : RowV) (L1 L2 L3 : List Int) (w : World) (h : PRow w a n f g) (hr : r.is w L1 L2 L3) :
    Calls Try.prog 20 #[.slice a n cap, r.v] w fun e w' => e = .returned (.int .i64 (escV (rowOkB n f g L1 L2 L3) (nth L3) n)) ∧ Below w.heap.size w w' := by
  have PR' := hide (fun w1 (hb : Below w.heap.size w w1) => packRow_any a n cap f g r L1 L2 L3 w1 (h.below hb) (hr.below hb))
  obtain ⟨a1, a2, a3, m1, m2, m3, k1, k2, k3⟩ := r
  unfold RowV.v at PR' ⊢
  simp only at PR' ⊢
  clear h hr
  cases hv : rowOkB n f g L1 L2 L3
  · rw [hv] at PR'
    simp only [pkV, escV, if_false, Bool.false_eq_true] at PR' ⊢
    go_enter Try.func20, Try.ntmps20
    go_wp2_with fail
    refine (PR'.out _ (by repeat' first | with_reducible exact Below.refl _ _ | with_reducible assumption | with_reducible refine below_drewN ?_ _ | with_reducible refine balloc ?_ _ | with_reducible refine Below.drew ?_ | with_reducible refine Below.setCell ?_ (by first | (simp; done) | (simp; omega) | omega) _ | with_reducible refine bstep ?_ (by assumption))).mono ?_
    rintro e w1 ⟨rfl, hb1⟩
    go_wp2_with fail
    go_ret
    exact ⟨rfl, (by repeat' first | with_reducible exact Below.refl _ _ | with_reducible assumption | with_reducible refine below_drewN ?_ _ | with_reducible refine balloc ?_ _ | with_reducible refine Below.drew ?_ | with_reducible refine Below.setCell ?_ (by first | (simp; done) | (simp; omega) | omega) _ | with_reducible refine bstep ?_ (by assumption))⟩
  · rw [hv] at PR'
    have hn8 : n ≤ 8 := by
      simp only [rowOkB, Bool.and_eq_true] at hv
      exact (boxB_num' hv.1).2
    have OC := hide (fun w => onesCount8_any (numN 2 (outD (nth L3)) n) w (escN_nat _ _ hn8))
    rw [pop8_num _ _ hn8] at OC
    have hle := escN_le (nth L3) n
    simp only [pkV, escV, if_true, PK, pD] at PR' ⊢
    generalize ((numN 2 (outD (nth L3)) n : Nat) : Int) = D at PR' OC
    generalize escN (nth L3) n = x at OC hle ⊢
    generalize pA (nth L1) (nth L2) (nth L3) n = A at PR'
    generalize pB (nth L1) (nth L2) (nth L3) n = B at PR'
    generalize pC (nth L1) (nth L2) (nth L3) n = C at PR'
    clear hv
    go_enter Try.func20, Try.ntmps20
    go_wp2_with fail
    refine (PR'.out _ (by repeat' first | with_reducible exact Below.refl _ _ | with_reducible assumption | with_reducible refine below_drewN ?_ _ | with_reducible refine balloc ?_ _ | with_reducible refine Below.drew ?_ | with_reducible refine Below.setCell ?_ (by first | (simp; done) | (simp; omega) | omega) _ | with_reducible refine bstep ?_ (by assumption))).mono ?_
    rintro e w1 ⟨rfl, hb1⟩
    go_wp2_with fail
    refine (OC.out _).mono ?_
    rintro e w2 ⟨rfl, rfl⟩
    go_wp2_with fail
    go_ret
    exact ⟨rfl, (by repeat' first | with_reducible exact Below.refl _ _ | with_reducible assumption | with_reducible refine below_drewN ?_ _ | with_reducible refine balloc ?_ _ | with_reducible refine Below.drew ?_ | with_reducible refine Below.setCell ?_ (by first | (simp; done) | (simp; omega) | omega) _ | with_reducible refine bstep ?_ (by assumption))⟩

set_option maxHeartbeats 4000000 in
theorem l5Escapes_some (b1 b2 : Value) (b off n cap : Nat) (xs : List Int) (w : World) (hn : n ≤ 8) (hb : b < w.heap.size) (hc : ∀ i, i < n → w.cell? ⟨b, off + i, none⟩ = some (.int .i64 (nth xs i))) :
    Calls Try.prog 51 #[.agg #[b1, b2, .slice (some ⟨b, off, none⟩) n cap]] w fun e w' => e = .returned (.int .i64 (escN (nth xs) n : Int)) ∧ Below w.heap.size w w' := by
  go_enter Try.func51, Try.ntmps51
  go_wp2_with fail
  go_loopw [3, 4] (fun s i wr => ∃ k : Nat, k ≤ n ∧ i = .int .i64 k ∧ s = .int .i64 (escN (nth xs) k : Int) ∧ TriW wr w.heap.size b1 b2 (.slice (some ⟨b, off, none⟩) n cap) ∧ Below w.heap.size w wr) (fun _ i _ => n - (intOf i).toNat)
  case atStart => exact ⟨0, Nat.zero_le _, rfl, rfl, TriW.new _ _ _ _ _ _ rfl, (by repeat' first | with_reducible exact Below.refl _ _ | with_reducible assumption | with_reducible refine below_drewN ?_ _ | with_reducible refine balloc ?_ _ | with_reducible refine Below.drew ?_ | with_reducible refine Below.setCell ?_ (by first | (simp; done) | (simp; omega) | omega) _ | with_reducible refine bstep ?_ (by assumption))⟩
  case round =>
    obtain ⟨k, hk, rfl, rfl, hT, hbel⟩ := hrel
    have HT := hide hT
    have HB := hide hbel
    have HC := hide hc
    have hle := escN_le (nth xs) k
    obtain ⟨_, t0, t1, t2, _, _, _⟩ := hT
    by_cases hlt : k < n
    · have z1 : wr.cell? ⟨b, off + k, none⟩ = some (.int .i64 (nth xs k)) := (hbel.cell (p := ⟨b, off + k, none⟩) hb).trans (hc k hlt)
      have hs : escN (nth xs) (k + 1) = escN (nth xs) k + outD (nth xs) k := rfl
      clear hc hbel
      by_cases he : nth xs k = -1
      · have g1 : (nth xs k == -1) = true := by simp [he]
        have HE := hide (show escN (nth xs) (k + 1) = escN (nth xs) k + 1 by rw [hs]; simp [outD, he])
        clear he hs
        generalize escN (nth xs) k = x at HE hle
        go_wp2_with fail
        go_roundw
        case rel => exact ⟨k + 1, by omega, by go_num, by rw [HE.out]; go_num, HT.out, HB.out⟩
        case measure => simp [intOf]; omega
      · have g1 : (nth xs k == -1) = false := by simp [he]
        have HE := hide (show escN (nth xs) (k + 1) = escN (nth xs) k by rw [hs]; simp [outD, he])
        clear he hs
        generalize escN (nth xs) k = x at HE hle
        go_wp2_with fail
        go_roundw
        case rel => exact ⟨k + 1, by omega, by go_num, by rw [HE.out], HT.out, HB.out⟩
        case measure => simp [intOf]; omega
    · obtain rfl : k = n := by omega
      clear hc hbel
      go_wp2_with fail
      go_ret
      exact ⟨rfl, HB.out⟩

set_option maxHeartbeats 4000000 in
theorem sEscapesOf_any (a : Option Addr) (n cap : Nat) (f g : Nat → Int) (r : RowV) (L1 L2 L3 : List Int) (w : World) (h : PRow w a n f g) (hr : r.is w L1 L2 L3) (hn : n ≤ 1048576) :
    Calls Try.prog 21 #[.slice a n cap, r.v] w fun e w' => e = .returned (.int .i64 (escV (rowOkB n f g L1 L2 L3) (nth L3) n)) ∧ Below w.heap.size w w' := by
  have RO := hide (fun w1 (hb : Below w.heap.size w w1) => sRowOk_any a n cap f g r L1 L2 L3 w1 (h.below hb) (hr.below hb) hn)
  obtain ⟨a1, a2, a3, m1, m2, m3, k1, k2, k3⟩ := r
  unfold RowV.v at RO ⊢
  simp only at RO ⊢
  cases hv : rowOkB n f g L1 L2 L3
  · rw [hv] at RO
    simp only [escV, if_false, Bool.false_eq_true]
    clear h hr
    go_enter Try.func21, Try.ntmps21
    go_wp2_with fail
    refine (RO.out _ (by repeat' first | with_reducible exact Below.refl _ _ | with_reducible assumption | with_reducible refine below_drewN ?_ _ | with_reducible refine balloc ?_ _ | with_reducible refine Below.drew ?_ | with_reducible refine Below.setCell ?_ (by first | (simp; done) | (simp; omega) | omega) _ | with_reducible refine bstep ?_ (by assumption))).mono ?_
    rintro e w1 ⟨rfl, hb1⟩
    go_wp2_with fail
    go_ret
    exact ⟨rfl, (by repeat' first | with_reducible exact Below.refl _ _ | with_reducible assumption | with_reducible refine below_drewN ?_ _ | with_reducible refine balloc ?_ _ | with_reducible refine Below.drew ?_ | with_reducible refine Below.setCell ?_ (by first | (simp; done) | (simp; omega) | omega) _ | with_reducible refine bstep ?_ (by assumption))⟩
  · rw [hv] at RO
    simp only [rowOkB, Bool.and_eq_true, decide_eq_true_eq] at hv
    have hn8 := boxB_num' hv.1
    have e3 := hr.r3.len
    simp only at e3
    obtain rfl : m3 = n := by omega
    rcases hr.r3.lies with q | ⟨b3, o3, e, lt3, hc3⟩
    · simp only at q; omega
    simp only at e hc3
    subst e
    have ES := hide (fun w1 (hB : Below w.heap.size w w1) => l5Escapes_some (.slice a1 m1 k1) (.slice a2 m2 k2) b3 o3 m3 k3 L3 w1 hn8.2 (Nat.lt_of_lt_of_le lt3 hB.size) (fun i hi => (hB.cell (p := ⟨b3, o3 + i, none⟩) lt3).trans (hc3 i hi)))
    simp only [escV, if_true]
    generalize escN (nth L3) m3 = x at ES ⊢
    clear h hr hv hc3
    go_enter Try.func21, Try.ntmps21
    go_wp2_with fail
    refine (RO.out _ (by repeat' first | with_reducible exact Below.refl _ _ | with_reducible assumption | with_reducible refine below_drewN ?_ _ | with_reducible refine balloc ?_ _ | with_reducible refine Below.drew ?_ | with_reducible refine Below.setCell ?_ (by first | (simp; done) | (simp; omega) | omega) _ | with_reducible refine bstep ?_ (by assumption))).mono ?_
    rintro e w1 ⟨rfl, hb1⟩
    have T1 : TriW w1 w.heap.size (.slice a1 m1 k1) (.slice a2 m2 k2) (.slice (some ⟨b3, o3, none⟩) m3 k3) := (TriW.new w _ _ _ _ _ rfl).below hb1
    have B1 : Below w.heap.size w w1 := (by repeat' first | with_reducible exact Below.refl _ _ | with_reducible assumption | with_reducible refine below_drewN ?_ _ | with_reducible refine balloc ?_ _ | with_reducible refine Below.drew ?_ | with_reducible refine Below.setCell ?_ (by first | (simp; done) | (simp; omega) | omega) _ | with_reducible refine bstep ?_ (by assumption))
    obtain ⟨_, t0, t1, t2, _, _, _⟩ := T1
    go_wp2_with fail
    refine (ES.out _ B1).mono ?_
    rintro e w2 ⟨rfl, hb2⟩
    go_wp2_with fail
    go_ret
    exact ⟨rfl, bstep B1 hb2⟩
end Go.Proofs.Ytoiaamcnmpdglaa

/- Rows of vectors, plain: they are right, and have as many codes of -1 as numbers that are in no range. -/
namespace Go.Proofs.Ytoiaamcnmpdglaa
open Go.RowKit
set_option maxRecDepth 8000
set_option linter.unusedSimpArgs false
set_option linter.unusedVariables false

theorem code_mono0 (lo hi N x y : Int) (hN : 0 < N) (hS : lo ≤ hi) (h : x ≤ y) : codeN lo hi N x ≤ codeN lo hi N y := by
  unfold codeN
  refine Int.ediv_le_ediv (by omega) ?_
  have := Int.mul_le_mul_of_nonneg_right (show x - lo + 1 ≤ y - lo + 1 by omega) (show 0 ≤ N by omega)
  omega

theorem from_scale0 (lo hi N k i : Int) (hk : 0 < k) : fromN lo hi (N * k) (i * k) = fromN lo hi N i := by
  unfold fromN
  rw [← Int.mul_assoc, Int.mul_ediv_mul_of_pos_left _ _ hk]

theorem code_scale0 (lo hi N k x : Int) (hN : 0 < N) (hk : 0 < k) (hS : lo ≤ hi) : codeN lo hi (N * k) x / k = codeN lo hi N x := by
  have key : ∀ q : Int, q ≤ codeN lo hi (N * k) x / k ↔ q ≤ codeN lo hi N x := by
    intro q
    rw [Int.le_ediv_iff_mul_le hk, ← from_le lo hi (N * k) (q * k) x (Int.mul_pos hN hk) hS, from_scale0 lo hi N k q hk, from_le lo hi N q x hN hS]
  have a := (key (codeN lo hi (N * k) x / k)).1 (Int.le_refl _)
  have b := (key (codeN lo hi N x)).2 (Int.le_refl _)
  omega

theorem codeB_in {lo hi x t : Int} (hr : rightB lo hi = true) (h : lo ≤ x ∧ x ≤ hi) (ht : tierB t = true) : codeB lo hi t x = codeN lo hi (cellsN t) x := by
  unfold codeB hasB inB
  rw [hr, decide_eq_true h, ht]
  rfl
/-- A number's codes are those of a number. -/
theorem rowAt_code {lo hi x : Int} (hr : rightB lo hi = true) (hx : compB x = true) : rowAt lo hi (codeB lo hi 1 x) (codeB lo hi 2 x) (codeB lo hi 3 x) = true := by
  obtain ⟨a1, a2, a3, a4, a5⟩ := right_nums hr
  have hx' : -1048576 ≤ x ∧ x ≤ 1048576 := of_decide_eq_true hx
  by_cases h : lo ≤ x ∧ x ≤ hi
  · rw [codeB_in hr h rfl, codeB_in hr h rfl, codeB_in hr h rfl]
    show rowAt lo hi (codeN lo hi 2 x) (codeN lo hi 16 x) (codeN lo hi 256 x) = true
    have c0 := code_nonneg lo hi 256 x (by omega) h.1 a5
    have c1 := code_lt lo hi 256 x (by omega) h.2 a5
    have e1 : fromN lo hi 256 (codeN lo hi 256 x) ≤ x := (from_le lo hi 256 _ x (by omega) a5).2 (Int.le_refl _)
    have e2 : ¬ fromN lo hi 256 (codeN lo hi 256 x + 1) ≤ x := fun q => by have := (from_le lo hi 256 _ x (by omega) a5).1 q; omega
    have fb := from_bounds lo hi 256 (codeN lo hi 256 x) (by omega) c0 (by omega) a5
    have hcB : cellB lo hi 3 (codeN lo hi 256 x) = true := by
      simp only [cellB, hr, show tierB 3 = true from rfl, show cellsN 3 = 256 from rfl, Bool.true_and, Bool.or_eq_true, Bool.and_eq_true, decide_eq_true_eq]
      exact .inr ⟨⟨c0, c1⟩, by omega⟩
    have hne : ¬ codeN lo hi 256 x = -1 := by omega
    have hcl : cellLo lo hi 3 (codeN lo hi 256 x) = fromN lo hi 256 (codeN lo hi 256 x) := by simp only [cellLo, hcB, if_true, hne, if_false, show cellsN 3 = 256 from rfl]
    obtain ⟨y, hy⟩ : ∃ y, fromN lo hi 256 (codeN lo hi 256 x) = y := ⟨_, rfl⟩
    have e3 : codeN lo hi 256 y = codeN lo hi 256 x := by
      have p := (from_le lo hi 256 (codeN lo hi 256 x) y (by omega) a5).1 (by omega)
      have q := code_mono0 lo hi 256 y x (by omega) a5 (by omega)
      omega
    have e4 : codeN lo hi 16 y = codeN lo hi 16 x := by
      rw [← code_scale0 lo hi 16 16 y (by omega) (by omega) a5, ← code_scale0 lo hi 16 16 x (by omega) (by omega) a5]
      show codeN lo hi 256 y / 16 = codeN lo hi 256 x / 16
      rw [e3]
    have e5 : codeN lo hi 2 y = codeN lo hi 2 x := by
      rw [← code_scale0 lo hi 2 128 y (by omega) (by omega) a5, ← code_scale0 lo hi 2 128 x (by omega) (by omega) a5]
      show codeN lo hi 256 y / 128 = codeN lo hi 256 x / 128
      rw [e3]
    have hyi : lo ≤ y ∧ y ≤ hi := by omega
    unfold rowAt numIB numI
    rw [if_neg hne, if_neg hne, hcl, hy, hcB, codeB_in hr hyi rfl, codeB_in hr hyi rfl, codeB_in hr hyi rfl]
    show (true && ((codeN lo hi 2 y == codeN lo hi 2 x) && ((codeN lo hi 16 y == codeN lo hi 16 x) && (codeN lo hi 256 y == codeN lo hi 256 x)))) = true
    rw [e3, e4, e5]
    simp
  · rw [codeB_off h, codeB_off h, codeB_off h]
    unfold rowAt numIB numI
    rw [if_pos rfl, if_pos rfl]
    by_cases h1 : -1048576 < lo
    · rw [if_pos h1, codeB_off (x := lo - 1) (by omega), codeB_off (x := lo - 1) (by omega), codeB_off (x := lo - 1) (by omega), decide_eq_true h1]
      simp
    · have h2 : hi < 1048576 := by omega
      rw [if_neg h1, if_pos h2, codeB_off (x := hi + 1) (by omega), codeB_off (x := hi + 1) (by omega), codeB_off (x := hi + 1) (by omega), decide_eq_true h2]
      simp

theorem form_parts {n m : Nat} {f g : Nat → Int} {xs : List Int} (h : formB n f g m xs = true) : boxB n f g = true ∧ vecOkB xs = true ∧ n = m := by
  unfold formB at h
  simp only [Bool.and_eq_true, decide_eq_true_eq] at h
  exact ⟨h.1.1, h.1.2, h.2⟩

theorem row_right {n : Nat} {f g : Nat → Int} {xs : List Int} (h : formB n f g n xs = true) (hl : xs.length = n) : rowOkB n f g (ints (vcode f g xs 1) n) (ints (vcode f g xs 2) n) (ints (vcode f g xs 3) n) = true := by
  obtain ⟨hb, hv, _⟩ := form_parts h
  unfold rowOkB
  rw [hb, ints_len, ints_len, ints_len, decide_eq_true ⟨rfl, rfl, rfl⟩, Bool.true_and, Bool.true_and]
  refine allN_yes fun i hi => ?_
  rw [nth_ints _ n i hi, nth_ints _ n i hi, nth_ints _ n i hi]
  exact rowAt_code (boxB_at' hb hi) (vecOkB_at hv (by omega))
/-- How many of the first k numbers are in no range. -/
def missN (f g : Nat → Int) (xs : List Int) : Nat → Nat
  | 0 => 0
  | k + 1 => missN f g xs k + if hasB (f k) (g k) (nth xs k) then 0 else 1

theorem missN_le (f g : Nat → Int) (xs : List Int) : ∀ k, missN f g xs k ≤ k
  | 0 => Nat.le_refl _
  | k + 1 => by have := missN_le f g xs k; unfold missN; split <;> omega

theorem esc_miss {n : Nat} {f g : Nat → Int} {xs : List Int} (hr : ∀ i, i < n → rightB (f i) (g i) = true) : ∀ k, k ≤ n → escN (nth (ints (vcode f g xs 3) n)) k = missN f g xs k
  | 0, _ => rfl
  | k + 1, h => by
    have ih := esc_miss (xs := xs) hr k (by omega)
    show escN _ k + outD _ k = missN f g xs k + _
    rw [ih]
    congr 1
    unfold outD
    rw [nth_ints _ n k (by omega)]
    unfold vcode
    by_cases hx : f k ≤ nth xs k ∧ nth xs k ≤ g k
    · have hh : hasB (f k) (g k) (nth xs k) = true := by unfold hasB inB; rw [hr k (by omega), decide_eq_true hx]; rfl
      have := code_nonneg (f k) (g k) 256 (nth xs k) (by omega) hx.1 (right_nums (hr k (by omega))).2.2.2.2
      rw [codeB_in (hr k (by omega)) hx rfl, hh, if_neg (show ¬ codeN (f k) (g k) (cellsN 3) (nth xs k) = -1 by show ¬ codeN (f k) (g k) 256 (nth xs k) = -1; omega)]
      rfl
    · have hh : hasB (f k) (g k) (nth xs k) = false := by unfold hasB inB; rw [decide_eq_false hx, Bool.and_false]
      rw [codeB_off hx, hh]
      rfl
end Go.Proofs.Ytoiaamcnmpdglaa

/- BoxOf of the program. -/
namespace Go.Proofs.Ytoiaamcnmpdglaa
open Go.RowKit
set_option maxRecDepth 8000
set_option linter.unusedSimpArgs false
set_option linter.unusedVariables false

/-- A row's codes of a tier. -/
def tierL (t : Int) (L1 L2 L3 : List Int) : List Int := if t = 1 then L1 else if t = 2 then L2 else L3
def boxF (f g : Nat → Int) (t : Int) (L : List Int) (i : Nat) : Int := cellLo (f i) (g i) t (nth L i)
def boxG (f g : Nat → Int) (t : Int) (L : List Int) (i : Nat) : Int := cellHi (f i) (g i) t (nth L i)

/-- What BoxOf holds in a round: the range's box, and the packed row's. -/
structure BXS (w : World) (b p : Nat) (lo hi : Int) (A B C D n : Value) : Prop where
  lt : b < w.heap.size
  c0 : w.cell? ⟨b, 0, none⟩ = some (.int .i64 lo)
  c1 : w.cell? ⟨b, 1, none⟩ = some (.int .i64 hi)
  pk : Five w p A B C D n

theorem BXS.below {w w' : World} {b p : Nat} {lo hi : Int} {A B C D n : Value} (h : BXS w b p lo hi A B C D n) (hb : Below w.heap.size w w') : BXS w' b p lo hi A B C D n :=
  ⟨Nat.lt_of_lt_of_le h.lt hb.size, (hb.cell (p := ⟨b, 0, none⟩) h.lt).trans h.c0, (hb.cell (p := ⟨b, 1, none⟩) h.lt).trans h.c1, h.pk.below hb⟩

theorem BXS.away {w : World} {b p : Nat} {lo hi : Int} {A B C D n : Value} (h : BXS w b p lo hi A B C D n) (x : Addr) (v : Value) (h1 : b ≠ x.block) (h2 : p ≠ x.block) : BXS (w.setCell x v) b p lo hi A B C D n := by
  have e := Below.heap_setCell w x v b h1
  obtain ⟨l, c0, c1, pk⟩ := h
  refine ⟨by simpa [World.setCell] using l, ?_, ?_, pk.away x v h2⟩ <;> simp only [World.cell?, e] at * <;> assumption

theorem idx3 (x y z : Int) (w : World) : (Instr.index 67 (.agg #[.int .i64 x, .int .i64 y, .int .i64 z]) (.int .i64 (IntKind.i64.wrap 0))).run Try.prog w = .ok (.int .i64 x) w ∧ (Instr.index 67 (.agg #[.int .i64 x, .int .i64 y, .int .i64 z]) (.int .i64 (IntKind.i64.wrap 1))).run Try.prog w = .ok (.int .i64 y) w ∧ (Instr.index 67 (.agg #[.int .i64 x, .int .i64 y, .int .i64 z]) (.int .i64 (IntKind.i64.wrap 2))).run Try.prog w = .ok (.int .i64 z) w := by
  refine ⟨?_, ?_, ?_⟩ <;> kernel_rfl

/-- The answer of the program's BoxOf. -/
def IBox (w : World) (ok : Bool) (n : Nat) (F G : Nat → Int) (e : Ending) (w' : World) : Prop :=
  ∃ a m, e = .returned (.tuple #[.slice a m m, .bool ok]) ∧ m = (if ok then n else 0) ∧ (m = 0 ∨ ∃ b, a = some ⟨b, 0, none⟩ ∧ w.heap.size ≤ b ∧ b < w'.heap.size ∧ OwnP w' b m F G) ∧ Below w.heap.size w w'

set_option maxHeartbeats 8000000 in
set_option maxRecDepth 4000 in
theorem iBoxOf_some (b off n cap : Nat) (f g : Nat → Int) (r : RowV) (L1 L2 L3 : List Int) (t : Int) (w : World) (ht : tierB t = true) (h8 : n ≤ 8) (h1 : 1 ≤ n) (hb : b < w.heap.size)
    (hc : ∀ i, i < n → w.cell? ⟨b, off + i * 2, none⟩ = some (.int .i64 (f i)) ∧ w.cell? ⟨b, off + i * 2 + 1, none⟩ = some (.int .i64 (g i)))
    (CK : CodesOk n (nth L1) (nth L2) (nth L3))
    (PR' : Hid (∀ w1, Below w.heap.size w w1 → Calls Try.prog 35 #[.slice (some ⟨b, off, none⟩) n cap, r.v] w1 fun e w' => e = .returned (.tuple #[PK (nth L1) (nth L2) (nth L3) n n, .bool true]) ∧ Below w1.heap.size w1 w')) :
    Calls Try.prog 11 #[.slice (some ⟨b, off, none⟩) n cap, r.v, .int .i64 t] w fun e w' => IBox w true n (boxF f g t (tierL t L1 L2 L3)) (boxG f g t (tierL t L1 L2 L3)) e w' := by
  have hmk := run_make_pairs (P := Try.prog) 24 64 (.int .i64 0) (.int .i64 0) 16 Try.underlying24 Try.infoRange .i64 .i64 n (by omega) (by omega)
  have HC := hide hc
  obtain ⟨a1, a2, a3, m1, m2, m3, k1, k2, k3⟩ := r
  unfold RowV.v at PR' ⊢
  simp only at PR' ⊢
  have CL := hide (iCellsOf_any t)
  have hcn : (cellsN t == 0) = false := by rcases tier_cases ht with rfl | rfl | rfl <;> rfl
  have CD := hide (fun (k : Nat) (hk : k < n) (w1 : World) => codes_any (nth L1) (nth L2) (nth L3) n n k w1 h8 hk CK)
  have CE := hide (fun (k : Nat) => iCellOf_any (f k) (g k) t (nth (tierL t L1 L2 L3) k))
  unfold cellT at CE
  simp only [show ∀ k, cellLo (f k) (g k) t (nth (tierL t L1 L2 L3) k) = boxF f g t (tierL t L1 L2 L3) k from fun _ => rfl, show ∀ k, cellHi (f k) (g k) t (nth (tierL t L1 L2 L3) k) = boxG f g t (tierL t L1 L2 L3) k from fun _ => rfl] at CE
  obtain ⟨F, hF⟩ : ∃ F, boxF f g t (tierL t L1 L2 L3) = F := ⟨_, rfl⟩
  obtain ⟨G, hG⟩ : ∃ G, boxG f g t (tierL t L1 L2 L3) = G := ⟨_, rfl⟩
  rw [hF, hG] at CE ⊢
  clear hF hG hc CK
  unfold tierL at CE
  simp only [PK] at PR'
  obtain ⟨A, hA⟩ : ∃ x, pA (nth L1) (nth L2) (nth L3) n = x := ⟨_, rfl⟩
  obtain ⟨B, hB⟩ : ∃ x, pB (nth L1) (nth L2) (nth L3) n = x := ⟨_, rfl⟩
  obtain ⟨C, hC⟩ : ∃ x, pC (nth L1) (nth L2) (nth L3) n = x := ⟨_, rfl⟩
  obtain ⟨D, hD⟩ : ∃ x, pD (nth L1) (nth L2) (nth L3) n = x := ⟨_, rfl⟩
  rw [hA, hB, hC, hD] at PR' CD
  clear hA hB hC hD
  rcases tier_cases ht with rfl | rfl | rfl
  all_goals
    clear ht
    simp only [show ((1 : Int) = 1) = True from eq_self _, show ((2 : Int) = 1) = False from by simp, show ((2 : Int) = 2) = True from eq_self _, show ((3 : Int) = 1) = False from by simp, show ((3 : Int) = 2) = False from by simp, if_true, if_false] at CE
    go_enter Try.func11, Try.ntmps11
    go_wp2_with fail
    refine (PR'.out _ (by repeat' first | with_reducible exact Below.refl _ _ | with_reducible assumption | with_reducible refine below_drewN ?_ _ | with_reducible refine balloc ?_ _ | with_reducible refine Below.drew ?_ | with_reducible refine Below.setCell ?_ (by first | (simp; done) | (simp; omega) | omega) _ | with_reducible refine bstep ?_ (by assumption))).mono ?_
    rintro e w1 ⟨rfl, hb1⟩
    have B1 : Below w.heap.size w w1 := (by repeat' first | with_reducible exact Below.refl _ _ | with_reducible assumption | with_reducible refine below_drewN ?_ _ | with_reducible refine balloc ?_ _ | with_reducible refine Below.drew ?_ | with_reducible refine Below.setCell ?_ (by first | (simp; done) | (simp; omega) | omega) _ | with_reducible refine bstep ?_ (by assumption))
    clear hb1
    go_wp2_with fail
    refine (CL.out _).mono ?_
    rintro e w2 ⟨rfl, rfl⟩
    go_wp2_with fail
    go_loopw [31] (fun i wr => ∃ k : Nat, k ≤ n ∧ i = .int .i64 k ∧ OwnP wr (w1.heap.size + 1) n (upTo k F) (upTo k G) ∧ Five wr w1.heap.size (.int .u8 A) (.int .u32 B) (.int .u64 C) (.int .u8 D) (.int .i64 n) ∧ Below w.heap.size w wr) (fun i _ => n - (intOf i).toNat)
    case atStart =>
      have om := OwnP.made (w1.alloc (.cells #[.int .u8 A, .int .u32 B, .int .u64 C, .int .u8 D, .int .i64 n] 55)) n
      rw [World.size_alloc] at om
      exact ⟨0, Nat.zero_le _, rfl, om.congr (fun j _ => by simp [upTo]) (fun j _ => by simp [upTo]), (Five.new w1 _ _ _ _ _ _ _ rfl).alloc _, (by repeat' first | with_reducible exact Below.refl _ _ | with_reducible assumption | with_reducible refine below_drewN ?_ _ | with_reducible refine balloc ?_ _ | with_reducible refine Below.drew ?_ | with_reducible refine Below.setCell ?_ (by first | (simp; done) | (simp; omega) | omega) _ | with_reducible refine bstep ?_ (by assumption))⟩
    case round =>
      obtain ⟨k, hk, rfl, hO, hF5, hbel⟩ := hrel
      have HO := hide hO
      have HF5 := hide hF5
      have HB := hide hbel
      have hs2 := B1.size
      by_cases hlt : k < n
      · have y1 : wr.cell? ⟨b, off + k * 2, none⟩ = some (.int .i64 (f k)) := (hbel.cell (p := ⟨b, off + k * 2, none⟩) hb).trans (HC.out k hlt).1
        have y2 : wr.cell? ⟨b, off + k * 2 + 1, none⟩ = some (.int .i64 (g k)) := (hbel.cell (p := ⟨b, off + k * 2 + 1, none⟩) hb).trans (HC.out k hlt).2
        have hlt' : (k : Int) < (n : Int) := by omega
        have l5 := hF5.lt
        have lO := hO.lt
        have ba : Below wr.heap.size wr (wr.alloc (.cells #[.int .i64 (f k), .int .i64 (g k)] 64)).drew := Below.drew (balloc (Below.refl _ _) _)
        have S0 : Hid (BXS (wr.alloc (.cells #[.int .i64 (f k), .int .i64 (g k)] 64)).drew wr.heap.size w1.heap.size (f k) (g k) (.int .u8 A) (.int .u32 B) (.int .u64 C) (.int .u8 D) (.int .i64 n)) := hide ⟨by simp, by simp [go_sem], by simp [go_sem], hF5.below ba⟩
        have ix0 := fun w => (idx3 (nth L1 k) (nth L2 k) (nth L3 k) w).1
        have ix1 := fun w => (idx3 (nth L1 k) (nth L2 k) (nth L3 k) w).2.1
        have ix2 := fun w => (idx3 (nth L1 k) (nth L2 k) (nth L3 k) w).2.2
        have CDk := hide (CD.out k hlt)
        have CEk := hide (CE.out k)
        clear hO hF5 hbel
        go_wp2_with fail
        refine wp_region_held_drew (S := fun wx => BXS wx wr.heap.size w1.heap.size (f k) (g k) (.int .u8 A) (.int .u32 B) (.int .u64 C) (.int .u8 D) (.int .i64 n)) (by kernel_rfl) (S0.out) (fun hH0 => ?_)
        refine wpAnyH_take (i := 0) (oi := { dst := some 37, op := _, type := _, pos := _, after := _, guard := _ }) (v := ?_) rfl (by kernel_rfl) (by kernel_rfl) (by kernel_rfl) (fun _ _ _ h => h) (Or.inl ⟨by rfl, ?_⟩) (hH0) ?_
        rotate_left
        · (intro wx hSw; obtain ⟨_, q0, q1, ⟨_, p0, p1, p2, p3, p4, _, _, _, _, _⟩⟩ := hSw; go_simp <;> with_reducible rfl)
        simp only [Act.put, List.setIfInBounds_toArray, List.set_cons_zero, List.set_cons_succ]
        refine wpAnyH_take (i := 1) (oi := { dst := some 38, op := _, type := _, pos := _, after := _, guard := _ }) (v := ?_) rfl (by kernel_rfl) (by kernel_rfl) (by kernel_rfl) (fun _ _ _ h => h) (Or.inl ⟨by rfl, ?_⟩) (hH0) ?_
        rotate_left
        · (intro wx hSw; obtain ⟨_, q0, q1, ⟨_, p0, p1, p2, p3, p4, _, _, _, _, _⟩⟩ := hSw; go_simp <;> with_reducible rfl)
        simp only [Act.put, List.setIfInBounds_toArray, List.set_cons_zero, List.set_cons_succ]
        refine wpAnyH_take (i := 2) (oi := { dst := some 39, op := _, type := _, pos := _, after := _, guard := _ }) (v := ?_) rfl (by kernel_rfl) (by kernel_rfl) (by kernel_rfl) (fun _ _ _ h => h) (Or.inl ⟨by rfl, ?_⟩) (hH0) ?_
        rotate_left
        · (intro wx hSw; obtain ⟨_, q0, q1, ⟨_, p0, p1, p2, p3, p4, _, _, _, _, _⟩⟩ := hSw; go_simp <;> with_reducible rfl)
        simp only [Act.put, List.setIfInBounds_toArray, List.set_cons_zero, List.set_cons_succ]
        refine wpAnyH_take (i := 3) (oi := { dst := some 40, op := _, type := _, pos := _, after := _, guard := _ }) (v := ?_) rfl (by kernel_rfl) (by kernel_rfl) (by kernel_rfl) (fun _ _ _ h => h) (Or.inl ⟨by rfl, ?_⟩) (hH0) ?_
        rotate_left
        · (intro wx hSw; obtain ⟨_, q0, q1, ⟨_, p0, p1, p2, p3, p4, _, _, _, _, _⟩⟩ := hSw; go_simp <;> with_reducible rfl)
        simp only [Act.put, List.setIfInBounds_toArray, List.set_cons_zero, List.set_cons_succ]
        refine wpAnyH_take (i := 4) (oi := { dst := some 41, op := _, type := _, pos := _, after := _, guard := _ }) (v := ?_) rfl (by kernel_rfl) (by kernel_rfl) (by kernel_rfl) (fun _ _ _ h => h) (Or.inl ⟨by rfl, ?_⟩) (hH0) ?_
        rotate_left
        · (intro wx hSw; obtain ⟨_, q0, q1, ⟨_, p0, p1, p2, p3, p4, _, _, _, _, _⟩⟩ := hSw; go_simp <;> with_reducible rfl)
        simp only [Act.put, List.setIfInBounds_toArray, List.set_cons_zero, List.set_cons_succ]
        refine wpAnyH_take (i := 5) (oi := { dst := some 42, op := _, type := _, pos := _, after := _, guard := _ }) (v := ?_) rfl (by kernel_rfl) (by kernel_rfl) (by kernel_rfl) (fun _ _ _ h => h) (Or.inl ⟨by rfl, ?_⟩) (hH0) ?_
        rotate_left
        · (intro wx hSw; obtain ⟨_, q0, q1, ⟨_, p0, p1, p2, p3, p4, _, _, _, _, _⟩⟩ := hSw; go_simp <;> with_reducible rfl)
        simp only [Act.put, List.setIfInBounds_toArray, List.set_cons_zero, List.set_cons_succ]
        refine wpAnyH_take (i := 7) (oi := { dst := some 44, op := _, type := _, pos := _, after := _, guard := _ }) (v := ?_) rfl (by kernel_rfl) (by kernel_rfl) (by kernel_rfl) (fun _ _ _ h => h) (Or.inl ⟨by rfl, ?_⟩) (hH0) ?_
        rotate_left
        · (intro wx hSw; obtain ⟨_, q0, q1, ⟨_, p0, p1, p2, p3, p4, _, _, _, _, _⟩⟩ := hSw; go_simp <;> with_reducible rfl)
        simp only [Act.put, List.setIfInBounds_toArray, List.set_cons_zero, List.set_cons_succ]
        refine wpAnyH_take (i := 8) (oi := { dst := some 45, op := _, type := _, pos := _, after := _, guard := _ }) (v := ?_) rfl (by kernel_rfl) (by kernel_rfl) (by kernel_rfl) (fun _ _ _ h => h) (Or.inl ⟨by rfl, ?_⟩) (hH0) ?_
        rotate_left
        · (intro wx hSw; obtain ⟨_, q0, q1, ⟨_, p0, p1, p2, p3, p4, _, _, _, _, _⟩⟩ := hSw; go_simp <;> with_reducible rfl)
        simp only [Act.put, List.setIfInBounds_toArray, List.set_cons_zero, List.set_cons_succ]
        refine wpAnyH_ready (rs := [6]) (by kernel_rfl) (by simp) ?_
        refine AllReadyH.cons (o := { dst := some 43, op := _, type := _, pos := _, after := _, guard := _ }) rfl (fun K hK => ?_) AllReadyH.nil
        go_simp
        refine (CDk.out _).mono ?_
        rintro e w_c43_1 ⟨rfl, hb_c43_1⟩
        dsimp only
        refine hK.out _ _ (BXS.below hH0 hb_c43_1) (fun hH1 => ?_)
        clear hK K
        refine wpAnyH_take (i := 9) (oi := { dst := some 46, op := _, type := _, pos := _, after := _, guard := _ }) (v := ?_) rfl (by kernel_rfl) (by kernel_rfl) (by kernel_rfl) (fun _ _ _ h => h) (Or.inl ⟨by rfl, ?_⟩) (hH1) ?_
        rotate_left
        · (intro wx hSw; obtain ⟨_, q0, q1, ⟨_, p0, p1, p2, p3, p4, _, _, _, _, _⟩⟩ := hSw; go_simp <;> with_reducible rfl)
        simp only [Act.put, List.setIfInBounds_toArray, List.set_cons_zero, List.set_cons_succ]
        refine wpAnyH_ready (rs := [10]) (by kernel_rfl) (by simp) ?_
        refine AllReadyH.cons (o := { dst := some 47, op := _, type := _, pos := _, after := _, guard := _ }) rfl (fun K hK => ?_) AllReadyH.nil
        go_simp
        refine (CEk.out _).mono ?_
        rintro e w_c47_2 ⟨rfl, hb_c47_2⟩
        dsimp only
        refine hK.out _ _ (BXS.below hH1 hb_c47_2) (fun hH2 => ?_)
        clear hK K
        refine wpAnyH_take (i := 11) (oi := { dst := some 36, op := _, type := _, pos := _, after := _, guard := _ }) (v := ?_) rfl (by kernel_rfl) (by kernel_rfl) (by kernel_rfl) (fun _ _ _ h => h) (Or.inl ⟨by rfl, ?_⟩) (hH2) ?_
        rotate_left
        · (intro wx hSw; obtain ⟨_, q0, q1, ⟨_, p0, p1, p2, p3, p4, _, _, _, _, _⟩⟩ := hSw; go_simp <;> with_reducible rfl)
        simp only [Act.put, List.setIfInBounds_toArray, List.set_cons_zero, List.set_cons_succ]
        refine wpAnyH_take (i := 12) (oi := { dst := some 48, op := _, type := _, pos := _, after := _, guard := _ }) (v := ?_) rfl (by kernel_rfl) (by kernel_rfl) (by kernel_rfl) (fun _ _ _ h => h) (Or.inl ⟨by rfl, ?_⟩) (hH2) ?_
        rotate_left
        · (intro wx hSw; obtain ⟨_, q0, q1, ⟨_, p0, p1, p2, p3, p4, _, _, _, _, _⟩⟩ := hSw; go_simp <;> with_reducible rfl)
        simp only [Act.put, List.setIfInBounds_toArray, List.set_cons_zero, List.set_cons_succ]
        refine wpAnyH_take (i := 13) (oi := { dst := some 49, op := _, type := _, pos := _, after := _, guard := _ }) (v := ?_) rfl (by kernel_rfl) (by kernel_rfl) (by kernel_rfl) (fun _ _ _ h => h) (Or.inl ⟨by rfl, ?_⟩) (hH2) ?_
        rotate_left
        · (intro wx hSw; obtain ⟨_, q0, q1, ⟨_, p0, p1, p2, p3, p4, _, _, _, _, _⟩⟩ := hSw; go_simp <;> with_reducible rfl)
        simp only [Act.put, List.setIfInBounds_toArray, List.set_cons_zero, List.set_cons_succ]
        refine wpAnyH_take (i := 14) (oi := { dst := some 50, op := _, type := _, pos := _, after := _, guard := _ }) (v := ?_) rfl (by kernel_rfl) (by kernel_rfl) (by kernel_rfl) (fun _ _ _ h => h) (Or.inl ⟨by rfl, ?_⟩) (hH2) ?_
        rotate_left
        · (intro wx hSw; obtain ⟨_, q0, q1, ⟨_, p0, p1, p2, p3, p4, _, _, _, _, _⟩⟩ := hSw; go_simp <;> with_reducible rfl)
        simp only [Act.put, List.setIfInBounds_toArray, List.set_cons_zero, List.set_cons_succ]
        -- behind it: go_wp2_with fail, then go_meet (a cut) or go_ret; the condition at the end: hH2
        have HOa := hide (((HO.out.below ba).below hb_c43_1).below hb_c47_2)
        have x0 := HOa.out.c0 hlt
        have x1 := HOa.out.c1 hlt
        have x2 := World.rowIs.frozen HOa.out (k * 2)
        have x3 := World.rowIs.frozen HOa.out (k * 2 + 1)
        refine wpAnyH_ready (rs := [15]) (by kernel_rfl) (by simp) ?_
        refine AllReadyH.cons (o := { dst := none, op := _, type := _, pos := _, after := _, guard := _ }) rfl (fun K hK => ?_) AllReadyH.nil
        go_simp
        refine hK.out _ _ (BXS.away (BXS.away hH2 _ _ (by simp; omega) (by simp)) _ _ (by simp; omega) (by simp)) (fun hH3 => ?_)
        clear hK K
        refine wpAnyH_done (by kernel_rfl) ?_ _
        have HB' := hide (bstep (bstep (bstep HB.out ba) hb_c43_1) hb_c47_2)
        have HS := hide HOa.out.step
        clear ix0 ix1 ix2 x0 x1 x2 x3 y1 y2 hH0 hH1 hH2 hb_c43_1 hb_c47_2 HOa ba
        go_wp2_with fail
        go_roundw
        case rel => exact ⟨k + 1, by omega, by go_num, HS.out, hH3.pk, (HB'.out.setCell (by simp; omega) _).setCell (by simp; omega) _⟩
        case measure => simp [intOf]; omega
      · obtain rfl : k = n := by omega
        have lO := hO.lt
        clear hO hF5 hbel
        go_wp2_with fail
        refine bodyPost_ret (v := .tuple #[.slice (some ⟨w1.heap.size + 1, 0, none⟩) k k, .bool true]) ?_ rfl ⟨_, k, rfl, rfl, .inr ⟨_, rfl, by omega, lO, HO.out.congr (fun j hj => by rw [upTo, if_pos (by omega)]) (fun j hj => by rw [upTo, if_pos (by omega)])⟩, HB.out⟩
        simp [results, Try.results11, go_sem]
end Go.Proofs.Ytoiaamcnmpdglaa

/- A cell that a number has, plain; sameRow of the laws. -/
namespace Go.Proofs.Ytoiaamcnmpdglaa
open Go.RowKit
set_option maxRecDepth 8000
set_option linter.unusedSimpArgs false
set_option linter.unusedVariables false

theorem cells_posM {t : Int} (h : tierB t = true) : 0 < cellsN t := by
  have := of_decide_eq_true h
  unfold cellsN
  split
  · omega
  · split
    · omega
    · rw [if_pos (by omega)]; omega
/-- A number's cell of a tier has it. -/
theorem cell_has {lo hi t x : Int} (hr : rightB lo hi = true) (hx : compB x = true) (ht : tierB t = true) :
    hasB (cellLo lo hi t (codeB lo hi t x)) (cellHi lo hi t (codeB lo hi t x)) x = true := by
  obtain ⟨a1, a2, a3, a4, a5⟩ := right_nums hr
  have hx' : -1048576 ≤ x ∧ x ≤ 1048576 := of_decide_eq_true hx
  have hN := cells_posM ht
  have fin : ∀ l h : Int, -1048576 ≤ l → h ≤ 1048576 → l ≤ x → x ≤ h → hasB l h x = true := fun l h h1 h2 h3 h4 => by
    unfold hasB inB rightB compB
    rw [decide_eq_true (by omega), decide_eq_true (by omega), decide_eq_true (by omega), decide_eq_true (by omega)]
    rfl
  by_cases h : lo ≤ x ∧ x ≤ hi
  · rw [codeB_in hr h ht]
    obtain ⟨N, hNe⟩ : ∃ N, cellsN t = N := ⟨_, rfl⟩
    rw [hNe] at hN ⊢
    have c0 := code_nonneg lo hi N x hN h.1 a5
    have c1 := code_lt lo hi N x hN h.2 a5
    have e1 : fromN lo hi N (codeN lo hi N x) ≤ x := (from_le lo hi N _ x hN a5).2 (Int.le_refl _)
    have e2 : ¬ fromN lo hi N (codeN lo hi N x + 1) ≤ x := fun q => by have := (from_le lo hi N _ x hN a5).1 q; omega
    have f1 := from_bounds lo hi N (codeN lo hi N x) hN c0 (by omega) a5
    have f2 := from_bounds lo hi N (codeN lo hi N x + 1) hN (by omega) (by omega) a5
    have hcB : cellB lo hi t (codeN lo hi N x) = true := by
      simp only [cellB, hr, ht, hNe, Bool.true_and, Bool.or_eq_true, Bool.and_eq_true, decide_eq_true_eq]
      exact .inr ⟨⟨c0, c1⟩, by omega⟩
    have hne : ¬ codeN lo hi N x = -1 := by omega
    simp only [cellLo, cellHi, hcB, if_true, hne, if_false, hNe]
    exact fin _ _ (by omega) (by omega) e1 (by omega)
  · rw [codeB_off h]
    have hcB : cellB lo hi t (-1) = true := by simp [cellB, hr, ht]
    simp only [cellLo, cellHi, hcB, if_true]
    exact fin _ _ (by omega) (by omega) (by omega) (by omega)

theorem has_rightM {l h x : Int} (q : hasB l h x = true) : rightB l h = true := by
  unfold hasB at q
  rw [Bool.and_eq_true] at q
  exact q.1

theorem tierL_code {t : Int} (ht : tierB t = true) (f g : Nat → Int) (xs : List Int) (n : Nat) : tierL t (ints (vcode f g xs 1) n) (ints (vcode f g xs 2) n) (ints (vcode f g xs 3) n) = ints (vcode f g xs t) n := by
  have := of_decide_eq_true ht
  unfold tierL
  rcases (show t = 1 ∨ t = 2 ∨ t = 3 by omega) with rfl | rfl | rfl <;> rfl
/-- For each tier the box of a vector's row has the vector. -/
theorem box_has {n : Nat} {f g : Nat → Int} {xs : List Int} (h : formB n f g n xs = true) (hl : xs.length = n) {t : Int} (ht : tierB t = true) :
    boxHasB n (boxF f g t (ints (vcode f g xs t) n)) (boxG f g t (ints (vcode f g xs t) n)) n xs = true := by
  obtain ⟨hb, hv, _⟩ := form_parts h
  have hh : ∀ i, i < n → hasB (boxF f g t (ints (vcode f g xs t) n) i) (boxG f g t (ints (vcode f g xs t) n) i) (nth xs i) = true := fun i hi => by
    unfold boxF boxG
    rw [nth_ints _ n i hi]
    exact cell_has (boxB_at' hb hi) (vecOkB_at hv (by omega)) ht
  unfold boxHasB formB boxB hasN
  rw [decide_eq_true (boxB_num' hb), allN_yes (fun i hi => has_rightM (hh i hi)), hv, allN_yes hh]
  simp

set_option maxHeartbeats 4000000 in
theorem sameRow_self (q1 q2 q3 p1 p2 p3 : Option Addr) (m k1 k2 k3 j1 j2 j3 : Nat) (L1 L2 L3 : List Int) (w : World) (hq : RowV.is ⟨q1, q2, q3, m, m, m, k1, k2, k3⟩ w L1 L2 L3) (hp : RowV.is ⟨p1, p2, p3, m, m, m, j1, j2, j3⟩ w L1 L2 L3) (hm : m ≤ 1048576) :
    Calls Try.prog 10 #[.agg #[.slice q1 m k1, .slice q2 m k2, .slice q3 m k3], .agg #[.slice p1 m j1, .slice p2 m j2, .slice p3 m j3]] w fun e w' => e = .returned (.bool true) ∧ Below w.heap.size w w' := by
  have S1 := hide (fun w1 (hb : Below w.heap.size w w1) => sameInts_any q1 p1 m k1 m j1 L1 L1 w1 (hq.r1.below hb) (hp.r1.below hb) hm)
  have S2 := hide (fun w1 (hb : Below w.heap.size w w1) => sameInts_any q2 p2 m k2 m j2 L2 L2 w1 (hq.r2.below hb) (hp.r2.below hb) hm)
  have S3 := hide (fun w1 (hb : Below w.heap.size w w1) => sameInts_any q3 p3 m k3 m j3 L3 L3 w1 (hq.r3.below hb) (hp.r3.below hb) hm)
  simp only [decide_true] at S1 S2 S3
  have X1 := (TriW.new w (.slice q1 m k1) (.slice q2 m k2) (.slice q3 m k3) 29 _ rfl).alloc (.cells #[.slice p1 m j1, .slice p2 m j2, .slice p3 m j3] 29)
  have Y1 := TriW.new (w.alloc (.cells #[.slice q1 m k1, .slice q2 m k2, .slice q3 m k3] 29)) (.slice p1 m j1) (.slice p2 m j2) (.slice p3 m j3) 29 (w.heap.size + 1) (by simp)
  have B1 : Below w.heap.size w ((w.alloc (.cells #[.slice q1 m k1, .slice q2 m k2, .slice q3 m k3] 29)).alloc (.cells #[.slice p1 m j1, .slice p2 m j2, .slice p3 m j3] 29)) := balloc (balloc (Below.refl _ _) _) _
  have HX := hide X1
  have HY := hide Y1
  have HB := hide B1
  obtain ⟨_, x0, x1, x2, _, _, _⟩ := X1
  obtain ⟨_, y0, y1, y2, _, _, _⟩ := Y1
  clear hq hp B1
  go_enter Try.func10, Try.ntmps10
  go_wp2_with fail
  refine (S1.out _ HB.out).mono ?_
  rintro e w1 ⟨rfl, hb1⟩
  have HX1 := hide (HX.out.below hb1)
  have HY1 := hide (HY.out.below hb1)
  have HB1 := hide (bstep HB.out hb1)
  clear x0 x1 x2 y0 y1 y2 HX HY HB hb1 S1
  obtain ⟨_, x0, x1, x2, _, _, _⟩ := HX1.out
  obtain ⟨_, y0, y1, y2, _, _, _⟩ := HY1.out
  go_wp2_with fail
  refine (S2.out _ HB1.out).mono ?_
  rintro e w2 ⟨rfl, hb2⟩
  have HX2 := hide (HX1.out.below hb2)
  have HY2 := hide (HY1.out.below hb2)
  have HB2 := hide (bstep HB1.out hb2)
  clear x0 x1 x2 y0 y1 y2 HX1 HY1 HB1 hb2 S2
  obtain ⟨_, x0, x1, x2, _, _, _⟩ := HX2.out
  obtain ⟨_, y0, y1, y2, _, _, _⟩ := HY2.out
  go_wp2_with fail
  refine (S3.out _ HB2.out).mono ?_
  rintro e w3 ⟨rfl, hb3⟩
  have HB3 := hide (bstep HB2.out hb3)
  clear x0 x1 x2 y0 y1 y2 HX2 HY2 HB2 hb3 S3
  go_wp2_with fail
  go_ret
  exact ⟨rfl, HB3.out⟩
end Go.Proofs.Ytoiaamcnmpdglaa
