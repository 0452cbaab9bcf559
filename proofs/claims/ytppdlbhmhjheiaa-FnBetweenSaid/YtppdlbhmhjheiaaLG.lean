/- The walk of the law FnBetween. -/
import Derived.Test.YtppdlbhmhjheiaaLG1
import Derived.Test.YtppdlbhmhjheiaaVT
import Derived.Deep.RegionHeld3
namespace Go.Proofs.Ytppdlbhmhjheiaa
open Go.RowKit
set_option linter.unusedSimpArgs false
set_option linter.unusedVariables false

/-- f is nowhere beyond xs and ys, as far as k. -/
def Mid (xs ys : List Int) (f : Nat → Int) (k : Nat) : Prop := ∀ j, j < k → min (nth xs j) (nth ys j) ≤ f j ∧ f j ≤ max (nth xs j) (nth ys j)
theorem Mid.part {xs ys : List Int} {f : Nat → Int} (h : pairB xs ys = true) (hf : Mid xs ys f xs.length) :
    pairB xs (ints f xs.length) = true ∧ pairB (ints f xs.length) ys = true ∧ distL xs (ints f xs.length) + distL (ints f xs.length) ys ≤ distL xs ys := by
  obtain ⟨hx, hy, hl⟩ := pairB_parts h
  obtain ⟨n1, n8, hc⟩ := vecOk_all hx rfl
  obtain ⟨_, _, hc'⟩ := vecOk_all hy hl.symm
  have hm : vecOkB (ints f xs.length) = true := by
    refine vecOk_ints n1 n8 fun j hj => ?_
    have a := hc j hj
    have b := hc' j hj
    have c := hf j hj
    simp only [compB, decide_eq_true_eq] at a b
    omega
  have p1 : pairB xs (ints f xs.length) = true := by unfold pairB; rw [hx, hm, ints_len, decide_eq_true rfl]; rfl
  have p2 : pairB (ints f xs.length) ys = true := by unfold pairB; rw [hy, hm, ints_len, decide_eq_true hl]; rfl
  refine ⟨p1, p2, ?_⟩
  unfold distL
  rw [p1, p2, h, if_pos rfl, if_pos rfl, if_pos rfl, ints_len]
  refine dsum_part _ fun j hj => ?_
  rw [nth_ints _ _ _ hj]
  have c := hf j hj
  omega
def upto (f : Nat → Int) (k : Nat) (x : Int) : Nat → Int := fun j => if j = k then x else f j
theorem vals_upto (f : Nat → Int) (k : Nat) (x : Int) : vals (upto f k x) (k + 1) = vals f k ++ [.int .i64 x] := by
  rw [vals_succ]
  congr 1
  · unfold vals
    refine List.map_congr_left fun j hj => ?_
    have : j < k := List.mem_range.1 hj
    simp [upto, show ¬ j = k by omega]
  · simp [upto]
theorem Mid.step {xs ys : List Int} {f : Nat → Int} {k : Nat} {z : Int} (h : Mid xs ys f k) (z0 : 0 ≤ z) (z1 : z ≤ 255) : Mid xs ys (upto f k (midV (nth xs k) (nth ys k) z)) (k + 1) := by
  intro j hj
  by_cases e : j = k
  · subst e
    simp only [upto, if_pos]
    exact midV_bd _ _ z0 z1
  · simp only [upto, if_neg e]
    exact h j (by omega)

/-- Two cells that are read. -/
def Two (w : World) (b o b' o' : Nat) (x y : Int) : Prop := w.cell? ⟨b, o, none⟩ = some (.int .i64 x) ∧ w.cell? ⟨b', o', none⟩ = some (.int .i64 y)
theorem mul_bd {d z m : Int} (h0 : 0 ≤ d) (h1 : d ≤ m) (z0 : 0 ≤ z) (z1 : z ≤ 255) : 0 ≤ d * z ∧ d * z ≤ m * 255 :=
  ⟨Int.mul_nonneg h0 z0, Int.mul_le_mul h1 z1 z0 (by omega)⟩

theorem goMid {x y z : Int} (cx : -1048576 ≤ x ∧ x ≤ 1048576) (cy : -1048576 ≤ y ∧ y ≤ 1048576) (z0 : 0 ≤ z) (z1 : z ≤ 255) :
    IntKind.i64.wrap ((if y < x then y else x) + IntKind.i64.wrap ((IntKind.i64.wrap ((if x - y < y - x then y - x else x - y) * z)).tdiv 256)) = midV x y z := by
  have e1 : (if y < x then y else x) = min x y := by split <;> omega
  have e2 : (if x - y < y - x then y - x else x - y) = max (x - y) (y - x) := by split <;> omega
  have p1 := mul_bd (d := max (x - y) (y - x)) (m := 2097152) (by omega) (by omega) z0 z1
  rw [e1, e2, wrapIn (max (x - y) (y - x) * z) (by omega) (by omega), Int.tdiv_eq_ediv_of_nonneg p1.1, wrapIn (max (x - y) (y - x) * z / 256) (by omega) (by omega), wrapIn _ (by omega) (by omega)]
  rfl

set_option maxRecDepth 4000 in
set_option maxHeartbeats 4000000 in
theorem between_walk (a : Option Addr) (n cap : Nat) (zs : List Int) (w : World) (h : IsRow .u8 w a n cap zs) :
    Calls Try.prog 6 #[.slice a n cap] w fun e w' => e = .returned (.bool true) ∧ Below w.heap.size w w' := by
  have BG := hide (big_any a n cap w)
  by_cases hn : n ≤ 1048576
  · rw [decide_eq_false (show ¬ 1048576 < n by omega)] at BG
    have hcode := h.code hn
    have DR := hide (drawDistOf_any a n cap w hcode)
    have CD := hide hcode
    clear h hcode
    go_enter Try.func6, Try.ntmps6
    go_wp2_with fail
    refine BG.out.mono ?_
    rintro e w' ⟨rfl, hw⟩
    obtain rfl := hw.symm
    clear BG hw
    go_wp2_with fail
    refine DR.out.mono ?_
    rintro e w1 ⟨a1, n1, c1, xs, a2, n2, c2, ys, rfl, r1, r2, h1, h2, hb1⟩
    clear DR
    have CD := hide (CD.out.below hb1)
    obtain ⟨q, hq⟩ : ∃ q, distL xs ys = q := ⟨_, rfl⟩
    have I := hide (fun w (r1 : Row w a1 n1 xs) (r2 : Row w a2 n2 ys) => iDistOf_any a1 a2 n1 c1 n2 c2 xs ys w r1 r2 (by omega) (by omega))
    have S := hide (fun w (r1 : Row w a1 n1 xs) (r2 : Row w a2 n2 ys) => sDistOf_any a1 a2 n1 c1 n2 c2 xs ys w r1 r2 (by omega) (by omega))
    rw [hq] at I S
    have hqq : (q != q) = false := by simp
    have hqe : (q == q) = true := by simp
    have HQ := hide hq
    have R1 := hide r1
    have R2 := hide r2
    clear r1 r2 hq
    cases hp : pairB xs ys
    · have hq1 : q = -1 := by rw [← HQ.out]; unfold distL; rw [hp]; rfl
      have hq0 : q < 0 := by omega
      clear hp hq1
      go_wp2_with fail
      refine (I.out _ R1.out R2.out).mono ?_
      rintro e w2 ⟨rfl, hb2⟩
      go_wp2_with fail
      refine (S.out _ (R1.out.below hb2) (R2.out.below hb2)).mono ?_
      rintro e w3 ⟨rfl, hb3⟩
      go_wp2_with fail
      refine (S.out _ ((R1.out.below hb2).below hb3) ((R2.out.below hb2).below hb3)).mono ?_
      rintro e w4 ⟨rfl, hb4⟩
      go_wp2_with fail
      go_ret
      exact ⟨rfl, (by repeat' first | with_reducible exact Below.refl _ _ | with_reducible assumption | with_reducible refine below_drewN ?_ _ | with_reducible refine balloc ?_ _ | with_reducible refine Below.drew ?_ | with_reducible refine Below.setCell ?_ (by first | (simp; done) | (simp; omega) | omega) _ | with_reducible refine bstep ?_ (by assumption))⟩
    · obtain ⟨q0, q1⟩ := distL_bd hp
      rw [HQ.out] at q0 q1
      go_wp2_with fail
      refine (I.out _ R1.out R2.out).mono ?_
      rintro e w2 ⟨rfl, hb2⟩
      have R1 := hide (R1.out.below hb2)
      have R2 := hide (R2.out.below hb2)
      have CD := hide (CD.out.below hb2)
      go_wp2_with fail
      refine (S.out _ R1.out R2.out).mono ?_
      rintro e w3 ⟨rfl, hb3⟩
      have R1 := hide (R1.out.below hb3)
      have R2 := hide (R2.out.below hb3)
      have CD := hide (CD.out.below hb3)
      have Bw : Below w.heap.size w w3 := (by repeat' first | with_reducible exact Below.refl _ _ | with_reducible assumption | with_reducible refine below_drewN ?_ _ | with_reducible refine balloc ?_ _ | with_reducible refine Below.drew ?_ | with_reducible refine Below.setCell ?_ (by first | (simp; done) | (simp; omega) | omega) _ | with_reducible refine bstep ?_ (by assumption))
      have BW := hide Bw
      clear I S hb1 hb2 hb3 Bw
      obtain ⟨hx, hy, hl⟩ := pairB_parts hp
      have HP := hide hp
      obtain ⟨l1, r1⟩ := R1.out
      obtain ⟨l2, r2⟩ := R2.out
      obtain ⟨k1, k8, hc⟩ := vecOk_all hx l1
      obtain ⟨_, _, hc'⟩ := vecOk_all hy l2
      have h12 : n2 = n1 := by omega
      subst h12
      have HC := hide hc
      have HC' := hide hc'
      clear hp hx hy hc hc' h1 h2
      rcases r1 with r1 | ⟨b, off, rfl, hb, hr⟩
      · omega
      rcases r2 with r2 | ⟨b', off', rfl, hb', hr'⟩
      · omega
      have HR := hide hr
      have HR' := hide hr'
      clear hr hr'
      obtain ⟨i0, hi, hz0, hz1, hz2⟩ := info_parts Try.infoI64
      go_wp2_with fail
      go_loopw [6, 7] (fun v i wr => ∃ (k : Nat) (f : Nat → Int), k ≤ n2 ∧ i = .int .i64 k ∧ Mid xs ys f k ∧ wr.ownsRow w3.heap.size 2 1 v k (vals f k) ∧ Below w3.heap.size w3 wr) (fun _ i _ => n2 - (intOf i).toNat)
      case atStart => exact ⟨0, fun _ => 0, Nat.zero_le _, rfl, fun j hj => absurd hj (by omega), World.ownsRow_made w3 #[] 0 (Nat.le_refl _) (Nat.zero_le _) rfl, (by repeat' first | with_reducible exact Below.refl _ _ | with_reducible assumption | with_reducible refine below_drewN ?_ _ | with_reducible refine balloc ?_ _ | with_reducible refine Below.drew ?_ | with_reducible refine Below.setCell ?_ (by first | (simp; done) | (simp; omega) | omega) _ | with_reducible refine bstep ?_ (by assumption))⟩
      case round =>
        obtain ⟨k, f, hk, rfl, hmid, hown, hbel⟩ := hrel
        by_cases hlt : k < n2
        · have t1 : wr.cell? ⟨b, off + k, none⟩ = some (.int .i64 (nth xs k)) := (hbel.cell (p := ⟨b, off + k, none⟩) hb).trans (HR.out k hlt)
          have t2 : wr.cell? ⟨b', off' + k, none⟩ = some (.int .i64 (nth ys k)) := (hbel.cell (p := ⟨b', off' + k, none⟩) hb').trans (HR'.out k hlt)
          have lt1 : b < wr.heap.size := Nat.lt_of_lt_of_le hb hbel.size
          have lt2 : b' < wr.heap.size := Nat.lt_of_lt_of_le hb' hbel.size
          have hlt' : (k : Int) < (n2 : Int) := by omega
          have hk0 : (0 : Int) ≤ (k : Int) := by omega
          have hcr := CD.out.below hbel
          have BY := hide (byteOf_any a n cap k wr.drew ⟨hcr.small, hcr.lies⟩ (by omega))
          clear hcr
          have HB := hide hbel
          have HM := hide hmid
          have HO := hide hown
          clear hbel hmid hown
          obtain ⟨x, ex⟩ : ∃ x, nth xs k = x := ⟨_, rfl⟩
          obtain ⟨y, ey⟩ : ∃ y, nth ys k = y := ⟨_, rfl⟩
          have cx := HC.out k hlt
          have cy := HC'.out k hlt
          rw [ex] at t1 cx
          rw [ey] at t2 cy
          simp only [compB, decide_eq_true_eq] at cx cy
          have EX := hide ex
          have EY := hide ey
          have T0 : Two wr.drew b (off + k) b' (off' + k) x y := ⟨t1, t2⟩
          have v1 := wrapIn (x - y) (by omega) (by omega)
          have v2 := wrapIn (y - x) (by omega) (by omega)
          clear ex ey t1 t2
          go_wp2_with fail
          refine wp_region_held_drew (S := fun wx => Two wx b (off + k) b' (off' + k) x y) (by kernel_rfl) (T0) (fun hH0 => ?_)
          refine wpAnyH_take (i := 0) (oi := { dst := some 41, op := _, type := _, pos := _, after := _, guard := _ }) (v := ?_) rfl (by kernel_rfl) (by kernel_rfl) (by kernel_rfl) (fun _ _ _ h => h) (Or.inl ⟨by rfl, ?_⟩) (hH0) ?_
          rotate_left
          · (intro wx hSw; obtain ⟨q1, q2⟩ := hSw; go_simp <;> with_reducible rfl)
          simp only [Act.put, List.setIfInBounds_toArray, List.set_cons_zero, List.set_cons_succ]
          refine wpAnyH_take (i := 1) (oi := { dst := some 42, op := _, type := _, pos := _, after := _, guard := _ }) (v := ?_) rfl (by kernel_rfl) (by kernel_rfl) (by kernel_rfl) (fun _ _ _ h => h) (Or.inl ⟨by rfl, ?_⟩) (hH0) ?_
          rotate_left
          · (intro wx hSw; obtain ⟨q1, q2⟩ := hSw; go_simp <;> with_reducible rfl)
          simp only [Act.put, List.setIfInBounds_toArray, List.set_cons_zero, List.set_cons_succ]
          refine wpAnyH_take (i := 2) (oi := { dst := some 43, op := _, type := _, pos := _, after := _, guard := _ }) (v := ?_) rfl (by kernel_rfl) (by kernel_rfl) (by kernel_rfl) (fun _ _ _ h => h) (Or.inl ⟨by rfl, ?_⟩) (hH0) ?_
          rotate_left
          · (intro wx hSw; obtain ⟨q1, q2⟩ := hSw; go_simp <;> with_reducible rfl)
          simp only [Act.put, List.setIfInBounds_toArray, List.set_cons_zero, List.set_cons_succ]
          refine wpAnyH_take (i := 3) (oi := { dst := some 44, op := _, type := _, pos := _, after := _, guard := _ }) (v := ?_) rfl (by kernel_rfl) (by kernel_rfl) (by kernel_rfl) (fun _ _ _ h => h) (Or.inl ⟨by rfl, ?_⟩) (hH0) ?_
          rotate_left
          · (intro wx hSw; obtain ⟨q1, q2⟩ := hSw; go_simp <;> with_reducible rfl)
          simp only [Act.put, List.setIfInBounds_toArray, List.set_cons_zero, List.set_cons_succ]
          refine wpAnyH_take (i := 4) (oi := { dst := some 45, op := _, type := _, pos := _, after := _, guard := _ }) (v := ?_) rfl (by kernel_rfl) (by kernel_rfl) (by kernel_rfl) (fun _ _ _ h => h) (Or.inl ⟨by rfl, ?_⟩) (hH0) ?_
          rotate_left
          · (intro wx hSw; obtain ⟨q1, q2⟩ := hSw; go_simp <;> with_reducible rfl)
          simp only [Act.put, List.setIfInBounds_toArray, List.set_cons_zero, List.set_cons_succ]
          refine wpAnyH_take (i := 5) (oi := { dst := some 46, op := _, type := _, pos := _, after := _, guard := _ }) (v := ?_) rfl (by kernel_rfl) (by kernel_rfl) (by kernel_rfl) (fun _ _ _ h => h) (Or.inl ⟨by rfl, ?_⟩) (hH0) ?_
          rotate_left
          · (intro wx hSw; obtain ⟨q1, q2⟩ := hSw; go_simp <;> with_reducible rfl)
          simp only [Act.put, List.setIfInBounds_toArray, List.set_cons_zero, List.set_cons_succ]
          refine wpAnyH_take (i := 6) (oi := { dst := some 47, op := _, type := _, pos := _, after := _, guard := _ }) (v := ?_) rfl (by kernel_rfl) (by kernel_rfl) (by kernel_rfl) (fun _ _ _ h => h) (Or.inl ⟨by rfl, ?_⟩) (hH0) ?_
          rotate_left
          · (intro wx hSw; obtain ⟨q1, q2⟩ := hSw; go_simp <;> with_reducible rfl)
          simp only [Act.put, List.setIfInBounds_toArray, List.set_cons_zero, List.set_cons_succ]
          refine wpAnyH_take (i := 7) (oi := { dst := some 48, op := _, type := _, pos := _, after := _, guard := _ }) (v := ?_) rfl (by kernel_rfl) (by kernel_rfl) (by kernel_rfl) (fun _ _ _ h => h) (Or.inl ⟨by rfl, ?_⟩) (hH0) ?_
          rotate_left
          · (intro wx hSw; obtain ⟨q1, q2⟩ := hSw; go_simp <;> with_reducible rfl)
          simp only [Act.put, List.setIfInBounds_toArray, List.set_cons_zero, List.set_cons_succ]
          refine wpAnyH_take (i := 8) (oi := { dst := some 49, op := _, type := _, pos := _, after := _, guard := _ }) (v := ?_) rfl (by kernel_rfl) (by kernel_rfl) (by kernel_rfl) (fun _ _ _ h => h) (Or.inl ⟨by rfl, ?_⟩) (hH0) ?_
          rotate_left
          · (intro wx hSw; obtain ⟨q1, q2⟩ := hSw; go_simp <;> with_reducible rfl)
          simp only [Act.put, List.setIfInBounds_toArray, List.set_cons_zero, List.set_cons_succ]
          refine wpAnyH_take (i := 9) (oi := { dst := some 50, op := _, type := _, pos := _, after := _, guard := _ }) (v := ?_) rfl (by kernel_rfl) (by kernel_rfl) (by kernel_rfl) (fun _ _ _ h => h) (Or.inl ⟨by rfl, ?_⟩) (hH0) ?_
          rotate_left
          · (intro wx hSw; obtain ⟨q1, q2⟩ := hSw; go_simp <;> with_reducible rfl)
          simp only [Act.put, List.setIfInBounds_toArray, List.set_cons_zero, List.set_cons_succ]
          refine wpAnyH_take (i := 10) (oi := { dst := some 51, op := _, type := _, pos := _, after := _, guard := _ }) (v := ?_) rfl (by kernel_rfl) (by kernel_rfl) (by kernel_rfl) (fun _ _ _ h => h) (Or.inl ⟨by rfl, ?_⟩) (hH0) ?_
          rotate_left
          · (intro wx hSw; obtain ⟨q1, q2⟩ := hSw; go_simp <;> with_reducible rfl)
          simp only [Act.put, List.setIfInBounds_toArray, List.set_cons_zero, List.set_cons_succ]
          refine wpAnyH_take (i := 11) (oi := { dst := some 52, op := _, type := _, pos := _, after := _, guard := _ }) (v := ?_) rfl (by kernel_rfl) (by kernel_rfl) (by kernel_rfl) (fun _ _ _ h => h) (Or.inl ⟨by rfl, ?_⟩) (hH0) ?_
          rotate_left
          · (intro wx hSw; obtain ⟨q1, q2⟩ := hSw; go_simp <;> with_reducible rfl)
          simp only [Act.put, List.setIfInBounds_toArray, List.set_cons_zero, List.set_cons_succ]
          refine wpAnyH_take (i := 12) (oi := { dst := some 53, op := _, type := _, pos := _, after := _, guard := _ }) (v := ?_) rfl (by kernel_rfl) (by kernel_rfl) (by kernel_rfl) (fun _ _ _ h => h) (Or.inl ⟨by rfl, ?_⟩) (hH0) ?_
          rotate_left
          · (intro wx hSw; obtain ⟨q1, q2⟩ := hSw; go_simp <;> with_reducible rfl)
          simp only [Act.put, List.setIfInBounds_toArray, List.set_cons_zero, List.set_cons_succ]
          refine wpAnyH_take (i := 13) (oi := { dst := some 54, op := _, type := _, pos := _, after := _, guard := _ }) (v := ?_) rfl (by kernel_rfl) (by kernel_rfl) (by kernel_rfl) (fun _ _ _ h => h) (Or.inl ⟨by rfl, ?_⟩) (hH0) ?_
          rotate_left
          · (intro wx hSw; obtain ⟨q1, q2⟩ := hSw; go_simp <;> with_reducible rfl)
          simp only [Act.put, List.setIfInBounds_toArray, List.set_cons_zero, List.set_cons_succ]
          refine wpAnyH_take (i := 14) (oi := { dst := some 55, op := _, type := _, pos := _, after := _, guard := _ }) (v := ?_) rfl (by kernel_rfl) (by kernel_rfl) (by kernel_rfl) (fun _ _ _ h => h) (Or.inl ⟨by rfl, ?_⟩) (hH0) ?_
          rotate_left
          · (intro wx hSw; obtain ⟨q1, q2⟩ := hSw; go_simp <;> with_reducible rfl)
          simp only [Act.put, List.setIfInBounds_toArray, List.set_cons_zero, List.set_cons_succ]
          refine wpAnyH_take (i := 15) (oi := { dst := some 56, op := _, type := _, pos := _, after := _, guard := _ }) (v := ?_) rfl (by kernel_rfl) (by kernel_rfl) (by kernel_rfl) (fun _ _ _ h => h) (Or.inl ⟨by rfl, ?_⟩) (hH0) ?_
          rotate_left
          · (intro wx hSw; obtain ⟨q1, q2⟩ := hSw; go_simp <;> with_reducible rfl)
          simp only [Act.put, List.setIfInBounds_toArray, List.set_cons_zero, List.set_cons_succ]
          refine wpAnyH_take (i := 16) (oi := { dst := some 57, op := _, type := _, pos := _, after := _, guard := _ }) (v := ?_) rfl (by kernel_rfl) (by kernel_rfl) (by kernel_rfl) (fun _ _ _ h => h) (Or.inl ⟨by rfl, ?_⟩) (hH0) ?_
          rotate_left
          · (intro wx hSw; obtain ⟨q1, q2⟩ := hSw; go_simp <;> with_reducible rfl)
          simp only [Act.put, List.setIfInBounds_toArray, List.set_cons_zero, List.set_cons_succ]
          refine wpAnyH_take (i := 17) (oi := { dst := some 58, op := _, type := _, pos := _, after := _, guard := _ }) (v := ?_) rfl (by kernel_rfl) (by kernel_rfl) (by kernel_rfl) (fun _ _ _ h => h) (Or.inl ⟨by rfl, ?_⟩) (hH0) ?_
          rotate_left
          · (intro wx hSw; obtain ⟨q1, q2⟩ := hSw; go_simp <;> with_reducible rfl)
          simp only [Act.put, List.setIfInBounds_toArray, List.set_cons_zero, List.set_cons_succ]
          refine wpAnyH_take (i := 18) (oi := { dst := some 59, op := _, type := _, pos := _, after := _, guard := _ }) (v := ?_) rfl (by kernel_rfl) (by kernel_rfl) (by kernel_rfl) (fun _ _ _ h => h) (Or.inl ⟨by rfl, ?_⟩) (hH0) ?_
          rotate_left
          · (intro wx hSw; obtain ⟨q1, q2⟩ := hSw; go_simp <;> with_reducible rfl)
          simp only [Act.put, List.setIfInBounds_toArray, List.set_cons_zero, List.set_cons_succ]
          refine wpAnyH_take (i := 19) (oi := { dst := some 60, op := _, type := _, pos := _, after := _, guard := _ }) (v := ?_) rfl (by kernel_rfl) (by kernel_rfl) (by kernel_rfl) (fun _ _ _ h => h) (Or.inl ⟨by rfl, ?_⟩) (hH0) ?_
          rotate_left
          · (intro wx hSw; obtain ⟨q1, q2⟩ := hSw; go_simp <;> with_reducible rfl)
          simp only [Act.put, List.setIfInBounds_toArray, List.set_cons_zero, List.set_cons_succ]
          refine wpAnyH_take (i := 20) (oi := { dst := some 61, op := _, type := _, pos := _, after := _, guard := _ }) (v := ?_) rfl (by kernel_rfl) (by kernel_rfl) (by kernel_rfl) (fun _ _ _ h => h) (Or.inl ⟨by rfl, ?_⟩) (hH0) ?_
          rotate_left
          · (intro wx hSw; obtain ⟨q1, q2⟩ := hSw; go_simp <;> with_reducible rfl)
          simp only [Act.put, List.setIfInBounds_toArray, List.set_cons_zero, List.set_cons_succ]
          refine wpAnyH_take (i := 21) (oi := { dst := some 62, op := _, type := _, pos := _, after := _, guard := _ }) (v := ?_) rfl (by kernel_rfl) (by kernel_rfl) (by kernel_rfl) (fun _ _ _ h => h) (Or.inl ⟨by rfl, ?_⟩) (hH0) ?_
          rotate_left
          · (intro wx hSw; obtain ⟨q1, q2⟩ := hSw; go_simp <;> with_reducible rfl)
          simp only [Act.put, List.setIfInBounds_toArray, List.set_cons_zero, List.set_cons_succ]
          refine wpAnyH_take (i := 22) (oi := { dst := some 63, op := _, type := _, pos := _, after := _, guard := _ }) (v := ?_) rfl (by kernel_rfl) (by kernel_rfl) (by kernel_rfl) (fun _ _ _ h => h) (Or.inl ⟨by rfl, ?_⟩) (hH0) ?_
          rotate_left
          · (intro wx hSw; obtain ⟨q1, q2⟩ := hSw; go_simp <;> with_reducible rfl)
          simp only [Act.put, List.setIfInBounds_toArray, List.set_cons_zero, List.set_cons_succ]
          refine wpAnyH_take (i := 23) (oi := { dst := some 64, op := _, type := _, pos := _, after := _, guard := _ }) (v := ?_) rfl (by kernel_rfl) (by kernel_rfl) (by kernel_rfl) (fun _ _ _ h => h) (Or.inl ⟨by rfl, ?_⟩) (hH0) ?_
          rotate_left
          · (intro wx hSw; obtain ⟨q1, q2⟩ := hSw; go_simp <;> with_reducible rfl)
          simp only [Act.put, List.setIfInBounds_toArray, List.set_cons_zero, List.set_cons_succ]
          refine wpAnyH_take (i := 24) (oi := { dst := some 65, op := _, type := _, pos := _, after := _, guard := _ }) (v := ?_) rfl (by kernel_rfl) (by kernel_rfl) (by kernel_rfl) (fun _ _ _ h => h) (Or.inl ⟨by rfl, ?_⟩) (hH0) ?_
          rotate_left
          · (intro wx hSw; obtain ⟨q1, q2⟩ := hSw; go_simp <;> with_reducible rfl)
          simp only [Act.put, List.setIfInBounds_toArray, List.set_cons_zero, List.set_cons_succ]
          refine wpAnyH_take (i := 25) (oi := { dst := some 66, op := _, type := _, pos := _, after := _, guard := _ }) (v := ?_) rfl (by kernel_rfl) (by kernel_rfl) (by kernel_rfl) (fun _ _ _ h => h) (Or.inl ⟨by rfl, ?_⟩) (hH0) ?_
          rotate_left
          · (intro wx hSw; obtain ⟨q1, q2⟩ := hSw; go_simp <;> with_reducible rfl)
          simp only [Act.put, List.setIfInBounds_toArray, List.set_cons_zero, List.set_cons_succ]
          refine wpAnyH_take (i := 26) (oi := { dst := some 67, op := _, type := _, pos := _, after := _, guard := _ }) (v := ?_) rfl (by kernel_rfl) (by kernel_rfl) (by kernel_rfl) (fun _ _ _ h => h) (Or.inl ⟨by rfl, ?_⟩) (hH0) ?_
          rotate_left
          · (intro wx hSw; obtain ⟨q1, q2⟩ := hSw; go_simp <;> with_reducible rfl)
          simp only [Act.put, List.setIfInBounds_toArray, List.set_cons_zero, List.set_cons_succ]
          refine wpAnyH_take (i := 27) (oi := { dst := some 68, op := _, type := _, pos := _, after := _, guard := _ }) (v := ?_) rfl (by kernel_rfl) (by kernel_rfl) (by kernel_rfl) (fun _ _ _ h => h) (Or.inl ⟨by rfl, ?_⟩) (hH0) ?_
          rotate_left
          · (intro wx hSw; obtain ⟨q1, q2⟩ := hSw; go_simp <;> with_reducible rfl)
          simp only [Act.put, List.setIfInBounds_toArray, List.set_cons_zero, List.set_cons_succ]
          refine wpAnyH_take (i := 28) (oi := { dst := some 69, op := _, type := _, pos := _, after := _, guard := _ }) (v := ?_) rfl (by kernel_rfl) (by kernel_rfl) (by kernel_rfl) (fun _ _ _ h => h) (Or.inl ⟨by rfl, ?_⟩) (hH0) ?_
          rotate_left
          · (intro wx hSw; obtain ⟨q1, q2⟩ := hSw; go_simp <;> with_reducible rfl)
          simp only [Act.put, List.setIfInBounds_toArray, List.set_cons_zero, List.set_cons_succ]
          refine wpAnyH_take (i := 29) (oi := { dst := some 70, op := _, type := _, pos := _, after := _, guard := _ }) (v := ?_) rfl (by kernel_rfl) (by kernel_rfl) (by kernel_rfl) (fun _ _ _ h => h) (Or.inl ⟨by rfl, ?_⟩) (hH0) ?_
          rotate_left
          · (intro wx hSw; obtain ⟨q1, q2⟩ := hSw; go_simp <;> with_reducible rfl)
          simp only [Act.put, List.setIfInBounds_toArray, List.set_cons_zero, List.set_cons_succ]
          refine wpAnyH_take (i := 30) (oi := { dst := some 71, op := _, type := _, pos := _, after := _, guard := _ }) (v := ?_) rfl (by kernel_rfl) (by kernel_rfl) (by kernel_rfl) (fun _ _ _ h => h) (Or.inl ⟨by rfl, ?_⟩) (hH0) ?_
          rotate_left
          · (intro wx hSw; obtain ⟨q1, q2⟩ := hSw; go_simp <;> with_reducible rfl)
          simp only [Act.put, List.setIfInBounds_toArray, List.set_cons_zero, List.set_cons_succ]
          refine wpAnyH_ready (rs := [31]) (by kernel_rfl) (by simp) ?_
          refine AllReadyH.cons (o := { dst := some 72, op := _, type := _, pos := _, after := _, guard := _ }) rfl (fun K hK => ?_) AllReadyH.nil
          go_simp
          refine BY.out.mono ?_
          rintro e wq ⟨⟨z, ⟨z0, z1⟩, rfl⟩, hw⟩
          obtain rfl := hw.symm
          dsimp only
          refine hK.out _ _ hH0 (fun hH1 => ?_)
          have HZ := hide (And.intro z0 z1)
          clear hK K
          refine wpAnyH_take (i := 32) (oi := { dst := some 73, op := _, type := _, pos := _, after := _, guard := _ }) (v := ?_) rfl (by kernel_rfl) (by kernel_rfl) (by kernel_rfl) (fun _ _ _ h => h) (Or.inl ⟨by rfl, ?_⟩) (hH1) ?_
          rotate_left
          · (intro wx hSw; obtain ⟨q1, q2⟩ := hSw; go_simp <;> with_reducible rfl)
          simp only [Act.put, List.setIfInBounds_toArray, List.set_cons_zero, List.set_cons_succ]
          refine wpAnyH_take (i := 33) (oi := { dst := some 74, op := _, type := _, pos := _, after := _, guard := _ }) (v := ?_) rfl (by kernel_rfl) (by kernel_rfl) (by kernel_rfl) (fun _ _ _ h => h) (Or.inl ⟨by rfl, ?_⟩) (hH1) ?_
          rotate_left
          · (intro wx hSw; obtain ⟨q1, q2⟩ := hSw; go_simp <;> with_reducible rfl)
          simp only [Act.put, List.setIfInBounds_toArray, List.set_cons_zero, List.set_cons_succ]
          refine wpAnyH_take (i := 34) (oi := { dst := some 75, op := _, type := _, pos := _, after := _, guard := _ }) (v := ?_) rfl (by kernel_rfl) (by kernel_rfl) (by kernel_rfl) (fun _ _ _ h => h) (Or.inl ⟨by rfl, ?_⟩) (hH1) ?_
          rotate_left
          · (intro wx hSw; obtain ⟨q1, q2⟩ := hSw; go_simp <;> with_reducible rfl)
          simp only [Act.put, List.setIfInBounds_toArray, List.set_cons_zero, List.set_cons_succ]
          refine wpAnyH_ready (rs := [35]) (by kernel_rfl) (by simp) ?_
          refine AllReadyH.cons (o := { dst := some 76, op := _, type := _, pos := _, after := _, guard := _ }) rfl (fun K hK => ?_) AllReadyH.nil
          go_simp
          refine hK.out _ _ ⟨(World.cell?_alloc_lt _ _ _ lt1).trans hH1.1, (World.cell?_alloc_lt _ _ _ lt2).trans hH1.2⟩ (fun hH2 => ?_)
          clear hK K
          refine wpAnyH_ready (rs := [36]) (by kernel_rfl) (by simp) ?_
          refine AllReadyH.cons (o := { dst := some 77, op := _, type := _, pos := _, after := _, guard := _ }) rfl (fun K hK => ?_) AllReadyH.nil
          refine step_append_lies _ rfl _ _ 24 rfl w3.heap.size 2 i0 (.int .i64 0) 1 8 Try.underlying24 hi hz0 hz1 hz2 rfl (by decide) _ _ _ rfl ((owns_drew HO.out).alloc _) ⟨_, 0, none⟩ 1 1 [.int .i64 _] rfl rfl (one_new _ _ _) (by intro u hu; simp at hu; subst hu; rfl) (by omega) (by unfold maxLen; omega) (by omega) (by have := HB.out.size; simp; omega) _ rfl ?_
          intro g c w5 hown1 hgrow hat hglt
          have hB2 := below_app' HB.out HO.out hgrow
          rw [goMid cx cy HZ.out.1 HZ.out.2, ← vals_upto] at hown1
          have hm2 := HM.out.step HZ.out.1 HZ.out.2
          rw [EX.out, EY.out] at hm2
          have HO2 := hide hown1
          have HM2 := hide hm2
          have HB2 := hide hB2
          have T5 : Two w5 b (off + k) b' (off' + k) x y := ⟨by rw [← EX.out]; exact (hB2.cell (p := ⟨b, off + k, none⟩) hb).trans (HR.out k hlt), by rw [← EY.out]; exact (hB2.cell (p := ⟨b', off' + k, none⟩) hb').trans (HR'.out k hlt)⟩
          clear hgrow hat hown1 hm2 hB2
          refine hK.out _ _ T5 (fun hH3 => ?_)
          clear hK K
          simp only [Act.put, List.setIfInBounds_toArray, List.set_cons_zero, List.set_cons_succ]
          refine wpAnyH_take (i := 37) (oi := { dst := some 6, op := _, type := _, pos := _, after := _, guard := _ }) (v := ?_) rfl (by kernel_rfl) (by kernel_rfl) (by kernel_rfl) (fun _ _ _ h => h) (Or.inl ⟨by rfl, ?_⟩) (hH3) ?_
          rotate_left
          · (intro wx hSw; obtain ⟨q1, q2⟩ := hSw; go_simp <;> with_reducible rfl)
          simp only [Act.put, List.setIfInBounds_toArray, List.set_cons_zero, List.set_cons_succ]
          refine wpAnyH_done (by kernel_rfl) ?_ _
          go_wp2_with fail
          go_roundw
          case rel => exact ⟨k + 1, _, by omega, by go_num, HM2.out, HO2.out, HB2.out⟩
          case measure => simp [intOf]; omega
        · have hkn : k = n2 := by omega
          subst hkn
          obtain ⟨a3, c3, hv3, hr3, _⟩ := row_of_owns hown
          subst hv3
          have s1 := R1.out.below hbel
          have s2 := R2.out.below hbel
          obtain ⟨g1, g2, g3⟩ := Mid.part HP.out (f := f) (by rw [l1]; exact hmid)
          rw [l1] at g1 g2 g3
          obtain ⟨x0, x1⟩ := distL_bd g1
          obtain ⟨y0, y1⟩ := distL_bd g2
          rw [HQ.out] at g3
          have I1 := hide (iDistOf_any _ _ k c1 k c3 xs (ints f k) wr s1 hr3 (by omega) (by omega))
          have I2 := hide (fun w' (hb' : Below wr.heap.size wr w') => iDistOf_any _ _ k c3 k c2 (ints f k) ys w' (hr3.below hb') (s2.below hb') (by omega) (by omega))
          obtain ⟨X, eX⟩ : ∃ X, distL xs (ints f k) = X := ⟨_, rfl⟩
          obtain ⟨Y, eY⟩ : ∃ Y, distL (ints f k) ys = Y := ⟨_, rfl⟩
          rw [eX] at I1 x0 x1 g3
          rw [eY] at I2 y0 y1 g3
          clear g1 g2 eX eY s1 s2 hr3 hown hmid
          have hBw := BW.out
          go_wp2_with fail
          refine I1.out.mono ?_
          rintro e w6 ⟨rfl, hb6⟩
          go_wp2_with fail
          refine (I2.out _ hb6).mono ?_
          rintro e w7 ⟨rfl, hb7⟩
          go_wp2_with fail
          go_ret
          exact ⟨rfl, (by repeat' first | with_reducible exact Below.refl _ _ | with_reducible assumption | with_reducible refine below_drewN ?_ _ | with_reducible refine balloc ?_ _ | with_reducible refine Below.drew ?_ | with_reducible refine Below.setCell ?_ (by first | (simp; done) | (simp; omega) | omega) _ | with_reducible refine bstep ?_ (by assumption))⟩
  · rw [decide_eq_true (show 1048576 < n by omega)] at BG
    go_enter Try.func6, Try.ntmps6
    go_wp2_with fail
    refine BG.out.mono ?_
    rintro e w' ⟨rfl, rfl⟩
    go_wp2
    go_ret
    exact ⟨rfl, (by repeat' first | with_reducible exact Below.refl _ _ | with_reducible assumption | with_reducible refine below_drewN ?_ _ | with_reducible refine balloc ?_ _ | with_reducible refine Below.drew ?_ | with_reducible refine Below.setCell ?_ (by first | (simp; done) | (simp; omega) | omega) _ | with_reducible refine bstep ?_ (by assumption))⟩
end Go.Proofs.Ytppdlbhmhjheiaa
