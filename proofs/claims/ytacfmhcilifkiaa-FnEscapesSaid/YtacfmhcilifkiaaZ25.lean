/- Rows of vectors, plain: they are right, and have as many codes of -1 as numbers that are in no range. -/
import Derived.Test.YtacfmhcilifkiaaZ24
import Derived.Test.YtacfmhcilifkiaaZ22
import Derived.Test.YtacfmhcilifkiaaZ21
import Derived.Test.YtacfmhcilifkiaaZ16
import Derived.Test.YtacfmhcilifkiaaZ1
import Derived.OpenShut
namespace Go.Proofs.Ytacfmhcilifkiaa
open Go.RowKit
set_option maxRecDepth 8000
set_option linter.unusedSimpArgs false
set_option linter.unusedVariables false

theorem code_mono0 (lo hi N x y : Int) (hN : 0 < N) (hS : lo ≤ hi) (h : x ≤ y) : codeN lo hi N x ≤ codeN lo hi N y := by
  unfold codeN
  refine Int.ediv_le_ediv (by omega) ?_
  have := Int.mul_le_mul_of_nonneg_right (show x - lo + 1 ≤ y - lo + 1 by omega) (show 0 ≤ N by omega)
  omega

theorem from_scale0 (lo hi N k i : Int) (hk : 0 < k) : fromN lo hi (N * k) (i * k) = fromN lo hi N i := by
  unfold fromN
  rw [← Int.mul_assoc, Int.mul_ediv_mul_of_pos_left _ _ hk]

theorem code_scale0 (lo hi N k x : Int) (hN : 0 < N) (hk : 0 < k) (hS : lo ≤ hi) : codeN lo hi (N * k) x / k = codeN lo hi N x := by
  have key : ∀ q : Int, q ≤ codeN lo hi (N * k) x / k ↔ q ≤ codeN lo hi N x := by
    intro q
    rw [Int.le_ediv_iff_mul_le hk, ← from_le lo hi (N * k) (q * k) x (Int.mul_pos hN hk) hS, from_scale0 lo hi N k q hk, from_le lo hi N q x hN hS]
  have a := (key (codeN lo hi (N * k) x / k)).1 (Int.le_refl _)
  have b := (key (codeN lo hi N x)).2 (Int.le_refl _)
  omega

theorem codeB_in {lo hi x t : Int} (hr : rightB lo hi = true) (h : lo ≤ x ∧ x ≤ hi) (ht : tierB t = true) : codeB lo hi t x = codeN lo hi (cellsN t) x := by
  unfold codeB hasB inB
  rw [hr, decide_eq_true h, ht]
  rfl
/-- A number's codes are those of a number. -/
theorem rowAt_code {lo hi x : Int} (hr : rightB lo hi = true) (hx : compB x = true) : rowAt lo hi (codeB lo hi 1 x) (codeB lo hi 2 x) (codeB lo hi 3 x) = true := by
  obtain ⟨a1, a2, a3, a4, a5⟩ := right_nums hr
  have hx' : -1048576 ≤ x ∧ x ≤ 1048576 := of_decide_eq_true hx
  by_cases h : lo ≤ x ∧ x ≤ hi
  · rw [codeB_in hr h rfl, codeB_in hr h rfl, codeB_in hr h rfl]
    show rowAt lo hi (codeN lo hi 2 x) (codeN lo hi 16 x) (codeN lo hi 256 x) = true
    have c0 := code_nonneg lo hi 256 x (by omega) h.1 a5
    have c1 := code_lt lo hi 256 x (by omega) h.2 a5
    have e1 : fromN lo hi 256 (codeN lo hi 256 x) ≤ x := (from_le lo hi 256 _ x (by omega) a5).2 (Int.le_refl _)
    have e2 : ¬ fromN lo hi 256 (codeN lo hi 256 x + 1) ≤ x := fun q => by have := (from_le lo hi 256 _ x (by omega) a5).1 q; omega
    have fb := from_bounds lo hi 256 (codeN lo hi 256 x) (by omega) c0 (by omega) a5
    have hcB : cellB lo hi 3 (codeN lo hi 256 x) = true := by
      simp only [cellB, hr, show tierB 3 = true from rfl, show cellsN 3 = 256 from rfl, Bool.true_and, Bool.or_eq_true, Bool.and_eq_true, decide_eq_true_eq]
      exact .inr ⟨⟨c0, c1⟩, by omega⟩
    have hne : ¬ codeN lo hi 256 x = -1 := by omega
    have hcl : cellLo lo hi 3 (codeN lo hi 256 x) = fromN lo hi 256 (codeN lo hi 256 x) := by simp only [cellLo, hcB, if_true, hne, if_false, show cellsN 3 = 256 from rfl]
    obtain ⟨y, hy⟩ : ∃ y, fromN lo hi 256 (codeN lo hi 256 x) = y := ⟨_, rfl⟩
    have e3 : codeN lo hi 256 y = codeN lo hi 256 x := by
      have p := (from_le lo hi 256 (codeN lo hi 256 x) y (by omega) a5).1 (by omega)
      have q := code_mono0 lo hi 256 y x (by omega) a5 (by omega)
      omega
    have e4 : codeN lo hi 16 y = codeN lo hi 16 x := by
      rw [← code_scale0 lo hi 16 16 y (by omega) (by omega) a5, ← code_scale0 lo hi 16 16 x (by omega) (by omega) a5]
      show codeN lo hi 256 y / 16 = codeN lo hi 256 x / 16
      rw [e3]
    have e5 : codeN lo hi 2 y = codeN lo hi 2 x := by
      rw [← code_scale0 lo hi 2 128 y (by omega) (by omega) a5, ← code_scale0 lo hi 2 128 x (by omega) (by omega) a5]
      show codeN lo hi 256 y / 128 = codeN lo hi 256 x / 128
      rw [e3]
    have hyi : lo ≤ y ∧ y ≤ hi := by omega
    unfold rowAt numIB numI
    rw [if_neg hne, if_neg hne, hcl, hy, hcB, codeB_in hr hyi rfl, codeB_in hr hyi rfl, codeB_in hr hyi rfl]
    show (true && ((codeN lo hi 2 y == codeN lo hi 2 x) && ((codeN lo hi 16 y == codeN lo hi 16 x) && (codeN lo hi 256 y == codeN lo hi 256 x)))) = true
    rw [e3, e4, e5]
    simp
  · rw [codeB_off h, codeB_off h, codeB_off h]
    unfold rowAt numIB numI
    rw [if_pos rfl, if_pos rfl]
    by_cases h1 : -1048576 < lo
    · rw [if_pos h1, codeB_off (x := lo - 1) (by omega), codeB_off (x := lo - 1) (by omega), codeB_off (x := lo - 1) (by omega), decide_eq_true h1]
      simp
    · have h2 : hi < 1048576 := by omega
      rw [if_neg h1, if_pos h2, codeB_off (x := hi + 1) (by omega), codeB_off (x := hi + 1) (by omega), codeB_off (x := hi + 1) (by omega), decide_eq_true h2]
      simp

theorem form_parts {n m : Nat} {f g : Nat → Int} {xs : List Int} (h : formB n f g m xs = true) : boxB n f g = true ∧ vecOkB xs = true ∧ n = m := by
  unfold formB at h
  simp only [Bool.and_eq_true, decide_eq_true_eq] at h
  exact ⟨h.1.1, h.1.2, h.2⟩

theorem row_right {n : Nat} {f g : Nat → Int} {xs : List Int} (h : formB n f g n xs = true) (hl : xs.length = n) : rowOkB n f g (ints (vcode f g xs 1) n) (ints (vcode f g xs 2) n) (ints (vcode f g xs 3) n) = true := by
  obtain ⟨hb, hv, _⟩ := form_parts h
  unfold rowOkB
  rw [hb, ints_len, ints_len, ints_len, decide_eq_true ⟨rfl, rfl, rfl⟩, Bool.true_and, Bool.true_and]
  refine allN_yes fun i hi => ?_
  rw [nth_ints _ n i hi, nth_ints _ n i hi, nth_ints _ n i hi]
  exact rowAt_code (boxB_at' hb hi) (vecOkB_at hv (by omega))
/-- How many of the first k numbers are in no range. -/
def missN (f g : Nat → Int) (xs : List Int) : Nat → Nat
  | 0 => 0
  | k + 1 => missN f g xs k + if hasB (f k) (g k) (nth xs k) then 0 else 1

theorem missN_le (f g : Nat → Int) (xs : List Int) : ∀ k, missN f g xs k ≤ k
  | 0 => Nat.le_refl _
  | k + 1 => by have := missN_le f g xs k; unfold missN; split <;> omega

theorem esc_miss {n : Nat} {f g : Nat → Int} {xs : List Int} (hr : ∀ i, i < n → rightB (f i) (g i) = true) : ∀ k, k ≤ n → escN (nth (ints (vcode f g xs 3) n)) k = missN f g xs k
  | 0, _ => rfl
  | k + 1, h => by
    have ih := esc_miss (xs := xs) hr k (by omega)
    show escN _ k + outD _ k = missN f g xs k + _
    rw [ih]
    congr 1
    unfold outD
    rw [nth_ints _ n k (by omega)]
    unfold vcode
    by_cases hx : f k ≤ nth xs k ∧ nth xs k ≤ g k
    · have hh : hasB (f k) (g k) (nth xs k) = true := by unfold hasB inB; rw [hr k (by omega), decide_eq_true hx]; rfl
      have := code_nonneg (f k) (g k) 256 (nth xs k) (by omega) hx.1 (right_nums (hr k (by omega))).2.2.2.2
      rw [codeB_in (hr k (by omega)) hx rfl, hh, if_neg (show ¬ codeN (f k) (g k) (cellsN 3) (nth xs k) = -1 by show ¬ codeN (f k) (g k) 256 (nth xs k) = -1; omega)]
      rfl
    · have hh : hasB (f k) (g k) (nth xs k) = false := by unfold hasB inB; rw [decide_eq_false hx, Bool.and_false]
      rw [codeB_off hx, hh]
      rfl
/-- A vector's own ranges. -/
theorem own_lo (xs : List Int) (p : Nat) : loF [xs] p 1 = nth xs p := by show min (nth xs p) (nth xs p) = _; omega

theorem own_hi (xs : List Int) (p : Nat) : hiF [xs] p 1 = nth xs p := by show max (nth xs p) (nth xs p) = _; omega

theorem own_rng {xs : List Int} (h : vecOkB xs = true) : rngB [xs] = true ∧ rngN [xs] = xs.length := by
  have ha : alikeB [xs] = true := decide_eq_true fun k hk => by
    have : k = 0 := by simp at hk; omega
    subst this
    show (vecOkB xs && decide (xs.length = xs.length)) = true
    rw [h]; simp
  have hb : rngB [xs] = true := by rw [rng_of (by simp) (by simp), ha]
  exact ⟨hb, by unfold rngN; rw [hb]; rfl⟩

theorem own_right {xs : List Int} (h : vecOkB xs = true) {F G : Nat → Int} (hF : ∀ p, F p = nth xs p) (hG : ∀ p, G p = nth xs p) : formB xs.length F G xs.length xs = true ∧ ∀ k, k ≤ xs.length → missN F G xs k = 0 := by
  have hl := vecOk_len h
  have hr : ∀ i, i < xs.length → rightB (F i) (G i) = true := fun i hi => by unfold rightB; rw [hF, hG, vecOkB_at h hi]; simp
  refine ⟨?_, fun k hk => ?_⟩
  · unfold formB boxB
    rw [decide_eq_true hl, allN_yes hr, h]
    simp
  · induction k with
    | zero => rfl
    | succ k ih =>
      unfold missN
      rw [ih (by omega)]
      have : hasB (F k) (G k) (nth xs k) = true := by unfold hasB inB; rw [hr k (by omega), hF, hG]; simp
      rw [this]; rfl
end Go.Proofs.Ytacfmhcilifkiaa

/- The walk of the law FnEscapes. -/
namespace Go.Proofs.Ytacfmhcilifkiaa
open Go.RowKit
set_option maxRecDepth 8000
set_option linter.unusedSimpArgs false
set_option linter.unusedVariables false

/-- A range and a number that are read. -/
structure Ez (w : World) (b o : Nat) (lo hi : Int) (b1 o1 : Nat) (x : Int) : Prop where
  lb : b < w.heap.size
  h0 : w.cell? ⟨b, o, none⟩ = some (.int .i64 lo)
  h1 : w.cell? ⟨b, o + 1, none⟩ = some (.int .i64 hi)
  l1 : b1 < w.heap.size
  h2 : w.cell? ⟨b1, o1, none⟩ = some (.int .i64 x)

theorem Ez.below {w w' : World} {b o : Nat} {lo hi : Int} {b1 o1 : Nat} {x : Int} (h : Ez w b o lo hi b1 o1 x) (hb : Below w.heap.size w w') : Ez w' b o lo hi b1 o1 x :=
  ⟨Nat.lt_of_lt_of_le h.lb hb.size, (hb.cell (p := ⟨b, o, none⟩) h.lb).trans h.h0, (hb.cell (p := ⟨b, o + 1, none⟩) h.lb).trans h.h1, Nat.lt_of_lt_of_le h.l1 hb.size, (hb.cell (p := ⟨b1, o1, none⟩) h.l1).trans h.h2⟩

theorem Ez.drew {w : World} {b o : Nat} {lo hi : Int} {b1 o1 : Nat} {x : Int} (h : Ez w b o lo hi b1 o1 x) : Ez w.drew b o lo hi b1 o1 x := h.below (Below.drew (Below.refl _ _))
/-- A list of one vector. -/
theorem mat_one {w : World} {a : Option Addr} {n c : Nat} {xs : List Int} (h : Row w a n xs) (hn : n ≤ 1048576) (T : TypeId) : Mat (w.alloc (.cells #[.slice a n c] T)) (some ⟨w.heap.size, 0, none⟩) 1 [xs] := by
  refine ⟨rfl, .inr ⟨w.heap.size, 0, rfl, by simp, fun i hi => ?_⟩⟩
  obtain rfl : i = 0 := by omega
  exact ⟨a, n, c, by simp, h.below (balloc (Below.refl _ _) _), hn⟩

set_option maxHeartbeats 16000000 in
theorem escapes_walk (a : Option Addr) (n cap : Nat) (zs : List Int) (w : World) (h : IsRow .u8 w a n cap zs) :
    Calls Try.prog 3 #[.slice a n cap] w fun e w' => e = .returned (.bool true) ∧ Below w.heap.size w w' := by
  have BG := hide (big_any a n cap w)
  by_cases hn : n ≤ 1048576
  · rw [decide_eq_false (show ¬ 1048576 < n by omega)] at BG
    have DR := hide (drawRowOf_any a n cap w (h.code hn))
    clear h
    go_enter Try.func3, Try.ntmps3
    go_wp2_with fail
    refine BG.out.mono ?_
    rintro e w' ⟨rfl, hw⟩
    obtain rfl := hw.symm
    clear BG hw
    go_wp2_with fail
    refine DR.out.mono ?_
    rintro e w1 ⟨b, off, d, cp, F, G, a2, n2, c2, xs, rfl, hd1, hd8, hp, hrt, hr, hn2, hb1⟩
    have IR := hide (fun w1 hp hr => iRowOf_any (some ⟨b, off, none⟩) a2 d cp n2 c2 F G xs w1 hp hr (by omega))
    have SR := hide (fun w1 hp hr => sRowOf_any (some ⟨b, off, none⟩) a2 d cp n2 c2 F G xs w1 hp hr (by omega) (by omega))
    obtain ⟨ok, hok⟩ : ∃ v, formB d F G n2 xs = v := ⟨_, rfl⟩
    simp only [hok] at IR SR
    have P1 := hide hp
    have R1 := hide hr
    have B1 := hide hb1
    have HL := hide hr.len
    have FACT : Hid (formB d F G n2 xs = ok) := hide hok
    clear hp hr hb1 hok DR hrt
    go_wp2_with fail
    refine (IR.out _ P1.out R1.out).mono ?_
    rintro e w2 ⟨m, q1, q2, q3, k1, k2, k3, rfl, hm, h3, hb2⟩
    obtain ⟨y1, y2, y3⟩ := h3.rows
    have ba2 : Below w2.heap.size w2 (w2.alloc (.cells #[.slice q1 m k1, .slice q2 m k2, .slice q3 m k3] 29)) := balloc (Below.refl _ _) _
    have P2 := hide ((P1.out.below hb2).below ba2)
    have R2 := hide ((R1.out.below hb2).below ba2)
    have B2 := hide (bstep (bstep B1.out hb2) ba2)
    have X2 := hide (TriW.new w2 (.slice q1 m k1) (.slice q2 m k2) (.slice q3 m k3) 29 _ rfl)
    have V2 : Hid (RowV.is ⟨q1, q2, q3, m, m, m, k1, k2, k3⟩ _ _ _ _) := hide (RowV.is.below (⟨y1, y2, y3⟩ : RowV.is ⟨q1, q2, q3, m, m, m, k1, k2, k3⟩ w2 _ _ _) ba2)
    have HM := hide hm
    clear h3 y1 y2 y3 hb2 ba2 P1 R1 B1 hm
    go_wp2_with fail
    refine (SR.out _ P2.out R2.out).mono ?_
    rintro e w3 ⟨v, rfl, s1, s2, s3, j1, j2, j3, rfl, _, _, _, hb3⟩
    obtain ⟨mm, hmm⟩ : ∃ mm, (if ok = true then d else 0) = mm := ⟨_, rfl⟩
    rw [hmm]
    have ba3 : Below w3.heap.size w3 (w3.alloc (.cells #[.slice s1 mm j1, .slice s2 mm j2, .slice s3 mm j3] 29)) := balloc (Below.refl _ _) _
    have P3 := hide ((P2.out.below hb3).below ba3)
    have R3 := hide ((R2.out.below hb3).below ba3)
    have B3 := hide (bstep (bstep B2.out hb3) ba3)
    have X3 := hide ((X2.out.below hb3).below ba3)
    have V3 := hide ((V2.out.below hb3).below ba3)
    clear hb3 ba3 P2 R2 B2 X2 V2 hmm SR
    obtain ⟨z, hz⟩ : ∃ z, w2.heap.size = z := ⟨_, rfl⟩
    rw [hz] at X3
    rw [hz]
    clear hz
    have t1 : (ok != ok) = false := by cases ok <;> rfl
    have t2 : (ok == ok) = true := by cases ok <;> rfl
    cases ok
    · go_wp2_with fail
      go_ret
      exact ⟨rfl, B3.out⟩
    · have hmd : d = m := by have := HM.out; simpa using this.symm
      subst hmd
      have hnd : d = n2 := (form_parts FACT.out).2.2
      subst hnd
      have hxl := HL.out
      have hrow := row_right FACT.out hxl
      have hbx := (form_parts FACT.out).1
      have hvx := (form_parts FACT.out).2.1
      have EV : Hid (escV (rowOkB d F G (ints (vcode F G xs 1) d) (ints (vcode F G xs 2) d) (ints (vcode F G xs 3) d)) (nth (ints (vcode F G xs 3) d)) d = (missN F G xs d : Int)) := hide (by
        unfold escV
        rw [hrow, if_pos rfl, esc_miss (fun i hi => boxB_at' hbx hi) d (Nat.le_refl _)])
      have IE := hide (fun w1 hp hr => iEscapesOf_any (some ⟨b, off, none⟩) d cp F G ⟨q1, q2, q3, d, d, d, k1, k2, k3⟩ (ints (vcode F G xs 1) d) (ints (vcode F G xs 2) d) (ints (vcode F G xs 3) d) w1 hp hr)
      have VX := hide hvx
      clear FACT HM HL hrow hbx hvx
      obtain ⟨b2, o2, ea2, lt2, hc2⟩ : ∃ b2 o2, a2 = some ⟨b2, o2, none⟩ ∧ b2 < (w3.alloc (.cells #[.slice s1 mm j1, .slice s2 mm j2, .slice s3 mm j3] 29)).heap.size ∧ ∀ i, i < d → (w3.alloc (.cells #[.slice s1 mm j1, .slice s2 mm j2, .slice s3 mm j3] 29)).cell? ⟨b2, o2 + i, none⟩ = some (.int .i64 (nth xs i)) := by
        rcases R3.out.lies with h0 | h0
        · omega
        · exact h0
      have hpc : ∀ i, i < d → (w3.alloc (.cells #[.slice s1 mm j1, .slice s2 mm j2, .slice s3 mm j3] 29)).cell? ⟨b, off + i * 2, none⟩ = some (.int .i64 (F i)) ∧ (w3.alloc (.cells #[.slice s1 mm j1, .slice s2 mm j2, .slice s3 mm j3] 29)).cell? ⟨b, off + i * 2 + 1, none⟩ = some (.int .i64 (G i)) := by
        rcases P3.out.lies with h0 | ⟨b', off', e, _, hc⟩
        · omega
        · cases e; exact hc
      have hpl : b < (w3.alloc (.cells #[.slice s1 mm j1, .slice s2 mm j2, .slice s3 mm j3] 29)).heap.size := by
        rcases P3.out.lies with h0 | ⟨b', off', e, lt, _⟩
        · omega
        · cases e; exact lt
      obtain ⟨W3, hW3⟩ : ∃ W, (w3.alloc (.cells #[.slice s1 mm j1, .slice s2 mm j2, .slice s3 mm j3] 29)) = W := ⟨_, rfl⟩
      rw [hW3] at P3 R3 B3 X3 V3 hpc hpl lt2 hc2
      subst ea2
      have HC2 := hide hc2
      have HPC := hide hpc
      have HW3 := hide hW3
      clear hW3 hc2 hpc
      go_wp2_with fail
      rw [HW3.out]
      clear HW3
      go_loopw [9, 10] (fun c i wr => ∃ k : Nat, k ≤ d ∧ i = .int .i64 k ∧ c = .int .i64 (missN F G xs k) ∧ Below W3.heap.size W3 wr) (fun _ i _ => d - (intOf i).toNat)
      case atStart => exact ⟨0, Nat.zero_le _, rfl, rfl, Below.refl _ _⟩
      case round =>
        obtain ⟨k, hk, rfl, rfl, hbel⟩ := hrel
        have HB := hide hbel
        have bsz := hbel.size
        clear hbel
        have mle := missN_le F G xs k
        by_cases hkl : k < d
        · have hkl' : (k : Int) < (d : Int) := by omega
          have T : Hid (Ez wr b (off + k * 2) (F k) (G k) b2 (o2 + k) (nth xs k)) := hide ⟨by omega, (HB.out.cell (p := ⟨b, off + k * 2, none⟩) hpl).trans (HPC.out k hkl).1, (HB.out.cell (p := ⟨b, off + k * 2 + 1, none⟩) hpl).trans (HPC.out k hkl).2, by omega, (HB.out.cell (p := ⟨b2, o2 + k, none⟩) lt2).trans (HC2.out k hkl)⟩
          have RH := hide (fun w1 => iRangeHas_any (F k) (G k) (nth xs k) w1)
          obtain ⟨hv, hhv⟩ : ∃ v, hasB (F k) (G k) (nth xs k) = v := ⟨_, rfl⟩
          simp only [hhv] at RH
          have E1 : Hid (missN F G xs (k + 1) = missN F G xs k + if hv then 0 else 1) := hide (by rw [← hhv]; rfl)
          obtain ⟨mk, hmk⟩ : ∃ mk, missN F G xs k = mk := ⟨_, rfl⟩
          rw [hmk] at E1 mle ⊢
          clear hhv hmk
          go_upto_region 12 with fail
          refine wp_region_held_drew (S := fun wx => Ez wx b (off + k * 2) (F k) (G k) b2 (o2 + k) (nth xs k)) (by kernel_rfl) (T.out.drew) (fun hH0 => ?_)
          refine wpAnyH_take (i := 0) (oi := { dst := some 50, op := _, type := _, pos := _, after := _, guard := _ }) (v := ?_) rfl (by kernel_rfl) (by kernel_rfl) (by kernel_rfl) (fun _ _ _ h => h) (Or.inl ⟨by rfl, ?_⟩) (hH0) ?_
          rotate_left
          · (intro wx hSw; obtain ⟨_, p0, p1, _, p2⟩ := hSw; go_simp <;> with_reducible rfl)
          simp only [Act.put, List.setIfInBounds_toArray, List.set_cons_zero, List.set_cons_succ]
          refine wpAnyH_take (i := 1) (oi := { dst := some 51, op := _, type := _, pos := _, after := _, guard := _ }) (v := ?_) rfl (by kernel_rfl) (by kernel_rfl) (by kernel_rfl) (fun _ _ _ h => h) (Or.inl ⟨by rfl, ?_⟩) (hH0) ?_
          rotate_left
          · (intro wx hSw; obtain ⟨_, p0, p1, _, p2⟩ := hSw; go_simp <;> with_reducible rfl)
          simp only [Act.put, List.setIfInBounds_toArray, List.set_cons_zero, List.set_cons_succ]
          refine wpAnyH_take (i := 2) (oi := { dst := some 52, op := _, type := _, pos := _, after := _, guard := _ }) (v := ?_) rfl (by kernel_rfl) (by kernel_rfl) (by kernel_rfl) (fun _ _ _ h => h) (Or.inl ⟨by rfl, ?_⟩) (hH0) ?_
          rotate_left
          · (intro wx hSw; obtain ⟨_, p0, p1, _, p2⟩ := hSw; go_simp <;> with_reducible rfl)
          simp only [Act.put, List.setIfInBounds_toArray, List.set_cons_zero, List.set_cons_succ]
          refine wpAnyH_take (i := 3) (oi := { dst := some 53, op := _, type := _, pos := _, after := _, guard := _ }) (v := ?_) rfl (by kernel_rfl) (by kernel_rfl) (by kernel_rfl) (fun _ _ _ h => h) (Or.inl ⟨by rfl, ?_⟩) (hH0) ?_
          rotate_left
          · (intro wx hSw; obtain ⟨_, p0, p1, _, p2⟩ := hSw; go_simp <;> with_reducible rfl)
          simp only [Act.put, List.setIfInBounds_toArray, List.set_cons_zero, List.set_cons_succ]
          refine wpAnyH_take (i := 4) (oi := { dst := some 54, op := _, type := _, pos := _, after := _, guard := _ }) (v := ?_) rfl (by kernel_rfl) (by kernel_rfl) (by kernel_rfl) (fun _ _ _ h => h) (Or.inl ⟨by rfl, ?_⟩) (hH0) ?_
          rotate_left
          · (intro wx hSw; obtain ⟨_, p0, p1, _, p2⟩ := hSw; go_simp <;> with_reducible rfl)
          simp only [Act.put, List.setIfInBounds_toArray, List.set_cons_zero, List.set_cons_succ]
          refine wpAnyH_take (i := 5) (oi := { dst := some 55, op := _, type := _, pos := _, after := _, guard := _ }) (v := ?_) rfl (by kernel_rfl) (by kernel_rfl) (by kernel_rfl) (fun _ _ _ h => h) (Or.inl ⟨by rfl, ?_⟩) (hH0) ?_
          rotate_left
          · (intro wx hSw; obtain ⟨_, p0, p1, _, p2⟩ := hSw; go_simp <;> with_reducible rfl)
          simp only [Act.put, List.setIfInBounds_toArray, List.set_cons_zero, List.set_cons_succ]
          refine wpAnyH_take (i := 6) (oi := { dst := some 56, op := _, type := _, pos := _, after := _, guard := _ }) (v := ?_) rfl (by kernel_rfl) (by kernel_rfl) (by kernel_rfl) (fun _ _ _ h => h) (Or.inl ⟨by rfl, ?_⟩) (hH0) ?_
          rotate_left
          · (intro wx hSw; obtain ⟨_, p0, p1, _, p2⟩ := hSw; go_simp <;> with_reducible rfl)
          simp only [Act.put, List.setIfInBounds_toArray, List.set_cons_zero, List.set_cons_succ]
          refine wpAnyH_take (i := 7) (oi := { dst := some 57, op := _, type := _, pos := _, after := _, guard := _ }) (v := ?_) rfl (by kernel_rfl) (by kernel_rfl) (by kernel_rfl) (fun _ _ _ h => h) (Or.inl ⟨by rfl, ?_⟩) (hH0) ?_
          rotate_left
          · (intro wx hSw; obtain ⟨_, p0, p1, _, p2⟩ := hSw; go_simp <;> with_reducible rfl)
          simp only [Act.put, List.setIfInBounds_toArray, List.set_cons_zero, List.set_cons_succ]
          refine wpAnyH_ready (rs := [8]) (by kernel_rfl) (by simp) ?_
          refine AllReadyH.cons (o := { dst := some 58, op := _, type := _, pos := _, after := _, guard := _ }) rfl (fun K hK => ?_) AllReadyH.nil
          go_simp
          refine (RH.out _).mono ?_
          rintro e w_c58_1 ⟨rfl, hb_c58_1⟩
          dsimp only
          refine hK.out _ _ (Ez.below hH0 hb_c58_1) (fun hH1 => ?_)
          clear hK K
          refine wpAnyH_take (i := 9) (oi := { dst := some 59, op := _, type := _, pos := _, after := _, guard := _ }) (v := ?_) rfl (by kernel_rfl) (by kernel_rfl) (by kernel_rfl) (fun _ _ _ h => h) (Or.inl ⟨by rfl, ?_⟩) (hH1) ?_
          rotate_left
          · (intro wx hSw; obtain ⟨_, p0, p1, _, p2⟩ := hSw; go_simp <;> with_reducible rfl)
          simp only [Act.put, List.setIfInBounds_toArray, List.set_cons_zero, List.set_cons_succ]
          refine wpAnyH_done (by kernel_rfl) ?_ _
          -- behind it: go_wp2_with fail, then go_meet (a cut) or go_ret; the condition at the end: hH1
          cases hv
          · go_wp2_with fail
            go_roundw
            case rel =>
              have hbt := HB.out
              exact ⟨k + 1, by omega, by go_num, by rw [E1.out]; go_num, (by repeat' first | with_reducible exact Below.refl _ _ | with_reducible assumption | with_reducible refine below_drewN ?_ _ | with_reducible refine balloc ?_ _ | with_reducible refine Below.drew ?_ | with_reducible refine Below.setCell ?_ (by first | (simp; done) | (simp; omega) | omega) _ | with_reducible refine bstep ?_ (by assumption))⟩
            case measure => simp [intOf]; omega
          · go_wp2_with fail
            go_roundw
            case rel =>
              have hbt := HB.out
              exact ⟨k + 1, by omega, by go_num, by rw [E1.out]; rfl, (by repeat' first | with_reducible exact Below.refl _ _ | with_reducible assumption | with_reducible refine below_drewN ?_ _ | with_reducible refine balloc ?_ _ | with_reducible refine Below.drew ?_ | with_reducible refine Below.setCell ?_ (by first | (simp; done) | (simp; omega) | omega) _ | with_reducible refine bstep ?_ (by assumption))⟩
            case measure => simp [intOf]; omega
        · obtain rfl : k = d := by omega
          obtain ⟨orB, orN⟩ := own_rng VX.out
          have hxk : xs.length = k := hxl
          have MO := mat_one (c := c2) (R3.out.below HB.out) (by omega) 25
          have IG := hide (iRangesP _ 1 1 [xs] _ MO (by omega))
          unfold RngP at IG
          rw [orB, orN, hxk] at IG
          obtain ⟨F', hF'⟩ : ∃ F', (fun p => loF [xs] p [xs].length) = F' := ⟨_, rfl⟩
          obtain ⟨G', hG'⟩ : ∃ G', (fun p => hiF [xs] p [xs].length) = G' := ⟨_, rfl⟩
          rw [hF', hG'] at IG
          have oF : ∀ p, F' p = nth xs p := fun p => by rw [← hF']; exact own_lo xs p
          have oG : ∀ p, G' p = nth xs p := fun p => by rw [← hG']; exact own_hi xs p
          obtain ⟨oform, omiss⟩ := own_right VX.out oF oG
          rw [hxk] at oform omiss
          have obx := (form_parts oform).1
          have EV2 : Hid (escV (rowOkB k F' G' (ints (vcode F' G' xs 1) k) (ints (vcode F' G' xs 2) k) (ints (vcode F' G' xs 3) k)) (nth (ints (vcode F' G' xs 3) k)) k = 0) := hide (by
            unfold escV
            rw [row_right oform hxk, if_pos rfl, esc_miss (fun i hi => boxB_at' obx hi) k (Nat.le_refl _), omiss k (Nat.le_refl _)]
            rfl)
          have OF := hide oform
          have P4 := hide (P3.out.below HB.out)
          have R4 := hide (R3.out.below HB.out)
          have B4 := hide (bstep B3.out HB.out)
          have X4 := hide (X3.out.below HB.out)
          have V4 := hide (V3.out.below HB.out)
          obtain ⟨mk, hmk⟩ : ∃ mk, missN F G xs k = mk := ⟨_, rfl⟩
          rw [hmk] at EV mle ⊢
          clear orB orN MO hF' hG' oF oG oform omiss obx HB hmk P3 R3 B3 X3 V3 HC2 HPC
          go_wp2_with fail
          refine IG.out.mono ?_
          rintro e w5 ⟨oa, oc, rfl, hp5, _, hb5⟩
          have ba5 : Below wr.heap.size wr (wr.alloc (.cells #[.slice (some ⟨b2, o2, none⟩) k c2] 25)) := balloc (Below.refl _ _) _
          have bb5 := bstep ba5 hb5
          have OP := hide hp5
          have P5 := hide (P4.out.below bb5)
          have R5 := hide (R4.out.below bb5)
          have B5 := hide (bstep B4.out bb5)
          have X5 := hide (X4.out.below bb5)
          have V5 := hide (V4.out.below bb5)
          have IO := hide (fun w1 hp hr => iRowOf_any oa (some ⟨b2, o2, none⟩) k oc k c2 F' G' xs w1 hp hr (by omega))
          rw [OF.out] at IO
          clear hp5 hb5 ba5 bb5 P4 R4 B4 X4 V4 IG
          go_wp2_with fail
          refine (IO.out _ OP.out R5.out).mono ?_
          rintro e w6 ⟨m', u1, u2, u3, l1, l2, l3, rfl, hm', h3', hb6⟩
          have hm'' : k = m' := by simpa using hm'.symm
          subst hm''
          obtain ⟨y1, y2, y3⟩ := h3'.rows
          have ba6 : Below w6.heap.size w6 (w6.alloc (.cells #[.slice u1 k l1, .slice u2 k l2, .slice u3 k l3] 29)) := balloc (Below.refl _ _) _
          have bb6 := bstep hb6 ba6
          have OP6 := hide (OP.out.below bb6)
          have P6 := hide (P5.out.below bb6)
          have B6 := hide (bstep B5.out bb6)
          have X6 := hide (X5.out.below bb6)
          have V6 := hide (V5.out.below bb6)
          have XX := hide (TriW.new w6 (.slice u1 k l1) (.slice u2 k l2) (.slice u3 k l3) 29 _ rfl)
          have VV : Hid (RowV.is ⟨u1, u2, u3, k, k, k, l1, l2, l3⟩ _ _ _ _) := hide (RowV.is.below (⟨y1, y2, y3⟩ : RowV.is ⟨u1, u2, u3, k, k, k, l1, l2, l3⟩ w6 _ _ _) ba6)
          have IE2 := hide (fun w1 hp hr => iEscapesOf_any oa k oc F' G' ⟨u1, u2, u3, k, k, k, l1, l2, l3⟩ (ints (vcode F' G' xs 1) k) (ints (vcode F' G' xs 2) k) (ints (vcode F' G' xs 3) k) w1 hp hr)
          rw [EV2.out] at IE2
          have IE1 := hide (IE.out _ P6.out V6.out)
          rw [EV.out] at IE1
          clear hm' h3' hb6 y1 y2 y3 OP P5 R5 B5 X5 V5 IO ba6 bb6 IE V6 P6
          obtain ⟨_, x0, x1, x2, _, _, _⟩ := X6.out
          have tE : ((mk : Int) == (mk : Int)) = true := by simp
          unfold RowV.v at IE1 IE2
          simp only at IE1 IE2
          go_wp2_with fail
          refine IE1.out.mono ?_
          rintro e w7 ⟨rfl, hb7⟩
          have XX7 := hide (XX.out.below hb7)
          have B7 := hide (bstep B6.out hb7)
          have IE3 := hide (IE2.out _ (OP6.out.below hb7) (VV.out.below hb7))
          obtain ⟨_, z0, z1, z2, _, _, _⟩ := XX7.out
          clear x0 x1 x2 XX hb7 IE2 OP6 VV IE1
          go_wp2_with fail
          refine IE3.out.mono ?_
          rintro e w8 ⟨rfl, hb8⟩
          have B8 := hide (bstep B7.out hb8)
          clear hb8 z0 z1 z2
          go_wp2_with fail
          go_ret
          exact ⟨rfl, B8.out⟩
  · rw [decide_eq_true (show 1048576 < n by omega)] at BG
    go_enter Try.func3, Try.ntmps3
    go_wp2_with fail
    refine BG.out.mono ?_
    rintro e w' ⟨rfl, rfl⟩
    go_wp2
    go_ret
    exact ⟨rfl, (by repeat' first | with_reducible exact Below.refl _ _ | with_reducible assumption | with_reducible refine below_drewN ?_ _ | with_reducible refine balloc ?_ _ | with_reducible refine Below.drew ?_ | with_reducible refine Below.setCell ?_ (by first | (simp; done) | (simp; omega) | omega) _ | with_reducible refine bstep ?_ (by assumption))⟩
end Go.Proofs.Ytacfmhcilifkiaa
