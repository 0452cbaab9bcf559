/- DriftOf of the program and of the model. -/
import Derived.Test.YtcgeebdhkdfkpaaMI0
import Derived.Test.YtcgeebdhkdfkpaaKD
import Derived.Test.YtcgeebdhkdfkpaaKF
import Derived.Test.YtcgeebdhkdfkpaaBK
import Derived.Test.YtcgeebdhkdfkpaaMA
namespace Go.Proofs.Ytcgeebdhkdfkpaa
open Go.RowKit
set_option maxRecDepth 8000
set_option linter.unusedSimpArgs false
set_option linter.unusedVariables false

theorem esc_missV {n : Nat} {f g : Nat → Int} {xs : List Int} (hr : ∀ i, i < n → rightB (f i) (g i) = true) : ∀ k, k ≤ n → escN (vcode f g xs 3) k = missN f g xs k
  | 0, _ => rfl
  | k + 1, h => by
    have ih := esc_missV (xs := xs) hr k (by omega)
    have e := esc_miss (xs := xs) hr (k + 1) h
    have e' := esc_miss (xs := xs) hr k (by omega)
    have o : outD (vcode f g xs 3) k = outD (nth (ints (vcode f g xs 3) n)) k := by unfold outD; rw [nth_ints _ n k (by omega)]
    show escN (vcode f g xs 3) k + outD (vcode f g xs 3) k = _
    rw [ih, o, ← e, ← e']
    rfl

theorem num_zero (c : Nat → Int) : ∀ n, numN 2 (outD c) n = 0 ↔ escN c n = 0
  | 0 => by simp [numN, escN]
  | n + 1 => by
    have ih := num_zero c n
    have p : 0 < 2 ^ n := Nat.two_pow_pos n
    show numN 2 (outD c) n + outD c n * 2 ^ n = 0 ↔ escN c n + outD c n = 0
    constructor
    · intro h
      have h1 : numN 2 (outD c) n = 0 := by omega
      have h2 : outD c n * 2 ^ n = 0 := by omega
      have h3 : outD c n = 0 := by rcases Nat.mul_eq_zero.1 h2 with h | h; exact h; omega
      rw [ih.1 h1, h3]
    · intro h
      have h1 : escN c n = 0 := by omega
      have h2 : outD c n = 0 := by omega
      rw [ih.2 h1, h2]; simp
/-- Of a list of vectors those that have a number in no range. -/
def driftAt (f g : Nat → Int) (xss : List (List Int)) (k : Nat) : Bool := decide (0 < missN f g (row xss k) (row xss k).length)
def drN (f g : Nat → Int) (xss : List (List Int)) : Nat → Nat
  | 0 => 0
  | k + 1 => drN f g xss k + if driftAt f g xss k then 1 else 0

theorem drN_le (f g : Nat → Int) (xss : List (List Int)) : ∀ k, drN f g xss k ≤ k
  | 0 => Nat.le_refl _
  | k + 1 => by have := drN_le f g xss k; unfold drN; split <;> omega
def formAt (n : Nat) (f g : Nat → Int) (xss : List (List Int)) (k : Nat) : Bool := formB n f g (row xss k).length (row xss k)
def drB (n : Nat) (f g : Nat → Int) (xss : List (List Int)) : Bool := (boxB n f g && decide (xss.length ≤ 60)) && decide (∀ k, k < xss.length → formAt n f g xss k = true)
def drV (n : Nat) (f g : Nat → Int) (xss : List (List Int)) : Int := if drB n f g xss then (drN f g xss xss.length : Int) else -1

theorem dr_no {n : Nat} {f g : Nat → Int} {xss : List (List Int)} {k : Nat} (hk : k < xss.length) (h : formAt n f g xss k = false) : drV n f g xss = -1 := by
  unfold drV drB
  rw [show decide (∀ k, k < xss.length → formAt n f g xss k = true) = false from decide_eq_false (fun q => by rw [q k hk] at h; cases h), Bool.and_false]
  rfl

theorem dr_out {n : Nat} {f g : Nat → Int} {xss : List (List Int)} (h : (boxB n f g && decide (xss.length ≤ 60)) = false) : drV n f g xss = -1 := by
  unfold drV drB
  rw [h]
  rfl

theorem dr_yes {n : Nat} {f g : Nat → Int} {xss : List (List Int)} (h : boxB n f g = true) (h60 : xss.length ≤ 60) (ha : ∀ k, k < xss.length → formAt n f g xss k = true) : drV n f g xss = (drN f g xss xss.length : Int) := by
  unfold drV drB
  rw [h, decide_eq_true h60, decide_eq_true ha]
  rfl

set_option maxHeartbeats 4000000 in
theorem iDriftOf_any (a : Option Addr) (n cap : Nat) (f g : Nat → Int) (la : Option Addr) (m lc : Nat) (xss : List (List Int)) (w : World) (h : PRow w a n f g) (hM : Mat w la m xss) (hm : m ≤ 1048576) :
    Calls Try.prog 9 #[.slice a n cap, .slice la m lc] w fun e w' => e = .returned (.int .i64 (drV n f g xss)) ∧ Below w.heap.size w w' := by
  have BO := hide (iBoxOk_any a n cap f g w h)
  have hl := hM.len
  cases hb : boxB n f g
  · rw [hb] at BO
    rw [dr_out (by rw [hb]; rfl)]
    clear h hM hl hb
    go_enter Try.func9, Try.ntmps9
    go_wp2_with fail
    refine BO.out.mono ?_
    rintro e w1 ⟨rfl, hb1⟩
    go_wp2_with fail
    go_ret
    exact ⟨rfl, (by repeat' first | with_reducible exact Below.refl _ _ | with_reducible assumption | with_reducible refine below_drewN ?_ _ | with_reducible refine balloc ?_ _ | with_reducible refine Below.drew ?_ | with_reducible refine Below.setCell ?_ (by first | (simp; done) | (simp; omega) | omega) _ | with_reducible refine bstep ?_ (by assumption))⟩
  · rw [hb] at BO
    by_cases h60 : m ≤ 60
    · have h60' : ¬ ((60 : Int) < (m : Int)) := by omega
      have PV := hide (fun k w1 (hk : k < m) (hB : Below w.heap.size w w1) => show ∃ b off, la = some ⟨b, off, none⟩ ∧ ∃ a' c', w1.cell? ⟨b, off + k, none⟩ = some (.slice a' (row xss k).length c') ∧ Calls Try.prog 20 #[.slice a n cap, .slice a' (row xss k).length c'] w1 fun e w' => e = .returned (.tuple #[packT n f g (row xss k).length (row xss k), .bool (formAt n f g xss k)]) ∧ Below w1.heap.size w1 w' from by
        rcases hM.lies with h0 | ⟨b, off, rfl, lt, hc⟩
        · omega
        · obtain ⟨a', n', c', hz, hr, hn'⟩ := hc k hk
          have e := hr.len
          subst e
          exact ⟨b, off, rfl, a', c', (hB.cell (p := ⟨b, off + k, none⟩) lt).trans hz, packVector_any a a' n cap _ c' f g (row xss k) w1 (h.below hB) (hr.below hB) hn'⟩)
      have HBX := hide hb
      have HL := hide hl
      clear h hM hl hb
      go_enter Try.func9, Try.ntmps9
      go_wp2_with fail
      refine BO.out.mono ?_
      rintro e w1 ⟨rfl, hb1⟩
      have HB1 := hide (show Below w.heap.size w w1 from (by repeat' first | with_reducible exact Below.refl _ _ | with_reducible assumption | with_reducible refine below_drewN ?_ _ | with_reducible refine balloc ?_ _ | with_reducible refine Below.drew ?_ | with_reducible refine Below.setCell ?_ (by first | (simp; done) | (simp; omega) | omega) _ | with_reducible refine bstep ?_ (by assumption)))
      clear hb1
      go_wp2_with fail
      go_loopw [5, 20] (fun c i wr => ∃ k : Nat, k ≤ m ∧ i = .int .i64 k ∧ c = .int .i64 (drN f g xss k) ∧ Hid (∀ j, j < k → formAt n f g xss j = true) ∧ Below w.heap.size w wr) (fun _ i _ => m - (intOf i).toNat)
      case atStart => exact ⟨0, Nat.zero_le _, rfl, rfl, hide (fun j hj => absurd hj (by omega)), HB1.out⟩
      case round =>
        obtain ⟨k, hk, rfl, rfl, HA, hbel⟩ := hrel
        have HB := hide hbel
        clear hbel
        by_cases hlt : k < m
        · have hlt' : (k : Int) < (m : Int) := by omega
          obtain ⟨b, off, rfl, a', c', hz, PVk⟩ := PV.out k wr hlt HB.out
          have PVk := hide PVk
          have HF : Hid (∀ v, formAt n f g xss k = v → formB n f g (row xss k).length (row xss k) = v) := hide fun v q => q
          cases hf : formAt n f g xss k
          · have HN := hide (dr_no (n := n) (f := f) (g := g) (xss := xss) (k := k) (by rw [HL.out]; exact hlt) hf)
            have ht : packT n f g (row xss k).length (row xss k) = PK0 := by unfold packT; rw [HF.out _ hf]; rfl
            rw [ht, hf] at PVk
            clear ht hf
            go_wp2_with fail
            refine PVk.out.mono ?_
            rintro e w2 ⟨rfl, hb2⟩
            have HB2 := hide (bstep HB.out hb2)
            clear hb2 hz
            go_wp2_with fail
            go_ret
            have hbt := HB2.out
            exact ⟨by (rw [HN.out]; try rfl), (by repeat' first | with_reducible exact Below.refl _ _ | with_reducible assumption | with_reducible refine below_drewN ?_ _ | with_reducible refine balloc ?_ _ | with_reducible refine Below.drew ?_ | with_reducible refine Below.setCell ?_ (by first | (simp; done) | (simp; omega) | omega) _ | with_reducible refine bstep ?_ (by assumption))⟩
          · have hF := HF.out _ hf
            have hn8 : n = (row xss k).length ∧ n ≤ 8 := ⟨(form_parts hF).2.2, (boxB_num' (form_parts hF).1).2⟩
            have hr : ∀ i, i < n → rightB (f i) (g i) = true := fun i hi => boxB_at' (form_parts hF).1 hi
            have E1 : Hid (drN f g xss (k + 1) = drN f g xss k + if driftAt f g xss k then 1 else 0) := hide rfl
            have HOut : Hid ((pD (vcode f g (row xss k) 1) (vcode f g (row xss k) 2) (vcode f g (row xss k) 3) n != 0) = driftAt f g xss k) := hide (by
              unfold driftAt pD
              rw [← hn8.1, ← esc_missV hr n (Nat.le_refl _)]
              have q := num_zero (vcode f g (row xss k) 3) n
              by_cases h0 : escN (vcode f g (row xss k) 3) n = 0
              · rw [q.2 h0, h0]; rfl
              · have q' : ¬ numN 2 (outD (vcode f g (row xss k) 3)) n = 0 := fun r => h0 (q.1 r)
                rw [decide_eq_true (by omega), bne_iff_ne]
                omega)
            have ht : packT n f g (row xss k).length (row xss k) = PK (vcode f g (row xss k) 1) (vcode f g (row xss k) 2) (vcode f g (row xss k) 3) n n := by unfold packT; rw [hF]; rfl
            rw [ht, hf] at PVk
            have HK := hide hf
            obtain ⟨A, hA⟩ : ∃ x, pA (vcode f g (row xss k) 1) (vcode f g (row xss k) 2) (vcode f g (row xss k) 3) n = x := ⟨_, rfl⟩
            obtain ⟨B, hB⟩ : ∃ x, pB (vcode f g (row xss k) 1) (vcode f g (row xss k) 2) (vcode f g (row xss k) 3) n = x := ⟨_, rfl⟩
            obtain ⟨C, hC⟩ : ∃ x, pC (vcode f g (row xss k) 1) (vcode f g (row xss k) 2) (vcode f g (row xss k) 3) n = x := ⟨_, rfl⟩
            obtain ⟨D, hD⟩ : ∃ x, pD (vcode f g (row xss k) 1) (vcode f g (row xss k) 2) (vcode f g (row xss k) 3) n = x := ⟨_, rfl⟩
            simp only [PK] at PVk
            rw [hA, hB, hC, hD] at PVk
            rw [hD] at HOut
            obtain ⟨dv, hdv⟩ : ∃ v, driftAt f g xss k = v := ⟨_, rfl⟩
            rw [hdv] at HOut E1
            obtain ⟨ck, hck⟩ : ∃ v, drN f g xss k = v := ⟨_, rfl⟩
            have hle := drN_le f g xss k
            rw [hck] at E1 hle ⊢
            have hO := HOut.out
            clear ht hf hF hA hB hC hD hdv hck hn8 hr HOut HF
            go_wp2_with fail
            refine PVk.out.mono ?_
            rintro e w2 ⟨rfl, hb2⟩
            have HB2 := hide (bstep HB.out hb2)
            clear hb2 hz PVk
            cases dv
            · go_wp2_with fail
              go_roundw
              case rel =>
                have hbt := HB2.out
                exact ⟨k + 1, by omega, by go_num, by rw [E1.out]; rfl, hide (fun j hj => by rcases Nat.lt_succ_iff_lt_or_eq.1 hj with q | q; exact HA.out j q; (subst q; exact HK.out)), (by repeat' first | with_reducible exact Below.refl _ _ | with_reducible assumption | with_reducible refine below_drewN ?_ _ | with_reducible refine balloc ?_ _ | with_reducible refine Below.drew ?_ | with_reducible refine Below.setCell ?_ (by first | (simp; done) | (simp; omega) | omega) _ | with_reducible refine bstep ?_ (by assumption))⟩
              case measure => simp [intOf]; omega
            · go_wp2_with fail
              go_roundw
              case rel =>
                have hbt := HB2.out
                exact ⟨k + 1, by omega, by go_num, by rw [E1.out]; go_num, hide (fun j hj => by rcases Nat.lt_succ_iff_lt_or_eq.1 hj with q | q; exact HA.out j q; (subst q; exact HK.out)), (by repeat' first | with_reducible exact Below.refl _ _ | with_reducible assumption | with_reducible refine below_drewN ?_ _ | with_reducible refine balloc ?_ _ | with_reducible refine Below.drew ?_ | with_reducible refine Below.setCell ?_ (by first | (simp; done) | (simp; omega) | omega) _ | with_reducible refine bstep ?_ (by assumption))⟩
              case measure => simp [intOf]; omega
        · obtain rfl : k = m := by omega
          have HN := hide (dr_yes HBX.out (by rw [HL.out]; exact h60) (fun j hj => HA.out j (by rw [HL.out] at hj; exact hj)))
          rw [HL.out] at HN
          go_wp2_with fail
          go_ret
          exact ⟨by (rw [HN.out]; try rfl), HB.out⟩
    · have h60' : (60 : Int) < (m : Int) := by omega
      rw [dr_out (by rw [hb, decide_eq_false (by omega)]; rfl)]
      clear h hM hl hb
      go_enter Try.func9, Try.ntmps9
      go_wp2_with fail
      refine BO.out.mono ?_
      rintro e w1 ⟨rfl, hb1⟩
      go_wp2_with fail
      go_ret
      exact ⟨rfl, (by repeat' first | with_reducible exact Below.refl _ _ | with_reducible assumption | with_reducible refine below_drewN ?_ _ | with_reducible refine balloc ?_ _ | with_reducible refine Below.drew ?_ | with_reducible refine Below.setCell ?_ (by first | (simp; done) | (simp; omega) | omega) _ | with_reducible refine bstep ?_ (by assumption))⟩
end Go.Proofs.Ytcgeebdhkdfkpaa
