/- packVector of the program. -/
import Derived.Test.YtcgeebdhkdfkpaaKC
namespace Go.Proofs.Ytcgeebdhkdfkpaa
open Go.RowKit
set_option maxRecDepth 8000
set_option linter.unusedSimpArgs false
set_option linter.unusedVariables false

/-- The code of each number of a vector, in its range, of a tier. -/
def vcode (f g : Nat → Int) (xs : List Int) (t : Int) (i : Nat) : Int := codeB (f i) (g i) t (nth xs i)

theorem vcode_ok {n : Nat} {f g : Nat → Int} (xs : List Int) (h : ∀ i, i < n → rightB (f i) (g i) = true) : CodesOk n (vcode f g xs 1) (vcode f g xs 2) (vcode f g xs 3) := fun i hi => codeB_ok (h i hi)

set_option maxHeartbeats 4000000 in
set_option maxRecDepth 4000 in
theorem packVector_yes (b off n cap b' off' cap' : Nat) (f g : Nat → Int) (xs : List Int) (w : World) (h8 : n ≤ 8) (hb : b < w.heap.size) (hb' : b' < w.heap.size)
    (hr : ∀ i, i < n → rightB (f i) (g i) = true)
    (hc : ∀ i, i < n → w.cell? ⟨b, off + i * 2, none⟩ = some (.int .i64 (f i)) ∧ w.cell? ⟨b, off + i * 2 + 1, none⟩ = some (.int .i64 (g i)))
    (hc' : ∀ i, i < n → w.cell? ⟨b', off' + i, none⟩ = some (.int .i64 (nth xs i)))
    (FO : Hid (∀ w1, Below w.heap.size w w1 → Calls Try.prog 28 #[.slice (some ⟨b, off, none⟩) n cap, .slice (some ⟨b', off', none⟩) n cap'] w1 fun e w' => e = .returned (.bool true) ∧ Below w1.heap.size w1 w')) :
    Calls Try.prog 20 #[.slice (some ⟨b, off, none⟩) n cap, .slice (some ⟨b', off', none⟩) n cap'] w fun e w' => e = .returned (.tuple #[PK (vcode f g xs 1) (vcode f g xs 2) (vcode f g xs 3) n n, .bool true]) ∧ Below w.heap.size w w' := by
  obtain ⟨c1, e1⟩ : ∃ c, vcode f g xs 1 = c := ⟨_, rfl⟩
  obtain ⟨c2, e2⟩ : ∃ c, vcode f g xs 2 = c := ⟨_, rfl⟩
  obtain ⟨c3, e3⟩ : ∃ c, vcode f g xs 3 = c := ⟨_, rfl⟩
  have CK := hide (vcode_ok (n := n) xs hr)
  have CD := hide (fun (k : Nat) (hk : k < n) => codesOf_any (f k) (g k) (nth xs k))
  simp only [show ∀ k, codeB (f k) (g k) 1 (nth xs k) = vcode f g xs 1 k from fun _ => rfl, show ∀ k, codeB (f k) (g k) 2 (nth xs k) = vcode f g xs 2 k from fun _ => rfl, show ∀ k, codeB (f k) (g k) 3 (nth xs k) = vcode f g xs 3 k from fun _ => rfl] at CD
  rw [e1, e2, e3] at CK CD ⊢
  clear e1 e2 e3
  have WI := hide (fun (k : Nat) (hk : k < n) (w1 : World) => with_any c1 c2 c3 n k w1 (by omega) (fun i hi => CK.out i (by omega)))
  clear hr
  go_enter Try.func20, Try.ntmps20
  go_wp2_with fail
  refine (FO.out _ (by repeat' first | with_reducible exact Below.refl _ _ | with_reducible assumption | with_reducible refine below_drewN ?_ _ | with_reducible refine balloc ?_ _ | with_reducible refine Below.drew ?_ | with_reducible refine Below.setCell ?_ (by first | (simp; done) | (simp; omega) | omega) _ | with_reducible refine bstep ?_ (by assumption))).mono ?_
  rintro e w1 ⟨rfl, hb1⟩
  have F4 : Five w1 w.heap.size (.int .u8 0) (.int .u32 0) (.int .u64 0) (.int .u8 0) (.int .i64 0) := (Five.new w _ _ _ _ _ _ _ rfl).below hb1
  have HF4 := hide F4
  have B1 : Below w.heap.size w w1 := (by repeat' first | with_reducible exact Below.refl _ _ | with_reducible assumption | with_reducible refine below_drewN ?_ _ | with_reducible refine balloc ?_ _ | with_reducible refine Below.drew ?_ | with_reducible refine Below.setCell ?_ (by first | (simp; done) | (simp; omega) | omega) _ | with_reducible refine bstep ?_ (by assumption))
  have HB1 := hide B1
  have hw1 := F4.lt
  clear hb1 F4 B1
  go_wp2_with fail
  go_loopw [19] (fun i wr => ∃ k : Nat, k ≤ n ∧ i = .int .i64 k ∧ Five wr w.heap.size (.int .u8 0) (.int .u32 0) (.int .u64 0) (.int .u8 0) (.int .i64 0) ∧ Five wr w1.heap.size (.int .u8 (pA c1 c2 c3 k)) (.int .u32 (pB c1 c2 c3 k)) (.int .u64 (pC c1 c2 c3 k)) (.int .u8 (pD c1 c2 c3 k)) (.int .i64 n) ∧ Below w.heap.size w wr) (fun i _ => n - (intOf i).toNat)
  case atStart =>
    have B1 := HB1.out
    exact ⟨0, Nat.zero_le _, rfl, HF4.out.below (balloc (Below.refl _ _) _), Five.new w1 _ _ _ _ _ _ _ rfl, (by repeat' first | with_reducible exact Below.refl _ _ | with_reducible assumption | with_reducible refine below_drewN ?_ _ | with_reducible refine balloc ?_ _ | with_reducible refine Below.drew ?_ | with_reducible refine Below.setCell ?_ (by first | (simp; done) | (simp; omega) | omega) _ | with_reducible refine bstep ?_ (by assumption))⟩
  case round =>
    obtain ⟨k, hk, rfl, hf4, hf6, hbel⟩ := hrel
    have HB := hide hbel
    have H4 := hide hf4
    have H6 := hide hf6
    by_cases hlt : k < n
    · have z1 : wr.cell? ⟨b, off + k * 2, none⟩ = some (.int .i64 (f k)) := (hbel.cell (p := ⟨b, off + k * 2, none⟩) hb).trans (hc k hlt).1
      have z2 : wr.cell? ⟨b, off + k * 2 + 1, none⟩ = some (.int .i64 (g k)) := (hbel.cell (p := ⟨b, off + k * 2 + 1, none⟩) hb).trans (hc k hlt).2
      have z3 : wr.cell? ⟨b', off' + k, none⟩ = some (.int .i64 (nth xs k)) := (hbel.cell (p := ⟨b', off' + k, none⟩) hb').trans (hc' k hlt)
      have C := hide (CD.out k hlt)
      have W := hide (WI.out k hlt)
      have lb : b < wr.heap.size := Nat.lt_of_lt_of_le hb hbel.size
      have hlt' : (k : Int) < (n : Int) := by omega
      have d6 : w.heap.size ≠ w1.heap.size := by omega
      obtain ⟨g0, y0, y1, y2, y3, y4, x0, x1, x2, x3, x4⟩ := hf6
      clear hc hc' hf4 hbel CD WI
      go_upto_region 7 with fail
      go_region_with (first | (go_at_call 30; refine (C.out _).mono ?_; rintro e wa ⟨rfl, hba⟩; have ha := H6.out.drew.below hba; have HA := hide ha; obtain ⟨g0a, y0a, y1a, y2a, y3a, y4a, x0a, x1a, x2a, x3a, x4a⟩ := ha) | (go_at_call 29; refine (W.out _).mono ?_; rintro e wb ⟨rfl, hbb⟩; have h6 := HA.out.below hbb; obtain ⟨g0b, y0b, y1b, y2b, y3b, y4b, x0b, x1b, x2b, x3b, x4b⟩ := h6))
      all_goals
        have H4' := hide ((H4.out.drew.below hba).below hbb)
        have H6' := hide (HA.out.below hbb)
        have hB : Below w.heap.size w wb := (by have hbel := HB.out; exact bstep (bstep (Below.drew hbel) hba) hbb)
        have HB' := hide hB
        clear hB hba hbb y0 y1 y2 y3 y4 x0 x1 x2 x3 x4 y0a y1a y2a y3a y4a x0a x1a x2a x3a x4a y0b y1b y2b y3b y4b x0b x1b x2b x3b x4b z1 z2 z3
        go_wp2_with fail
        go_roundw
        case rel => exact ⟨k + 1, by omega, by go_num, ((((H4'.out.away _ _ d6).away _ _ d6).away _ _ d6).away _ _ d6).away _ _ d6, H6'.out.set _ _ _ _ _, ((((HB'.out.setCell (by simp; omega) _).setCell (by simp; omega) _).setCell (by simp; omega) _).setCell (by simp; omega) _).setCell (by simp; omega) _⟩
        case measure => simp [intOf]; omega
    · obtain rfl : k = n := by omega
      obtain ⟨g0, y0, y1, y2, y3, y4, x0, x1, x2, x3, x4⟩ := hf6
      obtain ⟨g0b, y0b, y1b, y2b, y3b, y4b, x0b, x1b, x2b, x3b, x4b⟩ := hf4
      have d6 : w.heap.size ≠ w1.heap.size := by omega
      clear hc hc' hbel
      go_wp2_with fail
      refine bodyPost_ret (v := .tuple #[PK c1 c2 c3 k k, .bool true]) ?_ rfl ⟨rfl, ?_⟩
      · simp [results, Try.results20, go_sem, *]
      · have hbel := HB.out
        exact ((((hbel.setCell (by simp) _).setCell (by simp) _).setCell (by simp) _).setCell (by simp) _).setCell (by simp) _

set_option maxHeartbeats 800000 in
theorem packVector_no (a a' : Option Addr) (n cap n' cap' : Nat) (w : World)
    (FO : Hid (∀ w1, Below w.heap.size w w1 → Calls Try.prog 28 #[.slice a n cap, .slice a' n' cap'] w1 fun e w' => e = .returned (.bool false) ∧ Below w1.heap.size w1 w')) :
    Calls Try.prog 20 #[.slice a n cap, .slice a' n' cap'] w fun e w' => e = .returned (.tuple #[PK0, .bool false]) ∧ Below w.heap.size w w' := by
  go_enter Try.func20, Try.ntmps20
  go_wp2_with fail
  refine (FO.out _ (by repeat' first | with_reducible exact Below.refl _ _ | with_reducible assumption | with_reducible refine below_drewN ?_ _ | with_reducible refine balloc ?_ _ | with_reducible refine Below.drew ?_ | with_reducible refine Below.setCell ?_ (by first | (simp; done) | (simp; omega) | omega) _ | with_reducible refine bstep ?_ (by assumption))).mono ?_
  rintro e w1 ⟨rfl, hb1⟩
  have F4 : Five w1 w.heap.size (.int .u8 0) (.int .u32 0) (.int .u64 0) (.int .u8 0) (.int .i64 0) := (Five.new w _ _ _ _ _ _ _ rfl).below hb1
  obtain ⟨g0b, y0b, y1b, y2b, y3b, y4b, x0b, x1b, x2b, x3b, x4b⟩ := F4
  go_wp2_with fail
  refine bodyPost_ret (v := .tuple #[PK0, .bool false]) ?_ rfl ⟨rfl, ?_⟩
  · simp [results, Try.results20, go_sem, *]
  · have B1 : Below w.heap.size w w1 := (by repeat' first | with_reducible exact Below.refl _ _ | with_reducible assumption | with_reducible refine below_drewN ?_ _ | with_reducible refine balloc ?_ _ | with_reducible refine Below.drew ?_ | with_reducible refine Below.setCell ?_ (by first | (simp; done) | (simp; omega) | omega) _ | with_reducible refine bstep ?_ (by assumption))
    exact ((((B1.setCell (by simp) _).setCell (by simp) _).setCell (by simp) _).setCell (by simp) _).setCell (by simp) _

/-- The packed row of a vector in a book, where it fits. -/
def packT (n : Nat) (f g : Nat → Int) (m : Nat) (xs : List Int) : Value := if formB n f g m xs then PK (vcode f g xs 1) (vcode f g xs 2) (vcode f g xs 3) n n else PK0

theorem packVector_any (a a' : Option Addr) (n cap n' cap' : Nat) (f g : Nat → Int) (xs : List Int) (w : World) (h : PRow w a n f g) (h' : Row w a' n' xs) (hn' : n' ≤ 1048576) :
    Calls Try.prog 20 #[.slice a n cap, .slice a' n' cap'] w fun e w' => e = .returned (.tuple #[packT n f g n' xs, .bool (formB n f g n' xs)]) ∧ Below w.heap.size w w' := by
  have FO := hide (fun w1 (hb : Below w.heap.size w w1) => boxFits_any a a' n cap n' cap' f g xs w1 (h.below hb) (h'.below hb) hn')
  unfold packT
  cases hF : formB n f g n' xs
  · rw [hF] at FO
    exact packVector_no a a' n cap n' cap' w FO
  · rw [hF] at FO
    simp only [if_true]
    simp only [formB, Bool.and_eq_true, decide_eq_true_eq] at hF
    obtain ⟨⟨h1, h2⟩, rfl⟩ := hF
    have hn := boxB_num' h1
    rcases h.lies with q | ⟨b, off, rfl, lt, hc⟩
    · omega
    · rcases h'.lies with q | ⟨b', off', rfl, lt', hc'⟩
      · omega
      · exact packVector_yes b off n cap b' off' cap' f g xs w hn.2 lt lt' (fun i hi => boxB_at' h1 hi) hc hc' FO
end Go.Proofs.Ytcgeebdhkdfkpaa
