/- Drawn boxes: box; DrawLowOf, DrawHighOf. -/
import Derived.Test.YtkjkdafbfcfhfaaDE
import Derived.Test.YtkjkdafbfcfhfaaDS
import Derived.Test.YtkjkdafbfcfhfaaDX
import Derived.Test.YtkjkdafbfcfhfaaBM
namespace Go.Proofs.Ytkjkdafbfcfhfaa
open Go.RowKit
set_option linter.unusedSimpArgs false
set_option linter.unusedVariables false

theorem pvals_congr {f g f' g' : Nat → Int} : ∀ {k : Nat}, (∀ j, j < k → f j = f' j ∧ g j = g' j) → pvals f g k = pvals f' g' k
  | 0, _ => rfl
  | k + 1, h => by
    simp only [pvals]
    rw [pvals_congr (k := k) (fun j hj => h j (by omega)), (h k (by omega)).1, (h k (by omega)).2]
def putAt (k : Nat) (x : Int) (f : Nat → Int) (j : Nat) : Int := if j = k then x else f j
theorem pvals_snoc (f g : Nat → Int) (k : Nat) (x y : Int) : pvals f g k ++ [.int .i64 x, .int .i64 y] = pvals (putAt k x f) (putAt k y g) (k + 1) := by
  have e : pvals (putAt k x f) (putAt k y g) k = pvals f g k := pvals_congr fun j hj => by simp [putAt, show j ≠ k by omega]
  simp only [pvals]
  rw [e]
  simp [putAt]

/-- The numbers that a drawn box may have. -/
def Bds (f g : Nat → Int) (k : Nat) : Prop := ∀ j, j < k → -4000000 ≤ f j ∧ f j ≤ 4000000 ∧ -4000000 ≤ g j ∧ g j ≤ 4000000
theorem Bds.snoc {f g : Nat → Int} {k : Nat} (h : Bds f g k) {x y : Int} (x0 : -4000000 ≤ x) (x1 : x ≤ 4000000) (y0 : -4000000 ≤ y) (y1 : y ≤ 4000000) : Bds (putAt k x f) (putAt k y g) (k + 1) := by
  intro j hj
  unfold putAt
  by_cases e : j = k
  · rw [if_pos e, if_pos e]; exact ⟨x0, x1, y0, y1⟩
  · rw [if_neg e, if_neg e]; exact h j (by omega)

def BoxPost (B : Nat) (w : World) (rb : Nat) (a : Option Addr) (n c d : Nat) (e : Ending) (w' : World) : Prop :=
  ∃ (v : Value) (f g : Nat → Int), e = .returned v ∧ w'.ownsRow w.heap.size 33 2 v d (pvals f g d) ∧ Bds f g d ∧ Rd B w' rb a n c ∧ But rb w w'

set_option maxHeartbeats 4000000 in
theorem box_any (B rb n c : Nat) (a : Option Addr) (d : Nat) (w : World) (h : Rd B w rb a n c) (hB : B ≤ w.heap.size) (hd : d ≤ 100) :
    Calls Try.prog 13 #[.pointer (some ⟨rb, 0, none⟩), .int .i64 d] w fun e w' => BoxPost B w rb a n c d e w' := by
  obtain ⟨i0, hi, hz0, hz1, hz2⟩ := infoRange_parts
  have HH := hide h
  have hltw := h.lt
  clear h
  go_enter Try.func13, Try.ntmps13
  go_wp2_with fail
  go_loopw [5, 6] (fun v i wr => ∃ (k : Nat) (f g : Nat → Int), k ≤ d ∧ i = .int .i64 k ∧ wr.ownsRow w.heap.size 33 2 v k (pvals f g k) ∧ Bds f g k ∧ Rd B wr rb a n c ∧ But rb w wr) (fun _ i _ => d - (intOf i).toNat)
  case atStart => exact ⟨0, fun _ => 0, fun _ => 0, Nat.zero_le _, rfl, World.ownsRow_made w #[] 0 (Nat.le_refl _) (Nat.zero_le _) rfl, (fun j hj => absurd hj (by omega)), HH.out.alloc _, (But.refl _ _).alloc _⟩
  case round =>
    obtain ⟨k, f, g, hk, rfl, hown, hbd, hr, hb⟩ := hrel
    by_cases hlt : k < d
    · have SP := hide (span_any B rb n c a wr hr)
      have O8 := hide (fun w (h : Rd B w rb a n c) => once_any B rb n c a 8 w h (by omega) (by omega))
      have HO := hide hown
      have HBB := hide hb
      have HD := hide hbd
      have hltr := hr.lt
      have hsw := hb.size
      have fin : Hid (∀ (x y : Int) (wq : World), -4000000 ≤ x → x ≤ 4000000 → -4000000 ≤ y → y ≤ 4000000 → Rd B wq rb a n c → But rb wr wq → wq.ownsRow w.heap.size 33 2 u5 k (pvals f g k) ∧ But rb w wq ∧ w.heap.size ≤ wq.heap.size ∧ Bds (putAt k x f) (putAt k y g) (k + 1)) :=
        fun x y wq x0 x1 y0 y1 hR hbq => ⟨owns_but HO.out hbq hltw, HBB.out.trans hbq, Nat.le_trans hsw hbq.size, HD.out.snoc x0 x1 y0 y1⟩
      clear hr hb hown hbd
      go_wp2_with fail
      refine SP.out.mono ?_
      rintro e w1 ⟨lo, hi', rfl, a0, a1, a2, a3, hr1, hb1⟩
      have s1 := hb1.size
      by_cases hxy : hi' < lo
      · go_wp2_with fail
        refine (O8.out _ (hr1.alloc _)).mono ?_
        rintro e w2 ⟨v8, rfl, hr2, hb2⟩
        have X := hide ((Bx.new w1 (.int .i64 lo) (.int .i64 hi') 33).but hb2 (by omega))
        obtain ⟨x1, x2, x3, x4, x5⟩ := X.out
        have hbq := (hb1.alloc (.cells #[.int .i64 lo, .int .i64 hi'] 33)).trans hb2
        cases v8
        · have hR := hr2.but (((But.refl w1.heap.size w2).setCell 0 (.int .i64 hi')).setCell 1 (.int .i64 lo)) (by omega) (by omega)
          have hb3 := but_far (but_far hbq (show wr.heap.size ≤ w1.heap.size by omega) 0 (.int .i64 hi')) (show wr.heap.size ≤ w1.heap.size by omega) 1 (.int .i64 lo)
          obtain ⟨o3, b3, s3, d3⟩ := fin.out hi' lo _ a2 a3 a0 a1 hR hb3
          have HO3 := hide o3
          have HB3 := hide b3
          have HR3 := hide hR
          have HD3 := hide d3
          clear o3 b3 hR d3 hb3 hbq hr2 hb2 hr1 hb1 SP O8 HO HBB
          go_wp2_with (at_builtin; refine wpList_append_own _ rfl _ _ 24 rfl w.heap.size 33 i0 _ 2 16 Try.underlying24 hi hz0 hz1 hz2 rfl (by decide) _ _ _ rfl (HO3.out.alloc _) ⟨_, 0, none⟩ 1 1 [.int .i64 hi', .int .i64 lo] rfl rfl ?c1 ?c2 ?c3 ?c4 ?c5 ?_)
          case c1 => (have q := two_new ((w2.setCell ⟨w1.heap.size, 0, none⟩ (.int .i64 hi')).setCell ⟨w1.heap.size, 1, none⟩ (.int .i64 lo)) (.int .i64 hi') (.int .i64 lo) 33; simp only [World.size_setCell] at q; exact q)
          case c2 => intro u hu; simp at hu; rcases hu with rfl | rfl <;> rfl
          case c3 => unfold maxLen; omega
          case c4 => omega
          case c5 => simp; simp at s3; omega
          intro v' w3 hown2 hgrow _
          rw [pvals_snoc] at hown2
          have hB2 := but_app HB3.out HO3.out hgrow
          have hR2 := HR3.out.app hltw hB HO3.out hgrow
          have HO2 := hide hown2
          have HB2 := hide hB2
          have HR2 := hide hR2
          clear hgrow hown2 hB2 hR2 HO3
          go_wp2_with fail
          go_roundw
          case rel => exact ⟨k + 1, _, _, by omega, by go_num, HO2.out, HD3.out, HR2.out, HB2.out⟩
          case measure => simp [intOf]; omega
        · obtain ⟨o3, b3, s3, d3⟩ := fin.out lo hi' _ a0 a1 a2 a3 hr2 hbq
          have HO3 := hide o3
          have HB3 := hide b3
          have HR3 := hide hr2
          have HD3 := hide d3
          clear o3 b3 hr2 d3 hbq hb2 hr1 hb1 SP O8 HO HBB
          go_wp2_with (at_builtin; refine wpList_append_own _ rfl _ _ 24 rfl w.heap.size 33 i0 _ 2 16 Try.underlying24 hi hz0 hz1 hz2 rfl (by decide) _ _ _ rfl (HO3.out.alloc _) ⟨_, 0, none⟩ 1 1 [.int .i64 lo, .int .i64 hi'] rfl rfl ?c1 ?c2 ?c3 ?c4 ?c5 ?_)
          case c1 => exact two_new _ _ _ _
          case c2 => intro u hu; simp at hu; rcases hu with rfl | rfl <;> rfl
          case c3 => unfold maxLen; omega
          case c4 => omega
          case c5 => simp; omega
          intro v' w3 hown2 hgrow _
          rw [pvals_snoc] at hown2
          have hB2 := but_app HB3.out HO3.out hgrow
          have hR2 := HR3.out.app hltw hB HO3.out hgrow
          have HO2 := hide hown2
          have HB2 := hide hB2
          have HR2 := hide hR2
          clear hgrow hown2 hB2 hR2 HO3
          go_wp2_with fail
          go_roundw
          case rel => exact ⟨k + 1, _, _, by omega, by go_num, HO2.out, HD3.out, HR2.out, HB2.out⟩
          case measure => simp [intOf]; omega
      · obtain ⟨o3, b3, s3, d3⟩ := fin.out lo hi' _ a0 a1 a2 a3 (hr1.alloc (.cells #[.int .i64 lo, .int .i64 hi'] 33)) (hb1.alloc (.cells #[.int .i64 lo, .int .i64 hi'] 33))
        have HO3 := hide o3
        have HB3 := hide b3
        have HR3 := hide (hr1.alloc (.cells #[.int .i64 lo, .int .i64 hi'] 33))
        have HD3 := hide d3
        clear o3 b3 d3 hr1 hb1 SP O8 HO HBB
        go_wp2_with (at_builtin; refine wpList_append_own _ rfl _ _ 24 rfl w.heap.size 33 i0 _ 2 16 Try.underlying24 hi hz0 hz1 hz2 rfl (by decide) _ _ _ rfl (HO3.out.alloc _) ⟨_, 0, none⟩ 1 1 [.int .i64 lo, .int .i64 hi'] rfl rfl ?c1 ?c2 ?c3 ?c4 ?c5 ?_)
        case c2 => exact ⟨rfl, rfl⟩
        case c3 => unfold maxLen; omega
        case c4 => omega
        case c5 => first | omega | (simp at s3; omega)
        intro v' w3 hown2 hgrow _
        rw [pvals_snoc] at hown2
        have hB2 := but_app HB3.out HO3.out hgrow
        have hR2 := HR3.out.app hltw hB HO3.out hgrow
        have HO2 := hide hown2
        have HB2 := hide hB2
        have HR2 := hide hR2
        clear hgrow hown2 hB2 hR2 HO3
        go_wp2_with fail
        go_roundw
        case rel => exact ⟨k + 1, _, _, by omega, by go_num, HO2.out, HD3.out, HR2.out, HB2.out⟩
        case measure => simp [intOf]; omega
    · have hkn : k = d := by omega
      subst hkn
      go_wp2_with fail
      go_ret
      exact ⟨_, f, g, rfl, hown, hbd, hr, hb⟩
end Go.Proofs.Ytkjkdafbfcfhfaa
