/- inside of the laws: a vector of a box. -/
import Derived.Test.YtoiaamcnmpdglaaZ21
import Derived.Test.YtoiaamcnmpdglaaZ14
import Derived.Deep.AppendLies
import Derived.Deep.RegionHeld3
import Derived.Deep.DeepCutAuto
namespace Go.Proofs.Ytoiaamcnmpdglaa
open Go.RowKit
set_option maxRecDepth 8000
set_option linter.unusedSimpArgs false
set_option linter.unusedVariables false

def InPost (w : World) (n1 : Nat) (f g : Nat → Int) (e : Ending) (w' : World) : Prop :=
  ∃ (a' : Option Addr) (c' : Nat) (ys : List Int), e = .returned (.slice a' n1 c') ∧ Row w' a' n1 ys ∧ (∀ j, j < n1 → f j ≤ nth ys j ∧ nth ys j ≤ g j) ∧ Below w.heap.size w w'

def Betw (f g F : Nat → Int) (k : Nat) : Prop := ∀ j, j < k → f j ≤ F j ∧ F j ≤ g j

theorem Betw.snoc {f g F : Nat → Int} {k : Nat} (h : Betw f g F k) {x : Int} (h0 : f k ≤ x) (h1 : x ≤ g k) : Betw f g (fun j => if j = k then x else F j) (k + 1) := by
  intro j hj
  by_cases e : j = k
  · subst e; simp; exact ⟨h0, h1⟩
  · simp [e]; exact h j (by omega)

set_option maxHeartbeats 4000000 in
theorem inside_some (b off n1 c1 : Nat) (f g : Nat → Int) (a : Option Addr) (n cap : Nat) (w : World) (h8 : n1 ≤ 8) (hb : b < w.heap.size) (hr : ∀ i, i < n1 → rightB (f i) (g i) = true)
    (hc : ∀ i, i < n1 → w.cell? ⟨b, off + i * 2, none⟩ = some (.int .i64 (f i)) ∧ w.cell? ⟨b, off + i * 2 + 1, none⟩ = some (.int .i64 (g i))) (hcode : Code w a n) :
    Calls Try.prog 22 #[.slice (some ⟨b, off, none⟩) n1 c1, .slice a n cap] w fun e w' => InPost w n1 f g e w' := by
  obtain ⟨i0, hi, hz0, hz1, hz2⟩ := info_parts Try.infoI64
  have HR := hide hr
  have HC := hide hc
  have BY := hide (fun (i : Nat) (hi : i ≤ 1000) (w1 : World) (hB : Below w.heap.size w w1) => byteOf_any a n cap i w1 (hcode.below hB) (by omega))
  clear hr hc hcode
  go_enter Try.func22, Try.ntmps22
  go_wp2_with fail
  go_loopw [5, 6] (fun v i wr => ∃ (k : Nat) (F : Nat → Int), k ≤ n1 ∧ i = .int .i64 k ∧ wr.ownsRow w.heap.size 2 1 v k (vals F k) ∧ Betw f g F k ∧ Below w.heap.size w wr) (fun _ i _ => n1 - (intOf i).toNat)
  case atStart => exact ⟨0, fun _ => 0, Nat.zero_le _, rfl, World.ownsRow_made w #[] 0 (Nat.le_refl _) (Nat.zero_le _) rfl, (fun j hj => absurd hj (by omega)), (by repeat' first | with_reducible exact Below.refl _ _ | with_reducible assumption | with_reducible refine below_drewN ?_ _ | with_reducible refine balloc ?_ _ | with_reducible refine Below.drew ?_ | with_reducible refine Below.setCell ?_ (by first | (simp; done) | (simp; omega) | omega) _ | with_reducible refine bstep ?_ (by assumption))⟩
  case round =>
    obtain ⟨k, F, hk, rfl, hown, hbt, hbel⟩ := hrel
    by_cases hlt : k < n1
    · have z1 : wr.cell? ⟨b, off + k * 2, none⟩ = some (.int .i64 (f k)) := (hbel.cell (p := ⟨b, off + k * 2, none⟩) hb).trans (HC.out k hlt).1
      have z2 : wr.cell? ⟨b, off + k * 2 + 1, none⟩ = some (.int .i64 (g k)) := (hbel.cell (p := ⟨b, off + k * 2 + 1, none⟩) hb).trans (HC.out k hlt).2
      have hlt' : (k : Int) < (n1 : Int) := by omega
      have sz := hbel.size
      have hr := (show -1048576 ≤ f k ∧ f k ≤ 1048576 ∧ -1048576 ≤ g k ∧ g k ≤ 1048576 ∧ f k ≤ g k by have := HR.out k hlt; simp only [rightB, compB, Bool.and_eq_true, decide_eq_true_eq] at this; omega)
      have HO := hide hown
      have HB := hide hbel
      have HT := hide hbt
      have Y1 := hide (BY.out k (by omega) wr hbel)
      have wk : IntKind.i64.wrap ((k : Int) + 1) = (k : Int) + 1 := wrapIn _ (by omega) (by omega)
      have Y2 : Hid (∀ w1 : World, Below w.heap.size w w1 → Calls Try.prog 52 #[.slice a n cap, .int .i64 ((k : Int) + 1)] w1 fun e w' => (∃ z : Int, (0 ≤ z ∧ z ≤ 255) ∧ e = .returned (.int .i64 z)) ∧ w' = w1) := fun w1 hB => by
        have := BY.out (k + 1) (by omega) w1 hB
        rwa [show ((k + 1 : Nat) : Int) = (k : Int) + 1 from by omega] at this
      clear hown hbel hbt
      obtain ⟨lo, hlo⟩ : ∃ lo, f k = lo := ⟨_, rfl⟩
      obtain ⟨hi', hhi⟩ : ∃ hi', g k = hi' := ⟨_, rfl⟩
      have HLO := hide hlo
      have HHI := hide hhi
      rw [hlo] at z1 hr
      rw [hhi] at z2 hr
      clear hlo hhi
      go_wp2_with fail
      refine Y1.out.mono ?_
      rintro e w1 ⟨⟨z, ⟨p0, p1⟩, rfl⟩, hw1⟩
      obtain rfl := hw1.symm
      rcases (show z % 3 = 0 ∨ z % 3 = 1 ∨ z % 3 = 2 by omega) with hu | hu | hu
      · have hu' : z.tmod 3 = 0 := by rw [Int.tmod_eq_emod_of_nonneg p0]; exact hu
        have HT2 : Hid (Betw f g (fun j => if j = k then hi' else F j) (k + 1)) := HT.out.snoc (by rw [HLO.out]; omega) (by rw [HHI.out]; omega)
        go_wp2_with (at_builtin; refine wpList_append_own _ rfl _ _ 25 rfl w.heap.size 2 i0 (.int .i64 0) 1 8 Try.underlying25 hi hz0 hz1 hz2 rfl (by decide) _ _ _ rfl (HO.out.alloc _) ⟨_, 0, none⟩ 1 1 [.int .i64 hi'] rfl rfl ?c1 ?c2 ?c3 ?c4 ?c5 ?_)
        case c1 => exact one_new _ _ _
        case c2 => intro u hu; simp at hu; subst hu; rfl
        case c3 => unfold maxLen; omega
        case c4 => omega
        case c5 => simp; omega
        intro v' w3 hown2 hgrow _
        rw [vals_snoc] at hown2
        have HB2 := hide (below_app HB.out HO.out hgrow)
        have HO2 := hide hown2
        clear hgrow hown2
        go_wp2_with fail
        go_roundw
        case rel => exact ⟨k + 1, _, by omega, by go_num, HO2.out, HT2.out, HB2.out⟩
        case measure => simp [intOf]; omega
      · have hu' : z.tmod 3 = 1 := by rw [Int.tmod_eq_emod_of_nonneg p0]; exact hu
        have f1 : IntKind.i64.wrap (hi' - lo) = hi' - lo := wrapIn _ (by omega) (by omega)
        go_upto_region 10 with fail
        go_region_held3 (fun w' => w'.cell? ⟨b, off + k * 2, none⟩ = some (.int .i64 lo) ∧ w'.cell? ⟨b, off + k * 2 + 1, none⟩ = some (.int .i64 hi')) (refine ⟨?_, ?_⟩ <;> first | assumption | (simp [go_sem]; done)) ((go_at_call 52; refine (Y2.out _ (HB.out.drew)).mono ?_; rintro e wn ⟨⟨z', ⟨q0, q1⟩, rfl⟩, hwn⟩; subst hwn; have pb := part_bd (d := hi' - lo) (by omega) q0 q1; have pm : 0 ≤ (hi' - lo) * z' := Int.mul_nonneg (by omega) q0; have pn : (hi' - lo) * z' ≤ (hi' - lo) * 255 := Int.mul_le_mul_of_nonneg_left q1 (by omega); have f2 : IntKind.i64.wrap ((hi' - lo) * z') = (hi' - lo) * z' := wrapIn _ (by omega) (by omega); have f3 : ((hi' - lo) * z').tdiv 256 = (hi' - lo) * z' / 256 := Int.tdiv_eq_ediv_of_nonneg pm; have f4 : IntKind.i64.wrap ((hi' - lo) * z' / 256) = (hi' - lo) * z' / 256 := wrapIn _ (by omega) (by omega); have f5 : IntKind.i64.wrap (lo + (hi' - lo) * z' / 256) = lo + (hi' - lo) * z' / 256 := wrapIn _ (by omega) (by omega)))
        all_goals
          have HT2 : Hid (Betw f g (fun j => if j = k then lo + (hi' - lo) * z' / 256 else F j) (k + 1)) := HT.out.snoc (by rw [HLO.out]; omega) (by rw [HHI.out]; omega)
          have hod : wr.drew.ownsRow w.heap.size 2 1 _ k (vals F k) := HO.out
          have HOd := hide hod
          have HBd := hide (HB.out.drew)
          clear hod
          go_wp2_with (at_builtin; refine wpList_append_own _ rfl _ _ 25 rfl w.heap.size 2 i0 (.int .i64 0) 1 8 Try.underlying25 hi hz0 hz1 hz2 rfl (by decide) _ _ _ rfl (HOd.out.alloc _) ⟨_, 0, none⟩ 1 1 [.int .i64 (lo + (hi' - lo) * z' / 256)] rfl rfl ?c1 ?c2 ?c3 ?c4 ?c5 ?_)
          case c1 => exact one_new _ _ _
          case c2 => intro u hu; simp at hu; subst hu; rfl
          case c3 => unfold maxLen; omega
          case c4 => omega
          case c5 => simp; omega
          intro v' w3 hown2 hgrow _
          rw [vals_snoc] at hown2
          have HB2 := hide (below_app HBd.out HOd.out hgrow)
          have HO2 := hide hown2
          clear hgrow hown2
          go_wp2_with fail
          go_roundw
          case rel => exact ⟨k + 1, _, by omega, by go_num, HO2.out, HT2.out, HB2.out⟩
          case measure => simp [intOf]; omega
      · have hu' : z.tmod 3 = 2 := by rw [Int.tmod_eq_emod_of_nonneg p0]; exact hu
        have HT2 : Hid (Betw f g (fun j => if j = k then lo else F j) (k + 1)) := HT.out.snoc (by rw [HLO.out]; omega) (by rw [HHI.out]; omega)
        go_wp2_with (at_builtin; refine wpList_append_own _ rfl _ _ 25 rfl w.heap.size 2 i0 (.int .i64 0) 1 8 Try.underlying25 hi hz0 hz1 hz2 rfl (by decide) _ _ _ rfl (HO.out.alloc _) ⟨_, 0, none⟩ 1 1 [.int .i64 lo] rfl rfl ?c1 ?c2 ?c3 ?c4 ?c5 ?_)
        case c1 => exact one_new _ _ _
        case c2 => intro u hu; simp at hu; subst hu; rfl
        case c3 => unfold maxLen; omega
        case c4 => omega
        case c5 => simp; omega
        intro v' w3 hown2 hgrow _
        rw [vals_snoc] at hown2
        have HB2 := hide (below_app HB.out HO.out hgrow)
        have HO2 := hide hown2
        clear hgrow hown2
        go_wp2_with fail
        go_roundw
        case rel => exact ⟨k + 1, _, by omega, by go_num, HO2.out, HT2.out, HB2.out⟩
        case measure => simp [intOf]; omega
    · obtain rfl : k = n1 := by omega
      obtain ⟨a3, c3, hv3, hr3, _⟩ := row_of_owns hown
      subst hv3
      have HB := hide hbel
      have HT := hide hbt
      clear hbel hbt hown
      go_wp2_with fail
      go_ret
      exact ⟨_, _, _, rfl, hr3, fun j hj => by rw [nth_ints _ _ _ hj]; exact HT.out j hj, HB.out⟩

theorem inside_any (a1 : Option Addr) (n1 c1 : Nat) (f g : Nat → Int) (a : Option Addr) (n cap : Nat) (w : World) (h : PRow w a1 n1 f g) (hbx : boxB n1 f g = true) (hcode : Code w a n) :
    Calls Try.prog 22 #[.slice a1 n1 c1, .slice a n cap] w fun e w' => InPost w n1 f g e w' := by
  have h8 := boxB_num' hbx
  rcases h.lies with q | ⟨b, off, rfl, lt, hc⟩
  · omega
  · exact inside_some b off n1 c1 f g a n cap w h8.2 lt (fun i hi => boxB_at' hbx hi) hc hcode
end Go.Proofs.Ytoiaamcnmpdglaa
