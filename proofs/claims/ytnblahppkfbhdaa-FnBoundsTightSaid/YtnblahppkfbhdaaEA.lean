/- Drawn boxes and vectors: DrawLowOf, DrawHighOf. -/
import Derived.Test.YtnblahppkfbhdaaDZ
namespace Go.Proofs.Ytnblahppkfbhdaa
open Go.RowKit
set_option linter.unusedSimpArgs false
set_option linter.unusedVariables false

def LowPost (w : World) (e : Ending) (w' : World) : Prop :=
  ∃ (a1 : Option Addr) (n1 c1 : Nat) (f g : Nat → Int) (a2 : Option Addr) (n2 c2 : Nat) (ys : List Int), e = .returned (.tuple #[.slice a1 n1 c1, .slice a2 n2 c2]) ∧ PRow w' a1 n1 f g ∧ Bds f g n1 ∧ Row w' a2 n2 ys ∧ n1 ≤ 200 ∧ n2 ≤ 200 ∧ Below w.heap.size w w'

set_option maxHeartbeats 2000000 in
theorem drawLowOf_any (a : Option Addr) (n c : Nat) (w : World) (h : Code w a n) :
    Calls Try.prog 9 #[.slice a n c] w fun e w' => LowPost w e w' := by
  have O := hide (open_any a n c w h)
  clear h
  go_enter Try.func9, Try.ntmps9
  go_wp2_with fail
  refine O.out.mono ?_
  rintro e w1 ⟨rfl, hr1, hb1, hs1⟩
  go_wp2_with fail
  refine (below_any _ _ n c a 4 w1 hr1 (by omega) (by omega)).mono ?_
  rintro e w2 ⟨v, rfl, v0, v1, hr2, hb2⟩
  obtain ⟨d, hd⟩ : ∃ d : Nat, 1 + v = (d : Int) := ⟨(1 + v).toNat, by omega⟩
  have s2 := hb2.size
  have rlt : w.heap.size < w2.heap.size := by omega
  go_wp2_with fail
  refine (box_any _ _ n c a d w2 hr2 (by omega) (by omega)).mono ?_
  rintro e w3 ⟨v3, f3, g3, rfl, ho3, hd3, hr3, hb3⟩
  obtain ⟨q3, c3, rfl, _, _⟩ := ho3.form (by omega)
  have s3 := hb3.size
  go_wp2_with fail
  refine (vec_any _ _ n c a d w3 hr3 (by omega) (by omega)).mono ?_
  rintro e w4 ⟨v4, f4, rfl, ho4, hr4, hb4⟩
  obtain ⟨g4, c4, rfl, _, _⟩ := ho4.form (by omega)
  go_wp2_with fail
  refine (hurtVec_any _ _ n c a d c4 g4 f4 w3 w4 hr4 (by omega) (by omega) hb4 (by omega) (by omega) ho4).mono ?_
  rintro e w5 ⟨v5, d5, f5, rfl, hd5, ho5, hr5, hb5⟩
  obtain ⟨a5, c5, rfl, r5, _⟩ := row_of_owns ho5
  obtain ⟨a3, c3', e3, p3, _⟩ := prow_of_owns (owns_but ho3 hb5 rlt)
  cases e3
  have B1 : Below w.heap.size w w5 := hb1.trans ((hb2.below (Nat.le_refl _) (by omega)).trans ((hb3.below (Nat.le_refl _) (by omega)).trans (hb5.below (Nat.le_refl _) (by omega))))
  clear ho3 hr3 hb3 ho4 hr4 hb4 ho5 hr5 hb5
  go_wp2_with fail
  go_ret2
  exact ⟨_, _, _, _, _, _, _, _, _, rfl, p3, hd3, r5, by omega, hd5, B1⟩

theorem drawHighOf_any (a : Option Addr) (n c : Nat) (w : World) (h : Code w a n) :
    Calls Try.prog 17 #[.slice a n c] w fun e w' => LowPost w e w' := by
  have O := hide (drawLowOf_any a n c w h)
  clear h
  go_enter Try.func17, Try.ntmps17
  go_wp2_with fail
  refine O.out.mono ?_
  rintro e w1 ⟨a1, n1, c1, f, g, a2, n2, c2, ys, rfl, r1, bd, r2, h1, h2, hb⟩
  go_wp2_with fail
  go_ret2
  exact ⟨_, _, _, _, _, _, _, _, _, rfl, r1, bd, r2, h1, h2, hb⟩
end Go.Proofs.Ytnblahppkfbhdaa
