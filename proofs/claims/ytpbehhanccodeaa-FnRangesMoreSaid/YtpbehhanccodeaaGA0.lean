/- The reader of drawn bytes: below of whatever number, size. -/
import Derived.Test.YtpbehhanccodeaaDB
namespace Go.Proofs.Ytpbehhanccodeaa
open Go.RowKit
set_option maxRecDepth 8000
set_option linter.unusedSimpArgs false
set_option linter.unusedVariables false

set_option maxHeartbeats 1000000 in
set_option maxRecDepth 8000 in
theorem below_one (rb : Nat) (m : Int) (w : World) (h1 : m ≤ 1) :
    Calls Try.prog 15 #[.pointer (some ⟨rb, 0, none⟩), .int .i64 m] w fun e w' => e = .returned (.int .i64 0) ∧ w' = w := by
  go_enter Try.func15, Try.ntmps15
  go_wp2
  go_ret
  exact ⟨rfl, rfl⟩
/-- below, of any number that is no more than 256: one that is less, or 0. -/
theorem below_all (B rb n c : Nat) (a : Option Addr) (m : Int) (w : World) (h : Rd B w rb a n c) (h2 : m ≤ 256) :
    Calls Try.prog 15 #[.pointer (some ⟨rb, 0, none⟩), .int .i64 m] w fun e w' => RdPost B w rb a n c .i64 0 (max 0 (m - 1)) e w' := by
  by_cases h1 : 1 < m
  · exact (below_any B rb n c a m w h h1 h2).mono fun e w' ⟨v, he, v0, v1, hr, hb⟩ => ⟨v, he, v0, by omega, hr, hb⟩
  · refine (below_one rb m w (by omega)).mono fun e w' ⟨he, hw⟩ => ?_
    subst hw
    exact ⟨0, he, by omega, by omega, h, But.refl _ _⟩

set_option maxHeartbeats 1000000 in
set_option maxRecDepth 8000 in
theorem size_any (B rb n c : Nat) (a : Option Addr) (per most : Int) (w : World) (h : Rd B w rb a n c) (p0 : 1 ≤ per) (p1 : per ≤ 1000) (m0 : 1 ≤ most) (m1 : most ≤ 256) :
    Calls Try.prog 27 #[.pointer (some ⟨rb, 0, none⟩), .int .i64 per, .int .i64 most] w fun e w' => RdPost B w rb a n c .i64 1 most e w' := by
  have N := hide (fun m w1 (h : Rd B w1 rb a n c) (h2 : m ≤ 256) => below_all B rb n c a m w1 h h2)
  obtain ⟨p, hp, hblk⟩ := h.blk
  have c0 := rd_cell0 hblk
  have hs := h.small
  have HH := hide h
  clear hblk h
  have hne : per ≠ 0 := by omega
  have hd : ((n : Int).tdiv per) = ((n / per.toNat : Nat) : Int) := by
    rw [Int.tdiv_eq_ediv_of_nonneg (by omega)]
    rw [show per = ((per.toNat : Nat) : Int) by omega]
    simp
  have hle : n / per.toNat ≤ 1048576 := Nat.le_trans (Nat.div_le_self _ _) hs
  obtain ⟨q, hq⟩ : ∃ q : Nat, n / per.toNat = q := ⟨_, rfl⟩
  rw [hq] at hd hle
  have hw : IntKind.i64.wrap ((n : Int).tdiv per) = (q : Int) := by rw [hd]; exact wrapIn _ (by omega) (by omega)
  by_cases hm : most < 1 + (q : Int)
  · go_enter Try.func27, Try.ntmps27
    go_wp2_with fail
    refine (N.out _ _ HH.out (by omega)).mono ?_
    rintro e w1 ⟨v, rfl, v0, v1, hr, hb⟩
    go_wp2
    go_ret
    exact ⟨_, rfl, by omega, by omega, hr, hb⟩
  · go_enter Try.func27, Try.ntmps27
    go_wp2_with fail
    refine (N.out _ _ HH.out (by omega)).mono ?_
    rintro e w1 ⟨v, rfl, v0, v1, hr, hb⟩
    go_wp2
    go_ret
    exact ⟨_, rfl, by omega, by omega, hr, hb⟩
end Go.Proofs.Ytpbehhanccodeaa
