/- Marks over items, the rest: markItemS and heldItemS of any slice that the call owns, markItem, heldItem. -/
import Derived.Test.YtbbflfbgaliihaaIJ
namespace Go.Proofs.Ytbbflfbgaliihaa
open Go.RowKit
set_option linter.unusedSimpArgs false
set_option linter.unusedVariables false

set_option maxHeartbeats 400000 in
theorem markItemS_nil (a : Option Addr) (n cap : Nat) (q : Int) (w : World) (hn : n < 1) :
    Calls Try.prog 12 #[.slice a n cap, .int .i64 q] w fun e w' => e = .returned (.int .i64 q) ∧ w' = w := by
  go_enter Try.func12, Try.ntmps12
  go_wp2
  refine wp_loop_rounds 1 ?_
  rw [rounds_succ]
  go_wp2
  go_ret
  exact ⟨rfl, rfl⟩

theorem markItemS_any (B C : Nat) (a : Option Addr) (n cap g : Nat) (q : Int) (L : IL) (V : Nat → Nat) (sv : Nat → Value) (w : World) (h : Its w B C a n L g V sv) (hn : n ≤ 1048576) (hs : sumV L n ≤ 1048576) (hq : 0 ≤ q) (hq2 : q ≤ 10000000) :
    Calls Try.prog 12 #[.slice a n cap, .int .i64 q] w fun e w' => e = .returned (.int .i64 (q + offI L n)) ∧ Its w' B C a n (mkI L q) g V sv ∧ Far B C w w' := by
  rcases h.arr with h0 | ⟨rfl, h1, h2, ha⟩
  · refine (markItemS_nil a n cap q w (by omega)).mono fun e w' ⟨he, hw⟩ => ?_
    subst hw
    subst h0
    exact ⟨by rw [he]; simp [offI, sumV], ⟨.inl rfl, fun i hi => absurd hi (by omega), fun i hi => absurd hi (by omega)⟩, Far.refl _ _ _⟩
  · by_cases h0 : n = 0
    · refine (markItemS_nil _ n cap q w (by omega)).mono fun e w' ⟨he, hw⟩ => ?_
      subst hw
      subst h0
      exact ⟨by rw [he]; simp [offI, sumV], ⟨.inl rfl, fun i hi => absurd hi (by omega), fun i hi => absurd hi (by omega)⟩, Far.refl _ _ _⟩
    · exact markItemS_some B C g n cap q L V sv w h (by omega) hn hs hq hq2

set_option maxHeartbeats 400000 in
theorem heldItemS_nil (a : Option Addr) (n cap : Nat) (q : Int) (w : World) (hn : n < 1) :
    Calls Try.prog 14 #[.slice a n cap, .int .i64 q] w fun e w' => e = .returned (.int .i64 q) ∧ w' = w := by
  go_enter Try.func14, Try.ntmps14
  go_wp2
  refine wp_loop_rounds 1 ?_
  rw [rounds_succ]
  go_wp2
  go_ret
  exact ⟨rfl, rfl⟩

set_option maxHeartbeats 2000000 in
theorem heldItemS_some (B C g n cap : Nat) (q : Int) (L : IL) (V : Nat → Nat) (sv : Nat → Value) (w : World) (h : Its w B C (some ⟨g, 0, none⟩) n (mkI L q) g V sv) (h0 : 0 < n) (hn : n ≤ 1048576) (hs : sumV L n ≤ 1048576) (hq : 0 ≤ q) (hq2 : q ≤ 10000000) :
    Calls Try.prog 14 #[.slice (some ⟨g, 0, none⟩) n cap, .int .i64 q] w fun e w' => e = .returned (.int .i64 (q + offI L n)) ∧ w' = w := by
  have ha : Arr w g (n * 3) (icell (mkI L q) sv) := by
    rcases h.arr with h1 | ⟨_, _, _, ha⟩
    · omega
    · exact ha
  have HA := hide ha
  have HH := hide h
  clear ha h
  go_enter Try.func14, Try.ntmps14
  go_wp2_with fail
  go_loopw [1, 5] (fun q' i wr => ∃ k : Nat, k ≤ n ∧ i = .int .i64 k ∧ q' = .int .i64 (q + offI L k) ∧ wr = w) (fun _ i _ => n - (intOf i).toNat)
  case atStart => exact ⟨0, Nat.zero_le _, rfl, by simp [offI, sumV], by trivial⟩
  case round =>
    obtain ⟨k, hk, rfl, rfl, rfl⟩ := hrel
    by_cases hlt : k < n
    · have y0 := HA.out.cell (j := k * 3) (by omega)
      have y1 := HA.out.cell (j := k * 3 + 1) (by omega)
      have y2 := HA.out.cell (j := k * 3 + 2) (by omega)
      rw [icell_0] at y0
      rw [icell_1] at y1
      rw [icell_2] at y2
      have hvk := HH.out.vec k hlt
      have HO := hide (offI_s L k)
      obtain ⟨o, ho⟩ : ∃ o : Int, offI L k = o := ⟨_, rfl⟩
      have hob : 0 ≤ o ∧ o ≤ 3145728 := by
        subst ho
        unfold offI
        have := sumV_mono L (show k ≤ n by omega)
        omega
      have hlk : (L k).vec.length ≤ 1048576 := by have := sumV_at L hlt; omega
      rw [show (mkI L q k).id = q + o by subst ho; rfl] at y0
      rw [show (mkI L q k).tags = q + o + 1 by subst ho; rfl] at y1
      rw [show (mkI L q k).vec = marks (q + o + 1 + 1) (L k).vec.length by subst ho; show marks (q + offI L k + 2) _ = _; rw [Int.add_assoc (q + offI L k) 1 1]; rfl] at hvk
      obtain ⟨va, vc, ev, _⟩ := id hvk
      rw [ev] at y2 hvk
      have M := hide (heldV_any (q + o + 1 + 1) wr hvk hlk (by omega) (by omega))
      have z0 : ((q + o) != (q + o)) = false := by simp
      have z1 : ((q + o + 1) != (q + o + 1)) = false := by simp
      have z2 : ¬ (q + o + 1 + 1 + ((L k).vec.length : Int)) < 0 := by omega
      rw [ho] at HO
      rw [ho]
      clear ho hvk ev
      go_wp2_with fail
      refine M.out.mono ?_
      rintro e w3 ⟨rfl, rfl⟩
      go_wp2_with fail
      go_roundw
      case rel => exact ⟨k + 1, by omega, by go_num, by rw [HO.out]; congr 1; omega, by trivial⟩
      case measure => simp [intOf]; omega
    · obtain rfl : k = n := by omega
      go_wp2_with fail
      go_ret
      exact ⟨rfl, rfl⟩

theorem heldItemS_any (B C : Nat) (a : Option Addr) (n cap g : Nat) (q : Int) (L : IL) (V : Nat → Nat) (sv : Nat → Value) (w : World) (h : Its w B C a n (mkI L q) g V sv) (hn : n ≤ 1048576) (hs : sumV L n ≤ 1048576) (hq : 0 ≤ q) (hq2 : q ≤ 10000000) :
    Calls Try.prog 14 #[.slice a n cap, .int .i64 q] w fun e w' => e = .returned (.int .i64 (q + offI L n)) ∧ w' = w := by
  rcases h.arr with h0 | ⟨rfl, h1, h2, ha⟩
  · refine (heldItemS_nil a n cap q w (by omega)).mono fun e w' ⟨he, hw⟩ => ⟨by rw [he, h0]; simp [offI, sumV], hw⟩
  · by_cases h0 : n = 0
    · refine (heldItemS_nil _ n cap q w (by omega)).mono fun e w' ⟨he, hw⟩ => ⟨by rw [he, h0]; simp [offI, sumV], hw⟩
    · exact heldItemS_some B C g n cap q L V sv w h (by omega) hn hs hq hq2

set_option maxHeartbeats 800000 in
theorem markItem_any {B C : Nat} {v : Value} {xs : List Int} {b : Nat} (i t q : Int) (w : World) (h : VSl w B C v xs b) (hn : xs.length ≤ 1048576) (hq : 0 ≤ q) (hq2 : q ≤ 100000000) :
    Calls Try.prog 13 #[.agg #[.int .i64 i, .int .i64 t, v], .int .i64 q] w fun e w' => e = .returned (.int .i64 (q + (xs.length : Int))) ∧ VSl w' B C v (marks q xs.length) b ∧ Far B C w w' := by
  have hb : Below w.heap.size w (w.alloc (.cells #[.int .i64 i, .int .i64 t, v] 32)) := balloc (Below.refl _ _) _
  have M := hide (markV_any q _ (h.below hb) hn hq hq2)
  have HB := hide hb
  obtain ⟨va, vc, rfl, _⟩ := id h
  clear h hb
  go_enter Try.func13, Try.ntmps13
  go_wp2_with fail
  refine M.out.mono ?_
  rintro e w1 ⟨rfl, h1, b1, z1⟩
  have HF : Hid (Far B C w w1) := hide (by
    by_cases h0 : xs.length = 0
    · rw [z1 h0]; exact Far.ofBelow HB.out
    · have := h1.lt (by rw [marks_len]; exact h0)
      exact (Far.ofBelow HB.out).trans (Far.ofBut b1 this.1 this.2.1))
  go_wp2_with fail
  go_ret
  exact ⟨rfl, h1, HF.out⟩

end Go.Proofs.Ytbbflfbgaliihaa