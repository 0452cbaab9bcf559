/- CmdOk of the model. -/
import Derived.Test.YtlmiamohhmabhaaDoorXA2
import Derived.Test.YtlmiamohhmabhaaDoorVB
import Derived.Test.YtlmiamohhmabhaaDoorIDK
namespace Go.Proofs.YtlmiamohhmabhaaDoor
open Go.RowKit
set_option maxRecDepth 8000
set_option linter.unusedSimpArgs false
set_option linter.unusedVariables false

theorem in_and (x lo hi : Int) : (decide (lo ≤ x) && decide (x ≤ hi)) = inB x lo hi := by unfold inB; simp [Bool.decide_and]

theorem in_zero {x : Int} (h : inB x 0 0 = true) : x = 0 := by
  have : 0 ≤ x ∧ x ≤ 0 := of_decide_eq_true h
  omega

theorem in_some {x : Int} (h : inB x 0 0 = false) : (x != 0) = true := by
  have : ¬ (0 ≤ x ∧ x ≤ 0) := of_decide_eq_false h
  simp; omega

set_option maxHeartbeats 400000 in
theorem l7DimC_any (n : Int) (w : World) :
    Calls Tryd.prog 38 #[.int .i64 n] w fun e w' => e = .returned (.bool (inB n 1 8)) ∧ w' = w := by
  go_enter Tryd.func38, Tryd.ntmps38
  go_wp2_with (go_at_call 18; refine (l1In_any _ _ _ _).mono ?_; rintro e w' ⟨rfl, rfl⟩)
  go_ret
  exact ⟨rfl, rfl⟩

set_option maxHeartbeats 2000000 in
theorem nums1 (a b c : Int) (va : Option Addr) (vn vc : Nat) (w : World) :
    Calls Tryd.prog 19 #[.agg #[.int .i64 1, .int .i64 a, .int .i64 b, .int .i64 c, .slice va vn vc]] w fun e w' => e = .returned (.bool (inB a 1 8)) ∧ Below w.heap.size w w' := by
  have B0 : Hid (Below w.heap.size w (w.alloc (.cells #[.int .i64 1, .int .i64 a, .int .i64 b, .int .i64 c, .slice va vn vc] 27))) := hide (balloc (Below.refl _ _) _)
  have L0 := hide (fun w1 => l7DimC_any a w1)
  generalize inB a 1 8 = e0 at L0 ⊢
  go_enter Tryd.func19, Tryd.ntmps19
  go_wp2_with fail
  refine (L0.out _).mono ?_
  rintro e w1 ⟨rfl, hw⟩
  obtain rfl := hw.symm
  clear hw
  go_wp2_with fail
  go_ret
  exact ⟨by simp, B0.out⟩

set_option maxHeartbeats 2000000 in
theorem nums2 (a b c : Int) (va : Option Addr) (vn vc : Nat) (w : World) :
    Calls Tryd.prog 19 #[.agg #[.int .i64 2, .int .i64 a, .int .i64 b, .int .i64 c, .slice va vn vc]] w fun e w' => e = .returned (.bool ((inB a 1 9999 && inB b 0 255))) ∧ Below w.heap.size w w' := by
  have B0 : Hid (Below w.heap.size w (w.alloc (.cells #[.int .i64 2, .int .i64 a, .int .i64 b, .int .i64 c, .slice va vn vc] 27))) := hide (balloc (Below.refl _ _) _)
  have L0 := hide (fun w1 => l6Id_any a w1)
  have L1 := hide (fun w1 => l1In_any b 0 255 w1)
  generalize inB a 1 9999 = e0 at L0 ⊢
  generalize inB b 0 255 = e1 at L1 ⊢
  cases e0
  · skip
    go_enter Tryd.func19, Tryd.ntmps19
    go_wp2_with fail
    refine (L0.out _).mono ?_
    rintro e w1 ⟨rfl, hw⟩
    obtain rfl := hw.symm
    clear hw
    go_wp2_with fail
    go_ret
    exact ⟨by simp, B0.out⟩
  · skip
    go_enter Tryd.func19, Tryd.ntmps19
    go_wp2_with fail
    refine (L0.out _).mono ?_
    rintro e w1 ⟨rfl, hw⟩
    obtain rfl := hw.symm
    clear hw
    go_wp2_with fail
    refine (L1.out _).mono ?_
    rintro e w2 ⟨rfl, hw⟩
    obtain rfl := hw.symm
    clear hw
    go_wp2_with fail
    go_ret
    exact ⟨by simp, B0.out⟩

set_option maxHeartbeats 2000000 in
theorem nums3 (a b c : Int) (va : Option Addr) (vn vc : Nat) (w : World) :
    Calls Tryd.prog 19 #[.agg #[.int .i64 3, .int .i64 a, .int .i64 b, .int .i64 c, .slice va vn vc]] w fun e w' => e = .returned (.bool (inB a 1 9999)) ∧ Below w.heap.size w w' := by
  have B0 : Hid (Below w.heap.size w (w.alloc (.cells #[.int .i64 3, .int .i64 a, .int .i64 b, .int .i64 c, .slice va vn vc] 27))) := hide (balloc (Below.refl _ _) _)
  have L0 := hide (fun w1 => l6Id_any a w1)
  generalize inB a 1 9999 = e0 at L0 ⊢
  go_enter Tryd.func19, Tryd.ntmps19
  go_wp2_with fail
  refine (L0.out _).mono ?_
  rintro e w1 ⟨rfl, hw⟩
  obtain rfl := hw.symm
  clear hw
  go_wp2_with fail
  go_ret
  exact ⟨by simp, B0.out⟩

set_option maxHeartbeats 2000000 in
theorem nums4 (a b c : Int) (va : Option Addr) (vn vc : Nat) (w : World) :
    Calls Tryd.prog 19 #[.agg #[.int .i64 4, .int .i64 a, .int .i64 b, .int .i64 c, .slice va vn vc]] w fun e w' => e = .returned (.bool (true)) ∧ Below w.heap.size w w' := by
  have B0 : Hid (Below w.heap.size w (w.alloc (.cells #[.int .i64 4, .int .i64 a, .int .i64 b, .int .i64 c, .slice va vn vc] 27))) := hide (balloc (Below.refl _ _) _)
  go_enter Tryd.func19, Tryd.ntmps19
  go_wp2_with fail
  go_ret
  exact ⟨by simp, B0.out⟩

set_option maxHeartbeats 2000000 in
theorem nums5 (a b c : Int) (va : Option Addr) (vn vc : Nat) (w : World) :
    Calls Tryd.prog 19 #[.agg #[.int .i64 5, .int .i64 a, .int .i64 b, .int .i64 c, .slice va vn vc]] w fun e w' => e = .returned (.bool (inB a 1 60)) ∧ Below w.heap.size w w' := by
  have B0 : Hid (Below w.heap.size w (w.alloc (.cells #[.int .i64 5, .int .i64 a, .int .i64 b, .int .i64 c, .slice va vn vc] 27))) := hide (balloc (Below.refl _ _) _)
  have L0 := hide (fun w1 => l1In_any a 1 60 w1)
  generalize inB a 1 60 = e0 at L0 ⊢
  go_enter Tryd.func19, Tryd.ntmps19
  go_wp2_with fail
  refine (L0.out _).mono ?_
  rintro e w1 ⟨rfl, hw⟩
  obtain rfl := hw.symm
  clear hw
  go_wp2_with fail
  go_ret
  exact ⟨by simp, B0.out⟩

set_option maxHeartbeats 2000000 in
theorem nums6 (a b c : Int) (va : Option Addr) (vn vc : Nat) (w : World) :
    Calls Tryd.prog 19 #[.agg #[.int .i64 6, .int .i64 a, .int .i64 b, .int .i64 c, .slice va vn vc]] w fun e w' => e = .returned (.bool (((inB a 1 20 && inB b 0 255) && inB c 0 1000))) ∧ Below w.heap.size w w' := by
  have B0 : Hid (Below w.heap.size w (w.alloc (.cells #[.int .i64 6, .int .i64 a, .int .i64 b, .int .i64 c, .slice va vn vc] 27))) := hide (balloc (Below.refl _ _) _)
  have L0 := hide (fun w1 => l1In_any a 1 20 w1)
  have L1 := hide (fun w1 => l1In_any b 0 255 w1)
  have L2 := hide (fun w1 => l1In_any c 0 1000 w1)
  generalize inB a 1 20 = e0 at L0 ⊢
  generalize inB b 0 255 = e1 at L1 ⊢
  generalize inB c 0 1000 = e2 at L2 ⊢
  cases e0
  · skip
    go_enter Tryd.func19, Tryd.ntmps19
    go_wp2_with fail
    refine (L0.out _).mono ?_
    rintro e w1 ⟨rfl, hw⟩
    obtain rfl := hw.symm
    clear hw
    go_wp2_with fail
    go_ret
    exact ⟨by simp, B0.out⟩
  · cases e1
    · skip
      go_enter Tryd.func19, Tryd.ntmps19
      go_wp2_with fail
      refine (L0.out _).mono ?_
      rintro e w1 ⟨rfl, hw⟩
      obtain rfl := hw.symm
      clear hw
      go_wp2_with fail
      refine (L1.out _).mono ?_
      rintro e w2 ⟨rfl, hw⟩
      obtain rfl := hw.symm
      clear hw
      go_wp2_with fail
      go_ret
      exact ⟨by simp, B0.out⟩
    · skip
      go_enter Tryd.func19, Tryd.ntmps19
      go_wp2_with fail
      refine (L0.out _).mono ?_
      rintro e w1 ⟨rfl, hw⟩
      obtain rfl := hw.symm
      clear hw
      go_wp2_with fail
      refine (L1.out _).mono ?_
      rintro e w2 ⟨rfl, hw⟩
      obtain rfl := hw.symm
      clear hw
      go_wp2_with fail
      refine (L2.out _).mono ?_
      rintro e w3 ⟨rfl, hw⟩
      obtain rfl := hw.symm
      clear hw
      go_wp2_with fail
      go_ret
      exact ⟨by simp, B0.out⟩

set_option maxHeartbeats 2000000 in
theorem nums7 (a b c : Int) (va : Option Addr) (vn vc : Nat) (w : World) :
    Calls Tryd.prog 19 #[.agg #[.int .i64 7, .int .i64 a, .int .i64 b, .int .i64 c, .slice va vn vc]] w fun e w' => e = .returned (.bool (((inB a 0 1125899906842624 && inB b 0 255) && inB c 0 1000))) ∧ Below w.heap.size w w' := by
  have B0 : Hid (Below w.heap.size w (w.alloc (.cells #[.int .i64 7, .int .i64 a, .int .i64 b, .int .i64 c, .slice va vn vc] 27))) := hide (balloc (Below.refl _ _) _)
  have L0 := hide (fun w1 => l1In_any a 0 1125899906842624 w1)
  have L1 := hide (fun w1 => l1In_any b 0 255 w1)
  have L2 := hide (fun w1 => l1In_any c 0 1000 w1)
  generalize inB a 0 1125899906842624 = e0 at L0 ⊢
  generalize inB b 0 255 = e1 at L1 ⊢
  generalize inB c 0 1000 = e2 at L2 ⊢
  cases e0
  · skip
    go_enter Tryd.func19, Tryd.ntmps19
    go_wp2_with fail
    refine (L0.out _).mono ?_
    rintro e w1 ⟨rfl, hw⟩
    obtain rfl := hw.symm
    clear hw
    go_wp2_with fail
    go_ret
    exact ⟨by simp, B0.out⟩
  · cases e1
    · skip
      go_enter Tryd.func19, Tryd.ntmps19
      go_wp2_with fail
      refine (L0.out _).mono ?_
      rintro e w1 ⟨rfl, hw⟩
      obtain rfl := hw.symm
      clear hw
      go_wp2_with fail
      refine (L1.out _).mono ?_
      rintro e w2 ⟨rfl, hw⟩
      obtain rfl := hw.symm
      clear hw
      go_wp2_with fail
      go_ret
      exact ⟨by simp, B0.out⟩
    · skip
      go_enter Tryd.func19, Tryd.ntmps19
      go_wp2_with fail
      refine (L0.out _).mono ?_
      rintro e w1 ⟨rfl, hw⟩
      obtain rfl := hw.symm
      clear hw
      go_wp2_with fail
      refine (L1.out _).mono ?_
      rintro e w2 ⟨rfl, hw⟩
      obtain rfl := hw.symm
      clear hw
      go_wp2_with fail
      refine (L2.out _).mono ?_
      rintro e w3 ⟨rfl, hw⟩
      obtain rfl := hw.symm
      clear hw
      go_wp2_with fail
      go_ret
      exact ⟨by simp, B0.out⟩

set_option maxHeartbeats 1000000 in
theorem uses1 (w : World) : Calls Tryd.prog 20 #[.int .i64 1] w fun e w' => e = .returned (.tuple #[.int .i64 1, .bool false]) ∧ Below w.heap.size w w' := by
  go_enter Tryd.func20, Tryd.ntmps20
  go_wp2_with fail
  refine bodyPost_ret (v := .tuple #[.int .i64 1, .bool false]) (by simp [results, Tryd.results20, go_sem]) rfl ⟨rfl, (by repeat' first | with_reducible exact Below.refl _ _ | with_reducible assumption | with_reducible refine below_drewN ?_ _ | with_reducible refine balloc ?_ _ | with_reducible refine Below.drew ?_ | with_reducible refine Below.setCell ?_ (by first | (simp; done) | (simp; omega) | omega) _ | with_reducible refine bstep ?_ (by assumption))⟩

set_option maxHeartbeats 1000000 in
theorem uses2 (w : World) : Calls Tryd.prog 20 #[.int .i64 2] w fun e w' => e = .returned (.tuple #[.int .i64 2, .bool true]) ∧ Below w.heap.size w w' := by
  go_enter Tryd.func20, Tryd.ntmps20
  go_wp2_with fail
  refine bodyPost_ret (v := .tuple #[.int .i64 2, .bool true]) (by simp [results, Tryd.results20, go_sem]) rfl ⟨rfl, (by repeat' first | with_reducible exact Below.refl _ _ | with_reducible assumption | with_reducible refine below_drewN ?_ _ | with_reducible refine balloc ?_ _ | with_reducible refine Below.drew ?_ | with_reducible refine Below.setCell ?_ (by first | (simp; done) | (simp; omega) | omega) _ | with_reducible refine bstep ?_ (by assumption))⟩

set_option maxHeartbeats 1000000 in
theorem uses3 (w : World) : Calls Tryd.prog 20 #[.int .i64 3] w fun e w' => e = .returned (.tuple #[.int .i64 1, .bool false]) ∧ Below w.heap.size w w' := by
  go_enter Tryd.func20, Tryd.ntmps20
  go_wp2_with fail
  refine bodyPost_ret (v := .tuple #[.int .i64 1, .bool false]) (by simp [results, Tryd.results20, go_sem]) rfl ⟨rfl, (by repeat' first | with_reducible exact Below.refl _ _ | with_reducible assumption | with_reducible refine below_drewN ?_ _ | with_reducible refine balloc ?_ _ | with_reducible refine Below.drew ?_ | with_reducible refine Below.setCell ?_ (by first | (simp; done) | (simp; omega) | omega) _ | with_reducible refine bstep ?_ (by assumption))⟩

set_option maxHeartbeats 1000000 in
theorem uses4 (w : World) : Calls Tryd.prog 20 #[.int .i64 4] w fun e w' => e = .returned (.tuple #[.int .i64 0, .bool false]) ∧ Below w.heap.size w w' := by
  go_enter Tryd.func20, Tryd.ntmps20
  go_wp2_with fail
  refine bodyPost_ret (v := .tuple #[.int .i64 0, .bool false]) (by simp [results, Tryd.results20, go_sem]) rfl ⟨rfl, (by repeat' first | with_reducible exact Below.refl _ _ | with_reducible assumption | with_reducible refine below_drewN ?_ _ | with_reducible refine balloc ?_ _ | with_reducible refine Below.drew ?_ | with_reducible refine Below.setCell ?_ (by first | (simp; done) | (simp; omega) | omega) _ | with_reducible refine bstep ?_ (by assumption))⟩

set_option maxHeartbeats 1000000 in
theorem uses5 (w : World) : Calls Tryd.prog 20 #[.int .i64 5] w fun e w' => e = .returned (.tuple #[.int .i64 1, .bool false]) ∧ Below w.heap.size w w' := by
  go_enter Tryd.func20, Tryd.ntmps20
  go_wp2_with fail
  refine bodyPost_ret (v := .tuple #[.int .i64 1, .bool false]) (by simp [results, Tryd.results20, go_sem]) rfl ⟨rfl, (by repeat' first | with_reducible exact Below.refl _ _ | with_reducible assumption | with_reducible refine below_drewN ?_ _ | with_reducible refine balloc ?_ _ | with_reducible refine Below.drew ?_ | with_reducible refine Below.setCell ?_ (by first | (simp; done) | (simp; omega) | omega) _ | with_reducible refine bstep ?_ (by assumption))⟩

set_option maxHeartbeats 1000000 in
theorem uses6 (w : World) : Calls Tryd.prog 20 #[.int .i64 6] w fun e w' => e = .returned (.tuple #[.int .i64 3, .bool true]) ∧ Below w.heap.size w w' := by
  go_enter Tryd.func20, Tryd.ntmps20
  go_wp2_with fail
  refine bodyPost_ret (v := .tuple #[.int .i64 3, .bool true]) (by simp [results, Tryd.results20, go_sem]) rfl ⟨rfl, (by repeat' first | with_reducible exact Below.refl _ _ | with_reducible assumption | with_reducible refine below_drewN ?_ _ | with_reducible refine balloc ?_ _ | with_reducible refine Below.drew ?_ | with_reducible refine Below.setCell ?_ (by first | (simp; done) | (simp; omega) | omega) _ | with_reducible refine bstep ?_ (by assumption))⟩

set_option maxHeartbeats 1000000 in
theorem uses7 (w : World) : Calls Tryd.prog 20 #[.int .i64 7] w fun e w' => e = .returned (.tuple #[.int .i64 3, .bool true]) ∧ Below w.heap.size w w' := by
  go_enter Tryd.func20, Tryd.ntmps20
  go_wp2_with fail
  refine bodyPost_ret (v := .tuple #[.int .i64 3, .bool true]) (by simp [results, Tryd.results20, go_sem]) rfl ⟨rfl, (by repeat' first | with_reducible exact Below.refl _ _ | with_reducible assumption | with_reducible refine below_drewN ?_ _ | with_reducible refine balloc ?_ _ | with_reducible refine Below.drew ?_ | with_reducible refine Below.setCell ?_ (by first | (simp; done) | (simp; omega) | omega) _ | with_reducible refine bstep ?_ (by assumption))⟩
end Go.Proofs.YtlmiamohhmabhaaDoor
