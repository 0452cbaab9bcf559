/- nearsApart of the program: slices.IndexFunc, ContainsFunc; Merged of the program. -/
import Derived.Test.YtidoajapaaoifaaMA2
namespace Go.Proofs.Ytidoajapaaoifaa
open Go.RowKit
set_option linter.unusedSimpArgs false
set_option linter.unusedVariables false

set_option maxHeartbeats 800000 in
theorem apart1_any (nb : Nat) (x : Int) (y : Int × Int) (w : World) (hl : nb < w.heap.size) (h : w.cell? ⟨nb, 0, none⟩ = some (.int .i64 x)) :
    Calls Try.prog 24 #[.agg #[.int .i64 y.1, .int .i64 y.2], .pointer (some ⟨nb, 0, none⟩)] w fun e w' => e = .returned (.bool (y.1 == x)) ∧ Below w.heap.size w w' := by
  have hne : nb ≠ w.heap.size := by omega
  go_enter Try.func24, Try.ntmps24
  go_wp2_with fail
  go_ret
  exact ⟨rfl, (by repeat' first | with_reducible exact Below.refl _ _ | with_reducible assumption | with_reducible refine below_drewN ?_ _ | with_reducible refine balloc ?_ _ | with_reducible refine Below.drew ?_ | with_reducible refine Below.setCell ?_ (by first | (simp; done) | (simp; omega) | omega) _ | with_reducible refine bstep ?_ (by assumption))⟩

/-- Whether one of the first k has that id. -/
def hasId (A : NL) (x : Int) (k : Nat) : Bool := (List.range k).any fun j => (A j).1 == x
theorem hasId_yes {A : NL} {x : Int} {k j : Nat} (hj : j < k) (h : ((A j).1 == x) = true) : hasId A x k = true := by
  unfold hasId
  rw [List.any_eq_true]
  exact ⟨j, by simpa using hj, h⟩
theorem hasId_no {A : NL} {x : Int} {k : Nat} (h : ∀ j, j < k → ((A j).1 == x) = false) : hasId A x k = false := by
  unfold hasId
  rw [List.any_eq_false]
  intro j hj
  rw [h j (by simpa using hj)]
  simp

set_option maxHeartbeats 1600000 in
theorem containsFunc_any (b off k cap nb : Nat) (x : Int) (A : NL) (w : World) (hk : k ≤ 60) (hl : nb < w.heap.size) (h : w.cell? ⟨nb, 0, none⟩ = some (.int .i64 x)) (hb : b < w.heap.size) (hc : ∀ i, i < k → w.cell? ⟨b, off + i * 2, none⟩ = some (.int .i64 (A i).1) ∧ w.cell? ⟨b, off + i * 2 + 1, none⟩ = some (.int .i64 (A i).2)) :
    Calls Try.prog 28 #[.slice (some ⟨b, off, none⟩) k cap, .func (.func 24) #[] #[.pointer (some ⟨nb, 0, none⟩)]] w fun e w' => ∃ r : Int, e = .returned (.int .i64 r) ∧ decide (0 ≤ r) = hasId A x k ∧ Below w.heap.size w w' := by
  have HC := hide hc
  clear hc
  go_enter Try.func28, Try.ntmps28
  go_wp2_with fail
  go_loopw [8] (fun i wr => ∃ j : Nat, j ≤ k ∧ i = .int .i64 j ∧ (∀ t, t < j → ((A t).1 == x) = false) ∧ Below w.heap.size w wr) (fun i _ => k - (intOf i).toNat)
  case atStart => exact ⟨0, Nat.zero_le _, rfl, fun t ht => absurd ht (by omega), (by repeat' first | with_reducible exact Below.refl _ _ | with_reducible assumption | with_reducible refine below_drewN ?_ _ | with_reducible refine balloc ?_ _ | with_reducible refine Below.drew ?_ | with_reducible refine Below.setCell ?_ (by first | (simp; done) | (simp; omega) | omega) _ | with_reducible refine bstep ?_ (by assumption))⟩
  case round =>
    obtain ⟨j, hj, rfl, hpre, hbel⟩ := hrel
    have HP := hide hpre
    have HB := hide hbel
    by_cases hlt : j < k
    · have hlt' : (j : Int) < (k : Int) := by omega
      have c0 := (hbel.cell (p := ⟨b, off + j * 2, none⟩) hb).trans (HC.out j hlt).1
      have c1 := (hbel.cell (p := ⟨b, off + j * 2 + 1, none⟩) hb).trans (HC.out j hlt).2
      have CL := hide (apart1_any nb x (A j) wr (Nat.lt_of_lt_of_le hl hbel.size) ((hbel.cell (p := ⟨nb, 0, none⟩) hl).trans h))
      obtain ⟨u, hu⟩ : ∃ u, ((A j).1 == x) = u := ⟨_, rfl⟩
      rw [hu] at CL
      have HU := hide hu
      clear hpre hbel hu h
      go_wp2_with fail
      refine CL.out.mono ?_
      rintro e w1 ⟨rfl, b1⟩
      cases u
      · go_wp2_with fail
        go_roundw
        case rel => exact ⟨j + 1, by omega, by go_num, fun t ht => (by rcases Nat.lt_succ_iff_lt_or_eq.1 ht with h | h; exact HP.out t h; rw [h]; exact HU.out), bstep HB.out b1⟩
        case measure => simp [intOf]; omega
      · have E := hide (hasId_yes hlt HU.out)
        go_wp2_with fail
        go_ret
        exact ⟨j, rfl, by rw [E.out]; exact decide_eq_true (by omega), bstep HB.out b1⟩
    · obtain rfl : j = k := by omega
      have E := hide (hasId_no hpre)
      clear hpre hbel
      go_wp2_with fail
      go_ret
      exact ⟨-1, rfl, by rw [E.out]; rfl, HB.out⟩

set_option maxHeartbeats 800000 in
theorem contains_any (b off k cap nb : Nat) (x : Int) (A : NL) (w : World) (hk : k ≤ 60) (hl : nb < w.heap.size) (h : w.cell? ⟨nb, 0, none⟩ = some (.int .i64 x)) (hb : b < w.heap.size) (hc : ∀ i, i < k → w.cell? ⟨b, off + i * 2, none⟩ = some (.int .i64 (A i).1) ∧ w.cell? ⟨b, off + i * 2 + 1, none⟩ = some (.int .i64 (A i).2)) :
    Calls Try.prog 23 #[.slice (some ⟨b, off, none⟩) k cap, .func (.func 24) #[] #[.pointer (some ⟨nb, 0, none⟩)]] w fun e w' => e = .returned (.bool (hasId A x k)) ∧ Below w.heap.size w w' := by
  have I := hide (containsFunc_any b off k cap nb x A w hk hl h hb hc)
  clear hc h
  go_enter Try.func23, Try.ntmps23
  go_wp2_with fail
  refine I.out.mono ?_
  rintro e w1 ⟨r, rfl, hr, b1⟩
  have HR := hide hr
  clear hr
  go_wp2_with fail
  go_ret
  exact ⟨by rw [← HR.out]; rfl, b1⟩

/-- Whether all are right, and no two have one id. -/
def apAt (A : NL) (i : Nat) : Bool := nearB (A i).1 (A i).2 && !hasId A (A i).1 i
def apB (A : NL) (N : Nat) : Bool := allN N (apAt A)

set_option maxHeartbeats 4000000 in
set_option maxRecDepth 4000 in
theorem nearsApart_any (b N cap : Nat) (A : NL) (w : World) (hN : N ≤ 60) (hcap : N ≤ cap) (hr : RowL w b N A) :
    Calls Try.prog 17 #[.slice (some ⟨b, 0, none⟩) N cap] w fun e w' => e = .returned (.bool (apB A N)) ∧ Below w.heap.size w w' := by
  have HR := hide hr
  have lb := hr.lt
  clear hr
  go_enter Try.func17, Try.ntmps17
  go_wp2_with fail
  go_loopw [8] (fun i wr => ∃ j : Nat, j ≤ N ∧ i = .int .i64 j ∧ (∀ t, t < j → apAt A t = true) ∧ Below w.heap.size w wr) (fun i _ => N - (intOf i).toNat)
  case atStart => exact ⟨0, Nat.zero_le _, rfl, fun t ht => absurd ht (by omega), (by repeat' first | with_reducible exact Below.refl _ _ | with_reducible assumption | with_reducible refine below_drewN ?_ _ | with_reducible refine balloc ?_ _ | with_reducible refine Below.drew ?_ | with_reducible refine Below.setCell ?_ (by first | (simp; done) | (simp; omega) | omega) _ | with_reducible refine bstep ?_ (by assumption))⟩
  case round =>
    obtain ⟨j, hj, rfl, hpre, hbel⟩ := hrel
    have HP := hide hpre
    have HB := hide hbel
    by_cases hlt : j < N
    · have hlt' : (j : Int) < (N : Int) := by omega
      have hrw := HR.out.below hbel
      have c0 := hrw.c0 hlt
      have c1 := hrw.c1 hlt
      have hjc : (j : Int) ≤ (cap : Int) := by omega
      have bb : Below wr.heap.size wr (wr.alloc (.cells #[.int .i64 (A j).1, .int .i64 (A j).2] 33)) := balloc (Below.refl _ _) _
      have CF := hide (contains_any b 0 j cap wr.heap.size (A j).1 A _ (by omega) (by simp) (by simp [go_sem]) (Nat.lt_of_lt_of_le hrw.lt bb.size) (fun i hi => by rw [Nat.zero_add]; exact ⟨(hrw.below bb).c0 (by omega), (hrw.below bb).c1 (by omega)⟩) : Calls Try.prog 23 #[.slice (some ⟨b, 0, none⟩) j cap, .func (.func 24) #[] #[.pointer (some ⟨wr.heap.size, 0, none⟩)]] (wr.alloc (.cells #[.int .i64 (A j).1, .int .i64 (A j).2] 33)) _)
      have NOK := hide (iNearOk_any (A j).1 (A j).2)
      have HBB := hide bb
      obtain ⟨u, hu⟩ : ∃ u, hasId A (A j).1 j = u := ⟨_, rfl⟩
      obtain ⟨v, hv⟩ : ∃ v, nearB (A j).1 (A j).2 = v := ⟨_, rfl⟩
      have HE := hide (show apAt A j = (v && !u) by unfold apAt; rw [hu, hv])
      rw [hu] at CF
      rw [hv] at NOK
      clear hpre hbel hrw bb hu hv
      go_wp2_with fail
      refine CF.out.mono ?_
      rintro e w1 ⟨rfl, b1⟩
      have bw1 := bstep HBB.out b1
      have q0 : w1.cell? ⟨wr.heap.size, 0, none⟩ = some (.int .i64 (A j).1) := (b1.cell (p := ⟨wr.heap.size, 0, none⟩) (by simp)).trans (by simp [go_sem])
      have q1 : w1.cell? ⟨wr.heap.size, 1, none⟩ = some (.int .i64 (A j).2) := (b1.cell (p := ⟨wr.heap.size, 1, none⟩) (by simp)).trans (by simp [go_sem])
      cases u
      · go_wp2_with fail
        refine (NOK.out _).mono ?_
        rintro e w2 ⟨rfl, b2⟩
        cases v
        · have E := hide (show apB A N = false from allN_no hlt HE.out)
          go_wp2_with fail
          go_ret
          exact ⟨by rw [E.out]; rfl, bstep (bstep HB.out bw1) b2⟩
        · go_wp2_with fail
          go_roundw
          case rel => exact ⟨j + 1, by omega, by go_num, fun t ht => (by rcases Nat.lt_succ_iff_lt_or_eq.1 ht with h | h; exact HP.out t h; rw [h]; exact HE.out), bstep (bstep HB.out bw1) b2⟩
          case measure => simp [intOf]; omega
      · have E := hide (show apB A N = false from allN_no hlt (by rw [HE.out]; cases v <;> rfl))
        go_wp2_with fail
        go_ret
        exact ⟨by rw [E.out]; rfl, bstep HB.out bw1⟩
    · obtain rfl : j = N := by omega
      have E := hide (show apB A j = true from allN_yes hpre)
      clear hpre hbel
      go_wp2_with fail
      go_ret
      exact ⟨by rw [E.out]; rfl, HB.out⟩
end Go.Proofs.Ytidoajapaaoifaa
