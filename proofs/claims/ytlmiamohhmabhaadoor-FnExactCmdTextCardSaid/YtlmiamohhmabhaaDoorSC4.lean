/- VecText of the model. -/
import Derived.Test.YtlmiamohhmabhaaDoorSC1
import Derived.Test.YtlmiamohhmabhaaDoorVB
import Derived.Test.YtlmiamohhmabhaaDoorVA0
namespace Go.Proofs.YtlmiamohhmabhaaDoor
open Go.RowKit
set_option maxRecDepth 8000
set_option linter.unusedSimpArgs false
set_option linter.unusedVariables false

def vecTB (xs : List Int) : List UInt8 := if vecOkB xs then vecT xs else []

theorem vecT_one (x : Int) : vecT [x] = Lib.itoa x := Lib.join_one _ _

theorem vecT_snoc (xs : List Int) (x : Int) (h : xs ≠ []) : vecT (xs ++ [x]) = vecT xs ++ 44 :: Lib.itoa x := by
  cases xs with
  | nil => exact absurd rfl h
  | cons y r =>
    show Lib.join (Lib.itoa y :: (r ++ [x]).map Lib.itoa) [44] = Lib.join (Lib.itoa y :: r.map Lib.itoa) [44] ++ _
    rw [Lib.join_cons, Lib.join_cons]
    simp [Lib.joinTail]

theorem itoa_len {x : Int} (h : compB x = true) : (Lib.itoa x).length ≤ 21 := by
  have h' : -1048576 ≤ x ∧ x ≤ 1048576 := of_decide_eq_true h
  rcases lt_or_geI x 0 with p | p
  · rw [itoa_min p, List.length_cons]
    have := dec_len20 (n := x.natAbs) (by omega)
    omega
  · rw [itoa_pos p]
    have := dec_len20 (n := x.toNat) (by omega)
    omega

theorem vecT_len : ∀ (k : Nat) (xs : List Int), xs.length = k → (∀ x ∈ xs, compB x = true) → (vecT xs).length ≤ 22 * k
  | 0, xs, h, _ => by
    have : xs = [] := List.length_eq_zero_iff.1 h
    subst this; simp [vecT, Lib.join_nil]
  | k + 1, xs, h, hx => by
    rcases List.eq_nil_or_concat xs with rfl | ⟨ys, y, rfl⟩
    · simp at h
    · rw [List.concat_eq_append] at h hx ⊢
      have hy : ys.length = k := by simpa using h
      have ly := itoa_len (hx y (by simp))
      by_cases e : ys = []
      · subst e
        rw [List.nil_append, vecT_one]; omega
      · have := vecT_len k ys hy (fun x q => hx x (by simp [q]))
        rw [vecT_snoc _ _ e, List.length_append, List.length_cons]; omega

theorem vecOk_mem {xs : List Int} (h : vecOkB xs = true) : (1 ≤ xs.length ∧ xs.length ≤ 8) ∧ ∀ x ∈ xs, compB x = true := by
  unfold vecOkB at h
  rw [Bool.and_eq_true, decide_eq_true_eq, List.all_eq_true] at h
  exact h

theorem vecOkB_at4 {xs : List Int} (h : vecOkB xs = true) {k : Nat} (hk : k < xs.length) : compB (nth xs k) = true := by
  simp only [vecOkB, Bool.and_eq_true, List.all_eq_true] at h
  exact h.2 (nth xs k) (by unfold nth; simp [hk])

theorem take_snocI (xs : List Int) (k : Nat) (h : k < xs.length) : xs.take (k + 1) = xs.take k ++ [nth xs k] := by
  rw [List.take_succ_eq_append_getElem h]
  unfold nth
  rw [List.getD_eq_getElem?_getD, List.getElem?_eq_getElem h]; rfl

set_option maxHeartbeats 2000000 in
theorem sVecText_any (a : Option Addr) (n cap : Nat) (xs : List Int) (w : World) (h : Row w a n xs) (hn : n ≤ 1048576) :
    Calls Tryd.prog 28 #[.slice a n cap] w fun e w' => e = .returned (.string (bs (vecTB xs))) ∧ Below w.heap.size w w' := by
  have VO := hide (sVecOk_any a n cap xs w h hn)
  have hl := h.len
  unfold vecTB
  cases hv : vecOkB xs
  · rw [hv] at VO
    clear hv hl h
    rw [if_neg (by decide)]
    go_enter Tryd.func28, Tryd.ntmps28
    go_wp2_with fail
    refine VO.out.mono ?_
    rintro e w1 ⟨rfl, hw⟩
    have hw' := hw.symm
    subst hw'
    go_wp2_with fail
    go_ret
    exact ⟨rfl, (by repeat' first | with_reducible exact Below.refl _ _ | with_reducible assumption | with_reducible refine below_drewN ?_ _ | with_reducible refine balloc ?_ _ | with_reducible refine Below.drew ?_ | with_reducible refine Below.setCell ?_ (by first | (simp; done) | (simp; omega) | omega) _ | with_reducible refine bstep ?_ (by assumption))⟩
  · rw [hv] at VO
    rw [if_pos rfl]
    obtain ⟨⟨n1, n8⟩, hmem⟩ := vecOk_mem hv
    rw [hl] at n1 n8
    have bnd : ∀ k, k < n → -1048576 ≤ nth xs k ∧ nth xs k ≤ 1048576 := fun k hk => by
      have : compB (nth xs k) = true := vecOkB_at4 hv (by omega)
      exact of_decide_eq_true this
    have BND := hide bnd
    have HM := hide hmem
    have HL := hide hl
    rcases h.lies with h0 | ⟨b, off, rfl, lt, hc⟩
    · omega
    · have HC := hide hc
      have c0 := hc 0 (by omega)
      rw [Nat.add_zero] at c0
      have b0 := bnd 0 (by omega)
      clear hv hl h hmem bnd hc
      go_enter Tryd.func28, Tryd.ntmps28
      go_wp2_with fail
      refine VO.out.mono ?_
      rintro e w1 ⟨rfl, hw⟩
      have hw' := hw.symm
      subst hw'
      clear hw
      go_wp2_with fail
      refine (l1Dec_any (nth xs 0) _ (by omega) (by omega)).mono ?_
      rintro e w2 ⟨rfl, hb2⟩
      have B2 := hide hb2
      clear c0 hb2 b0
      go_wp2_with fail
      go_loopw [3, 4] (fun t i wr => ∃ (k : Nat) (S : ByteArray), 1 ≤ k ∧ k ≤ n ∧ i = .int .i64 k ∧ t = .string S ∧ Hid (S.data.toList = vecT (xs.take k)) ∧ Hid (Below w.heap.size w wr)) (fun _ i _ => n - (intOf i).toNat)
      case atStart => exact ⟨1, _, by omega, by omega, rfl, rfl, hide (by
        rw [take_snocI xs 0 (by rw [HL.out]; omega), List.take_zero, List.nil_append, vecT_one]), B2⟩
      case round =>
        obtain ⟨k, S, hk1, hk, rfl, rfl, HS, HB⟩ := hrel
        have ssz : S.size ≤ 200 := by
          rw [size_list, HS.out]
          have := vecT_len k (xs.take k) (by rw [List.length_take, HL.out]; omega) (fun x q => HM.out x (List.mem_of_mem_take q))
          omega
        by_cases hlt : k < n
        · have ck := (HB.out.cell (p := ⟨b, off + k, none⟩) lt).trans (HC.out k hlt)
          have bk := BND.out k hlt
          have lk : b < wr.heap.size := Nat.lt_of_lt_of_le lt HB.out.size
          have tl := itoa_len (x := nth xs k) (decide_eq_true (by omega))
          have DE := hide (l1Dec_any (nth xs k) wr (by omega) (by omega))
          obtain ⟨D, hD⟩ : ∃ D : ByteArray, (⟨(Lib.itoa (nth xs k)).toArray⟩ : ByteArray) = D := ⟨_, rfl⟩
          have dl : D.data.toList = Lib.itoa (nth xs k) := by rw [← hD]
          have ds : D.size ≤ 21 := by rw [size_list, dl]; exact tl
          rw [hD] at DE
          have DL := hide dl
          clear hD dl tl bk
          go_wp2_with fail
          refine DE.out.mono ?_
          rintro e w3 ⟨rfl, hb3⟩
          have B3 := hide (bstep HB.out hb3)
          clear ck hb3
          go_wp2_with fail
          go_roundw
          case rel =>
            refine ⟨k + 1, _, by omega, by omega, by go_num, rfl, hide ?_, B3⟩
            rw [str_app, str_app, HS.out, DL.out, take_snocI xs k (by rw [HL.out]; exact hlt), vecT_snoc _ _ (by intro q; have := congrArg List.length q; rw [List.length_take, HL.out] at this; simp at this; omega)]
            simp
          case measure => simp [intOf]; omega
        · obtain rfl : k = n := by omega
          go_wp2_with fail
          go_ret
          exact ⟨ret_str (by rw [← bs_of S, HS.out, ← HL.out, List.take_length]), HB.out⟩
end Go.Proofs.YtlmiamohhmabhaaDoor
