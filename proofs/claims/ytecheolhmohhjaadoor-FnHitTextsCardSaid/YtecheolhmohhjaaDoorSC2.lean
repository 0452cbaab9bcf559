/- l1Num of the model. -/
import Derived.Test.YtecheolhmohhjaaDoorSC1
namespace Go.Proofs.YtecheolhmohhjaaDoor
open Go.RowKit
set_option maxRecDepth 8000
set_option linter.unusedSimpArgs false
set_option linter.unusedVariables false

theorem digs_lt : ∀ (l : List UInt8) (acc n : Nat), digsN acc l = some n → n < (acc + 1) * 10 ^ l.length
  | [], acc, n, h => by cases h; simp
  | c :: l, acc, n, h => by
    unfold digsN at h
    split at h
    · have := digs_lt l _ n h
      rw [List.length_cons, Nat.pow_succ, Nat.mul_comm (10 ^ l.length) 10, ← Nat.mul_assoc]
      refine Nat.lt_of_lt_of_le this (Nat.mul_le_mul_right _ ?_)
      omega
    · cases h

theorem digs_cut : ∀ (l : List UInt8) (acc k : Nat), digsN acc (l.take k) = none → digsN acc l = none
  | [], acc, k, h => by simp [digsN] at h
  | c :: l, acc, 0, h => by simp [digsN] at h
  | c :: l, acc, k + 1, h => by
    rw [List.take_succ_cons] at h
    unfold digsN at h ⊢
    split
    · rename_i hc
      rw [if_pos hc] at h
      exact digs_cut l _ k h
    · rfl

theorem take_next (s : ByteArray) (k : Nat) (h : k < s.size) : s.data.toList.take (k + 1) = s.data.toList.take k ++ [s[k]] := by
  rw [List.take_succ_eq_append_getElem (by rw [← size_list]; exact h)]; rfl
def natV (l : List UInt8) : Int := ((natL l).getD 0 : Nat)

set_option maxHeartbeats 2000000 in
theorem l1Num_nat (s : ByteArray) (w : World) (hs : s.size ≤ 9223372036854775807)
    (hp : s.size ≤ 1 ∨ ∃ h : 1 < s.size, s[0] ≠ 45 ∨ (s[0] = 45 ∧ (s[1] = 48 ∨ s[1] = 45))) :
    Calls Tryd.prog 20 #[.string s] w fun e w' => e = .returned (.tuple #[.int .i64 (natV s.data.toList), .bool (natL s.data.toList).isSome]) ∧ Below w.heap.size w w' := by
  have none' : natL s.data.toList = none → natV s.data.toList = 0 ∧ (natL s.data.toList).isSome = false := fun h => by unfold natV; rw [h]; exact ⟨rfl, rfl⟩
  have HL := hide (size_list s)
  have e48 : (48 : UInt8).toNat = 48 := rfl
  have e45 : (45 : UInt8).toNat = 45 := rfl
  by_cases hz : s.size = 0
  · obtain ⟨n1, n2⟩ := none' (by unfold natL; rw [if_pos (.inl (by rw [← HL.out]; omega))])
    rw [n1, n2]
    have hz' : (s.size : Int) = 0 := by omega
    clear hp none' hz n1 n2
    go_enter Tryd.func20, Tryd.ntmps20
    go_wp2_with fail
    refine bodyPost_ret (v := .tuple #[.int .i64 0, .bool false]) (by simp [results, Tryd.results20, go_sem]) rfl ⟨rfl, (by repeat' first | with_reducible exact Below.refl _ _ | with_reducible assumption | with_reducible refine below_drewN ?_ _ | with_reducible refine balloc ?_ _ | with_reducible refine Below.drew ?_ | with_reducible refine Below.setCell ?_ (by first | (simp; done) | (simp; omega) | omega) _ | with_reducible refine bstep ?_ (by assumption))⟩
  · have hb0 := hide (byte_at s 0 (by omega))
    have W1 : (¬ 1 < (s.size : Int)) ∨ (1 < (s.size : Int) ∧ ¬ (s[0].toNat : Int) = 45) ∨ (∃ h : 1 < s.size, 1 < (s.size : Int) ∧ (s[0].toNat : Int) = 45 ∧ (s[1].toNat : Int) = 48) ∨ (∃ h : 1 < s.size, 1 < (s.size : Int) ∧ (s[0].toNat : Int) = 45 ∧ (s[1].toNat : Int) = 45) := by
      rcases hp with q | ⟨q, q0 | ⟨q0, q1 | q1⟩⟩
      · exact .inl (by omega)
      · exact .inr (.inl ⟨by omega, fun e => q0 (UInt8.toNat_inj.1 (by rw [e45]; omega))⟩)
      · exact .inr (.inr (.inl ⟨q, by omega, by rw [q0]; rfl, by rw [q1]; rfl⟩))
      · exact .inr (.inr (.inr ⟨q, by omega, by rw [q0]; rfl, by rw [q1]; rfl⟩))
    have hz0 : 0 < (s.size : Int) := by omega
    have h48n : ∀ q : s[0] ≠ 48, ¬ (s[0].toNat : Int) = 48 := fun q e => q (UInt8.toNat_inj.1 (by rw [e48]; omega))
    have H0 : Hid (s.data.toList.head? = some s[0]) := hide (by rw [List.head?_eq_getElem?]; exact hb0.out)
    clear hp e45 e48 hb0
    rcases W1 with a1 | ⟨a1, a2⟩ | ⟨ah, a1, a2, a3⟩ | ⟨ah, a1, a2, a3⟩
    all_goals
      by_cases h16 : 16 < s.size
      · have g16 : 16 < (s.size : Int) := by omega
        first
          | (exfalso; omega)
          | (obtain ⟨n1, n2⟩ := none' (by unfold natL; rw [if_pos (by rw [← HL.out]; exact .inr (.inl h16))])
             rw [n1, n2]
             clear none' n1 n2
             go_enter Tryd.func20, Tryd.ntmps20
             go_wp2_with fail
             refine bodyPost_ret (v := .tuple #[.int .i64 0, .bool false]) (by simp [results, Tryd.results20, go_sem]) rfl ⟨rfl, (by repeat' first | with_reducible exact Below.refl _ _ | with_reducible assumption | with_reducible refine below_drewN ?_ _ | with_reducible refine balloc ?_ _ | with_reducible refine Below.drew ?_ | with_reducible refine Below.setCell ?_ (by first | (simp; done) | (simp; omega) | omega) _ | with_reducible refine bstep ?_ (by assumption))⟩)
      · have g16 : ¬ 16 < (s.size : Int) := by omega
        by_cases h48 : s[0] = 48
        · have g48 : (s[0].toNat : Int) = 48 := by rw [h48]; rfl
          by_cases h1 : 1 < s.size
          · have g1 : 1 < (s.size : Int) := by omega
            first
              | (exfalso; omega)
              | (obtain ⟨n1, n2⟩ := none' (by unfold natL; rw [if_pos (by rw [← HL.out]; exact .inr (.inr ⟨by rw [H0.out, h48], h1⟩))])
                 rw [n1, n2]
                 clear none' n1 n2
                 go_enter Tryd.func20, Tryd.ntmps20
                 go_wp2_with fail
                 refine bodyPost_ret (v := .tuple #[.int .i64 0, .bool false]) (by simp [results, Tryd.results20, go_sem]) rfl ⟨rfl, (by repeat' first | with_reducible exact Below.refl _ _ | with_reducible assumption | with_reducible refine below_drewN ?_ _ | with_reducible refine balloc ?_ _ | with_reducible refine Below.drew ?_ | with_reducible refine Below.setCell ?_ (by first | (simp; done) | (simp; omega) | omega) _ | with_reducible refine bstep ?_ (by assumption))⟩)
          · have g1 : ¬ 1 < (s.size : Int) := by omega
            first
              | (exfalso; omega)
              | skip
            all_goals
              have HF : Hid (natL s.data.toList = digsN 0 s.data.toList) := hide (by unfold natL; rw [if_neg (by rw [← HL.out]; omega)])
              clear none'
              go_enter Tryd.func20, Tryd.ntmps20
              go_wp2_with fail
              go_loop [6, 7] (fun n i => ∃ (k m : Nat), k ≤ s.size ∧ i = .int .i64 k ∧ n = .int .i64 m ∧ Hid (digsN 0 (s.data.toList.take k) = some m) ∧ m < 10000000000000000) (fun _ i => s.size - (intOf i).toNat)
              case atStart => exact ⟨0, 0, Nat.zero_le _, rfl, rfl, hide rfl, by omega⟩
              case round =>
                obtain ⟨k, m, hk, rfl, rfl, HD, hm⟩ := hrel
                by_cases hlt : k < s.size
                · have HT := hide (take_next s k hlt)
                  have HSN := hide (digs_snoc s[k] (s.data.toList.take k) 0)
                  have hb256 : s[k].toNat < 256 := s[k].toNat_lt
                  obtain ⟨x, hx⟩ : ∃ x : Nat, s[k].toNat = x := ⟨_, rfl⟩
                  by_cases hlo : x < 48
                  · have hlo' : (s[k].toNat : Int) < 48 := by omega
                    have HB := hide (show digsN 0 s.data.toList = none from digs_cut _ _ (k + 1) (by rw [HT.out, HSN.out, HD.out]; show (if _ then _ else _) = _; rw [if_neg (by omega)]))
                    clear hx
                    go_wp2_with fail
                    refine bodyPost_ret (v := .tuple #[.int .i64 0, .bool false]) (by simp [results, Tryd.results20, go_sem]) rfl ⟨?_, (by repeat' first | with_reducible exact Below.refl _ _ | with_reducible assumption | with_reducible refine below_drewN ?_ _ | with_reducible refine balloc ?_ _ | with_reducible refine Below.drew ?_ | with_reducible refine Below.setCell ?_ (by first | (simp; done) | (simp; omega) | omega) _ | with_reducible refine bstep ?_ (by assumption))⟩
                    unfold natV
                    rw [HF.out, HB.out]; rfl
                  · by_cases hhi : 57 < x
                    · have hlo' : ¬ (s[k].toNat : Int) < 48 := by omega
                      have hhi' : 57 < (s[k].toNat : Int) := by omega
                      have HB := hide (show digsN 0 s.data.toList = none from digs_cut _ _ (k + 1) (by rw [HT.out, HSN.out, HD.out]; show (if _ then _ else _) = _; rw [if_neg (by omega)]))
                      clear hx
                      go_wp2_with fail
                      refine bodyPost_ret (v := .tuple #[.int .i64 0, .bool false]) (by simp [results, Tryd.results20, go_sem]) rfl ⟨?_, (by repeat' first | with_reducible exact Below.refl _ _ | with_reducible assumption | with_reducible refine below_drewN ?_ _ | with_reducible refine balloc ?_ _ | with_reducible refine Below.drew ?_ | with_reducible refine Below.setCell ?_ (by first | (simp; done) | (simp; omega) | omega) _ | with_reducible refine bstep ?_ (by assumption))⟩
                      unfold natV
                      rw [HF.out, HB.out]; rfl
                    · have hlo' : ¬ (s[k].toNat : Int) < 48 := by omega
                      have hhi' : ¬ 57 < (s[k].toNat : Int) := by omega
                      have HB := hide (show digsN 0 (s.data.toList.take (k + 1)) = some (m * 10 + (s[k].toNat - 48)) from (by rw [HT.out, HSN.out, HD.out]; show (if _ then _ else _) = _; rw [if_pos (by omega)]))
                      have hm' : m * 10 + (s[k].toNat - 48) < 10000000000000000 := by
                        have a := digs_lt _ _ _ HB.out
                        have l : (s.data.toList.take (k + 1)).length ≤ 16 := by rw [List.length_take]; omega
                        have b : 10 ^ (s.data.toList.take (k + 1)).length ≤ 10 ^ 16 := Nat.pow_le_pow_right (by omega) l
                        have c : (10 : Nat) ^ 16 = 10000000000000000 := by decide
                        omega
                      have HE := hide (show ((m * 10 + (s[k].toNat - 48) : Nat) : Int) = 10 * (m : Int) + ((s[k].toNat : Int) - 48) by omega)
                      clear hx
                      go_wp2_with fail
                      go_round
                      case rel => exact ⟨k + 1, m * 10 + (s[k].toNat - 48), by omega, by go_num, by rw [HE.out], HB, hm'⟩
                      case measure => simp [intOf]; omega
                · obtain rfl : k = s.size := by omega
                  have HB := hide (show digsN 0 s.data.toList = some m by have := HD.out; rwa [HL.out, List.take_length] at this)
                  go_wp2_with fail
                  refine bodyPost_ret (v := .tuple #[.int .i64 m, .bool true]) (by simp [results, Tryd.results20, go_sem]) rfl ⟨?_, (by repeat' first | with_reducible exact Below.refl _ _ | with_reducible assumption | with_reducible refine below_drewN ?_ _ | with_reducible refine balloc ?_ _ | with_reducible refine Below.drew ?_ | with_reducible refine Below.setCell ?_ (by first | (simp; done) | (simp; omega) | omega) _ | with_reducible refine bstep ?_ (by assumption))⟩
                  unfold natV
                  rw [HF.out, HB.out]; rfl
        · have g48 := h48n h48
          first
            | (exfalso; omega)
            | skip
          all_goals
            have HF : Hid (natL s.data.toList = digsN 0 s.data.toList) := hide (by unfold natL; rw [if_neg (by rw [← HL.out]; rw [H0.out]; rintro (q | q | ⟨q, _⟩); omega; omega; exact h48 (Option.some.inj q))])
            clear none'
            go_enter Tryd.func20, Tryd.ntmps20
            go_wp2_with fail
            go_loop [6, 7] (fun n i => ∃ (k m : Nat), k ≤ s.size ∧ i = .int .i64 k ∧ n = .int .i64 m ∧ Hid (digsN 0 (s.data.toList.take k) = some m) ∧ m < 10000000000000000) (fun _ i => s.size - (intOf i).toNat)
            case atStart => exact ⟨0, 0, Nat.zero_le _, rfl, rfl, hide rfl, by omega⟩
            case round =>
              obtain ⟨k, m, hk, rfl, rfl, HD, hm⟩ := hrel
              by_cases hlt : k < s.size
              · have HT := hide (take_next s k hlt)
                have HSN := hide (digs_snoc s[k] (s.data.toList.take k) 0)
                have hb256 : s[k].toNat < 256 := s[k].toNat_lt
                obtain ⟨x, hx⟩ : ∃ x : Nat, s[k].toNat = x := ⟨_, rfl⟩
                by_cases hlo : x < 48
                · have hlo' : (s[k].toNat : Int) < 48 := by omega
                  have HB := hide (show digsN 0 s.data.toList = none from digs_cut _ _ (k + 1) (by rw [HT.out, HSN.out, HD.out]; show (if _ then _ else _) = _; rw [if_neg (by omega)]))
                  clear hx
                  go_wp2_with fail
                  refine bodyPost_ret (v := .tuple #[.int .i64 0, .bool false]) (by simp [results, Tryd.results20, go_sem]) rfl ⟨?_, (by repeat' first | with_reducible exact Below.refl _ _ | with_reducible assumption | with_reducible refine below_drewN ?_ _ | with_reducible refine balloc ?_ _ | with_reducible refine Below.drew ?_ | with_reducible refine Below.setCell ?_ (by first | (simp; done) | (simp; omega) | omega) _ | with_reducible refine bstep ?_ (by assumption))⟩
                  unfold natV
                  rw [HF.out, HB.out]; rfl
                · by_cases hhi : 57 < x
                  · have hlo' : ¬ (s[k].toNat : Int) < 48 := by omega
                    have hhi' : 57 < (s[k].toNat : Int) := by omega
                    have HB := hide (show digsN 0 s.data.toList = none from digs_cut _ _ (k + 1) (by rw [HT.out, HSN.out, HD.out]; show (if _ then _ else _) = _; rw [if_neg (by omega)]))
                    clear hx
                    go_wp2_with fail
                    refine bodyPost_ret (v := .tuple #[.int .i64 0, .bool false]) (by simp [results, Tryd.results20, go_sem]) rfl ⟨?_, (by repeat' first | with_reducible exact Below.refl _ _ | with_reducible assumption | with_reducible refine below_drewN ?_ _ | with_reducible refine balloc ?_ _ | with_reducible refine Below.drew ?_ | with_reducible refine Below.setCell ?_ (by first | (simp; done) | (simp; omega) | omega) _ | with_reducible refine bstep ?_ (by assumption))⟩
                    unfold natV
                    rw [HF.out, HB.out]; rfl
                  · have hlo' : ¬ (s[k].toNat : Int) < 48 := by omega
                    have hhi' : ¬ 57 < (s[k].toNat : Int) := by omega
                    have HB := hide (show digsN 0 (s.data.toList.take (k + 1)) = some (m * 10 + (s[k].toNat - 48)) from (by rw [HT.out, HSN.out, HD.out]; show (if _ then _ else _) = _; rw [if_pos (by omega)]))
                    have hm' : m * 10 + (s[k].toNat - 48) < 10000000000000000 := by
                      have a := digs_lt _ _ _ HB.out
                      have l : (s.data.toList.take (k + 1)).length ≤ 16 := by rw [List.length_take]; omega
                      have b : 10 ^ (s.data.toList.take (k + 1)).length ≤ 10 ^ 16 := Nat.pow_le_pow_right (by omega) l
                      have c : (10 : Nat) ^ 16 = 10000000000000000 := by decide
                      omega
                    have HE := hide (show ((m * 10 + (s[k].toNat - 48) : Nat) : Int) = 10 * (m : Int) + ((s[k].toNat : Int) - 48) by omega)
                    clear hx
                    go_wp2_with fail
                    go_round
                    case rel => exact ⟨k + 1, m * 10 + (s[k].toNat - 48), by omega, by go_num, by rw [HE.out], HB, hm'⟩
                    case measure => simp [intOf]; omega
              · obtain rfl : k = s.size := by omega
                have HB := hide (show digsN 0 s.data.toList = some m by have := HD.out; rwa [HL.out, List.take_length] at this)
                go_wp2_with fail
                refine bodyPost_ret (v := .tuple #[.int .i64 m, .bool true]) (by simp [results, Tryd.results20, go_sem]) rfl ⟨?_, (by repeat' first | with_reducible exact Below.refl _ _ | with_reducible assumption | with_reducible refine below_drewN ?_ _ | with_reducible refine balloc ?_ _ | with_reducible refine Below.drew ?_ | with_reducible refine Below.setCell ?_ (by first | (simp; done) | (simp; omega) | omega) _ | with_reducible refine bstep ?_ (by assumption))⟩
                unfold natV
                rw [HF.out, HB.out]; rfl
end Go.Proofs.YtecheolhmohhjaaDoor
