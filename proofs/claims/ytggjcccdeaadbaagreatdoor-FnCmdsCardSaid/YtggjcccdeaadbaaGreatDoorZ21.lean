/- Decimal numbers as the model writes them. -/
import Derived.Test.YtggjcccdeaadbaaGreatDoorZ2
import Derived.Test.YtggjcccdeaadbaaGreatDoorZ3
import Derived.Deep.RegionWith
import Derived.Deep.DeepCutAuto
import Derived.Deep.LoopGhost
import Derived.Deep.OwnRows
import Derived.Laws.IdiomStrings
import Derived.Laws.Concat
import Derived.Test.YtggjcccdeaadbaaGreatDoorZ4
namespace Go.Proofs.YtggjcccdeaadbaaGreatDoor
open Go.RowKit
set_option maxRecDepth 8000
set_option linter.unusedSimpArgs false
set_option linter.unusedVariables false

theorem str_app (a b : ByteArray) : (a ++ b).data.toList = a.data.toList ++ b.data.toList := by simp

theorem str_eq {S : ByteArray} {l : List UInt8} (h : S.data.toList = l) : S = ⟨l.toArray⟩ := by
  subst h; cases S; simp

theorem str_size (S : ByteArray) : S.size = S.data.toList.length := by
  cases S with | mk d => exact (Array.length_toList (xs := d)).symm

theorem one_byte (w : World) (b : UInt8) (c : Int) (hc : c = (b.toNat : Int)) :
    (convert 22 9 (.slice (some ⟨w.heap.size, 0, none⟩) 1 1)).run Tryz.prog (w.alloc (.cells #[.int .u8 c] 5)) = .ok (.string ⟨#[b]⟩) (w.alloc (.cells #[.int .u8 c] 5)) := by
  have h := run_convert_bytes_back (P := Tryz.prog) (w.alloc (.cells #[.int .u8 c] 5)) 22 9 5 ⟨w.heap.size, 0, none⟩ 1 [b] Tryz.underlying22 Tryz.underlying5 Tryz.underlying9 (fun j hj => by
    obtain rfl : j = 0 := by simpa using hj
    simp [Addr.add, hc])
  exact h

theorem dec_len20 {n : Nat} (h : n ≤ 9223372036854775808) : (Lib.decDigits n).length ≤ 20 := by
  rw [Lib.decDigits_length]
  rcases Nat.lt_or_ge 20 (Lib.nDigits n) with q | q
  · have : ∀ (k n : Nat), k + 1 < Lib.nDigits n → 10 ^ (k + 1) ≤ n := by
      intro k
      induction k with
      | zero =>
        intro n h
        rcases Nat.lt_or_ge n 10 with p | p
        · rw [Lib.nDigits_small p] at h; omega
        · simpa using p
      | succ k ih =>
        intro n h
        rcases Nat.lt_or_ge n 10 with p | p
        · rw [Lib.nDigits_small p] at h; omega
        · rw [Lib.nDigits_big (by omega)] at h
          have := ih (n / 10) (by omega)
          rw [Nat.pow_succ]
          omega
    have := this 19 n (by omega)
    have c : (10 : Nat) ^ (19 + 1) = 100000000000000000000 := by decide
    omega
  · exact q

theorem ret_str {a b : ByteArray} (h : a = b) : Ending.returned (.string a) = .returned (.string b) := by rw [h]

set_option maxHeartbeats 1000000 in
theorem l1Dec_any (x : Int) (w : World) (h0 : -9223372036854775808 ≤ x) (h1 : x ≤ 9223372036854775807) :
    Calls Tryz.prog 30 #[.int .i64 x] w fun e w' => e = .returned (.string ⟨(Lib.itoa x).toArray⟩) ∧ Below w.heap.size w w' := by
  have hN := dec_len20 (n := x.natAbs) (by omega)
  by_cases hx : x < 0
  all_goals
    go_enter Tryz.func30, Tryz.ntmps30
    go_wp2_with fail
    go_loopw [3, 4] (fun m s wr => ∃ (k : Nat) (S : ByteArray), m = .int .u64 k ∧ s = .string S ∧ k ≤ 9223372036854775808 ∧ Hid (Lib.decDigits k ++ S.data.toList = Lib.decDigits x.natAbs) ∧ Below w.heap.size w wr) (fun m _ _ => (intOf m).toNat)
    case atStart => exact ⟨x.natAbs, ByteArray.empty, by first | (simp only [IntKind.wrap_u64]; congr 1; omega) | (congr 1; omega), rfl, by omega, hide (by simp), Below.refl _ _⟩
    case round =>
      obtain ⟨k, S, rfl, rfl, hk, HS, hbel⟩ := hrel
      have hsz : S.size ≤ 20 := by
        have := congrArg List.length HS.out
        rw [List.length_append, ← str_size] at this
        omega
      by_cases hlt : 10 ≤ k
      · obtain ⟨b, hb⟩ : ∃ b, UInt8.ofNat (48 + k % 10) = b := ⟨_, rfl⟩
        have hc := one_byte wr b (48 + (k : Int) % 10) (by rw [← hb, toNat_dig (Nat.mod_lt _ (by omega))]; omega)
        have HB := hide hb
        clear hb
        go_wp2_with fail
        go_roundw
        case rel =>
          refine ⟨k / 10, _, by go_num, rfl, by omega, hide ?_, (by repeat' first | with_reducible exact Below.refl _ _ | with_reducible assumption | with_reducible refine below_drewN ?_ _ | with_reducible refine balloc ?_ _ | with_reducible refine Below.drew ?_ | with_reducible refine Below.setCell ?_ (by first | (simp; done) | (simp; omega) | omega) _ | with_reducible refine bstep ?_ (by assumption))⟩
          rw [str_app, ← HS.out, dec_big (u := k) (by omega), List.append_assoc, HB.out]
        case measure => simp [intOf]; omega
      · obtain ⟨b, hb⟩ : ∃ b, UInt8.ofNat (48 + k) = b := ⟨_, rfl⟩
        have hc := one_byte wr b (48 + (k : Int)) (by rw [← hb, toNat_dig (by omega)]; omega)
        have HB := hide hb
        clear hb
        go_wp2_with fail
        go_ret
        refine ⟨ret_str (str_eq ?_), (by repeat' first | with_reducible exact Below.refl _ _ | with_reducible assumption | with_reducible refine below_drewN ?_ _ | with_reducible refine balloc ?_ _ | with_reducible refine Below.drew ?_ | with_reducible refine Below.setCell ?_ (by first | (simp; done) | (simp; omega) | omega) _ | with_reducible refine bstep ?_ (by assumption))⟩
        have e := HS.out
        rw [dec_small (u := k) (by omega), HB.out] at e
        first
          | (rw [itoa_min hx, ← e, str_app, str_app]; rfl)
          | (rw [itoa_pos (by omega), show x.toNat = x.natAbs by omega, ← e, str_app]; rfl)
          | (rw [itoa_pos (by omega), show x.toNat = x.natAbs by omega, ← e, str_app])
end Go.Proofs.YtggjcccdeaadbaaGreatDoor

/- l1Cut of the model. -/
namespace Go.Proofs.YtggjcccdeaadbaaGreatDoor
open Go.RowKit
set_option maxRecDepth 8000
set_option linter.unusedSimpArgs false
set_option linter.unusedVariables false

theorem byte_at (s : ByteArray) (k : Nat) (h : k < s.size) : s.data.toList[k]? = some s[k] := by
  have h' : k < s.data.toList.length := by rw [← size_list]; exact h
  rw [List.getElem?_eq_getElem h']; rfl

theorem ext_mid (s : ByteArray) (i j : Nat) : s.extract i j = bs ((s.data.toList.take j).drop i) := by
  refine (bs_of _).symm.trans (congrArg bs ?_)
  rw [ByteArray.data_extract, Array.toList_extract]
  simp [List.extract, List.drop_take]

theorem ext_take (s : ByteArray) (k : Nat) : s.extract 0 k = bs (s.data.toList.take k) := by rw [ext_mid, List.drop_zero]

theorem ext_drop (s : ByteArray) (k : Nat) : s.extract k s.size = bs (s.data.toList.drop k) := by rw [ext_mid, size_list, List.take_length]

set_option maxHeartbeats 1000000 in
theorem l1Cut_any (s : ByteArray) (c : UInt8) (w : World) (hs : s.size ≤ 9223372036854775807) :
    Calls Tryz.prog 53 #[.string s, .int .u8 (c.toNat : Int)] w fun e w' => e = .returned (.tuple #[.string (bs (cutL c s.data.toList).1), .string (bs (cutL c s.data.toList).2.1), .bool (cutL c s.data.toList).2.2]) ∧ Below w.heap.size w w' := by
  go_enter Tryz.func53, Tryz.ntmps53
  go_wp2_with fail
  go_loop [7] (fun i => ∃ k : Nat, k ≤ s.size ∧ i = .int .i64 k ∧ Hid (∀ j, j < k → s.data.toList[j]? ≠ some c)) (fun i => s.size - (intOf i).toNat)
  case atStart => exact ⟨0, Nat.zero_le _, rfl, hide fun j hj => absurd hj (by omega)⟩
  case round =>
    obtain ⟨k, hk, rfl, HN⟩ := hrel
    by_cases hlt : k < s.size
    · have hb := hide (byte_at s k hlt)
      by_cases hc : s[k] = c
      · have hcut := hide (cut_hit c k s.data.toList HN.out (by rw [hb.out, hc]))
        have hq : (s[k].toNat : Int) = (c.toNat : Int) := by rw [hc]
        go_wp2_with fail
        go_quiet (fail)
        go_wp2_with fail
        refine bodyPost_ret (v := .tuple #[.string (s.extract 0 k), .string (s.extract (k + 1) s.size), .bool true]) (by simp [results, Tryz.results53, go_sem]) rfl ⟨?_, (by repeat' first | with_reducible exact Below.refl _ _ | with_reducible assumption | with_reducible refine below_drewN ?_ _ | with_reducible refine balloc ?_ _ | with_reducible refine Below.drew ?_ | with_reducible refine Below.setCell ?_ (by first | (simp; done) | (simp; omega) | omega) _ | with_reducible refine bstep ?_ (by assumption))⟩
        rw [hcut.out, ext_take, ext_drop]
      · have hq : ¬ ((s[k].toNat : Int) = (c.toNat : Int)) := fun e => hc (UInt8.toNat_inj.1 (by omega))
        go_wp2_with fail
        go_round
        case rel =>
          refine ⟨k + 1, by omega, by go_num, hide fun j hj => ?_⟩
          by_cases e : j = k
          · rw [e, hb.out]; exact fun q => hc (Option.some.inj q)
          · exact HN.out j (by omega)
        case measure => simp [intOf]; omega
    · obtain rfl : k = s.size := by omega
      have hcut := hide (cut_miss c s.data.toList (by rw [← size_list]; exact HN.out))
      go_wp2_with fail
      refine bodyPost_ret (v := .tuple #[.string s, .string ⟨#[]⟩, .bool false]) (by simp [results, Tryz.results53, go_sem]) rfl ⟨?_, (by repeat' first | with_reducible exact Below.refl _ _ | with_reducible assumption | with_reducible refine below_drewN ?_ _ | with_reducible refine balloc ?_ _ | with_reducible refine Below.drew ?_ | with_reducible refine Below.setCell ?_ (by first | (simp; done) | (simp; omega) | omega) _ | with_reducible refine bstep ?_ (by assumption))⟩
      rw [hcut.out, bs_of]; rfl
end Go.Proofs.YtggjcccdeaadbaaGreatDoor

/- VecText of the model. -/
namespace Go.Proofs.YtggjcccdeaadbaaGreatDoor
open Go.RowKit
set_option maxRecDepth 8000
set_option linter.unusedSimpArgs false
set_option linter.unusedVariables false

def vecTB (xs : List Int) : List UInt8 := if vecOkB xs then vecT xs else []

theorem vecT_one (x : Int) : vecT [x] = Lib.itoa x := Lib.join_one _ _

theorem vecT_snoc (xs : List Int) (x : Int) (h : xs ≠ []) : vecT (xs ++ [x]) = vecT xs ++ 44 :: Lib.itoa x := by
  cases xs with
  | nil => exact absurd rfl h
  | cons y r =>
    show Lib.join (Lib.itoa y :: (r ++ [x]).map Lib.itoa) [44] = Lib.join (Lib.itoa y :: r.map Lib.itoa) [44] ++ _
    rw [Lib.join_cons, Lib.join_cons]
    simp [Lib.joinTail]

theorem itoa_len {x : Int} (h : compB x = true) : (Lib.itoa x).length ≤ 21 := by
  have h' : -1048576 ≤ x ∧ x ≤ 1048576 := of_decide_eq_true h
  rcases lt_or_geI x 0 with p | p
  · rw [itoa_min p, List.length_cons]
    have := dec_len20 (n := x.natAbs) (by omega)
    omega
  · rw [itoa_pos p]
    have := dec_len20 (n := x.toNat) (by omega)
    omega

theorem vecT_len : ∀ (k : Nat) (xs : List Int), xs.length = k → (∀ x ∈ xs, compB x = true) → (vecT xs).length ≤ 22 * k
  | 0, xs, h, _ => by
    have : xs = [] := List.length_eq_zero_iff.1 h
    subst this; simp [vecT, Lib.join_nil]
  | k + 1, xs, h, hx => by
    rcases List.eq_nil_or_concat xs with rfl | ⟨ys, y, rfl⟩
    · simp at h
    · rw [List.concat_eq_append] at h hx ⊢
      have hy : ys.length = k := by simpa using h
      have ly := itoa_len (hx y (by simp))
      by_cases e : ys = []
      · subst e
        rw [List.nil_append, vecT_one]; omega
      · have := vecT_len k ys hy (fun x q => hx x (by simp [q]))
        rw [vecT_snoc _ _ e, List.length_append, List.length_cons]; omega

theorem vecOk_mem {xs : List Int} (h : vecOkB xs = true) : (1 ≤ xs.length ∧ xs.length ≤ 8) ∧ ∀ x ∈ xs, compB x = true := by
  unfold vecOkB at h
  rw [Bool.and_eq_true, decide_eq_true_eq, List.all_eq_true] at h
  exact h

theorem vecOkB_at4 {xs : List Int} (h : vecOkB xs = true) {k : Nat} (hk : k < xs.length) : compB (nth xs k) = true := by
  simp only [vecOkB, Bool.and_eq_true, List.all_eq_true] at h
  exact h.2 (nth xs k) (by unfold nth; simp [hk])

theorem take_snocI (xs : List Int) (k : Nat) (h : k < xs.length) : xs.take (k + 1) = xs.take k ++ [nth xs k] := by
  rw [List.take_succ_eq_append_getElem h]
  unfold nth
  rw [List.getD_eq_getElem?_getD, List.getElem?_eq_getElem h]; rfl

set_option maxHeartbeats 2000000 in
theorem sVecText_any (a : Option Addr) (n cap : Nat) (xs : List Int) (w : World) (h : Row w a n xs) (hn : n ≤ 1048576) :
    Calls Tryz.prog 31 #[.slice a n cap] w fun e w' => e = .returned (.string (bs (vecTB xs))) ∧ Below w.heap.size w w' := by
  have VO := hide (sVecOk_any a n cap xs w h hn)
  have hl := h.len
  unfold vecTB
  cases hv : vecOkB xs
  · rw [hv] at VO
    clear hv hl h
    rw [if_neg (by decide)]
    go_enter Tryz.func31, Tryz.ntmps31
    go_wp2_with fail
    refine VO.out.mono ?_
    rintro e w1 ⟨rfl, hw⟩
    have hw' := hw.symm
    subst hw'
    go_wp2_with fail
    go_ret
    exact ⟨rfl, (by repeat' first | with_reducible exact Below.refl _ _ | with_reducible assumption | with_reducible refine below_drewN ?_ _ | with_reducible refine balloc ?_ _ | with_reducible refine Below.drew ?_ | with_reducible refine Below.setCell ?_ (by first | (simp; done) | (simp; omega) | omega) _ | with_reducible refine bstep ?_ (by assumption))⟩
  · rw [hv] at VO
    rw [if_pos rfl]
    obtain ⟨⟨n1, n8⟩, hmem⟩ := vecOk_mem hv
    rw [hl] at n1 n8
    have bnd : ∀ k, k < n → -1048576 ≤ nth xs k ∧ nth xs k ≤ 1048576 := fun k hk => by
      have : compB (nth xs k) = true := vecOkB_at4 hv (by omega)
      exact of_decide_eq_true this
    have BND := hide bnd
    have HM := hide hmem
    have HL := hide hl
    rcases h.lies with h0 | ⟨b, off, rfl, lt, hc⟩
    · omega
    · have HC := hide hc
      have c0 := hc 0 (by omega)
      rw [Nat.add_zero] at c0
      have b0 := bnd 0 (by omega)
      clear hv hl h hmem bnd hc
      go_enter Tryz.func31, Tryz.ntmps31
      go_wp2_with fail
      refine VO.out.mono ?_
      rintro e w1 ⟨rfl, hw⟩
      have hw' := hw.symm
      subst hw'
      clear hw
      go_wp2_with fail
      refine (l1Dec_any (nth xs 0) _ (by omega) (by omega)).mono ?_
      rintro e w2 ⟨rfl, hb2⟩
      have B2 := hide hb2
      clear c0 hb2 b0
      go_wp2_with fail
      go_loopw [3, 4] (fun t i wr => ∃ (k : Nat) (S : ByteArray), 1 ≤ k ∧ k ≤ n ∧ i = .int .i64 k ∧ t = .string S ∧ Hid (S.data.toList = vecT (xs.take k)) ∧ Hid (Below w.heap.size w wr)) (fun _ i _ => n - (intOf i).toNat)
      case atStart => exact ⟨1, _, by omega, by omega, rfl, rfl, hide (by
        rw [take_snocI xs 0 (by rw [HL.out]; omega), List.take_zero, List.nil_append, vecT_one]), B2⟩
      case round =>
        obtain ⟨k, S, hk1, hk, rfl, rfl, HS, HB⟩ := hrel
        have ssz : S.size ≤ 200 := by
          rw [size_list, HS.out]
          have := vecT_len k (xs.take k) (by rw [List.length_take, HL.out]; omega) (fun x q => HM.out x (List.mem_of_mem_take q))
          omega
        by_cases hlt : k < n
        · have ck := (HB.out.cell (p := ⟨b, off + k, none⟩) lt).trans (HC.out k hlt)
          have bk := BND.out k hlt
          have lk : b < wr.heap.size := Nat.lt_of_lt_of_le lt HB.out.size
          have tl := itoa_len (x := nth xs k) (decide_eq_true (by omega))
          have DE := hide (l1Dec_any (nth xs k) wr (by omega) (by omega))
          obtain ⟨D, hD⟩ : ∃ D : ByteArray, (⟨(Lib.itoa (nth xs k)).toArray⟩ : ByteArray) = D := ⟨_, rfl⟩
          have dl : D.data.toList = Lib.itoa (nth xs k) := by rw [← hD]
          have ds : D.size ≤ 21 := by rw [size_list, dl]; exact tl
          rw [hD] at DE
          have DL := hide dl
          clear hD dl tl bk
          go_wp2_with fail
          refine DE.out.mono ?_
          rintro e w3 ⟨rfl, hb3⟩
          have B3 := hide (bstep HB.out hb3)
          clear ck hb3
          go_wp2_with fail
          go_roundw
          case rel =>
            refine ⟨k + 1, _, by omega, by omega, by go_num, rfl, hide ?_, B3⟩
            rw [str_app, str_app, HS.out, DL.out, take_snocI xs k (by rw [HL.out]; exact hlt), vecT_snoc _ _ (by intro q; have := congrArg List.length q; rw [List.length_take, HL.out] at this; simp at this; omega)]
            simp
          case measure => simp [intOf]; omega
        · obtain rfl : k = n := by omega
          go_wp2_with fail
          go_ret
          exact ⟨ret_str (by rw [← bs_of S, HS.out, ← HL.out, List.take_length]), HB.out⟩
end Go.Proofs.YtggjcccdeaadbaaGreatDoor

/- l1Num of the model. -/
namespace Go.Proofs.YtggjcccdeaadbaaGreatDoor
open Go.RowKit
set_option maxRecDepth 8000
set_option linter.unusedSimpArgs false
set_option linter.unusedVariables false

theorem digs_lt : ∀ (l : List UInt8) (acc n : Nat), digsN acc l = some n → n < (acc + 1) * 10 ^ l.length
  | [], acc, n, h => by cases h; simp
  | c :: l, acc, n, h => by
    unfold digsN at h
    split at h
    · have := digs_lt l _ n h
      rw [List.length_cons, Nat.pow_succ, Nat.mul_comm (10 ^ l.length) 10, ← Nat.mul_assoc]
      refine Nat.lt_of_lt_of_le this (Nat.mul_le_mul_right _ ?_)
      omega
    · cases h

theorem digs_cut : ∀ (l : List UInt8) (acc k : Nat), digsN acc (l.take k) = none → digsN acc l = none
  | [], acc, k, h => by simp [digsN] at h
  | c :: l, acc, 0, h => by simp [digsN] at h
  | c :: l, acc, k + 1, h => by
    rw [List.take_succ_cons] at h
    unfold digsN at h ⊢
    split
    · rename_i hc
      rw [if_pos hc] at h
      exact digs_cut l _ k h
    · rfl

theorem take_next (s : ByteArray) (k : Nat) (h : k < s.size) : s.data.toList.take (k + 1) = s.data.toList.take k ++ [s[k]] := by
  rw [List.take_succ_eq_append_getElem (by rw [← size_list]; exact h)]; rfl
def natV (l : List UInt8) : Int := ((natL l).getD 0 : Nat)

set_option maxHeartbeats 2000000 in
theorem l1Num_nat (s : ByteArray) (w : World) (hs : s.size ≤ 9223372036854775807)
    (hp : s.size ≤ 1 ∨ ∃ h : 1 < s.size, s[0] ≠ 45 ∨ (s[0] = 45 ∧ (s[1] = 48 ∨ s[1] = 45))) :
    Calls Tryz.prog 28 #[.string s] w fun e w' => e = .returned (.tuple #[.int .i64 (natV s.data.toList), .bool (natL s.data.toList).isSome]) ∧ Below w.heap.size w w' := by
  have none' : natL s.data.toList = none → natV s.data.toList = 0 ∧ (natL s.data.toList).isSome = false := fun h => by unfold natV; rw [h]; exact ⟨rfl, rfl⟩
  have HL := hide (size_list s)
  have e48 : (48 : UInt8).toNat = 48 := rfl
  have e45 : (45 : UInt8).toNat = 45 := rfl
  by_cases hz : s.size = 0
  · obtain ⟨n1, n2⟩ := none' (by unfold natL; rw [if_pos (.inl (by rw [← HL.out]; omega))])
    rw [n1, n2]
    have hz' : (s.size : Int) = 0 := by omega
    clear hp none' hz n1 n2
    go_enter Tryz.func28, Tryz.ntmps28
    go_wp2_with fail
    refine bodyPost_ret (v := .tuple #[.int .i64 0, .bool false]) (by simp [results, Tryz.results28, go_sem]) rfl ⟨rfl, (by repeat' first | with_reducible exact Below.refl _ _ | with_reducible assumption | with_reducible refine below_drewN ?_ _ | with_reducible refine balloc ?_ _ | with_reducible refine Below.drew ?_ | with_reducible refine Below.setCell ?_ (by first | (simp; done) | (simp; omega) | omega) _ | with_reducible refine bstep ?_ (by assumption))⟩
  · have hb0 := hide (byte_at s 0 (by omega))
    have W1 : (¬ 1 < (s.size : Int)) ∨ (1 < (s.size : Int) ∧ ¬ (s[0].toNat : Int) = 45) ∨ (∃ h : 1 < s.size, 1 < (s.size : Int) ∧ (s[0].toNat : Int) = 45 ∧ (s[1].toNat : Int) = 48) ∨ (∃ h : 1 < s.size, 1 < (s.size : Int) ∧ (s[0].toNat : Int) = 45 ∧ (s[1].toNat : Int) = 45) := by
      rcases hp with q | ⟨q, q0 | ⟨q0, q1 | q1⟩⟩
      · exact .inl (by omega)
      · exact .inr (.inl ⟨by omega, fun e => q0 (UInt8.toNat_inj.1 (by rw [e45]; omega))⟩)
      · exact .inr (.inr (.inl ⟨q, by omega, by rw [q0]; rfl, by rw [q1]; rfl⟩))
      · exact .inr (.inr (.inr ⟨q, by omega, by rw [q0]; rfl, by rw [q1]; rfl⟩))
    have hz0 : 0 < (s.size : Int) := by omega
    have h48n : ∀ q : s[0] ≠ 48, ¬ (s[0].toNat : Int) = 48 := fun q e => q (UInt8.toNat_inj.1 (by rw [e48]; omega))
    have H0 : Hid (s.data.toList.head? = some s[0]) := hide (by rw [List.head?_eq_getElem?]; exact hb0.out)
    clear hp e45 e48 hb0
    rcases W1 with a1 | ⟨a1, a2⟩ | ⟨ah, a1, a2, a3⟩ | ⟨ah, a1, a2, a3⟩
    all_goals
      by_cases h16 : 16 < s.size
      · have g16 : 16 < (s.size : Int) := by omega
        first
          | (exfalso; omega)
          | (obtain ⟨n1, n2⟩ := none' (by unfold natL; rw [if_pos (by rw [← HL.out]; exact .inr (.inl h16))])
             rw [n1, n2]
             clear none' n1 n2
             go_enter Tryz.func28, Tryz.ntmps28
             go_wp2_with fail
             refine bodyPost_ret (v := .tuple #[.int .i64 0, .bool false]) (by simp [results, Tryz.results28, go_sem]) rfl ⟨rfl, (by repeat' first | with_reducible exact Below.refl _ _ | with_reducible assumption | with_reducible refine below_drewN ?_ _ | with_reducible refine balloc ?_ _ | with_reducible refine Below.drew ?_ | with_reducible refine Below.setCell ?_ (by first | (simp; done) | (simp; omega) | omega) _ | with_reducible refine bstep ?_ (by assumption))⟩)
      · have g16 : ¬ 16 < (s.size : Int) := by omega
        by_cases h48 : s[0] = 48
        · have g48 : (s[0].toNat : Int) = 48 := by rw [h48]; rfl
          by_cases h1 : 1 < s.size
          · have g1 : 1 < (s.size : Int) := by omega
            first
              | (exfalso; omega)
              | (obtain ⟨n1, n2⟩ := none' (by unfold natL; rw [if_pos (by rw [← HL.out]; exact .inr (.inr ⟨by rw [H0.out, h48], h1⟩))])
                 rw [n1, n2]
                 clear none' n1 n2
                 go_enter Tryz.func28, Tryz.ntmps28
                 go_wp2_with fail
                 refine bodyPost_ret (v := .tuple #[.int .i64 0, .bool false]) (by simp [results, Tryz.results28, go_sem]) rfl ⟨rfl, (by repeat' first | with_reducible exact Below.refl _ _ | with_reducible assumption | with_reducible refine below_drewN ?_ _ | with_reducible refine balloc ?_ _ | with_reducible refine Below.drew ?_ | with_reducible refine Below.setCell ?_ (by first | (simp; done) | (simp; omega) | omega) _ | with_reducible refine bstep ?_ (by assumption))⟩)
          · have g1 : ¬ 1 < (s.size : Int) := by omega
            first
              | (exfalso; omega)
              | skip
            all_goals
              have HF : Hid (natL s.data.toList = digsN 0 s.data.toList) := hide (by unfold natL; rw [if_neg (by rw [← HL.out]; omega)])
              clear none'
              go_enter Tryz.func28, Tryz.ntmps28
              go_wp2_with fail
              go_loop [6, 7] (fun n i => ∃ (k m : Nat), k ≤ s.size ∧ i = .int .i64 k ∧ n = .int .i64 m ∧ Hid (digsN 0 (s.data.toList.take k) = some m) ∧ m < 10000000000000000) (fun _ i => s.size - (intOf i).toNat)
              case atStart => exact ⟨0, 0, Nat.zero_le _, rfl, rfl, hide rfl, by omega⟩
              case round =>
                obtain ⟨k, m, hk, rfl, rfl, HD, hm⟩ := hrel
                by_cases hlt : k < s.size
                · have HT := hide (take_next s k hlt)
                  have HSN := hide (digs_snoc s[k] (s.data.toList.take k) 0)
                  have hb256 : s[k].toNat < 256 := s[k].toNat_lt
                  obtain ⟨x, hx⟩ : ∃ x : Nat, s[k].toNat = x := ⟨_, rfl⟩
                  by_cases hlo : x < 48
                  · have hlo' : (s[k].toNat : Int) < 48 := by omega
                    have HB := hide (show digsN 0 s.data.toList = none from digs_cut _ _ (k + 1) (by rw [HT.out, HSN.out, HD.out]; show (if _ then _ else _) = _; rw [if_neg (by omega)]))
                    clear hx
                    go_wp2_with fail
                    refine bodyPost_ret (v := .tuple #[.int .i64 0, .bool false]) (by simp [results, Tryz.results28, go_sem]) rfl ⟨?_, (by repeat' first | with_reducible exact Below.refl _ _ | with_reducible assumption | with_reducible refine below_drewN ?_ _ | with_reducible refine balloc ?_ _ | with_reducible refine Below.drew ?_ | with_reducible refine Below.setCell ?_ (by first | (simp; done) | (simp; omega) | omega) _ | with_reducible refine bstep ?_ (by assumption))⟩
                    unfold natV
                    rw [HF.out, HB.out]; rfl
                  · by_cases hhi : 57 < x
                    · have hlo' : ¬ (s[k].toNat : Int) < 48 := by omega
                      have hhi' : 57 < (s[k].toNat : Int) := by omega
                      have HB := hide (show digsN 0 s.data.toList = none from digs_cut _ _ (k + 1) (by rw [HT.out, HSN.out, HD.out]; show (if _ then _ else _) = _; rw [if_neg (by omega)]))
                      clear hx
                      go_wp2_with fail
                      refine bodyPost_ret (v := .tuple #[.int .i64 0, .bool false]) (by simp [results, Tryz.results28, go_sem]) rfl ⟨?_, (by repeat' first | with_reducible exact Below.refl _ _ | with_reducible assumption | with_reducible refine below_drewN ?_ _ | with_reducible refine balloc ?_ _ | with_reducible refine Below.drew ?_ | with_reducible refine Below.setCell ?_ (by first | (simp; done) | (simp; omega) | omega) _ | with_reducible refine bstep ?_ (by assumption))⟩
                      unfold natV
                      rw [HF.out, HB.out]; rfl
                    · have hlo' : ¬ (s[k].toNat : Int) < 48 := by omega
                      have hhi' : ¬ 57 < (s[k].toNat : Int) := by omega
                      have HB := hide (show digsN 0 (s.data.toList.take (k + 1)) = some (m * 10 + (s[k].toNat - 48)) from (by rw [HT.out, HSN.out, HD.out]; show (if _ then _ else _) = _; rw [if_pos (by omega)]))
                      have hm' : m * 10 + (s[k].toNat - 48) < 10000000000000000 := by
                        have a := digs_lt _ _ _ HB.out
                        have l : (s.data.toList.take (k + 1)).length ≤ 16 := by rw [List.length_take]; omega
                        have b : 10 ^ (s.data.toList.take (k + 1)).length ≤ 10 ^ 16 := Nat.pow_le_pow_right (by omega) l
                        have c : (10 : Nat) ^ 16 = 10000000000000000 := by decide
                        omega
                      have HE := hide (show ((m * 10 + (s[k].toNat - 48) : Nat) : Int) = 10 * (m : Int) + ((s[k].toNat : Int) - 48) by omega)
                      clear hx
                      go_wp2_with fail
                      go_round
                      case rel => exact ⟨k + 1, m * 10 + (s[k].toNat - 48), by omega, by go_num, by rw [HE.out], HB, hm'⟩
                      case measure => simp [intOf]; omega
                · obtain rfl : k = s.size := by omega
                  have HB := hide (show digsN 0 s.data.toList = some m by have := HD.out; rwa [HL.out, List.take_length] at this)
                  go_wp2_with fail
                  refine bodyPost_ret (v := .tuple #[.int .i64 m, .bool true]) (by simp [results, Tryz.results28, go_sem]) rfl ⟨?_, (by repeat' first | with_reducible exact Below.refl _ _ | with_reducible assumption | with_reducible refine below_drewN ?_ _ | with_reducible refine balloc ?_ _ | with_reducible refine Below.drew ?_ | with_reducible refine Below.setCell ?_ (by first | (simp; done) | (simp; omega) | omega) _ | with_reducible refine bstep ?_ (by assumption))⟩
                  unfold natV
                  rw [HF.out, HB.out]; rfl
        · have g48 := h48n h48
          first
            | (exfalso; omega)
            | skip
          all_goals
            have HF : Hid (natL s.data.toList = digsN 0 s.data.toList) := hide (by unfold natL; rw [if_neg (by rw [← HL.out]; rw [H0.out]; rintro (q | q | ⟨q, _⟩); omega; omega; exact h48 (Option.some.inj q))])
            clear none'
            go_enter Tryz.func28, Tryz.ntmps28
            go_wp2_with fail
            go_loop [6, 7] (fun n i => ∃ (k m : Nat), k ≤ s.size ∧ i = .int .i64 k ∧ n = .int .i64 m ∧ Hid (digsN 0 (s.data.toList.take k) = some m) ∧ m < 10000000000000000) (fun _ i => s.size - (intOf i).toNat)
            case atStart => exact ⟨0, 0, Nat.zero_le _, rfl, rfl, hide rfl, by omega⟩
            case round =>
              obtain ⟨k, m, hk, rfl, rfl, HD, hm⟩ := hrel
              by_cases hlt : k < s.size
              · have HT := hide (take_next s k hlt)
                have HSN := hide (digs_snoc s[k] (s.data.toList.take k) 0)
                have hb256 : s[k].toNat < 256 := s[k].toNat_lt
                obtain ⟨x, hx⟩ : ∃ x : Nat, s[k].toNat = x := ⟨_, rfl⟩
                by_cases hlo : x < 48
                · have hlo' : (s[k].toNat : Int) < 48 := by omega
                  have HB := hide (show digsN 0 s.data.toList = none from digs_cut _ _ (k + 1) (by rw [HT.out, HSN.out, HD.out]; show (if _ then _ else _) = _; rw [if_neg (by omega)]))
                  clear hx
                  go_wp2_with fail
                  refine bodyPost_ret (v := .tuple #[.int .i64 0, .bool false]) (by simp [results, Tryz.results28, go_sem]) rfl ⟨?_, (by repeat' first | with_reducible exact Below.refl _ _ | with_reducible assumption | with_reducible refine below_drewN ?_ _ | with_reducible refine balloc ?_ _ | with_reducible refine Below.drew ?_ | with_reducible refine Below.setCell ?_ (by first | (simp; done) | (simp; omega) | omega) _ | with_reducible refine bstep ?_ (by assumption))⟩
                  unfold natV
                  rw [HF.out, HB.out]; rfl
                · by_cases hhi : 57 < x
                  · have hlo' : ¬ (s[k].toNat : Int) < 48 := by omega
                    have hhi' : 57 < (s[k].toNat : Int) := by omega
                    have HB := hide (show digsN 0 s.data.toList = none from digs_cut _ _ (k + 1) (by rw [HT.out, HSN.out, HD.out]; show (if _ then _ else _) = _; rw [if_neg (by omega)]))
                    clear hx
                    go_wp2_with fail
                    refine bodyPost_ret (v := .tuple #[.int .i64 0, .bool false]) (by simp [results, Tryz.results28, go_sem]) rfl ⟨?_, (by repeat' first | with_reducible exact Below.refl _ _ | with_reducible assumption | with_reducible refine below_drewN ?_ _ | with_reducible refine balloc ?_ _ | with_reducible refine Below.drew ?_ | with_reducible refine Below.setCell ?_ (by first | (simp; done) | (simp; omega) | omega) _ | with_reducible refine bstep ?_ (by assumption))⟩
                    unfold natV
                    rw [HF.out, HB.out]; rfl
                  · have hlo' : ¬ (s[k].toNat : Int) < 48 := by omega
                    have hhi' : ¬ 57 < (s[k].toNat : Int) := by omega
                    have HB := hide (show digsN 0 (s.data.toList.take (k + 1)) = some (m * 10 + (s[k].toNat - 48)) from (by rw [HT.out, HSN.out, HD.out]; show (if _ then _ else _) = _; rw [if_pos (by omega)]))
                    have hm' : m * 10 + (s[k].toNat - 48) < 10000000000000000 := by
                      have a := digs_lt _ _ _ HB.out
                      have l : (s.data.toList.take (k + 1)).length ≤ 16 := by rw [List.length_take]; omega
                      have b : 10 ^ (s.data.toList.take (k + 1)).length ≤ 10 ^ 16 := Nat.pow_le_pow_right (by omega) l
                      have c : (10 : Nat) ^ 16 = 10000000000000000 := by decide
                      omega
                    have HE := hide (show ((m * 10 + (s[k].toNat - 48) : Nat) : Int) = 10 * (m : Int) + ((s[k].toNat : Int) - 48) by omega)
                    clear hx
                    go_wp2_with fail
                    go_round
                    case rel => exact ⟨k + 1, m * 10 + (s[k].toNat - 48), by omega, by go_num, by rw [HE.out], HB, hm'⟩
                    case measure => simp [intOf]; omega
              · obtain rfl : k = s.size := by omega
                have HB := hide (show digsN 0 s.data.toList = some m by have := HD.out; rwa [HL.out, List.take_length] at this)
                go_wp2_with fail
                refine bodyPost_ret (v := .tuple #[.int .i64 m, .bool true]) (by simp [results, Tryz.results28, go_sem]) rfl ⟨?_, (by repeat' first | with_reducible exact Below.refl _ _ | with_reducible assumption | with_reducible refine below_drewN ?_ _ | with_reducible refine balloc ?_ _ | with_reducible refine Below.drew ?_ | with_reducible refine Below.setCell ?_ (by first | (simp; done) | (simp; omega) | omega) _ | with_reducible refine bstep ?_ (by assumption))⟩
                unfold natV
                rw [HF.out, HB.out]; rfl
end Go.Proofs.YtggjcccdeaadbaaGreatDoor

/- l1Num of the model at all texts. -/
namespace Go.Proofs.YtggjcccdeaadbaaGreatDoor
open Go.RowKit
set_option maxRecDepth 8000
set_option linter.unusedSimpArgs false
set_option linter.unusedVariables false

theorem nat45 {l : List UInt8} (h : l.head? = some 45) : natL l = none := by
  cases l with
  | nil => cases h
  | cons c r =>
    obtain rfl : c = 45 := Option.some.inj h
    unfold natL
    split
    · rfl
    · show (if 48 ≤ (45 : UInt8).toNat ∧ _ then _ else none) = none
      rw [if_neg (by decide)]

theorem numL_plus {l : List UInt8} (h : minusL l = false) : numL l = (natL l).map fun (n : Nat) => (n : Int) := by unfold numL; rw [h, if_neg (by decide)]

theorem numL_minus {l : List UInt8} (h : minusL l = true) (h' : l.tail.head? ≠ some 48) : numL l = (natL l.tail).map fun (n : Nat) => -(n : Int) := by unfold numL; rw [h, if_pos rfl, if_neg h']

theorem nat_num {l : List UInt8} (h : numL l = (natL l).map fun (n : Nat) => (n : Int)) : natV l = numV l ∧ (natL l).isSome = (numL l).isSome := by
  unfold natV numV
  rw [h]
  cases natL l <;> exact ⟨rfl, rfl⟩

theorem natV_le (l : List UInt8) : 0 ≤ natV l ∧ natV l ≤ 9999999999999999 := by
  unfold natV
  cases h : natL l with
  | none => exact ⟨by decide, by decide⟩
  | some n =>
    obtain ⟨e, hl⟩ := (natL_iff l n).1 h
    have := dec_lt16 (n := n) (by rw [e]; exact hl)
    show 0 ≤ ((n : Nat) : Int) ∧ ((n : Nat) : Int) ≤ _
    omega

theorem list_cons {s : ByteArray} (h : 1 < s.size) : ∃ r, s.data.toList = s[0] :: s[1] :: r := by
  have a := byte_at s 0 (by omega)
  have b := byte_at s 1 h
  match e : s.data.toList with
  | [] => rw [e] at a; cases a
  | [x] => rw [e] at b; cases b
  | x :: y :: r =>
    rw [e] at a b
    exact ⟨r, by rw [Option.some.inj a, Option.some.inj b]⟩

set_option maxHeartbeats 2000000 in
theorem l1Num_any (s : ByteArray) (w : World) (hs : s.size ≤ 9223372036854775807) :
    Calls Tryz.prog 28 #[.string s] w fun e w' => e = .returned (.tuple #[.int .i64 (numV s.data.toList), .bool (numL s.data.toList).isSome]) ∧ Below w.heap.size w w' := by
  have HLen := hide (size_list s)
  have pass : numL s.data.toList = ((natL s.data.toList).map fun (n : Nat) => (n : Int)) → (s.size ≤ 1 ∨ ∃ h : 1 < s.size, s[0] ≠ 45 ∨ (s[0] = 45 ∧ (s[1] = 48 ∨ s[1] = 45))) → Calls Tryz.prog 28 #[.string s] w fun e w' => e = .returned (.tuple #[.int .i64 (numV s.data.toList), .bool (numL s.data.toList).isSome]) ∧ Below w.heap.size w w' := fun h hp => by
    have := l1Num_nat s w hs hp
    rwa [(nat_num h).1, (nat_num h).2] at this
  by_cases h1 : s.size ≤ 1
  · refine pass ?_ (.inl h1)
    have hlen := HLen.out
    match e : s.data.toList with
    | [] => rfl
    | [x] =>
      by_cases hx : x = 45
      · subst hx
        rw [nat45 (l := [45]) rfl]; rfl
      · exact numL_plus (decide_eq_false fun q => hx (Option.some.inj q))
    | x :: y :: r => rw [e] at hlen; simp at hlen; omega
  · have h2 : 1 < s.size := by omega
    obtain ⟨r, hr⟩ := list_cons h2
    by_cases h45 : s[0] = 45
    · by_cases hb : s[1] = 48 ∨ s[1] = 45
      · refine pass ?_ (.inr ⟨h2, .inr ⟨h45, hb⟩⟩)
        have n0 : natL s.data.toList = none := nat45 (by rw [hr, h45]; rfl)
        have hm : minusL s.data.toList = true := decide_eq_true (by rw [hr, h45]; rfl)
        rw [n0]
        rcases hb with hb | hb
        · unfold numL
          rw [hm, if_pos rfl, if_pos (by rw [hr, hb]; rfl)]; rfl
        · rw [numL_minus hm (by rw [hr, hb]; intro q; exact absurd (Option.some.inj q) (by decide)), nat45 (by rw [hr, hb]; rfl)]; rfl
      · have hm : minusL s.data.toList = true := decide_eq_true (by rw [hr, h45]; rfl)
        have nl := numL_minus hm (by rw [hr]; intro q; exact hb (.inl (Option.some.inj q)))
        have htl : (s.extract 1 s.size).data.toList = s.data.toList.tail := by rw [ext_drop, bs_list, List.drop_one]
        obtain ⟨t, ht⟩ : ∃ t, s.extract 1 s.size = t := ⟨_, rfl⟩
        have ts : t.size = s.size - 1 := by rw [← ht, size_list, htl, List.length_tail, ← size_list]
        rw [ht] at htl
        have N := hide (l1Num_nat t w (by omega) (by
          by_cases q : t.size ≤ 1
          · exact .inl q
          · refine .inr ⟨by omega, .inl fun e => hb (.inr ?_)⟩
            have a := byte_at t 0 (by omega)
            have b : t.data.toList[0]? = some s[1] := by rw [htl, hr]; rfl
            rw [Option.some.inj (b.symm.trans a), e]))
        rw [htl] at N
        obtain ⟨v, hv⟩ : ∃ v, natV s.data.toList.tail = v := ⟨_, rfl⟩
        have vb := natV_le s.data.toList.tail
        rw [hv] at N vb
        have e1 : numV s.data.toList = -v := by
          unfold numV
          rw [nl, ← hv]
          unfold natV
          cases natL s.data.toList.tail <;> rfl
        have e2 : (numL s.data.toList).isSome = (natL s.data.toList.tail).isSome := by
          rw [nl]
          cases natL s.data.toList.tail <;> rfl
        obtain ⟨b, hbb⟩ : ∃ b, (natL s.data.toList.tail).isSome = b := ⟨_, rfl⟩
        rw [hbb] at N e2
        rw [e1, e2]
        have g0 : 1 < (s.size : Int) := by omega
        have g1 : (s[0].toNat : Int) = 45 := by rw [h45]; rfl
        have g2 : ¬ (s[1].toNat : Int) = 48 := fun e => hb (.inl (UInt8.toNat_inj.1 (by show _ = 48; omega)))
        have g3 : ¬ (s[1].toNat : Int) = 45 := fun e => hb (.inr (UInt8.toNat_inj.1 (by show _ = 45; omega)))
        have g4 : ((s[1].toNat : Int) != 48) = true := by rw [bne_iff_ne]; exact g2
        have g5 : ((s[1].toNat : Int) != 45) = true := by rw [bne_iff_ne]; exact g3
        have HS := hide hs
        clear pass HLen hr hm nl htl ts hv e1 e2 hbb hb h45
        go_enter Tryz.func28, Tryz.ntmps28
        go_wp2_with fail
        refine N.out.mono ?_
        rintro e w1 ⟨rfl, hb1⟩
        go_wp2_with fail
        refine bodyPost_ret (v := .tuple #[.int .i64 (-v), .bool b]) (by simp [results, Tryz.results28, go_sem]) rfl ⟨rfl, (by repeat' first | with_reducible exact Below.refl _ _ | with_reducible assumption | with_reducible refine below_drewN ?_ _ | with_reducible refine balloc ?_ _ | with_reducible refine Below.drew ?_ | with_reducible refine Below.setCell ?_ (by first | (simp; done) | (simp; omega) | omega) _ | with_reducible refine bstep ?_ (by assumption))⟩
    · refine pass (numL_plus (decide_eq_false fun q => h45 ?_)) (.inr ⟨h2, .inl h45⟩)
      rw [hr] at q
      exact Option.some.inj q
end Go.Proofs.YtggjcccdeaadbaaGreatDoor
