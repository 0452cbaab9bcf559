/- Decimal numbers as the model writes them. -/
import Derived.Test.YtlmiamohhmabhaaDoorSA0
import Derived.Test.YtlmiamohhmabhaaDoorWA
import Derived.Deep.RegionWith
import Derived.Deep.DeepCutAuto
import Derived.Deep.LoopGhost
import Derived.Deep.OwnRows
import Derived.Laws.IdiomStrings
import Derived.Laws.Concat
namespace Go.Proofs.YtlmiamohhmabhaaDoor
open Go.RowKit
set_option maxRecDepth 8000
set_option linter.unusedSimpArgs false
set_option linter.unusedVariables false

theorem str_app (a b : ByteArray) : (a ++ b).data.toList = a.data.toList ++ b.data.toList := by simp

theorem str_eq {S : ByteArray} {l : List UInt8} (h : S.data.toList = l) : S = ⟨l.toArray⟩ := by
  subst h; cases S; simp

theorem str_size (S : ByteArray) : S.size = S.data.toList.length := by
  cases S with | mk d => exact (Array.length_toList (xs := d)).symm

theorem one_byte (w : World) (b : UInt8) (c : Int) (hc : c = (b.toNat : Int)) :
    (convert 69 9 (.slice (some ⟨w.heap.size, 0, none⟩) 1 1)).run Tryd.prog (w.alloc (.cells #[.int .u8 c] 5)) = .ok (.string ⟨#[b]⟩) (w.alloc (.cells #[.int .u8 c] 5)) := by
  have h := run_convert_bytes_back (P := Tryd.prog) (w.alloc (.cells #[.int .u8 c] 5)) 69 9 5 ⟨w.heap.size, 0, none⟩ 1 [b] Tryd.underlying69 Tryd.underlying5 Tryd.underlying9 (fun j hj => by
    obtain rfl : j = 0 := by simpa using hj
    simp [Addr.add, hc])
  exact h

theorem dec_len20 {n : Nat} (h : n ≤ 9223372036854775808) : (Lib.decDigits n).length ≤ 20 := by
  rw [Lib.decDigits_length]
  rcases Nat.lt_or_ge 20 (Lib.nDigits n) with q | q
  · have : ∀ (k n : Nat), k + 1 < Lib.nDigits n → 10 ^ (k + 1) ≤ n := by
      intro k
      induction k with
      | zero =>
        intro n h
        rcases Nat.lt_or_ge n 10 with p | p
        · rw [Lib.nDigits_small p] at h; omega
        · simpa using p
      | succ k ih =>
        intro n h
        rcases Nat.lt_or_ge n 10 with p | p
        · rw [Lib.nDigits_small p] at h; omega
        · rw [Lib.nDigits_big (by omega)] at h
          have := ih (n / 10) (by omega)
          rw [Nat.pow_succ]
          omega
    have := this 19 n (by omega)
    have c : (10 : Nat) ^ (19 + 1) = 100000000000000000000 := by decide
    omega
  · exact q

theorem ret_str {a b : ByteArray} (h : a = b) : Ending.returned (.string a) = .returned (.string b) := by rw [h]

set_option maxHeartbeats 1000000 in
theorem l1Dec_any (x : Int) (w : World) (h0 : -9223372036854775808 ≤ x) (h1 : x ≤ 9223372036854775807) :
    Calls Tryd.prog 27 #[.int .i64 x] w fun e w' => e = .returned (.string ⟨(Lib.itoa x).toArray⟩) ∧ Below w.heap.size w w' := by
  have hN := dec_len20 (n := x.natAbs) (by omega)
  by_cases hx : x < 0
  all_goals
    go_enter Tryd.func27, Tryd.ntmps27
    go_wp2_with fail
    go_loopw [3, 4] (fun m s wr => ∃ (k : Nat) (S : ByteArray), m = .int .u64 k ∧ s = .string S ∧ k ≤ 9223372036854775808 ∧ Hid (Lib.decDigits k ++ S.data.toList = Lib.decDigits x.natAbs) ∧ Below w.heap.size w wr) (fun m _ _ => (intOf m).toNat)
    case atStart => exact ⟨x.natAbs, ByteArray.empty, by first | (simp only [IntKind.wrap_u64]; congr 1; omega) | (congr 1; omega), rfl, by omega, hide (by simp), Below.refl _ _⟩
    case round =>
      obtain ⟨k, S, rfl, rfl, hk, HS, hbel⟩ := hrel
      have hsz : S.size ≤ 20 := by
        have := congrArg List.length HS.out
        rw [List.length_append, ← str_size] at this
        omega
      by_cases hlt : 10 ≤ k
      · obtain ⟨b, hb⟩ : ∃ b, UInt8.ofNat (48 + k % 10) = b := ⟨_, rfl⟩
        have hc := one_byte wr b (48 + (k : Int) % 10) (by rw [← hb, toNat_dig (Nat.mod_lt _ (by omega))]; omega)
        have HB := hide hb
        clear hb
        go_wp2_with fail
        go_roundw
        case rel =>
          refine ⟨k / 10, _, by go_num, rfl, by omega, hide ?_, (by repeat' first | with_reducible exact Below.refl _ _ | with_reducible assumption | with_reducible refine below_drewN ?_ _ | with_reducible refine balloc ?_ _ | with_reducible refine Below.drew ?_ | with_reducible refine Below.setCell ?_ (by first | (simp; done) | (simp; omega) | omega) _ | with_reducible refine bstep ?_ (by assumption))⟩
          rw [str_app, ← HS.out, dec_big (u := k) (by omega), List.append_assoc, HB.out]
        case measure => simp [intOf]; omega
      · obtain ⟨b, hb⟩ : ∃ b, UInt8.ofNat (48 + k) = b := ⟨_, rfl⟩
        have hc := one_byte wr b (48 + (k : Int)) (by rw [← hb, toNat_dig (by omega)]; omega)
        have HB := hide hb
        clear hb
        go_wp2_with fail
        go_ret
        refine ⟨ret_str (str_eq ?_), (by repeat' first | with_reducible exact Below.refl _ _ | with_reducible assumption | with_reducible refine below_drewN ?_ _ | with_reducible refine balloc ?_ _ | with_reducible refine Below.drew ?_ | with_reducible refine Below.setCell ?_ (by first | (simp; done) | (simp; omega) | omega) _ | with_reducible refine bstep ?_ (by assumption))⟩
        have e := HS.out
        rw [dec_small (u := k) (by omega), HB.out] at e
        first
          | (rw [itoa_min hx, ← e, str_app, str_app]; rfl)
          | (rw [itoa_pos (by omega), show x.toNat = x.natAbs by omega, ← e, str_app]; rfl)
          | (rw [itoa_pos (by omega), show x.toNat = x.natAbs by omega, ← e, str_app])
end Go.Proofs.YtlmiamohhmabhaaDoor
