/- sumOf of the program. -/
import Derived.Test.YtpnppabpogedeaaDoorFR0
import Derived.Test.YtpnppabpogedeaaDoorWA
import Derived.Lib.LaidTab
import Derived.Lib.SmallJoins
namespace Go.Proofs.YtpnppabpogedeaaDoor
open Go.RowKit
set_option maxRecDepth 8000
set_option linter.unusedSimpArgs false
set_option linter.unusedVariables false

theorem xorU (a b : Nat) (ha : a < 4294967296) (hb : b < 4294967296) : bits .xor .u32 (a : Int) (b : Int) = ((a ^^^ b : Nat) : Int) := by
  have hx : a ^^^ b < 2 ^ 32 := Nat.xor_lt_two_pow (by omega) (by omega)
  have h1 : (BitVec.ofInt 32 (a : Int)).toNat = a := by
    rw [BitVec.ofInt_natCast, BitVec.toNat_ofNat]; exact Nat.mod_eq_of_lt (by omega)
  have h2 : (BitVec.ofInt 32 (b : Int)).toNat = b := by
    rw [BitVec.ofInt_natCast, BitVec.toNat_ofNat]; exact Nat.mod_eq_of_lt (by omega)
  show IntKind.u32.wrap ((BitVec.ofInt 32 (a : Int) ^^^ BitVec.ofInt 32 (b : Int)).toNat : Int) = _
  rw [BitVec.toNat_xor, h1, h2, IntKind.wrap_u32]
  omega

theorem andU15 (a : Nat) (ha : a < 4294967296) : bits .and .u32 (a : Int) 15 = ((a % 16 : Nat) : Int) := by
  have h1 : (BitVec.ofInt 32 (a : Int)).toNat = a := by
    rw [BitVec.ofInt_natCast, BitVec.toNat_ofNat]; exact Nat.mod_eq_of_lt (by omega)
  have h2 : (BitVec.ofInt 32 (15 : Int)).toNat = 15 := by decide
  have h3 : a &&& 15 = a % 16 := Nat.and_two_pow_sub_one_eq_mod a 4
  show IntKind.u32.wrap ((BitVec.ofInt 32 (a : Int) &&& BitVec.ofInt 32 (15 : Int)).toNat : Int) = _
  rw [BitVec.toNat_and, h1, h2, h3, IntKind.wrap_u32]
  omega
/-- The table reads as it is laid. -/
def Sums (w : World) : Prop := Lib.TabIs Tryd.prog w "loop.example/g00707/impl.sums" .u32 sumsTab

theorem sumsG : Tryd.prog.globalNamed "loop.example/g00707/impl.sums" = some 0 := by kernel_rfl

theorem Sums.below {w w' : World} (h : Sums w) (hb : Below w.heap.size w w') : Sums w' := Go.Joins.tab_stays sumsG h hb (Nat.le_refl _)

theorem cellLtS {w : World} {a : Addr} {v : Value} (h : w.cell? a = some v) : a.block < w.heap.size := by
  by_cases hlt : a.block < w.heap.size
  · exact hlt
  · simp [World.cell?, Array.getElem?_eq_none (Nat.le_of_not_lt hlt)] at h

theorem Sums.cell {w : World} (h : Sums w) (n : Nat) (hn : n < 16) : w.cell? ⟨0, n, none⟩ = some (.int .u32 (sumT n : Nat)) := by
  have := World.var?_cell sumsG h n
  rw [this]
  rcases (show n = 0 ∨ n = 1 ∨ n = 2 ∨ n = 3 ∨ n = 4 ∨ n = 5 ∨ n = 6 ∨ n = 7 ∨ n = 8 ∨ n = 9 ∨ n = 10 ∨ n = 11 ∨ n = 12 ∨ n = 13 ∨ n = 14 ∨ n = 15 from by omega) with rfl | rfl | rfl | rfl | rfl | rfl | rfl | rfl | rfl | rfl | rfl | rfl | rfl | rfl | rfl | rfl <;> rfl

theorem Sums.lt {w : World} (h : Sums w) : 0 < w.heap.size := cellLtS (h.cell 0 (by decide))

set_option maxHeartbeats 2000000 in
theorem sumOf_any (s : ByteArray) (w : World) (hs : s.size ≤ 1048576) (T : Sums w) :
    Calls Tryd.prog 8 #[.string s] w fun e w' => e = .returned (.int .u32 ((4294967295 ^^^ sumL s.data.toList : Nat) : Int)) ∧ w' = w := by
  have HT := hide (fun n hn => T.cell n hn)
  obtain ⟨l, hl⟩ : ∃ l, s.data.toList = l := ⟨_, rfl⟩
  have hlen : l.length = s.size := by rw [← hl]; simp
  have HL := hide hl
  have HLN := hide hlen
  rw [hl]
  clear T hl hlen
  go_enter Tryd.func8, Tryd.ntmps8
  go_wp2_with fail
  go_loopw [3, 4, 7] (fun c _ i wr => ∃ k : Nat, k ≤ s.size ∧ c = .int .u32 ((sumL (l.take k) : Nat) : Int) ∧ i = .int .i64 k ∧ Hid (wr = w)) (fun _ _ i _ => s.size - (intOf i).toNat)
  case atStart => exact ⟨0, Nat.zero_le _, rfl, rfl, hide rfl⟩
  case round =>
    obtain ⟨k, hk, rfl, rfl, HW⟩ := hrel
    obtain rfl := HW.out
    by_cases hlt : k < s.size
    · obtain ⟨c, hc⟩ : ∃ c, sumL (l.take k) = c := ⟨_, rfl⟩
      have hc32 : c < 4294967296 := by rw [← hc]; exact sumL_lt _
      rw [hc]
      have hlti : (k : Int) < (s.size : Int) := by omega
      obtain ⟨x, hx⟩ : ∃ x : Nat, s[k].toNat = x := ⟨_, rfl⟩
      have hx256 : x < 256 := by rw [← hx]; exact s[k].toNat_lt
      have HXL : Hid (l.take (k + 1) = l.take k ++ [UInt8.ofNat x]) := hide (by
        have hk2 : k < l.length := by have := HLN.out; omega
        rw [List.take_succ_eq_append_getElem hk2]
        congr 2
        have e : l[k] = s[k] := by
          have := HL.out
          subst this
          simp [ByteArray.getElem_eq_getElem_data]
        rw [e, ← hx]
        simp)
      obtain ⟨c1, hc1⟩ : ∃ c1, c ^^^ x = c1 := ⟨_, rfl⟩
      have b1 : c1 < 4294967296 := by rw [← hc1]; exact xor_lt32 hc32 (by omega)
      obtain ⟨m1, hm1⟩ : ∃ m1, c1 % 16 = m1 := ⟨_, rfl⟩
      obtain ⟨t1, ht1⟩ : ∃ t1, sumT m1 = t1 := ⟨_, rfl⟩
      have bt1 : t1 < 4294967296 := by rw [← ht1]; exact sumT_lt _
      obtain ⟨c2, hc2⟩ : ∃ c2, (c1 / 16) ^^^ t1 = c2 := ⟨_, rfl⟩
      have b2 : c2 < 4294967296 := by rw [← hc2]; exact xor_lt32 (by omega) bt1
      obtain ⟨m2, hm2⟩ : ∃ m2, c2 % 16 = m2 := ⟨_, rfl⟩
      obtain ⟨t2, ht2⟩ : ∃ t2, sumT m2 = t2 := ⟨_, rfl⟩
      have bt2 : t2 < 4294967296 := by rw [← ht2]; exact sumT_lt _
      obtain ⟨c3, hc3⟩ : ∃ c3, (c2 / 16) ^^^ t2 = c3 := ⟨_, rfl⟩
      have e0 : bits .xor .u32 (c : Int) (x : Int) = (c1 : Int) := by rw [xorU _ _ hc32 (by omega), hc1]
      have e1 : bits .and .u32 (c1 : Int) 15 = (m1 : Int) := by rw [andU15 _ b1, hm1]
      have l1 : m1 < 16 := by omega
      have k1 := HT.out m1 l1
      rw [ht1] at k1
      have e2 : bits .xor .u32 ((c1 : Int) / 16) (t1 : Int) = (c2 : Int) := by rw [show (c1 : Int) / 16 = ((c1 / 16 : Nat) : Int) by omega, xorU _ _ (by omega) bt1, hc2]
      have e3 : bits .and .u32 (c2 : Int) 15 = (m2 : Int) := by rw [andU15 _ b2, hm2]
      have l2 : m2 < 16 := by omega
      have k2 := HT.out m2 l2
      rw [ht2] at k2
      have e4 : bits .xor .u32 ((c2 : Int) / 16) (t2 : Int) = (c3 : Int) := by rw [show (c2 : Int) / 16 = ((c2 / 16 : Nat) : Int) by omega, xorU _ _ (by omega) bt2, hc3]
      have HS : Hid (sumL (l.take (k + 1)) = c3) := hide (by
        rw [HXL.out, sumL_snoc, hc, show (UInt8.ofNat x).toNat = x by simp; omega]
        unfold sumS g4
        rw [hc1, hm1, ht1, hc2, hm2, ht2, hc3])
      clear hc hc1 hm1 ht1 hc2 hm2 ht2 hc3 HXL
      go_wp2_with fail
      go_roundw
      case rel => exact ⟨k + 1, by omega, by rw [HS.out], by go_num, hide (by trivial)⟩
      case measure => simp [intOf]; omega
    · obtain rfl : k = s.size := by omega
      have hT : l.take s.size = l := List.take_of_length_le (by have := HLN.out; omega)
      rw [hT]
      have hlti : ¬ (s.size : Int) < (s.size : Int) := by omega
      obtain ⟨c, hc⟩ : ∃ c, sumL l = c := ⟨_, rfl⟩
      have hc32 : c < 4294967296 := by rw [← hc]; exact sumL_lt _
      rw [hc]
      have eN : bits .xor .u32 IntKind.u32.max (c : Int) = ((4294967295 ^^^ c : Nat) : Int) := xorU 4294967295 c (by decide) hc32
      have HC := hide hc
      clear hT hc
      go_wp2_with fail
      go_ret
      exact ⟨by rw [HC.out]; rfl, by trivial⟩
end Go.Proofs.YtpnppabpogedeaaDoor
