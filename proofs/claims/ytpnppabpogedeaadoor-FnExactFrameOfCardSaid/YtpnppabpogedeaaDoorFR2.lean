/- l12Sum of the model. -/
import Derived.Test.YtpnppabpogedeaaDoorFR1
import Derived.Test.YtpnppabpogedeaaDoorSB0
import Derived.Laws.IdiomStrings
namespace Go.Proofs.YtpnppabpogedeaaDoor
open Go.RowKit
set_option maxRecDepth 8000
set_option linter.unusedSimpArgs false
set_option linter.unusedVariables false

def f1N : Nat → Nat → Nat
  | 0, c => c
  | n + 1, c => f1 (f1N n c)

theorem f1N_lt {c : Nat} (h : c < 4294967296) : ∀ n, f1N n c < 4294967296
  | 0 => h
  | n + 1 => f1_lt (f1N_lt h n)

theorem f8_sum (c x : Nat) : f1N 8 (c ^^^ x) = sumS c x := by
  unfold sumS
  rw [← f4_g, ← f4_g]
  rfl
def byteN (n : Nat) : UInt8 := UInt8.ofNat n
/-- Four bytes of a number, the least first. -/
def le4 (n : Nat) : List UInt8 := [byteN n, byteN (n / 256), byteN (n / 65536), byteN (n / 16777216)]
def be4 (n : Nat) : List UInt8 := [byteN (n / 16777216), byteN (n / 65536), byteN (n / 256), byteN n]

theorem byteN_val (n : Nat) : ((byteN n).toNat : Int) = (n : Int) % 256 := by unfold byteN; rw [UInt8.toNat_ofNat']; omega

theorem at_add (b j : Nat) : (⟨b, 0, none⟩ : Addr).add j = ⟨b, j, none⟩ := by unfold Addr.add; split <;> simp_all

theorem conv4 (w : World) (a b c d : Int) (l : List UInt8) (x0 x1 x2 x3 : UInt8) (hl : l = [x0, x1, x2, x3]) (h0 : (x0.toNat : Int) = a) (h1 : (x1.toNat : Int) = b) (h2 : (x2.toNat : Int) = c) (h3 : (x3.toNat : Int) = d) :
    (convert 25 9 (.slice (some ⟨w.heap.size, 0, none⟩) 4 4)).run Tryd.prog (w.alloc (.cells #[.int .u8 a, .int .u8 b, .int .u8 c, .int .u8 d] 5)) = .ok (.string (bs l)) (w.alloc (.cells #[.int .u8 a, .int .u8 b, .int .u8 c, .int .u8 d] 5)) := by
  subst hl
  have h := run_convert_bytes_back (P := Tryd.prog) (w.alloc (.cells #[.int .u8 a, .int .u8 b, .int .u8 c, .int .u8 d] 5)) 25 9 5 ⟨w.heap.size, 0, none⟩ 4 [x0, x1, x2, x3] Tryd.underlying25 Tryd.underlying5 Tryd.underlying9 (fun j hj => by
    rw [at_add]
    rcases (show j = 0 ∨ j = 1 ∨ j = 2 ∨ j = 3 from by simp at hj; omega) with rfl | rfl | rfl | rfl <;> simp [h0, h1, h2, h3])
  exact h

theorem le4_conv (w : World) (e : Nat) : (convert 25 9 (.slice (some ⟨w.heap.size, 0, none⟩) 4 4)).run Tryd.prog (w.alloc (.cells #[.int .u8 ((e : Int) % 256), .int .u8 ((e : Int) / 256 % 256), .int .u8 ((e : Int) / 65536 % 256), .int .u8 ((e : Int) / 16777216 % 256)] 5)) = .ok (.string (bs (le4 e))) (w.alloc (.cells #[.int .u8 ((e : Int) % 256), .int .u8 ((e : Int) / 256 % 256), .int .u8 ((e : Int) / 65536 % 256), .int .u8 ((e : Int) / 16777216 % 256)] 5)) :=
  conv4 w _ _ _ _ _ _ _ _ _ rfl (byteN_val _) (by rw [byteN_val]; omega) (by rw [byteN_val]; omega) (by rw [byteN_val]; omega)

set_option maxHeartbeats 2000000 in
theorem l12Sum_any (s : ByteArray) (w : World) (hs : s.size ≤ 1048576) :
    Calls Tryd.prog 6 #[.string s] w fun e w' => e = .returned (.string (bs (le4 (4294967295 ^^^ sumL s.data.toList)))) ∧ Below w.heap.size w w' := by
  obtain ⟨l, hl⟩ : ∃ l, s.data.toList = l := ⟨_, rfl⟩
  have hlen : l.length = s.size := by rw [← hl]; simp
  have HL := hide hl
  have HLN := hide hlen
  rw [hl]
  clear hl hlen
  go_enter Tryd.func6, Tryd.ntmps6
  go_wp2_with fail
  go_loopw [3, 4, 5] (fun c i _ wr => ∃ k : Nat, k ≤ s.size ∧ c = .int .u32 ((sumL (l.take k) : Nat) : Int) ∧ i = .int .i64 k ∧ Hid (wr = w)) (fun _ i _ _ => s.size - (intOf i).toNat)
  case atStart => exact ⟨0, Nat.zero_le _, rfl, rfl, hide rfl⟩
  case round =>
    obtain ⟨k, hk, rfl, rfl, HW⟩ := hrel
    obtain rfl := HW.out
    obtain ⟨c, hc⟩ : ∃ c, sumL (l.take k) = c := ⟨_, rfl⟩
    have hc32 : c < 4294967296 := by rw [← hc]; exact sumL_lt _
    rw [hc]
    by_cases hlt : k < s.size
    · have hlti : (k : Int) < (s.size : Int) := by omega
      obtain ⟨x, hx⟩ : ∃ x : Nat, s[k].toNat = x := ⟨_, rfl⟩
      have hx256 : x < 256 := by rw [← hx]; exact s[k].toNat_lt
      have HXL : Hid (l.take (k + 1) = l.take k ++ [UInt8.ofNat x]) := hide (by
        have hk2 : k < l.length := by have := HLN.out; omega
        rw [List.take_succ_eq_append_getElem hk2]
        congr 2
        have e : l[k] = s[k] := by
          have := HL.out
          subst this
          simp [ByteArray.getElem_eq_getElem_data]
        rw [e, ← hx]
        simp)
      obtain ⟨c1, hc1⟩ : ∃ c1, c ^^^ x = c1 := ⟨_, rfl⟩
      have b1 : c1 < 4294967296 := by rw [← hc1]; exact xor_lt32 hc32 (by omega)
      have e0 : bits .xor .u32 (c : Int) (x : Int) = (c1 : Int) := by rw [xorU _ _ hc32 (by omega), hc1]
      have HS : Hid (sumL (l.take (k + 1)) = f1N 8 c1) := hide (by
        rw [HXL.out, sumL_snoc, hc, show (UInt8.ofNat x).toNat = x by simp; omega, ← hc1, f8_sum])
      clear hc hc1 HXL
      go_wp2_with fail
      obtain ⟨W2, hW2⟩ : ∃ W2, W2 = wr := ⟨_, rfl⟩
      go_loopw [3, 5] (fun c i wq => ∃ j : Nat, j ≤ 8 ∧ c = .int .u32 ((f1N j c1 : Nat) : Int) ∧ i = .int .i64 j ∧ Hid (wq = W2)) (fun _ i _ => 8 - (intOf i).toNat)
      case atStart => exact ⟨0, Nat.zero_le _, rfl, rfl, hide hW2.symm⟩
      case round =>
        obtain ⟨j, hj, rfl, rfl, HWQ⟩ := hrel
        obtain rfl := HWQ.out
        obtain ⟨d, hd⟩ : ∃ d, f1N j c1 = d := ⟨_, rfl⟩
        have hd32 : d < 4294967296 := by rw [← hd]; exact f1N_lt b1 j
        rw [hd]
        by_cases h8 : j < 8
        · have h8i : (j : Int) < 8 := by omega
          by_cases ho : d % 2 = 1
          · have hoi : (d : Int) % 2 = 1 := by omega
            have HF : Hid (f1N (j + 1) c1 = (d / 2) ^^^ 3988292384) := hide (by show f1 (f1N j c1) = _; rw [hd]; unfold f1; rw [if_pos ho])
            have e1 : bits .xor .u32 ((d : Int) / 2) 3988292384 = (((d / 2) ^^^ 3988292384 : Nat) : Int) := by rw [show (d : Int) / 2 = ((d / 2 : Nat) : Int) by omega]; exact xorU _ 3988292384 (by omega) (by decide)
            clear hd ho
            go_wp2_with fail
            go_roundw
            case rel => exact ⟨j + 1, by omega, by rw [HF.out], by go_num, hide (by first | trivial | exact hW2 | exact hW2.symm)⟩
            case measure => simp [intOf]; omega
          · have hoi : (d : Int) % 2 = 0 := by omega
            have HF : Hid (f1N (j + 1) c1 = d / 2) := hide (by show f1 (f1N j c1) = _; rw [hd]; unfold f1; rw [if_neg ho])
            clear hd ho
            go_wp2_with fail
            go_roundw
            case rel => exact ⟨j + 1, by omega, by rw [HF.out]; congr 1, by go_num, hide (by first | trivial | exact hW2 | exact hW2.symm)⟩
            case measure => simp [intOf]; omega
        · obtain rfl : j = 8 := by omega
          have HD := hide hd
          clear hd h8
          go_wp2_with fail
          go_roundw
          case rel => exact ⟨k + 1, by omega, by rw [HS.out, HD.out], by go_num, hide (by first | trivial | exact hW2 | exact hW2.symm)⟩
          case measure => simp [intOf]; omega
    · obtain rfl : k = s.size := by omega
      have hT : l.take s.size = l := List.take_of_length_le (by have := HLN.out; omega)
      rw [hT] at hc
      have HC := hide hc
      have hlti : ¬ (s.size : Int) < (s.size : Int) := by omega
      obtain ⟨e, he⟩ : ∃ e, 4294967295 ^^^ c = e := ⟨_, rfl⟩
      have he32 : e < 4294967296 := by rw [← he]; exact xor_lt32 (by decide) hc32
      have eN : bits .xor .u32 IntKind.u32.max (c : Int) = (e : Int) := by rw [← he]; exact xorU 4294967295 c (by decide) hc32
      have HE := hide he
      have hcv := le4_conv wr e
      clear hT hc he
      go_wp2_with fail
      go_ret
      exact ⟨by rw [HC.out, HE.out]; rfl, balloc (Below.refl _ _) _⟩
end Go.Proofs.YtpnppabpogedeaaDoor
