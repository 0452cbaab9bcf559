/- FrameOf of the program. -/
import Derived.Test.YtpnppabpogedeaaDoorFR2
namespace Go.Proofs.YtpnppabpogedeaaDoor
open Go.RowKit
set_option maxRecDepth 8000
set_option linter.unusedSimpArgs false
set_option linter.unusedVariables false

def sumC (l : List UInt8) : Nat := 4294967295 ^^^ sumL l
def headT (l : List UInt8) : List UInt8 := be4 l.length ++ le4 (sumC l)
def frameT (l : List UInt8) : List UInt8 := if l.length ≤ 100000 then headT l ++ l else []

theorem sumC_lt (l : List UInt8) : sumC l < 4294967296 := xor_lt32 (by decide) (sumL_lt l)

theorem bytes_list {S : ByteArray} {l : List UInt8} (h : S.data.toList = l) : S = bs l := by subst h; exact (bs_of S).symm

theorem conv8 (w : World) (a b c d e f g h : Int) (l : List UInt8) (x0 x1 x2 x3 x4 x5 x6 x7 : UInt8) (hl : l = [x0, x1, x2, x3, x4, x5, x6, x7]) (h0 : (x0.toNat : Int) = a) (h1 : (x1.toNat : Int) = b) (h2 : (x2.toNat : Int) = c) (h3 : (x3.toNat : Int) = d) (h4 : (x4.toNat : Int) = e) (h5 : (x5.toNat : Int) = f) (h6 : (x6.toNat : Int) = g) (h7 : (x7.toNat : Int) = h) :
    (convert 25 9 (.slice (some ⟨w.heap.size, 0, none⟩) 8 8)).run Tryd.prog (w.alloc (.cells #[.int .u8 a, .int .u8 b, .int .u8 c, .int .u8 d, .int .u8 e, .int .u8 f, .int .u8 g, .int .u8 h] 5)) = .ok (.string (bs l)) (w.alloc (.cells #[.int .u8 a, .int .u8 b, .int .u8 c, .int .u8 d, .int .u8 e, .int .u8 f, .int .u8 g, .int .u8 h] 5)) := by
  subst hl
  have h := run_convert_bytes_back (P := Tryd.prog) (w.alloc (.cells #[.int .u8 a, .int .u8 b, .int .u8 c, .int .u8 d, .int .u8 e, .int .u8 f, .int .u8 g, .int .u8 h] 5)) 25 9 5 ⟨w.heap.size, 0, none⟩ 8 [x0, x1, x2, x3, x4, x5, x6, x7] Tryd.underlying25 Tryd.underlying5 Tryd.underlying9 (fun j hj => by
    rw [at_add]
    rcases (show j = 0 ∨ j = 1 ∨ j = 2 ∨ j = 3 ∨ j = 4 ∨ j = 5 ∨ j = 6 ∨ j = 7 from by simp at hj; omega) with rfl | rfl | rfl | rfl | rfl | rfl | rfl | rfl <;> simp [h0, h1, h2, h3, h4, h5, h6, h7])
  exact h

set_option maxHeartbeats 2000000 in
theorem headOf_any (s : ByteArray) (w : World) (hs : s.size ≤ 100000) (T : Sums w) :
    Calls Tryd.prog 7 #[.string s] w fun e w' => e = .returned (.string (bs (headT s.data.toList))) ∧ Below w.heap.size w w' := by
  have SO := hide (sumOf_any s w (by omega) T)
  obtain ⟨n, hn⟩ : ∃ n, s.size = n := ⟨_, rfl⟩
  have HL := hide (show s.data.toList.length = n by rw [← hn]; simp)
  rw [hn] at hs
  have he32 := sumC_lt s.data.toList
  obtain ⟨e, he⟩ : ∃ e, sumC s.data.toList = e := ⟨_, rfl⟩
  rw [he] at he32
  have HE := hide he
  unfold sumC at he
  rw [he] at SO
  have hcv := conv8 w ((n : Int) / 16777216) ((n : Int) / 65536) ((n : Int) / 256 % 256) ((n : Int) % 256) ((e : Int) % 256) ((e : Int) / 256 % 256) ((e : Int) / 65536 % 256) ((e : Int) / 16777216) (be4 n ++ le4 e) _ _ _ _ _ _ _ _ rfl (by rw [byteN_val]; omega) (by rw [byteN_val]; omega) (by rw [byteN_val]; omega) (byteN_val _) (byteN_val _) (by rw [byteN_val]; omega) (by rw [byteN_val]; omega) (by rw [byteN_val]; omega)
  clear T he
  go_enter Tryd.func7, Tryd.ntmps7
  go_wp2_with fail
  refine SO.out.mono ?_
  rintro e1 w1 ⟨rfl, hw⟩
  obtain rfl := hw.symm
  clear SO hw
  go_wp2_with fail
  go_ret
  exact ⟨by unfold headT; rw [HL.out, HE.out]; rfl, balloc (Below.refl _ _) _⟩

set_option maxHeartbeats 2000000 in
theorem iFrameOf_any (s : ByteArray) (w : World) (hs : s.size ≤ 1048576) (T : Sums w) :
    Calls Tryd.prog 5 #[.string s] w fun e w' => e = .returned (.string (bs (frameT s.data.toList))) ∧ Below w.heap.size w w' := by
  have hl : s.data.toList.length = s.size := by simp
  by_cases h : s.size ≤ 100000
  · have HO := hide (headOf_any s w h T)
    have HF : Hid (frameT s.data.toList = headT s.data.toList ++ s.data.toList) := hide (by unfold frameT; rw [if_pos (by omega)])
    have hh : (bs (headT s.data.toList)).size = 8 := by rw [bs_size]; rfl
    obtain ⟨H, hH⟩ : ∃ H, bs (headT s.data.toList) = H := ⟨_, rfl⟩
    have HX : Hid (H.data.toList = headT s.data.toList) := hide (by rw [← hH, bs_list])
    rw [hH] at HO hh
    have hno : ¬ (100000 : Int) < s.size := by omega
    have hov : ¬ 9223372036854775807 < H.size + s.size := by omega
    clear T hH hl
    go_enter Tryd.func5, Tryd.ntmps5
    go_wp2_with fail
    refine HO.out.mono ?_
    rintro e1 w1 ⟨rfl, hb⟩
    have B1 := hide hb
    clear HO hb
    go_wp2_with fail
    go_ret
    exact ⟨by rw [HF.out, bytes_list (l := headT s.data.toList ++ s.data.toList) (S := H ++ s) (by rw [← HX.out]; simp)]; try rfl, B1.out⟩
  · have HF : Hid (frameT s.data.toList = []) := hide (by unfold frameT; rw [if_neg (by omega)])
    have hyes : (100000 : Int) < s.size := by omega
    clear T hl
    go_enter Tryd.func5, Tryd.ntmps5
    go_wp2_with fail
    go_ret
    exact ⟨by rw [HF.out]; rfl, Below.refl _ _⟩
end Go.Proofs.YtpnppabpogedeaaDoor
