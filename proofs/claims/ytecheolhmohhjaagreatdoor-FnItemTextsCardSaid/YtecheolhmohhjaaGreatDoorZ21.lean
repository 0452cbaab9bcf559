/- A text that is read rune by rune: what a rune is made of; plain. -/
import Derived.Test.YtecheolhmohhjaaGreatDoorZ19
import Derived.Laws.RangeAny
import Derived.Lib.OthersKept
namespace Go.Proofs.YtecheolhmohhjaaGreatDoor
open Go.RowKit
set_option maxRecDepth 8000
set_option linter.unusedSimpArgs false
set_option linter.unusedVariables false

set_option maxHeartbeats 1000000 in
/-- A rune that begins with no byte of ASCII lies in the text, and none of its bytes is ASCII. -/
theorem decode_wide (s : ByteArray) (pos : Nat) (h : pos < s.size) (ha : 128 ≤ (s[pos]'h).toNat) :
    128 ≤ (Utf8.decode s pos).1 ∧ 1 ≤ (Utf8.decode s pos).2 ∧ pos + (Utf8.decode s pos).2 ≤ s.size ∧ ∀ j, j < (Utf8.decode s pos).2 → 128 ≤ (s.get! (pos + j)).toNat := by
  refine ⟨(decode_high s pos h ha).1, (decode_high s pos h ha).2, ?_⟩
  have hn : ¬ (s[pos]'h).toNat < 128 := by omega
  have h0 : 128 ≤ (s.get! (pos + 0)).toNat := by rw [get_at s pos h]; exact ha
  simp only [Utf8.decode, get_at s pos h, hn, if_false]
  have one : pos + 1 ≤ s.size ∧ ∀ j, j < 1 → 128 ≤ (s.get! (pos + j)).toNat := ⟨by omega, fun j hj => by obtain rfl : j = 0 := (by omega); exact h0⟩
  split
  · rename_i c
    simp only [Bool.and_eq_true, decide_eq_true_eq, beq_iff_eq] at c
    split
    · exact ⟨by simp only; omega, fun j hj => by
        simp only at hj
        rcases (by omega : j = 0 ∨ j = 1) with rfl | rfl
        · exact h0
        · omega⟩
    · exact one
  · split
    · rename_i c
      simp only [Bool.and_eq_true, decide_eq_true_eq, beq_iff_eq] at c
      split
      · exact ⟨by simp only; omega, fun j hj => by
          simp only at hj
          rcases (by omega : j = 0 ∨ j = 1 ∨ j = 2) with rfl | rfl | rfl
          · exact h0
          · omega
          · omega⟩
      · exact one
    · split
      · rename_i c
        simp only [Bool.and_eq_true, decide_eq_true_eq, beq_iff_eq] at c
        split
        · exact ⟨by simp only; omega, fun j hj => by
            simp only at hj
            rcases (by omega : j = 0 ∨ j = 1 ∨ j = 2 ∨ j = 3) with rfl | rfl | rfl | rfl
            · exact h0
            · omega
            · omega
            · omega⟩
        · exact one
      · exact one

theorem get_list (s : ByteArray) (k : Nat) (h : k < s.size) : s.data.toList[k]? = some (s.get! k) := by
  have e := get_at s k h
  rw [Nat.add_zero] at e
  rw [e]; exact byte_at s k h
end Go.Proofs.YtecheolhmohhjaaGreatDoor

/- cutAt of the program. -/
namespace Go.Proofs.YtecheolhmohhjaaGreatDoor
open Go.RowKit
set_option maxRecDepth 8000
set_option linter.unusedSimpArgs false
set_option linter.unusedVariables false

theorem runeLen_ascii (r : Int) (w : World) (h0 : 0 ≤ r) (h1 : r < 128) :
    Calls Tryz.prog 40 #[.int .i32 r] w fun e w' => e = .returned (.int .i64 1) ∧ w' = w := by
  have a : decide (r < 0) = false := decide_eq_false (by omega)
  have b : decide (r ≤ 127) = true := decide_eq_true (by omega)
  have a' : ¬ r < 0 := by omega
  have b' : r ≤ 127 := by omega
  go_enter Tryz.func40, Tryz.ntmps40
  go_wp2
  go_ret
  exact ⟨rfl, rfl⟩

set_option maxHeartbeats 2000000 in
set_option maxRecDepth 100000 in
/-- cutAt at a mark of ASCII: what is ahead of the first such byte, and what is behind it. -/
theorem iCutAt_any (s : ByteArray) (c : UInt8) (hc : c.toNat < 128) (w : World) (hs : s.size ≤ 9223372036854775807) :
    Calls Tryz.prog 20 #[.string s, .int .i32 (c.toNat : Int)] w fun e w' => e = .returned (.tuple #[.string (bs (cutL c s.data.toList).1), .string (bs (cutL c s.data.toList).2.1)]) ∧ Below w.heap.size w w' := by
  have hk0 : (w.iter s 0).heap[w.heap.size]? = some (.stringIter s 0) := World.iter_heap w s 0
  have hb0 : Below w.heap.size w (w.iter s 0) := (Below.refl _ w).alloc (Nat.le_refl _) _
  have RL := hide fun wx => runeLen_ascii (c.toNat : Int) wx (by omega) (by omega)
  go_enter Tryz.func20, Tryz.ntmps20
  go_wp2
  go_loopw [6] (fun _ wr => ∃ pos : Nat, pos ≤ s.size ∧ wr.heap[w.heap.size]? = some (.stringIter s pos) ∧ Below w.heap.size w wr ∧ Hid (∀ j, j < pos → s.data.toList[j]? ≠ some c))
    (fun _ wr => s.size - wr.iterPos w.heap.size)
  case atStart => exact ⟨0, Nat.zero_le _, hk0, hb0, hide fun j hj => absurd hj (by omega)⟩
  case round =>
    obtain ⟨pos, hps, hk, hnx, HN⟩ := hrel
    clear hk0 hb0
    have hmu : wr.iterPos w.heap.size = pos := by simp [World.iterPos, hk]
    by_cases hp : pos < s.size
    · by_cases hcc : s[pos] = c
      · have hq : (s[pos].toNat : Int) = (c.toNat : Int) := by rw [hcc]
        have h128 : (s[pos]'hp).toNat < 128 := by rw [hcc]; exact hc
        have hnext : ∀ ty, (Instr.next (.pointer (some ⟨w.heap.size, 0, none⟩)) true ty).run Tryz.prog wr = _ := fun ty => Lib.run_next_ascii_at wr w.heap.size s pos ty hk hp h128
        rw [hq] at hnext
        have hnx1 : Below w.heap.size w (wr.iterAt w.heap.size s (pos + 1)) := Lib.below_iterAt hnx (by omega) s (pos + 1)
        generalize wr.iterAt w.heap.size s (pos + 1) = W1 at hnext hnx1
        have hcut := hide (cut_hit c pos s.data.toList HN.out (by rw [byte_at s pos hp, hcc]))
        clear HN hk
        go_wp2_with fail
        go_quiet (exact Calls.quiet_of_same (RL.out _))
        go_wp2_with fail
        refine bodyPost_ret (v := .tuple #[.string (s.extract 0 pos), .string (s.extract (pos + 1) s.size)]) (by simp [results, Tryz.results20, go_sem]) rfl ⟨?_, (by repeat' first | with_reducible exact Below.refl _ _ | with_reducible assumption | with_reducible refine below_drewN ?_ _ | with_reducible refine balloc ?_ _ | with_reducible refine Below.drew ?_ | with_reducible refine Below.setCell ?_ (by first | (simp; done) | (simp; omega) | omega) _ | with_reducible refine bstep ?_ (by assumption))⟩
        rw [hcut.out, ext_take, ext_drop]
      · have hfar : ∃ n, (Utf8.decode s pos).1 ≠ c.toNat ∧ (Utf8.decode s pos).2 = n ∧ 1 ≤ n ∧ pos + n ≤ s.size ∧ ∀ j, j < pos + n → s.data.toList[j]? ≠ some c := by
          by_cases h128 : (s[pos]'hp).toNat < 128
          · refine ⟨1, ?_, by rw [decode_ascii s pos hp h128], Nat.le_refl _, by omega, fun j hj => ?_⟩
            · rw [decode_ascii s pos hp h128]
              exact fun e => hcc (UInt8.toNat_inj.1 e)
            · by_cases e : j = pos
              · rw [e, byte_at s pos hp]; exact fun q => hcc (Option.some.inj q)
              · exact HN.out j (by omega)
          · obtain ⟨d1, d2, d3, d4⟩ := decode_wide s pos hp (by omega)
            refine ⟨_, by omega, rfl, d2, d3, fun j hj => ?_⟩
            by_cases e : j < pos
            · exact HN.out j e
            · have q := d4 (j - pos) (by omega)
              rw [show pos + (j - pos) = j from by omega] at q
              rw [get_list s j (by omega)]
              intro q2
              rw [Option.some.inj q2] at q
              omega
        obtain ⟨n, hr, hn, h1, hle, HF⟩ := hfar
        have HF := hide HF
        have hnext : ∀ ty, (Instr.next (.pointer (some ⟨w.heap.size, 0, none⟩)) true ty).run Tryz.prog wr = _ := fun ty => Lib.run_next_any_at wr w.heap.size s pos ty hk hp
        rw [hn] at hnext
        have hq : ¬ (((Utf8.decode s pos).1 : Nat) : Int) = (c.toNat : Int) := by omega
        have hnx1 : Below w.heap.size w (wr.iterAt w.heap.size s (pos + n)) := Lib.below_iterAt hnx (by omega) s (pos + n)
        have hk1 := Lib.iterAt_heap wr w.heap.size s pos (pos + n) hk
        generalize wr.iterAt w.heap.size s (pos + n) = W1 at hnext hnx1 hk1
        have hmu2 : W1.iterPos w.heap.size = pos + n := by simp [World.iterPos, hk1]
        generalize (Utf8.decode s pos).1 = r at hnext hq hr
        clear HN hk
        go_wp2_with fail
        go_roundw
        case rel => exact ⟨pos + n, hle, hk1, hnx1, HF⟩
        case measure => rw [hmu, hmu2]; omega
    · obtain rfl : pos = s.size := by omega
      have hnext : ∀ ty, (Instr.next (.pointer (some ⟨w.heap.size, 0, none⟩)) true ty).run Tryz.prog wr = _ := fun ty => Lib.run_next_end_at wr w.heap.size s s.size ty hk hp
      have hcut := hide (cut_miss c s.data.toList (by rw [← size_list]; exact HN.out))
      go_wp2_with fail
      refine bodyPost_ret (v := .tuple #[.string s, .string ⟨#[]⟩]) (by simp [results, Tryz.results20, go_sem]) rfl ⟨?_, (by repeat' first | with_reducible exact Below.refl _ _ | with_reducible assumption | with_reducible refine below_drewN ?_ _ | with_reducible refine balloc ?_ _ | with_reducible refine Below.drew ?_ | with_reducible refine Below.setCell ?_ (by first | (simp; done) | (simp; omega) | omega) _ | with_reducible refine bstep ?_ (by assumption))⟩
      rw [hcut.out, bs_of]; rfl
end Go.Proofs.YtecheolhmohhjaaGreatDoor
