/- The walk of the law FnExactRangesOf: what is marked and held. -/
import Derived.Test.YtcllnmaemiepfaaMD
import Derived.Test.YtcllnmaemiepfaaMN
import Derived.Test.YtcllnmaemiepfaaBC
import Derived.OpenShut
namespace Go.Proofs.Ytcllnmaemiepfaa
open Go.RowKit
set_option maxRecDepth 8000
set_option linter.unusedSimpArgs false
set_option linter.unusedVariables false

def sumLen (xss : List (List Int)) : Nat → Nat
  | 0 => 0
  | k + 1 => sumLen xss k + (row xss k).length

theorem len_sum (xss : List (List Int)) : ∀ m i, i < m → (row xss i).length ≤ sumLen xss m
  | 0, i, h => by omega
  | m + 1, i, h => by
    have e : sumLen xss (m + 1) = sumLen xss m + (row xss m).length := rfl
    rcases Nat.lt_succ_iff_lt_or_eq.1 h with q | q
    · have := len_sum xss m i q; omega
    · subst q; omega

set_option maxHeartbeats 1600000 in
theorem szRows2_any (a : Option Addr) (m cap : Nat) (xss : List (List Int)) (left : Int) (w : World) (h : LMat w a m xss) (h0 : 0 ≤ left) (h1 : left ≤ 1048576) :
    Calls Try.prog 4 #[.slice a m cap, .int .i64 left] w fun e w' => (∃ v : Int, e = .returned (.int .i64 v) ∧ v ≤ left ∧ (v < 0 ∨ (m : Int) + (sumLen xss m : Int) ≤ left)) ∧ w' = w := by
  have hbig := h.big
  have hl := h.len
  by_cases hm : left - (m : Int) < 0
  · clear h
    go_enter Try.func4, Try.ntmps4
    go_wp2
    go_ret
    exact ⟨⟨-1, rfl, by omega, .inl (by omega)⟩, rfl⟩
  · have HL := hide h.lies
    clear h
    go_enter Try.func4, Try.ntmps4
    go_wp2_with fail
    go_loopw [1, 5] (fun s i wr => ∃ (k : Nat) (lf : Int), k ≤ m ∧ i = .int .i64 k ∧ s = .int .i64 lf ∧ 0 ≤ lf ∧ lf ≤ left ∧ Hid (lf + (m : Int) + (sumLen xss k : Int) = left) ∧ wr = w) (fun _ i _ => m - (intOf i).toNat)
    case atStart => exact ⟨0, _, Nat.zero_le _, rfl, rfl, by omega, by omega, hide (by show _ + (0 : Int) = _; omega), rfl⟩
    case round =>
      obtain ⟨k, lf, hk, rfl, rfl, l0, l1, HA, rfl⟩ := hrel
      by_cases hlt : k < m
      · have hlt' : (k : Int) < (m : Int) := by omega
        obtain ⟨b, off, a', n', c', rfl, hz, hr, hn'⟩ : ∃ b off a' n' c', a = some ⟨b, off, none⟩ ∧ wr.cell? ⟨b, off + k, none⟩ = some (.slice a' n' c') ∧ Row wr a' n' (row xss k) ∧ n' ≤ 9223372036854775807 := by
          rcases HL.out with q | ⟨b, off, e, _, hc⟩
          · omega
          · obtain ⟨a', n', c', h1, h2, h3⟩ := hc k hlt
            exact ⟨b, off, a', n', c', e, h1, h2, h3⟩
        have hrl := hr.len
        have SZ := hide (szInts_any a' n' c' lf wr l0 (by omega) hn')
        clear hr
        by_cases hn : lf - (n' : Int) < 0
        · rw [show szN lf n' = -1 by unfold szN; rw [if_pos hn]] at SZ
          go_wp2_with fail
          refine SZ.out.mono ?_
          rintro e w2 ⟨rfl, hw⟩
          obtain rfl := hw.symm
          clear hw
          go_wp2_with fail
          go_ret
          exact ⟨⟨-1, rfl, by omega, .inl (by omega)⟩, rfl⟩
        · rw [show szN lf n' = lf - (n' : Int) by unfold szN; rw [if_neg hn]] at SZ
          obtain ⟨l2, hl2⟩ : ∃ l2, lf - (n' : Int) = l2 := ⟨_, rfl⟩
          have HN : Hid (l2 + (m : Int) + (sumLen xss (k + 1) : Int) = left) := hide (by
            have e : sumLen xss (k + 1) = sumLen xss k + (row xss k).length := rfl
            have := HA.out
            omega)
          have l2a : 0 ≤ l2 := by omega
          have l2b : l2 ≤ left := by omega
          rw [hl2] at SZ
          have l2c : ¬ l2 < 0 := by omega
          clear hl2 hn hrl
          go_wp2_with fail
          refine SZ.out.mono ?_
          rintro e w2 ⟨rfl, hw⟩
          obtain rfl := hw.symm
          clear hw
          go_wp2_with fail
          go_roundw
          case rel => exact ⟨k + 1, l2, by omega, by go_num, rfl, l2a, l2b, HN, by first | trivial | rfl⟩
          case measure => simp [intOf]; omega
      · obtain rfl : k = m := by omega
        have hA := HA.out
        go_wp2_with fail
        go_ret
        exact ⟨⟨lf, rfl, by omega, .inr (by omega)⟩, rfl⟩

/-- Of what was there the blocks V 0 .. V (m - 1) alone may have turned. -/
structure FarV (V : Nat → Nat) (m : Nat) (w w' : World) : Prop where
  os : w'.os = w.os
  tape : w'.tape = w.tape
  output : w'.output = w.output
  size : w.heap.size ≤ w'.heap.size
  block : ∀ j, j < w.heap.size → (∀ i, i < m → j ≠ V i) → w'.heap[j]? = w.heap[j]?

theorem FarV.refl (V : Nat → Nat) (m : Nat) (w : World) : FarV V m w w := ⟨rfl, rfl, rfl, Nat.le_refl _, fun _ _ _ => rfl⟩

theorem FarV.step {V : Nat → Nat} {k : Nat} {w a b : World} (h : FarV V k w a) (hb : But (V k) a b) : FarV V (k + 1) w b :=
  ⟨hb.os.trans h.os, hb.tape.trans h.tape, hb.output.trans h.output, Nat.le_trans h.size hb.size, fun j hj hne => (hb.block j (Nat.lt_of_lt_of_le hj h.size) (hne k (by omega))).trans (h.block j hj fun i hi => hne i (by omega))⟩

theorem FarV.below {V : Nat → Nat} {m : Nat} {w a b : World} {B : Nat} (h : FarV V m a b) (hb : Below B w a) (hB : B ≤ a.heap.size) (hV : ∀ i, i < m → B ≤ V i) : Below B w b :=
  ⟨h.os.trans hb.os, h.tape.trans hb.tape, h.output.trans hb.output, Nat.le_trans hb.size h.size, fun j hj => (h.block j (by omega) fun i hi => by have := hV i hi; omega).trans (hb.block j hj)⟩

theorem prow_farV {V : Nat → Nat} {m : Nat} {w w' : World} {a : Option Addr} {n : Nat} {f g : Nat → Int} (h : PRow w a n f g) (hb : FarV V m w w') (hq : ∀ b off, a = some ⟨b, off, none⟩ → ∀ i, i < m → b ≠ V i) : PRow w' a n f g := by
  rcases h.lies with h0 | ⟨b, off, e, lt, hc⟩
  · exact ⟨.inl h0⟩
  · have hk := hb.block b lt (hq b off e)
    exact ⟨.inr ⟨b, off, e, Nat.lt_of_lt_of_le lt hb.size, fun i hi => ⟨(World.cell?_of_block (a := ⟨b, off + i * 2, none⟩) hk).trans (hc i hi).1, (World.cell?_of_block (a := ⟨b, off + i * 2 + 1, none⟩) hk).trans (hc i hi).2⟩⟩⟩

set_option maxHeartbeats 1600000 in
theorem markRows_own (g m cap B : Nat) (q : Int) (V : Nat → Nat) (xss : List (List Int)) (w : World) (h : OwnM w B g m m V xss) (hm : m ≤ 1048576) (hq : 0 ≤ q) (hq2 : q + (sumLen xss m : Int) ≤ 100000000) (hs : sumLen xss m ≤ 1048576) :
    Calls Try.prog 10 #[.slice (some ⟨g, 0, none⟩) m cap, .int .i64 q] w fun e w' => e = .returned (.int .i64 (q + (sumLen xss m : Int))) ∧ FarV V m w w' := by
  have H := hide h
  clear h
  go_enter Try.func10, Try.ntmps10
  go_wp2_with fail
  go_loopw [1, 5] (fun s i wr => ∃ k : Nat, k ≤ m ∧ i = .int .i64 k ∧ s = .int .i64 (q + (sumLen xss k : Int)) ∧ FarV V k w wr) (fun _ i _ => m - (intOf i).toNat)
  case atStart => exact ⟨0, Nat.zero_le _, rfl, by show _ = Value.int .i64 (q + 0); rw [Int.add_zero], FarV.refl _ _ _⟩
  case round =>
    obtain ⟨k, hk, rfl, rfl, hf⟩ := hrel
    have HF := hide hf
    clear hf
    by_cases hlt : k < m
    · have hlt' : (k : Int) < (m : Int) := by omega
      have hg := World.rowIs.lt H.out.head
      have hh : wr.rowIs g 33 m (hdTo m V xss) := World.rowIs.of_block H.out.head (HF.out.block g hg fun i hi => by have := (H.out.each i (by omega)).2; omega)
      have hz := World.rowIs.cell hh hlt
      unfold hdTo at hz
      rw [if_pos hlt] at hz
      have ho : Own wr (V k) (row xss k) := World.rowIs.of_block (H.out.each k hlt).1 (HF.out.block (V k) (World.rowIs.lt (H.out.each k hlt).1) fun i hi => by have := H.out.sep i k hi hlt; omega)
      have hle : (row xss k).length ≤ sumLen xss m := len_sum xss m k hlt
      have hsk : sumLen xss k ≤ sumLen xss m := by
        clear hz ho hh
        have : ∀ j, k ≤ j → sumLen xss k ≤ sumLen xss j := fun j => by
          induction j with
          | zero => intro h; have : k = 0 := by omega
                    subst this; exact Nat.le_refl _
          | succ j ih =>
            intro h
            rcases Nat.lt_or_ge k (j + 1) with r | r
            · have := ih (by omega)
              show _ ≤ sumLen xss j + _
              omega
            · have : k = j + 1 := by omega
              subst this; exact Nat.le_refl _
        exact this m hk
      have MK := hide (markInts_any (V k) (row xss k).length (row xss k).length (q + (sumLen xss k : Int)) (row xss k) wr ho rfl (by omega) (by omega) (by omega))
      have E1 : Hid (sumLen xss (k + 1) = sumLen xss k + (row xss k).length) := hide rfl
      obtain ⟨L, hL⟩ : ∃ L, (row xss k).length = L := ⟨_, rfl⟩
      rw [hL] at MK E1 hz
      obtain ⟨sk, hsk'⟩ : ∃ s, sumLen xss k = s := ⟨_, rfl⟩
      rw [hsk'] at MK E1 ⊢
      clear hh ho hL hsk' hle hsk
      go_wp2_with fail
      refine MK.out.mono ?_
      rintro e w2 ⟨rfl, _, hb2⟩
      have HF2 := hide (HF.out.step hb2)
      clear hb2 MK HF hz
      go_wp2_with fail
      go_roundw
      case rel => exact ⟨k + 1, by omega, by go_num, by rw [E1.out]; push_cast; rw [Int.add_assoc], HF2.out⟩
      case measure => simp [intOf]; omega
    · obtain rfl : k = m := by omega
      go_wp2_with fail
      go_ret
      exact ⟨rfl, HF.out⟩

/-- Ranges in new memory, or none. -/
def R2 (w : World) (a : Option Addr) (N : Nat) (F G : Nat → Int) (base : Nat) : Prop := N = 0 ∨ ∃ b, a = some ⟨b, 0, none⟩ ∧ base ≤ b ∧ OwnP w b N F G

theorem R2.below {w w' : World} {a : Option Addr} {N : Nat} {F G : Nat → Int} {base : Nat} (h : R2 w a N F G base) (hb : Below w.heap.size w w') : R2 w' a N F G base := by
  rcases h with h | ⟨b, e, h1, h2⟩
  · exact .inl h
  · exact .inr ⟨b, e, h1, h2.below hb⟩

theorem R2.prow {w : World} {a : Option Addr} {N : Nat} {F G : Nat → Int} {base : Nat} (h : R2 w a N F G base) : PRow w a N F G := by
  rcases h with h | ⟨b, e, h1, h2⟩
  · exact ⟨.inl h⟩
  · rw [e]; exact h2.prow

theorem R2.farV {V : Nat → Nat} {m : Nat} {w w' : World} {a : Option Addr} {N : Nat} {F G : Nat → Int} {base : Nat} (h : R2 w a N F G base) (hb : FarV V m w w') (hV : ∀ i, i < m → V i < base) : R2 w' a N F G base := by
  rcases h with h | ⟨b, e, h1, h2⟩
  · exact .inl h
  · exact .inr ⟨b, e, h1, World.rowIs.of_block h2 (hb.block b (World.rowIs.lt h2) fun i hi => by have := hV i hi; omega)⟩

theorem iRangesQ (a : Option Addr) (m cap : Nat) (xss : List (List Int)) (w : World) (h : Mat w a m xss) (hm : m ≤ 1048576) :
    Calls Try.prog 7 #[.slice a m cap] w fun e w' => ∃ a' c', e = .returned (.tuple #[.slice a' (if rngB xss then (row xss 0).length else 0) c', .bool (rngB xss)]) ∧ R2 w' a' (if rngB xss then (row xss 0).length else 0) (fun p => loF xss p xss.length) (fun p => hiF xss p xss.length) w.heap.size ∧ Below w.heap.size w w' := by
  refine (iRangesOf_any a m cap xss w h hm).mono fun e w' q => ?_
  rcases q with ⟨h0, he, hb⟩ | ⟨h0, b, he, hlo, ho, hb⟩
  · rw [h0]; exact ⟨none, 0, he, .inl rfl, hb⟩
  · rw [h0]; exact ⟨_, _, he, .inr ⟨b, rfl, hlo, ho⟩, hb⟩

theorem markQ (a : Option Addr) (N cap base : Nat) (q : Int) (F G : Nat → Int) (w : World) (h : R2 w a N F G base) (hN : N ≤ 1048576) (hq : 0 ≤ q) (hq2 : q ≤ 100000000) :
    Calls Try.prog 11 #[.slice a N cap, .int .i64 q] w fun e w' => e = .returned (.int .i64 (q + 2 * (N : Int))) ∧ R2 w' a N (mlo q) (mhi q) base ∧ Below base w w' := by
  rcases h with h | ⟨b, e, h1, h2⟩
  · refine (markRangeS_nil a N cap q w (by omega)).mono fun e w' r => ?_
    obtain ⟨he, hw⟩ := r
    subst hw
    exact ⟨by rw [he, h]; simp, .inl h, Below.refl _ _⟩
  · subst e
    refine (markRangeS_own b N cap q F G w h2 hN hq hq2).mono fun e w' r => ?_
    exact ⟨r.1, .inr ⟨b, rfl, h1, r.2.1⟩, r.2.2.below h1 (by have := World.rowIs.lt h2; omega)⟩

theorem heldQ (a : Option Addr) (N cap base : Nat) (q : Int) (w : World) (h : R2 w a N (mlo q) (mhi q) base) (hN : N ≤ 1048576) (hq : 0 ≤ q) (hq2 : q ≤ 100000000) :
    Calls Try.prog 12 #[.slice a N cap, .int .i64 q] w fun e w' => e = .returned (.int .i64 (q + 2 * (N : Int))) ∧ w' = w := by
  rcases h with h | ⟨b, e, h1, h2⟩
  · refine (heldRangeS_nil a N cap q w (by omega)).mono fun e w' r => ?_
    exact ⟨by rw [r.1, h]; simp, r.2⟩
  · subst e
    exact heldRangeS_own b N cap q w h2 hN hq hq2
end Go.Proofs.Ytcllnmaemiepfaa
