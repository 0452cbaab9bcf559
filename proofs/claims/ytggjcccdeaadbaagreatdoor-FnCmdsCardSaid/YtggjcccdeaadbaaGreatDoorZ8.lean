/- The reader of drawn bytes (l1Rd): next, below, once: whatever the bytes are, a number in its range; nothing but the reader's own place turns. -/
import Derived.Test.YtggjcccdeaadbaaGreatDoorZ4
import Derived.Deep.RegionHeld
namespace Go.Proofs.YtggjcccdeaadbaaGreatDoor
open Go.RowKit
set_option maxRecDepth 8000
set_option linter.unusedSimpArgs false

/-- The reader lies in block rb (at B or behind): the bytes that it reads, and how far it is. -/
structure Rd (B : Nat) (w : World) (rb : Nat) (a : Option Addr) (n c : Nat) : Prop where
  from_ : B ≤ rb
  small : n ≤ 1048576
  blk : ∃ p : Nat, p ≤ n ∧ w.heap[rb]? = some (.cells #[.slice a n c, .int .i64 p] 80 (0, 0))
  code : n = 0 ∨ ∃ b off, a = some ⟨b, off, none⟩ ∧ b < B ∧ ∀ i, i < n → ∃ z : Int, 0 ≤ z ∧ z ≤ 255 ∧ w.cell? ⟨b, off + i, none⟩ = some (.int .u8 z)

theorem Rd.lt {B : Nat} {w : World} {rb : Nat} {a : Option Addr} {n c : Nat} (h : Rd B w rb a n c) : rb < w.heap.size := by
  obtain ⟨p, _, hb⟩ := h.blk
  exact (Array.getElem?_eq_some_iff.1 hb).1

theorem Rd.stays {B : Nat} {w w' : World} {rb : Nat} {a : Option Addr} {n c : Nat} (h : Rd B w rb a n c) (hb : Below w.heap.size w w') : Rd B w' rb a n c := by
  refine ⟨h.from_, h.small, ?_, ?_⟩
  · obtain ⟨p, hp, he⟩ := h.blk
    exact ⟨p, hp, (hb.block rb h.lt).trans he⟩
  · rcases h.code with h0 | ⟨b, off, e, lt, hc⟩
    · exact .inl h0
    · refine .inr ⟨b, off, e, lt, fun i hi => ?_⟩
      obtain ⟨z, z0, z1, hz⟩ := hc i hi
      exact ⟨z, z0, z1, (hb.cell (p := ⟨b, off + i, none⟩) (show b < w.heap.size by have := h.lt; have := h.from_; omega)).trans hz⟩

theorem Rd.but {B g : Nat} {w w' : World} {rb : Nat} {a : Option Addr} {n c : Nat} (h : Rd B w rb a n c) (hb : But g w w') (hg : B ≤ g) (hne : rb ≠ g) : Rd B w' rb a n c := by
  refine ⟨h.from_, h.small, ?_, ?_⟩
  · obtain ⟨p, hp, he⟩ := h.blk
    exact ⟨p, hp, (hb.block rb h.lt hne).trans he⟩
  · rcases h.code with h0 | ⟨b, off, e, lt, hc⟩
    · exact .inl h0
    · refine .inr ⟨b, off, e, lt, fun i hi => ?_⟩
      obtain ⟨z, z0, z1, hz⟩ := hc i hi
      exact ⟨z, z0, z1, (hb.cell (p := ⟨b, off + i, none⟩) (show b < w.heap.size by have := h.lt; have := h.from_; omega) (show b ≠ g by omega)).trans hz⟩

/-- The reader goes on by one. -/
theorem Rd.step {B : Nat} {w : World} {rb : Nat} {a : Option Addr} {n c p : Nat} (h : Rd B w rb a n c) (hp : w.heap[rb]? = some (.cells #[.slice a n c, .int .i64 p] 80 (0, 0))) (hlt : p < n) :
    Rd B (w.setCell ⟨rb, 1, none⟩ (.int .i64 (p + 1))) rb a n c := by
  have hb : But rb w (w.setCell ⟨rb, 1, none⟩ (.int .i64 (p + 1))) := (But.refl rb w).setCell 1 _
  refine ⟨h.from_, h.small, ⟨p + 1, by omega, ?_⟩, ?_⟩
  · simp [World.setCell, Array.getElem?_modify, hp]
  · rcases h.code with h0 | ⟨b, off, e, lt, hc⟩
    · exact .inl h0
    · refine .inr ⟨b, off, e, lt, fun i hi => ?_⟩
      obtain ⟨z, z0, z1, hz⟩ := hc i hi
      exact ⟨z, z0, z1, (hb.cell (p := ⟨b, off + i, none⟩) (show b < w.heap.size by have := h.lt; have := h.from_; omega) (show b ≠ rb by have := h.from_; omega)).trans hz⟩

theorem rd_cell0 {w : World} {rb : Nat} {x y : Value} {t : TypeId} (h : w.heap[rb]? = some (.cells #[x, y] t (0, 0))) : w.cell? ⟨rb, 0, none⟩ = some x := by simp [World.cell?, h]

theorem rd_cell1 {w : World} {rb : Nat} {x y : Value} {t : TypeId} (h : w.heap[rb]? = some (.cells #[x, y] t (0, 0))) : w.cell? ⟨rb, 1, none⟩ = some y := by simp [World.cell?, h]

theorem rd_froz {w : World} {rb o : Nat} {x y : Value} {t : TypeId} (h : w.heap[rb]? = some (.cells #[x, y] t (0, 0))) : w.frozen? ⟨rb, o, none⟩ = false := by simp [World.frozen?, h]

theorem step_blk {w : World} {rb : Nat} {x y : Value} {t : TypeId} (h : w.heap[rb]? = some (.cells #[x, y] t (0, 0))) (v : Value) : (w.setCell ⟨rb, 1, none⟩ v).heap[rb]? = some (.cells #[x, v] t (0, 0)) := by
  simp [World.setCell, Array.getElem?_modify, h]

/-- What a method of the reader leaves: its answer in a range, the reader right, all other memory as it was. -/
def RdPost (B : Nat) (w : World) (rb : Nat) (a : Option Addr) (n c : Nat) (k : IntKind) (lo hi : Int) (e : Ending) (w' : World) : Prop :=
  ∃ v : Int, e = .returned (.int k v) ∧ lo ≤ v ∧ v ≤ hi ∧ Rd B w' rb a n c ∧ But rb w w'

set_option maxHeartbeats 1000000 in
theorem next_any (B rb n c : Nat) (a : Option Addr) (w : World) (h : Rd B w rb a n c) :
    Calls Tryz.prog 49 #[.pointer (some ⟨rb, 0, none⟩)] w fun e w' => RdPost B w rb a n c .i64 0 255 e w' := by
  obtain ⟨p, hp, hblk⟩ := h.blk
  have c0 := rd_cell0 hblk
  have c1 := rd_cell1 hblk
  have f1 := rd_froz (o := 1) hblk
  have HBk := hide hblk
  have H := hide h
  have hs := h.small
  clear hblk
  by_cases hlt : p < n
  · rcases h.code with h0 | ⟨b, off, rfl, lt, hc⟩
    · omega
    · obtain ⟨z, z0, z1, hz⟩ := hc p hlt
      have hbr : b ≠ rb := by have := h.from_; omega
      have hblt : b < w.heap.size := by have := h.lt; have := h.from_; omega
      have HC := hide hc
      have hgd : decide ((n : Int) ≤ (p : Int)) = false := by simp; omega
      clear hc h
      go_enter Tryz.func49, Tryz.ntmps49
      go_wp2
      go_quiet (fail)
      go_wp2
      have hbN : (w.drewN nq).heap[rb]? = some (.cells #[.slice (some ⟨b, off, none⟩) n c, .int .i64 p] 80 (0, 0)) := HBk.out
      have ST2 : Hid (Rd B ((w.drewN nq).setCell ⟨rb, 1, none⟩ (.int .i64 ((p : Int) + 1))) rb (some ⟨b, off, none⟩) n c ∧ But rb w ((w.drewN nq).setCell ⟨rb, 1, none⟩ (.int .i64 ((p : Int) + 1)))) := ⟨(H.out.stays (below_drewN (Below.refl _ _) nq)).step hbN hlt, ((But.refl rb w).drewN nq).setCell 1 _⟩
      have k0 := rd_cell0 (step_blk hbN (.int .i64 ((p : Int) + 1)))
      have k1 := rd_cell1 (step_blk hbN (.int .i64 ((p : Int) + 1)))
      have k2 : ((w.drewN nq).setCell ⟨rb, 1, none⟩ (.int .i64 ((p : Int) + 1))).cell? ⟨b, off + p, none⟩ = some (.int .u8 z) := by
        rw [World.cell?_setCell_far _ _ _ _ (by simpa using Ne.symm hbr)]; exact hz
      clear hbN
      generalize (w.drewN nq).setCell ⟨rb, 1, none⟩ (.int .i64 ((p : Int) + 1)) = W2 at k0 k1 k2 ST2 ⊢
      clear c0 c1 f1 hz HC
      go_quiet (fail)
      go_wp2
      go_ret
      exact ⟨z, rfl, z0, z1, (ST2.out.1.stays (below_drewN (Below.refl _ _) _)), ST2.out.2.drewN _⟩
  · have hgd : decide ((n : Int) ≤ (p : Int)) = true := by simp; omega
    go_enter Tryz.func49, Tryz.ntmps49
    go_wp2
    go_quiet (fail)
    go_wp2
    go_ret
    exact ⟨0, rfl, by omega, by omega, h.stays (below_drewN (Below.refl _ _) _), (But.refl rb w).drewN _⟩
end Go.Proofs.YtggjcccdeaadbaaGreatDoor
