/- A slice of bytes that came in; the reader is opened over it. -/
import Derived.Test.YtfjhgagpmhedfaaDoorDA
import Derived.OpenShut
namespace Go.Proofs.YtfjhgagpmhedfaaDoor
open Go.RowKit
set_option maxRecDepth 8000
set_option linter.unusedSimpArgs false

/-- A slice of bytes that came in. -/
structure Code (w : World) (a : Option Addr) (n : Nat) : Prop where
  small : n ≤ 1048576
  lies : n = 0 ∨ ∃ b off, a = some ⟨b, off, none⟩ ∧ b < w.heap.size ∧ ∀ i, i < n → ∃ z : Int, 0 ≤ z ∧ z ≤ 255 ∧ w.cell? ⟨b, off + i, none⟩ = some (.int .u8 z)

theorem Code.below {w w' : World} {a : Option Addr} {n : Nat} (h : Code w a n) (hb : Below w.heap.size w w') : Code w' a n := by
  refine ⟨h.small, ?_⟩
  rcases h.lies with h0 | ⟨b, off, e, lt, hc⟩
  · exact .inl h0
  · refine .inr ⟨b, off, e, Nat.lt_of_lt_of_le lt hb.size, fun i hi => ?_⟩
    obtain ⟨z, z0, z1, hz⟩ := hc i hi
    exact ⟨z, z0, z1, (hb.cell (p := ⟨b, off + i, none⟩) lt).trans hz⟩

def OpenPost (w : World) (a : Option Addr) (n c : Nat) (e : Ending) (w' : World) : Prop :=
  e = .returned (.pointer (some ⟨w.heap.size, 0, none⟩)) ∧ Rd w.heap.size w' w.heap.size a n c ∧ Below w.heap.size w w' ∧ w'.heap.size = w.heap.size + 1

set_option maxHeartbeats 400000 in
theorem open_any (a : Option Addr) (n c : Nat) (w : World) (h : Code w a n) :
    Calls Tryd.prog 24 #[.slice a n c] w fun e w' => OpenPost w a n c e w' := by
  have H := hide h
  clear h
  go_enter Tryd.func24, Tryd.ntmps24
  go_wp2_with fail
  go_ret
  refine ⟨rfl, ⟨Nat.le_refl _, H.out.small, ⟨0, Nat.zero_le _, heap_alloc_new w _⟩, ?_⟩, (by repeat' first | with_reducible exact Below.refl _ _ | with_reducible assumption | with_reducible refine below_drewN ?_ _ | with_reducible refine balloc ?_ _ | with_reducible refine Below.drew ?_ | with_reducible refine Below.setCell ?_ (by first | (simp; done) | (simp; omega) | omega) _ | with_reducible refine bstep ?_ (by assumption)), by simp⟩
  rcases H.out.lies with h0 | ⟨b, off, e, lt, hc⟩
  · exact .inl h0
  · refine .inr ⟨b, off, e, lt, fun i hi => ?_⟩
    obtain ⟨z, z0, z1, hz⟩ := hc i hi
    exact ⟨z, z0, z1, ((balloc (Below.refl w.heap.size w) _).cell (p := ⟨b, off + i, none⟩) lt).trans hz⟩

end Go.Proofs.YtfjhgagpmhedfaaDoor
