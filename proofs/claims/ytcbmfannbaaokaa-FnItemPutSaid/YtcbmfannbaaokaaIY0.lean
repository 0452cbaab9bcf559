/- Slices of items, cut. -/
import Derived.Test.YtcbmfannbaaokaaIQ
namespace Go.Proofs.Ytcbmfannbaaokaa
open Go.RowKit
set_option linter.unusedSimpArgs false
set_option linter.unusedVariables false

theorem Try.elemItems : Try.prog.elem 24 = 27 := by kernel_rfl
theorem Try.underItems : Try.prog.underlying 24 = some (.slice (Try.prog.elem 24)) := by rw [Try.elemItems]; exact Try.underlying24
theorem itemSize (w : World) : (sizeOf (Try.prog.elem 24)).run Try.prog w = .ok 3 w := by
  obtain ⟨i0, hi, hz0, hz1, hz2⟩ := itemInfo
  rw [Try.elemItems]
  simp [sizeOf, typeInfo, hi, hz1]
theorem sliceTo (b off n cap p : Nat) (hp : p ≤ cap) (w : World) :
    (Instr.slice 24 (.slice (some ⟨b, off, none⟩) n cap) none (some (.int .i64 (p : Int))) none).run Try.prog w = .ok (.slice (some ⟨b, off, none⟩) p cap) w := by
  rw [run_slice_h _ _ _ _ _ Try.underItems .i64 p (by omega) (by omega), itemSize]
  simp [sliced, Addr.add]
/-- Where the rest of a slice of items begins. -/
def restAt (b off cap p : Nat) : Addr := if cap = p then ⟨b, off, none⟩ else ⟨b, off + p * 3, none⟩
theorem sliceFrom (b off n cap p : Nat) (hp : p ≤ n) (w : World) :
    (Instr.slice 24 (.slice (some ⟨b, off, none⟩) n cap) (some (.int .i64 (p : Int))) none none).run Try.prog w = .ok (.slice (some (restAt b off cap p)) (n - p) (cap - p)) w := by
  rw [run_slice_l _ _ _ _ _ Try.underItems .i64 p (by omega) (by omega), itemSize]
  unfold restAt
  by_cases h : cap = p
  · simp [sliced, h]
  · by_cases h0 : p * 3 = 0
    · simp [sliced, h, Addr.add, h0]
    · simp [sliced, h, Addr.add, h0]
theorem IRow.to {w : World} {b off n p : Nat} {L : IL} (lt : b < w.heap.size) (hc : ∀ i, i < n → IAt w b (off + i * 3) (L i)) (hp : p ≤ n) : IRow w (some ⟨b, off, none⟩) p L := ⟨.inr ⟨b, off, rfl, lt, fun i hi => hc i (by omega)⟩⟩
theorem IRow.from {w : World} {b off n p cap : Nat} {L : IL} (lt : b < w.heap.size) (hc : ∀ i, i < n → IAt w b (off + i * 3) (L i)) (hp : p ≤ n) (hn : n ≤ cap) : IRow w (some (restAt b off cap p)) (n - p) (fun j => L (p + j)) := by
  unfold restAt
  by_cases h : cap = p
  · exact ⟨.inl (by omega)⟩
  · rw [if_neg h]
    refine ⟨.inr ⟨b, off + p * 3, rfl, lt, fun i hi => ?_⟩⟩
    have := hc (p + i) (by omega)
    rw [show off + p * 3 + i * 3 = off + (p + i) * 3 by omega]
    exact this
end Go.Proofs.Ytcbmfannbaaokaa
