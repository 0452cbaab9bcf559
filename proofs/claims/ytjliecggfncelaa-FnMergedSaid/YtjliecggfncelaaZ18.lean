/- The program's heap of the greatest: Push and Pop, and the library's. -/
import Derived.Test.YtjliecggfncelaaZ12
import Derived.Deep.RegionLaw
namespace Go.Proofs.Ytjliecggfncelaa
open Go.RowKit
set_option maxRecDepth 8000
set_option linter.unusedSimpArgs false
set_option linter.unusedVariables false

/-- A variable c of the call's own that leads to the row b of the list L, of which it has l. -/
structure GV (w : World) (c b m l cap : Nat) (L : NL) : Prop where
  lt : c < w.heap.size
  ne : c ≠ b
  cell : w.cell? ⟨c, 0, none⟩ = some (.slice (some ⟨b, 0, none⟩) l cap)
  froz : w.frozen? ⟨c, 0, none⟩ = false
  own : OwnL w b m L
  le : l ≤ m
  small : m ≤ 1048576

theorem GV.below {w w' : World} {c b m l cap : Nat} {L : NL} (h : GV w c b m l cap L) (B : Below w.heap.size w w') : GV w' c b m l cap L :=
  ⟨Nat.lt_of_lt_of_le h.lt B.size, h.ne, (B.cell (p := ⟨c, 0, none⟩) h.lt).trans h.cell, (B.frozen (p := ⟨c, 0, none⟩) h.lt).trans h.froz, h.own.below B, h.le, h.small⟩

theorem GV.but {w w' : World} {c b m l cap : Nat} {L M : NL} (h : GV w c b m l cap L) (B : But b w w') (o : OwnL w' b m M) : GV w' c b m l cap M :=
  ⟨Nat.lt_of_lt_of_le h.lt B.size, h.ne, (B.cellN h.lt h.ne).trans h.cell, (B.froz h.lt h.ne).trans h.froz, o, h.le, h.small⟩

theorem Try.infoNr : ∃ i, Try.prog.info? 49 = some i ∧ i.size = 2 := by
  obtain ⟨i, hi, hz⟩ := Option.map_eq_some_iff.1 Try.infoNear
  simp only [Prod.mk.injEq] at hz
  exact ⟨i, hi, hz.2.1⟩

set_option maxHeartbeats 800000 in
theorem gPush_any (B c b m l cap : Nat) (L : NL) (i d : Int) (w : World) (h : GV w c b m l cap L) (hr : l < cap) (hcm : cap ≤ m) (hBc : B ≤ c) (hBb : B ≤ b) :
    Calls Try.prog 95 #[.pointer (some ⟨c, 0, none⟩), .iface 49 (.agg #[.int .i64 i, .int .i64 d])] w fun e w' => e = .returned (.tuple #[]) ∧ Below B w w' ∧ GV w' c b m (l + 1) cap (L.put l (i, d)) := by
  obtain ⟨h1, h2, h3, h4, h5, h6, h7⟩ := h
  obtain ⟨inf, hi1, hi2⟩ := Try.infoNr
  have HI1 := hide hi1
  have HI2 := hide hi2
  have H5 := hide h5
  clear hi1 hi2
  have hta : ∀ W : World, (Instr.typeAssert (.iface 49 (.agg #[.int .i64 i, .int .i64 d])) 20 49 false).run Try.prog W = .ok (.agg #[.int .i64 i, .int .i64 d]) W := fun _ => by kernel_rfl
  have hr' : l + 1 ≤ cap := hr
  have hlt := h5.lt
  have b1 := OwnN.c0 h5 (show l < m by omega)
  have b2 := OwnN.c1 h5 (show l < m by omega)
  have b3 := World.rowIs.frozen h5 (l * 2)
  have b4 := World.rowIs.frozen h5 (l * 2 + 1)
  have a1 : (w.alloc (Obj.cells #[Value.int IntKind.i64 i, Value.int IntKind.i64 d] 49)).cell? ⟨b, l * 2, none⟩ = _ := (World.cell?_alloc_past _ _ _ hlt).trans b1
  have a3 : (w.alloc (Obj.cells #[Value.int IntKind.i64 i, Value.int IntKind.i64 d] 49)).frozen? ⟨b, l * 2, none⟩ = _ := (World.frozen?_alloc_past _ _ _ hlt).trans b3
  clear h5
  go_enter Try.func95, Try.ntmps95
  go_wp2_with fail
  go_region_law (fail)
  all_goals
    go_end0
    refine ⟨rfl, ?_, ?_, h2, ?_, ?_, ?_, by omega, h7⟩
    · repeat' first | exact Below.refl _ _ | refine Below.drew ?_ | refine Below.alloc ?_ (by simp; omega) _ | refine Below.setCell ?_ (by simp; omega) _
    · simp; omega
    · first | (simp [go_sem, h1, h3]; done) | (rw [World.cell?_drew, World.cell?_alloc_past _ _ _ (by simp; omega)]; simp [go_sem, h1, h3]; done)
    · simp [go_sem, h1, h4, h3]
    · exact (((H5.out.set l i d).away _ _ (Ne.symm h2)).below (balloc (Below.refl _ _) _)).drew

theorem GV.drew {w : World} {c b m l cap : Nat} {L : NL} (h : GV w c b m l cap L) : GV w.drew c b m l cap L := ⟨h.lt, h.ne, h.cell, h.froz, h.own.drew, h.le, h.small⟩

theorem But.low {B g : Nat} {w w' : World} (h : But g w w') (hg : B ≤ g) (hB : B ≤ w.heap.size) : Below B w w' := h.below hg hB

set_option maxHeartbeats 800000 in
theorem gPop_any (B c b m k cap : Nat) (L : NL) (w : World) (h : GV w c b m (k + 1) cap L) (hkc : k + 1 ≤ cap) (hBc : B ≤ c) :
    Calls Try.prog 94 #[.pointer (some ⟨c, 0, none⟩)] w fun e w' => (∃ v, e = .returned v) ∧ Below B w w' ∧ GV w' c b m k cap L := by
  obtain ⟨h1, h2, h3, h4, h5, h6, h7⟩ := h
  have b1 := OwnN.c0 h5 (show k < m by omega)
  have b2 := OwnN.c1 h5 (show k < m by omega)
  have H5 := hide h5
  have hlt := h5.lt
  have hk1 : (((k + 1 : Nat) : Int) - 1) = (k : Int) := by omega
  clear h5
  go_enter Try.func94, Try.ntmps94
  go_wp2_with fail
  go_ret
  refine ⟨⟨_, rfl⟩, ?_, ?_, h2, ?_, ?_, ?_, by omega, h7⟩
  · exact ((Below.refl B w).setCell (by simp; omega) _).alloc (by simp; omega) _
  · simp; omega
  · simp [go_sem, h1, h3]
  · simp [go_sem, h1, h4, h3]
  · exact (H5.out.away _ _ (Ne.symm h2)).below (balloc (Below.refl _ _) _)

set_option maxHeartbeats 800000 in
theorem hPush_any (B c b m l cap : Nat) (L : NL) (i d : Int) (w : World) (h : GV w c b m l cap L) (hr : l < cap) (hcm : cap ≤ m) (hBc : B ≤ c) (hBb : B ≤ b) :
    Calls Try.prog 62 #[.iface 91 (.pointer (some ⟨c, 0, none⟩)), .iface 49 (.agg #[.int .i64 i, .int .i64 d])] w fun e w' => e = .returned (.tuple #[]) ∧ Below B w w' ∧ GV w' c b m (l + 1) cap (upL l (L.put l (i, d))) := by
  have MP := meth_Push c w
  have PU := hide (gPush_any B c b m l cap L i d w h hr hcm hBc hBb)
  have hcw := h.lt
  have hlm : l ≤ 1048576 := Nat.le_trans h.le h.small
  clear h
  go_enter Try.func62, Try.ntmps62
  go_wp2_with fail
  refine PU.out.mono ?_
  rintro e w1 ⟨rfl, hb1, h1⟩
  have ML := meth_Len c _ w1 h1.cell
  have GL := hide (gLen_any (some ⟨b, 0, none⟩) (l + 1) cap w1)
  have hl1 : (((l + 1 : Nat) : Int) - 1) = (l : Int) := by omega
  have H1 := hide h1
  have UP := hide (hUp_any c b m (l + 1) cap (L.put l (i, d)) l w1 h1.lt h1.ne h1.cell h1.own h1.le (by omega) h1.small)
  clear h1 MP PU
  go_wp2_with fail
  refine GL.out.mono ?_
  rintro e w2 ⟨rfl, hw2⟩
  obtain rfl := hw2.symm
  go_wp2_with fail
  refine UP.out.mono ?_
  rintro e w3 ⟨rfl, hb3, o3⟩
  go_wp2_with fail
  go_end0
  exact ⟨rfl, hb1.trans (hb3.low hBb (by have := hb1.size; omega)), H1.out.but hb3 o3⟩

set_option maxHeartbeats 800000 in
theorem hPop_any (B c b m k cap : Nat) (L : NL) (w : World) (h : GV w c b m (k + 1) cap L) (hkc : k + 1 ≤ cap) (hBc : B ≤ c) (hBb : B ≤ b) :
    Calls Try.prog 63 #[.iface 91 (.pointer (some ⟨c, 0, none⟩))] w fun e w' => (∃ v, e = .returned v) ∧ Below B w w' ∧ GV w' c b m k cap (dnL k 0 (swp L 0 k)) := by
  have hcw := h.lt
  have hkm : k + 1 ≤ 1048576 := Nat.le_trans h.le h.small
  have ML := meth_Len c _ w h.cell
  have MS := meth_Swap c _ w h.cell
  have GL := hide (gLen_any (some ⟨b, 0, none⟩) (k + 1) cap w)
  have SW := hide (gSwap_any b m (k + 1) cap L 0 k w h.own h.le (by omega) (by omega))
  have H := hide h
  clear h
  go_enter Try.func63, Try.ntmps63
  go_wp2_with fail
  refine GL.out.mono ?_
  rintro e w2 ⟨rfl, hw2⟩
  obtain rfl := hw2.symm
  go_wp2_with fail
  refine SW.out.mono ?_
  rintro e w1 ⟨rfl, hb1, o1⟩
  have h1 := H.out.but hb1 o1
  have hs1 := hb1.size
  have DN := hide (hDown_any c b m (k + 1) cap (swp L 0 k) k w1 h1.lt h1.ne h1.cell h1.own h1.le (by omega) h1.small)
  have B1 : Below B w w1 := hb1.low hBb (by omega)
  have H1 := hide h1
  clear h1 o1 hb1 ML MS GL SW
  go_wp2_with fail
  refine DN.out.mono ?_
  rintro e w3 ⟨v3, rfl, hb3, o3⟩
  have h3 := H1.out.but hb3 o3
  have hs3 := hb3.size
  have B3 : Below B w w3 := B1.trans (hb3.low hBb (by omega))
  have MP := meth_Pop c w3
  have PO := hide (gPop_any B c b m k cap (dnL k 0 (swp L 0 k)) w3 h3 hkc hBc)
  clear h3 o3 hb3 DN
  go_wp2_with fail
  refine PO.out.mono ?_
  rintro e w4 ⟨⟨v4, rfl⟩, hb4, h4⟩
  go_wp2_with fail
  go_ret
  exact ⟨⟨_, rfl⟩, B3.trans hb4, h4⟩
end Go.Proofs.Ytjliecggfncelaa
