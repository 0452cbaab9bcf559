/- HeapSorted of the program. -/
import Derived.Test.YtkonckgapicdfaaHM
import Derived.Test.YtkonckgapicdfaaHE
import Derived.Test.YtkonckgapicdfaaHY
namespace Go.Proofs.Ytkonckgapicdfaa
open Go.RowKit
set_option maxRecDepth 8000
set_option linter.unusedSimpArgs false
set_option linter.unusedVariables false

/-- w' is w, but for two blocks. -/
structure But2 (b c : Nat) (w w' : World) : Prop where
  os : w'.os = w.os
  tape : w'.tape = w.tape
  output : w'.output = w.output
  size : w.heap.size ≤ w'.heap.size
  block : ∀ k, k < w.heap.size → k ≠ b → k ≠ c → w'.heap[k]? = w.heap[k]?

theorem But2.refl (b c : Nat) (w : World) : But2 b c w w := ⟨rfl, rfl, rfl, Nat.le_refl _, fun _ _ _ _ => rfl⟩

theorem But2.ofBut {b c : Nat} {w w' : World} (h : But b w w') : But2 b c w w' := ⟨h.os, h.tape, h.output, h.size, fun k hk h1 _ => h.block k hk h1⟩

theorem But2.trans {b c : Nat} {x y z : World} (h : But2 b c x y) (k : But2 b c y z) : But2 b c x z :=
  ⟨k.os.trans h.os, k.tape.trans h.tape, k.output.trans h.output, Nat.le_trans h.size k.size, fun i hi h1 h2 => (k.block i (Nat.lt_of_lt_of_le hi h.size) h1 h2).trans (h.block i hi h1 h2)⟩

theorem But2.setC {b c : Nat} {a w : World} (h : But2 b c a w) (o : Nat) (v : Value) : But2 b c a (w.setCell ⟨c, o, none⟩ v) :=
  ⟨h.os, h.tape, h.output, by simpa [World.setCell] using h.size, fun k hk h1 h2 => (Below.heap_setCell w ⟨c, o, none⟩ v k h2).trans (h.block k hk h1 h2)⟩

theorem But2.alloc {b c : Nat} {a w : World} (h : But2 b c a w) (o : Obj) : But2 b c a (w.alloc o) :=
  h.trans ⟨rfl, rfl, rfl, by simp, fun k hk _ _ => Below.heap_alloc w o k hk⟩

theorem But2.low {b c B : Nat} {w w' : World} (h : But2 b c w w') (h1 : B ≤ b) (h2 : B ≤ c) (hB : B ≤ w.heap.size) : Below B w w' :=
  ⟨h.os, h.tape, h.output, h.size, fun k hk => h.block k (by omega) (by omega) (by omega)⟩

theorem OwnL.but2 {b c : Nat} {w w' : World} {x m : Nat} {L : NL} (h : OwnL w x m L) (hb : But2 b c w w') (h1 : x ≠ b) (h2 : x ≠ c) : OwnL w' x m L := World.rowIs.of_block h (hb.block x h.lt h1 h2)

set_option maxHeartbeats 800000 in
theorem gPop2 (c b m k cap : Nat) (L : NL) (w : World) (h : GV w c b m (k + 1) cap L) (hkc : k + 1 ≤ cap) :
    Calls Try.prog 57 #[.pointer (some ⟨c, 0, none⟩)] w fun e w' => (∃ v, e = .returned v) ∧ But2 b c w w' ∧ GV w' c b m k cap L := by
  obtain ⟨h1, h2, h3, h4, h5, h6, h7⟩ := h
  have b1 := OwnN.c0 h5 (show k < m by omega)
  have b2 := OwnN.c1 h5 (show k < m by omega)
  have H5 := hide h5
  have hlt := h5.lt
  have hk1 : (((k + 1 : Nat) : Int) - 1) = (k : Int) := by omega
  clear h5
  go_enter Try.func57, Try.ntmps57
  go_wp2_with fail
  go_ret
  refine ⟨⟨_, rfl⟩, ?_, ?_, h2, ?_, ?_, ?_, by omega, h7⟩
  · exact ((But2.refl b c w).setC 0 _).alloc _
  · simp; omega
  · simp [go_sem, h1, h3]
  · simp [go_sem, h1, h4, h3]
  · exact (H5.out.away _ _ (Ne.symm h2)).below (balloc (Below.refl _ _) _)

set_option maxHeartbeats 800000 in
theorem hPop2 (c b m k cap : Nat) (L : NL) (w : World) (h : GV w c b m (k + 1) cap L) (hkc : k + 1 ≤ cap) :
    Calls Try.prog 14 #[.iface 37 (.pointer (some ⟨c, 0, none⟩))] w fun e w' => (∃ v, e = .returned v) ∧ But2 b c w w' ∧ GV w' c b m k cap (dnL k 0 (swp L 0 k)) := by
  have hcw := h.lt
  have hkm : k + 1 ≤ 1048576 := Nat.le_trans h.le h.small
  have ML := meth_Len c _ w h.cell
  have MS := meth_Swap c _ w h.cell
  have GL := hide (gLen_any (some ⟨b, 0, none⟩) (k + 1) cap w)
  have SW := hide (gSwap_any b m (k + 1) cap L 0 k w h.own h.le (by omega) (by omega))
  have H := hide h
  clear h
  go_enter Try.func14, Try.ntmps14
  go_wp2_with fail
  refine GL.out.mono ?_
  rintro e w2 ⟨rfl, hw2⟩
  obtain rfl := hw2.symm
  go_wp2_with fail
  refine SW.out.mono ?_
  rintro e w1 ⟨rfl, hb1, o1⟩
  have h1 := H.out.but hb1 o1
  have hs1 := hb1.size
  have DN := hide (hDown_any c b m (k + 1) cap (swp L 0 k) k w1 h1.lt h1.ne h1.cell h1.own h1.le (by omega) h1.small)
  have B1 : But2 b c w w1 := But2.ofBut hb1
  have H1 := hide h1
  clear h1 o1 hb1 ML MS GL SW
  go_wp2_with fail
  refine DN.out.mono ?_
  rintro e w3 ⟨v3, rfl, hb3, o3⟩
  have h3 := H1.out.but hb3 o3
  have hs3 := hb3.size
  have B3 : But2 b c w w3 := B1.trans (But2.ofBut hb3)
  have MP := meth_Pop c w3
  have PO := hide (gPop2 c b m k cap (dnL k 0 (swp L 0 k)) w3 h3 hkc)
  clear h3 o3 hb3 DN
  go_wp2_with fail
  refine PO.out.mono ?_
  rintro e w4 ⟨⟨v4, rfl⟩, hb4, h4⟩
  go_wp2_with fail
  go_ret
  exact ⟨⟨_, rfl⟩, B3.trans hb4, h4⟩

theorem GV.away {w : World} {c b m l cap : Nat} {L : NL} (h : GV w c b m l cap L) (p : Addr) (v : Value) (h1 : p.block ≠ c) (h2 : p.block ≠ b) : GV (w.setCell p v) c b m l cap L :=
  ⟨by simpa [World.setCell] using h.lt, h.ne, (World.cell?_of_block (a := ⟨c, 0, none⟩) (Below.heap_setCell w p v c (Ne.symm h1))).trans h.cell, (World.frozen?_of_block (a := ⟨c, 0, none⟩) (Below.heap_setCell w p v c (Ne.symm h1))).trans h.froz, h.own.away p v (Ne.symm h2), h.le, h.small⟩

def lenAt (c : Nat) (w : World) : Nat := match w.cell? ⟨c, 0, none⟩ with | some (.slice _ l _) => l | _ => 0

theorem GV.lenAt {w : World} {c b m l cap : Nat} {L : NL} (h : GV w c b m l cap L) : lenAt c w = l := by unfold Go.Proofs.Ytkonckgapicdfaa.lenAt; rw [h.cell]

theorem listL_heap {K : Int} {n : Nat} {f g : Nat → Int} (h : heapB K n f g = true) : HeapP n (listL n f g) := by
  unfold heapB at h
  rw [Bool.and_eq_true] at h
  intro j h0 hj
  have := allN_at h.2 hj
  unfold heapAt at this
  simp only [Bool.and_eq_true, Bool.not_eq_true'] at this
  unfold lt2 listL
  rw [if_pos (show (j - 1) / 2 < n by omega), if_pos hj]
  exact this.2

def ISorted (w : World) (n : Nat) (L : NL) (e : Ending) (w' : World) : Prop :=
  ∃ b, e = .returned (.slice (some ⟨b, 0, none⟩) n n) ∧ w.heap.size ≤ b ∧ OwnL w' b n (hsL n L) ∧ Below w.heap.size w w'

set_option maxHeartbeats 1600000 in
theorem iHeapSorted_no (K : Int) (a : Option Addr) (n cap : Nat) (f g : Nat → Int) (w : World) (h : PRow w a n f g) (hno : heapB K n f g = false) :
    Calls Try.prog 6 #[.agg #[.int .i64 K, .slice a n cap]] w fun e w' => e = .returned (.slice none 0 0) ∧ Below w.heap.size w w' := by
  have HO := hide (fun w1 (hb : Below w.heap.size w w1) => iHeapOk_any K a n cap f g w1 (h.below hb))
  rw [hno] at HO
  clear h hno
  go_enter Try.func6, Try.ntmps6
  go_wp2_with fail
  refine (HO.out _ (by repeat' first | with_reducible exact Below.refl _ _ | with_reducible assumption | with_reducible refine below_drewN ?_ _ | with_reducible refine balloc ?_ _ | with_reducible refine Below.drew ?_ | with_reducible refine Below.setCell ?_ (by first | (simp; done) | (simp; omega) | omega) _ | with_reducible refine bstep ?_ (by assumption))).mono ?_
  rintro e w1 ⟨rfl, hb1⟩
  go_wp2_with fail
  go_ret
  exact ⟨rfl, (by repeat' first | with_reducible exact Below.refl _ _ | with_reducible assumption | with_reducible refine below_drewN ?_ _ | with_reducible refine balloc ?_ _ | with_reducible refine Below.drew ?_ | with_reducible refine Below.setCell ?_ (by first | (simp; done) | (simp; omega) | omega) _ | with_reducible refine bstep ?_ (by assumption))⟩

set_option maxHeartbeats 3200000 in
theorem iHeapSorted_yes (K : Int) (a : Option Addr) (n cap : Nat) (f g : Nat → Int) (w : World) (h : PRow w a n f g) (hok : heapB K n f g = true) (hn20 : n ≤ 20) :
    Calls Try.prog 6 #[.agg #[.int .i64 K, .slice a n cap]] w fun e w' => ISorted w n (listL n f g) e w' := by
  have HO := hide (fun w1 (hb : Below w.heap.size w w1) => iHeapOk_any K a n cap f g w1 (h.below hb))
  rw [hok] at HO
  have GO := hide (fun w1 (hb : Below w.heap.size w w1) => greatestOf_any K a n cap f g w1 (h.below hb) hn20)
  have hmk := run_make_pairs (P := Try.prog) 24 32 (.int .i64 0) (.int .i64 0) 16 Try.underlying24 Try.infoNear .i64 .i64 n (by omega) (by omega)
  clear h hok
  go_enter Try.func6, Try.ntmps6
  go_wp2_with fail
  refine (HO.out _ (by repeat' first | with_reducible exact Below.refl _ _ | with_reducible assumption | with_reducible refine below_drewN ?_ _ | with_reducible refine balloc ?_ _ | with_reducible refine Below.drew ?_ | with_reducible refine Below.setCell ?_ (by first | (simp; done) | (simp; omega) | omega) _ | with_reducible refine bstep ?_ (by assumption))).mono ?_
  rintro e w1 ⟨rfl, hb1⟩
  have h0 : w1.cell? ⟨w.heap.size, 0, none⟩ = some (.int .i64 K) := (hb1.cell (p := ⟨w.heap.size, 0, none⟩) (by simp)).trans (by simp [go_sem])
  have h1 : w1.cell? ⟨w.heap.size, 1, none⟩ = some (.slice a n cap) := (hb1.cell (p := ⟨w.heap.size, 1, none⟩) (by simp)).trans (by simp [go_sem])
  have B1 : Below w.heap.size w w1 := (by repeat' first | with_reducible exact Below.refl _ _ | with_reducible assumption | with_reducible refine below_drewN ?_ _ | with_reducible refine balloc ?_ _ | with_reducible refine Below.drew ?_ | with_reducible refine Below.setCell ?_ (by first | (simp; done) | (simp; omega) | omega) _ | with_reducible refine bstep ?_ (by assumption))
  clear hb1 HO
  go_wp2_with fail
  refine (GO.out _ B1).mono ?_
  rintro e w3 ⟨b, rfl, hbl, hown, hb3⟩
  have B3 : Below w.heap.size w w3 := (by repeat' first | with_reducible exact Below.refl _ _ | with_reducible assumption | with_reducible refine below_drewN ?_ _ | with_reducible refine balloc ?_ _ | with_reducible refine Below.drew ?_ | with_reducible refine Below.setCell ?_ (by first | (simp; done) | (simp; omega) | omega) _ | with_reducible refine bstep ?_ (by assumption))
  have s1 := B1.size
  have s3 := B3.size
  have hbw := hown.lt
  clear h0 h1 hb3 GO
  have G4 : GV (w3.alloc (Obj.cells #[Value.slice (some ⟨b, 0, none⟩) n (n + 1)] 34)) w3.heap.size b (n + 1) n (n + 1) (listL n f g) := by
    refine ⟨?_, by omega, ?_, ?_, hown.below (balloc (Below.refl _ _) _), by omega, by omega⟩ <;> simp [go_sem]
  have M5 := OwnN.made (w3.alloc (Obj.cells #[Value.slice (some ⟨b, 0, none⟩) n (n + 1)] 34)) n
  rw [World.size_alloc] at M5
  have G5 := G4.below (balloc (Below.refl _ _) (.cells (madeCells #[.int .i64 0, .int .i64 0] (n * 2)) 32))
  have B5 : Below w.heap.size w ((w3.alloc (Obj.cells #[Value.slice (some ⟨b, 0, none⟩) n (n + 1)] 34)).alloc (.cells (madeCells #[.int .i64 0, .int .i64 0] (n * 2)) 32)) := (by repeat' first | with_reducible exact Below.refl _ _ | with_reducible assumption | with_reducible refine below_drewN ?_ _ | with_reducible refine balloc ?_ _ | with_reducible refine Below.drew ?_ | with_reducible refine Below.setCell ?_ (by first | (simp; done) | (simp; omega) | omega) _ | with_reducible refine bstep ?_ (by assumption))
  have c4 := G4.cell
  have HG := hide G5
  have HM := hide (show OwnL _ (w3.heap.size + 1) n (fun _ => (0, 0)) from M5)
  have HB := hide B5
  clear G4 G5 M5 B5 hown B3
  go_wp2_with fail
  clear c4
  go_loopw [5] (fun _ wr => ∃ (k : Nat) (L O : NL), k ≤ n ∧ GV wr w3.heap.size b (n + 1) k (n + 1) L ∧ OwnL wr (w3.heap.size + 1) n O ∧ (∀ i, i < n → hsL n (listL n f g) i = if i < k then hsL k L i else O i) ∧ Below w.heap.size w wr) (fun _ wr => lenAt w3.heap.size wr)
  case atStart => exact ⟨n, listL n f g, fun _ => (0, 0), Nat.le_refl _, HG.out, HM.out, fun i hi => by rw [if_pos hi], HB.out⟩
  case round =>
    obtain ⟨k, L, O, hk, hG, hO, hrel2, hbel⟩ := hrel
    have HGr := hide hG
    have HOr := hide hO
    have HR := hide hrel2
    have HBr := hide hbel
    have c4 := hG.cell
    have clt := hG.lt
    have olt := hO.lt
    have slt := hbel.size
    clear hG hO hrel2 hbel
    rcases k with _ | k
    · go_wp2_with fail
      go_ret
      exact ⟨_, rfl, by omega, HOr.out.congr (fun i hi => by rw [HR.out i hi, if_neg (by omega)]), HBr.out⟩
    · have y0 := OwnN.c0 HGr.out.own (show 0 < n + 1 by omega)
      have y1 := OwnN.c1 HGr.out.own (show 0 < n + 1 by omega)
      simp only [Nat.zero_mul, Nat.zero_add] at y0 y1
      have hk1 : (0 : Int) < ((k + 1 : Nat) : Int) := by omega
      have blt := HGr.out.own.lt
      have PO := hide (fun w7 (hb : Below wr.heap.size wr w7) => hPop2 w3.heap.size b (n + 1) k (n + 1) L w7 (HGr.out.below hb) (by omega))
      go_wp2_with fail
      refine (PO.out _ (balloc (Below.refl _ _) _)).mono ?_
      rintro e w7 ⟨⟨v7, rfl⟩, hb7, G7⟩
      have hbw7 : w.heap.size ≤ b := by omega
      have F0 : w7.cell? ⟨wr.heap.size, 0, none⟩ = some (.int .i64 (L 0).1) := (World.cell?_of_block (a := ⟨wr.heap.size, 0, none⟩) (hb7.block wr.heap.size (by simp) (by omega) (by omega))).trans (by simp [go_sem])
      have F1 : w7.cell? ⟨wr.heap.size, 1, none⟩ = some (.int .i64 (L 0).2) := (World.cell?_of_block (a := ⟨wr.heap.size, 1, none⟩) (hb7.block wr.heap.size (by simp) (by omega) (by omega))).trans (by simp [go_sem])
      have O7 := (HOr.out.below (balloc (Below.refl _ _) (.cells #[.int .i64 (L 0).1, .int .i64 (L 0).2] 32))).but2 hb7 (by omega) (by omega)
      have B7 : Below w.heap.size w w7 := (balloc HBr.out (.cells #[.int .i64 (L 0).1, .int .i64 (L 0).2] 32)).trans (hb7.low hbw7 (by omega) (by simp; omega))
      have d4 := G7.cell
      have z0 := OwnN.c0 O7 (show k < n by omega)
      have z1 := OwnN.c1 O7 (show k < n by omega)
      have z2 := World.rowIs.frozen O7 (k * 2)
      have z3 := World.rowIs.frozen O7 (k * 2 + 1)
      have hkn : (k : Int) < (n : Int) := by omega
      have HG7 := hide G7
      have HO7 := hide O7
      clear c4 y0 y1 hb7 G7 O7 PO
      go_wp2_with fail
      go_roundw
      case rel =>
        refine ⟨k, dnL k 0 (swp L 0 k), O.put k (L 0), by omega, (HG7.out.away _ _ (by simp) (by simp; omega)).away _ _ (by simp) (by simp; omega), HO7.out.set k (L 0).1 (L 0).2, fun i hi => ?_, ?_⟩
        · rw [HR.out i hi]
          by_cases e1 : i < k
          · rw [if_pos (by omega), if_pos e1]
            show (hsL k (dnL k 0 (swp L 0 k))).put k (L 0) i = _
            rw [put_off _ _ (by omega)]
          · rw [if_neg e1]
            by_cases e2 : i = k
            · subst e2
              rw [if_pos (by omega), put_at]
              show (hsL i (dnL i 0 (swp L 0 i))).put i (L 0) i = _
              rw [put_at]
            · rw [if_neg (by omega), put_off _ _ e2]
        · exact (B7.setCell (by simp; omega) _).setCell (by simp; omega) _
      case measure =>
        rw [((HG7.out.away _ _ (by simp) (by simp; omega)).away _ _ (by simp) (by simp; omega)).lenAt, HGr.out.lenAt]
        omega
end Go.Proofs.Ytkonckgapicdfaa
