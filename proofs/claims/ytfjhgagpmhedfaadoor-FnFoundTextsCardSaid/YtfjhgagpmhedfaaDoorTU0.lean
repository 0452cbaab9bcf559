/- Drawn finds: DrawFoundText. -/
import Derived.Test.YtfjhgagpmhedfaaDoorTH0
import Derived.Test.YtfjhgagpmhedfaaDoorUF1
import Derived.Test.YtfjhgagpmhedfaaDoorDD
import Derived.Test.YtfjhgagpmhedfaaDoorVV
import Derived.Deep.AppendLies
import Derived.Deep.RegionHeld3
import Derived.BigQuiet
namespace Go.Proofs.YtfjhgagpmhedfaaDoor
open Go.RowKit
set_option maxRecDepth 8000
set_option linter.unusedSimpArgs false
set_option linter.unusedVariables false

/-- Hits, cell by cell. -/
def hitsV (H : HtL) (n : Nat) : List Value := (List.range (n * 3)).map (hcell H)

theorem hitsV_len (H : HtL) (n : Nat) : (hitsV H n).length = n * 3 := by unfold hitsV; simp

theorem hitsV_at (H : HtL) (n j : Nat) (h : j < n * 3) : (hitsV H n)[j]? = some (hcell H j) := by unfold hitsV; simp [h]
def putH (H : HtL) (k : Nat) (h : Ht) : HtL := fun i => if i = k then h else H i

theorem putH_at (H : HtL) (k : Nat) (h : Ht) : putH H k h k = h := by simp [putH]

theorem hitsV_put (H : HtL) (n : Nat) (h : Ht) : hitsV H n ++ [.int .i64 h.x, .int .i64 h.y, .int .i64 h.z] = hitsV (putH H n h) (n + 1) := by
  unfold hitsV
  rw [show (n + 1) * 3 = n * 3 + 1 + 1 + 1 by omega, List.range_succ, List.range_succ, List.range_succ]
  simp only [List.map_append, List.map_cons, List.map_nil, List.append_assoc, List.cons_append, List.nil_append]
  have e0 := hcell_0 (putH H n h) n
  have e1 := hcell_1 (putH H n h) n
  have e2 := hcell_2 (putH H n h) n
  rw [putH_at] at e0 e1 e2
  rw [e0, e1, show n * 3 + 1 + 1 = n * 3 + 2 from rfl, e2]
  congr 1
  refine List.map_congr_left fun j hj => ?_
  have hj' := List.mem_range.1 hj
  have : putH H n h (j / 3) = H (j / 3) := by unfold putH; rw [if_neg (by omega)]
  unfold hcell
  rw [this]

theorem owns_hits {w : World} {B n : Nat} {a : Option Addr} {c : Nat} {H : HtL} (h : w.ownsRow B 38 3 (.slice a n c) n (hitsV H n)) : HtR w a n H := by
  have h0 := h
  rcases h.2 with ⟨_, rfl⟩ | ⟨g, cap, cur, hv, hb, hg, hcap, _⟩
  · exact ⟨.inl rfl⟩
  · cases hv
    refine ⟨.inr ⟨g, 0, rfl, (Array.getElem?_eq_some_iff.1 hg).1, fun i hi => ?_⟩⟩
    rw [Nat.zero_add]
    refine ⟨?_, ?_, ?_⟩
    · rw [h0.cellAt (i * 3) (by omega), hitsV_at H n _ (by omega), hcell_0]
    · rw [h0.cellAt (i * 3 + 1) (by omega), hitsV_at H n _ (by omega), hcell_1]
    · rw [h0.cellAt (i * 3 + 2) (by omega), hitsV_at H n _ (by omega), hcell_2]

theorem owns_lowH {w : World} {base base' : Nat} {e : TypeId} {size : Nat} {v : Value} {n : Nat} {xs : List Value} (h : w.ownsRow base e size v n xs) : ∀ b off, (∃ c m, v = .slice (some ⟨b, off, none⟩) m c) → base ≤ b := by
  rintro b off ⟨c, m, e'⟩
  rcases h.2 with ⟨rfl, _⟩ | ⟨g, cap, cur, rfl, hb, _⟩
  · cases e'
  · cases e'; exact hb

theorem owns_butH {w w1 : World} {base rb : Nat} {e : TypeId} {size : Nat} {v : Value} {k : Nat} {xs : List Value} (h : w.ownsRow base e size v k xs) (hb : But rb w w1) (hlt : rb < base) : w1.ownsRow base e size v k xs := by
  refine ⟨h.1, ?_⟩
  rcases h.2 with h0 | ⟨g, cap, cur, hv, hg, hh, rest⟩
  · exact .inl h0
  · exact .inr ⟨g, cap, cur, hv, hg, (hb.block g (Array.getElem?_eq_some_iff.1 hh).1 (by omega)).trans hh, rest⟩
/-- Blocks of other types are other blocks. -/
theorem owns_apart {w : World} {b1 b2 : Nat} {e1 e2 : TypeId} {s1 s2 : Nat} {v1 v2 : Value} {n1 n2 : Nat} {x1 x2 : List Value} (h1 : w.ownsRow b1 e1 s1 v1 n1 x1) (h2 : w.ownsRow b2 e2 s2 v2 n2 x2) (hne : e1 ≠ e2) : v1.ownBlock = none ∨ v1.ownBlock ≠ v2.ownBlock := by
  rcases h1.2 with ⟨rfl, _⟩ | ⟨g, cap, cur, rfl, _, hg, _⟩
  · exact .inl rfl
  · refine .inr fun q => ?_
    rcases h2.2 with ⟨rfl, _⟩ | ⟨g', cap', cur', rfl, _, hg', _⟩
    · cases q
    · have : g = g' := by simpa [Value.ownBlock] using q
      subst this
      rw [hg] at hg'
      have := Option.some.inj hg'
      injection this with _ h _
      exact hne h

theorem but_growH {w0 w w2 : World} {rb base : Nat} {v : Value} {k : Nat} {e : TypeId} {size : Nat} {xs : List Value} (hb : But rb w0 w) (ho : w.ownsRow base e size v k xs) (hbase : w0.heap.size ≤ base) (hg : w.grownBy w2 v.ownBlock) : But rb w0 w2 :=
  ⟨hg.os.trans hb.os, hg.tape.trans hb.tape, hg.output.trans hb.output, Nat.le_trans hb.size hg.size, fun i hi hne =>
    (hg.block i (Nat.lt_of_lt_of_le hi hb.size) (fun e => by have := (ho.lt i e.symm).1; omega)).trans (hb.block i hi hne)⟩

theorem Rd.growH {B base : Nat} {w w2 : World} {rb : Nat} {a : Option Addr} {n c : Nat} {v : Value} {k : Nat} {e : TypeId} {size : Nat} {xs : List Value} (h : Rd B w rb a n c) (hlt : rb < base) (hB : B ≤ base) (ho : w.ownsRow base e size v k xs) (hg : w.grownBy w2 v.ownBlock) : Rd B w2 rb a n c := by
  have hs := h.lt
  refine ⟨h.from_, h.small, ?_, ?_⟩
  · obtain ⟨p, hp, he⟩ := h.blk
    exact ⟨p, hp, (hg.block rb h.lt (fun e => by have := (ho.lt rb e.symm).1; omega)).trans he⟩
  · rcases h.code with h0 | ⟨b, off, e', lt, hc⟩
    · exact .inl h0
    · refine .inr ⟨b, off, e', lt, fun i hi => ?_⟩
      obtain ⟨z, z0, z1, hz⟩ := hc i hi
      exact ⟨z, z0, z1, hg.cell hz (fun e => by have := (ho.lt b e.symm).1; have := h.from_; simp at *; omega)⟩

/-- The answer's box, the find's, its two lists, and the reader. -/
structure FdD (B : Nat) (w0 : World) (rs rb : Nat) (ca : Option Addr) (cn cc q : Nat) (ex : Bool) (rd : Int) (ha : Option Addr) (hn hc : Nat) (H : HtL) (la : Option Addr) (ln lc : Nat) (f : Nat → Int) (w : World) : Prop where
  res : w.rowIs rs 30 4 (v4 (.slice none 0 0) (.bool false) (.int .i64 0) (.slice none 0 0))
  box : w.rowIs q 30 4 (v4 (.slice ha hn hc) (.bool ex) (.int .i64 rd) (.slice la ln lc))
  own : w.ownsRow (q + 1) 38 3 (.slice ha hn hc) hn (hitsV H hn)
  owl : w.ownsRow (q + 1) 2 1 (.slice la ln lc) ln (vals f ln)
  rdr : Rd B w rb ca cn cc
  bel : Below w0.heap.size w0 w
  o1 : rs < q
  o2 : rb < q
  o3 : rs ≠ rb
  o4 : B ≤ q
  o5 : w0.heap.size ≤ rs
  o6 : w0.heap.size ≤ rb

theorem FdD.call {B : Nat} {w0 : World} {rs rb : Nat} {ca : Option Addr} {cn cc q : Nat} {ex : Bool} {rd : Int} {ha : Option Addr} {hn hc : Nat} {H : HtL} {la : Option Addr} {ln lc : Nat} {f : Nat → Int} {w w' : World} (h : FdD B w0 rs rb ca cn cc q ex rd ha hn hc H la ln lc f w) (hr : Rd B w' rb ca cn cc) (hb : But rb w w') : FdD B w0 rs rb ca cn cc q ex rd ha hn hc H la ln lc f w' :=
  have a1 := h.o1
  have a2 := h.o2
  ⟨h.res.of_block (hb.block _ (World.rowIs.lt h.res) h.o3), h.box.of_block (hb.block _ (World.rowIs.lt h.box) (by omega)), owns_butH h.own hb (by omega), owns_butH h.owl hb (by omega), hr, h.bel.trans (hb.below h.o6 h.bel.size), h.o1, h.o2, h.o3, h.o4, h.o5, h.o6⟩

theorem FdD.stays {B : Nat} {w0 : World} {rs rb : Nat} {ca : Option Addr} {cn cc q : Nat} {ex : Bool} {rd : Int} {ha : Option Addr} {hn hc : Nat} {H : HtL} {la : Option Addr} {ln lc : Nat} {f : Nat → Int} {w w' : World} (h : FdD B w0 rs rb ca cn cc q ex rd ha hn hc H la ln lc f w) (hb : Below w.heap.size w w') : FdD B w0 rs rb ca cn cc q ex rd ha hn hc H la ln lc f w' :=
  h.call (h.rdr.stays hb) ⟨hb.os, hb.tape, hb.output, hb.size, fun k hk _ => hb.block k hk⟩
/-- Behind an append onto the hits: the box is as it was; with the new slice stored, all is right. -/
theorem FdD.growH {B : Nat} {w0 : World} {rs rb : Nat} {ca : Option Addr} {cn cc q : Nat} {ex : Bool} {rd : Int} {ha : Option Addr} {hn hc : Nat} {H : HtL} {la : Option Addr} {ln lc : Nat} {f : Nat → Int} {w w2 : World} (h : FdD B w0 rs rb ca cn cc q ex rd ha hn hc H la ln lc f w) {g c : Nat} {H' : HtL} (hown : w2.ownsRow (q + 1) 38 3 (.slice (some ⟨g, 0, none⟩) (hn + 1) c) (hn + 1) (hitsV H' (hn + 1))) (hg : w.grownBy w2 (Value.slice ha hn hc).ownBlock) (ht : 2 ≠ 38) :
    w2.rowIs q 30 4 (v4 (.slice ha hn hc) (.bool ex) (.int .i64 rd) (.slice la ln lc)) ∧ FdD B w0 rs rb ca cn cc q ex rd (some ⟨g, 0, none⟩) (hn + 1) c H' la ln lc f (w2.setCell ⟨q, 0, none⟩ (.slice (some ⟨g, 0, none⟩) (hn + 1) c)) := by
  have a1 := h.o1
  have a2 := h.o2
  have a4 := h.o4
  have a5 := h.o5
  have hq : w2.rowIs q 30 4 (v4 (.slice ha hn hc) (.bool ex) (.int .i64 rd) (.slice la ln lc)) := h.box.of_block (hg.block _ (World.rowIs.lt h.box) (fun q' => by have := (h.own.lt _ q'.symm).1; omega))
  have hr : w2.rowIs rs 30 4 (v4 (.slice none 0 0) (.bool false) (.int .i64 0) (.slice none 0 0)) := h.res.of_block (hg.block _ (World.rowIs.lt h.res) (fun q' => by have := (h.own.lt _ q'.symm).1; omega))
  exact ⟨hq, World.rowIs.setOther hr (by simp; omega) _, v4_set0 hq _, ownsRow_setCell_below hown (by simp) _, ownsRow_setCell_below (h.owl.kept hg (owns_apart h.owl h.own ht)) (by simp) _,
    (h.rdr.growH (by omega) (by omega) h.own hg).but ((But.refl q w2).setCell 0 _) (by omega) (by omega), (h.bel.grown hg h.bel.size fun k hk => by have := (h.own.lt k hk).1; omega).setCell (by simp; omega) _, h.o1, h.o2, h.o3, h.o4, h.o5, h.o6⟩

theorem FdD.growL {B : Nat} {w0 : World} {rs rb : Nat} {ca : Option Addr} {cn cc q : Nat} {ex : Bool} {rd : Int} {ha : Option Addr} {hn hc : Nat} {H : HtL} {la : Option Addr} {ln lc : Nat} {f : Nat → Int} {w w2 : World} (h : FdD B w0 rs rb ca cn cc q ex rd ha hn hc H la ln lc f w) {g c : Nat} {f' : Nat → Int} (hown : w2.ownsRow (q + 1) 2 1 (.slice (some ⟨g, 0, none⟩) (ln + 1) c) (ln + 1) (vals f' (ln + 1))) (hg : w.grownBy w2 (Value.slice la ln lc).ownBlock) (ht : 38 ≠ 2) :
    w2.rowIs q 30 4 (v4 (.slice ha hn hc) (.bool ex) (.int .i64 rd) (.slice la ln lc)) ∧ FdD B w0 rs rb ca cn cc q ex rd ha hn hc H (some ⟨g, 0, none⟩) (ln + 1) c f' (w2.setCell ⟨q, 3, none⟩ (.slice (some ⟨g, 0, none⟩) (ln + 1) c)) := by
  have a1 := h.o1
  have a2 := h.o2
  have a4 := h.o4
  have a5 := h.o5
  have hq : w2.rowIs q 30 4 (v4 (.slice ha hn hc) (.bool ex) (.int .i64 rd) (.slice la ln lc)) := h.box.of_block (hg.block _ (World.rowIs.lt h.box) (fun q' => by have := (h.owl.lt _ q'.symm).1; omega))
  have hr : w2.rowIs rs 30 4 (v4 (.slice none 0 0) (.bool false) (.int .i64 0) (.slice none 0 0)) := h.res.of_block (hg.block _ (World.rowIs.lt h.res) (fun q' => by have := (h.owl.lt _ q'.symm).1; omega))
  exact ⟨hq, World.rowIs.setOther hr (by simp; omega) _, v4_set3 hq _, ownsRow_setCell_below (h.own.kept hg (owns_apart h.own h.owl ht)) (by simp) _, ownsRow_setCell_below hown (by simp) _,
    (h.rdr.growH (by omega) (by omega) h.owl hg).but ((But.refl q w2).setCell 3 _) (by omega) (by omega), (h.bel.grown hg h.bel.size fun k hk => by have := (h.owl.lt k hk).1; omega).setCell (by simp; omega) _, h.o1, h.o2, h.o3, h.o4, h.o5, h.o6⟩
/-- What a region reads of the box. -/
structure FdK (w : World) (q : Nat) (a b c d : Value) : Prop where
  lt : q < w.heap.size
  c0 : w.cell? ⟨q, 0, none⟩ = some a
  c3 : w.cell? ⟨q, 3, none⟩ = some d

theorem fdk {w : World} {q : Nat} {a b c d : Value} (h : w.rowIs q 30 4 (v4 a b c d)) : FdK w q a b c d := ⟨World.rowIs.lt h, World.rowIs.cell h (show 0 < 4 by omega), World.rowIs.cell h (show 3 < 4 by omega)⟩
end Go.Proofs.YtfjhgagpmhedfaaDoor
