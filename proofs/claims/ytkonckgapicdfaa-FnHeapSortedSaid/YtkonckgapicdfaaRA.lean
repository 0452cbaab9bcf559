/- The reader of drawn bytes: heap. -/
import Derived.Test.YtkonckgapicdfaaHU
import Derived.Test.YtkonckgapicdfaaHQ
import Derived.Test.YtkonckgapicdfaaHAA
import Derived.Test.YtkonckgapicdfaaGA0
import Derived.Test.YtkonckgapicdfaaDO
import Derived.OpenShut
namespace Go.Proofs.Ytkonckgapicdfaa
open Go.RowKit
set_option maxRecDepth 8000
set_option linter.unusedSimpArgs false
set_option linter.unusedVariables false

theorem owns_butH {base : Nat} {wr w1 : World} {rb : Nat} {e : TypeId} {size : Nat} {v : Value} {k : Nat} {xs : List Value} (h : wr.ownsRow base e size v k xs) (hb : But rb wr w1) (hlt : rb < base) : w1.ownsRow base e size v k xs := by
  refine ⟨h.1, ?_⟩
  rcases h.2 with h0 | ⟨g, cap, cur, hv, hg, hh, rest⟩
  · exact .inl h0
  · exact .inr ⟨g, cap, cur, hv, hg, (hb.block g (Array.getElem?_eq_some_iff.1 hh).1 (by omega)).trans hh, rest⟩

theorem owns_lowH {base : Nat} {wr w1 : World} {e : TypeId} {size : Nat} {v : Value} {k : Nat} {xs : List Value} (h : wr.ownsRow base e size v k xs) (hb : Below wr.heap.size wr w1) : w1.ownsRow base e size v k xs := by
  refine ⟨h.1, ?_⟩
  rcases h.2 with h0 | ⟨g, cap, cur, hv, hg, hh, rest⟩
  · exact .inl h0
  · exact .inr ⟨g, cap, cur, hv, hg, (hb.block g (Array.getElem?_eq_some_iff.1 hh).1).trans hh, rest⟩

theorem owns_awayH {base : Nat} {wr : World} {e : TypeId} {size : Nat} {v : Value} {k : Nat} {xs : List Value} (h : wr.ownsRow base e size v k xs) {z : Nat} (hz : ∀ g, v.ownBlock = some g → g ≠ z) (o : Nat) (u : Value) : (wr.setCell ⟨z, o, none⟩ u).ownsRow base e size v k xs := by
  refine ⟨h.1, ?_⟩
  rcases h.2 with h0 | ⟨g, cap, cur, hv, hg, hh, rest⟩
  · exact .inl h0
  · refine .inr ⟨g, cap, cur, hv, hg, (Below.heap_setCell wr ⟨z, o, none⟩ u g ?_).trans hh, rest⟩
    exact hz g (by rw [hv]; rfl)

theorem owns_monoH {base base' : Nat} {wr : World} {e : TypeId} {size : Nat} {v : Value} {k : Nat} {xs : List Value} (h : wr.ownsRow base e size v k xs) (hb : base' ≤ base) : wr.ownsRow base' e size v k xs := by
  refine ⟨h.1, ?_⟩
  rcases h.2 with h0 | ⟨g, cap, cur, hv, hg, hh, rest⟩
  · exact .inl h0
  · exact .inr ⟨g, cap, cur, hv, by omega, hh, rest⟩

theorem owns_prow {w : World} {base : Nat} {a : Option Addr} {n cap : Nat} {M : NL} (h : w.ownsRow base 32 2 (.slice a n cap) n (nlv M n)) : PRow w a n (fun i => (M i).1) (fun i => (M i).2) ∧ ∀ b off, a = some ⟨b, off, none⟩ → base ≤ b := by
  rcases h.2 with ⟨h0, h1⟩ | ⟨g, cap', cur, hv, hg, hh, hcap, hm, hs, ht⟩
  · simp only [Value.slice.injEq] at h0
    obtain ⟨rfl, rfl, rfl⟩ := h0
    exact ⟨⟨.inl rfl⟩, fun b off e => by cases e⟩
  · simp only [Value.slice.injEq] at hv
    obtain ⟨rfl, _, rfl⟩ := hv
    refine ⟨⟨.inr ⟨g, 0, rfl, (Array.getElem?_eq_some_iff.1 hh).1, fun i hi => ?_⟩⟩, fun b off e => by cases e; exact hg⟩
    have c0 := h.cellAt (i * 2) (by omega)
    have c1 := h.cellAt (i * 2 + 1) (by omega)
    rw [(nlv_at M hi).1] at c0
    rw [(nlv_at M hi).2] at c1
    rw [Nat.zero_add]
    exact ⟨c0, c1⟩

theorem owns_of_rows {w : World} {base b cap m k : Nat} {L : NL} (h : RowS (cap * 2) w b m L) (hb : base ≤ b) (hk : k ≤ m) (hm : m ≤ cap) (hc : cap ≤ maxLen) : w.ownsRow base 32 2 (.slice (some ⟨b, 0, none⟩) k cap) k (nlv L k) := by
  obtain ⟨c, hc', hs, _, hv⟩ := h
  exact RC.owns ⟨hb, c, hc', by omega, hc, hs, fun i hi => hv i (by omega)⟩

/-- A heap that was made: its list is the call's own. -/
def PutR (w : World) (e : Ending) (w' : World) : Prop :=
  ∃ K' a' n' cap' ok, e = .returned (.tuple #[.agg #[.int .i64 K', .slice a' n' cap'], .bool ok]) ∧ (ok = true → ∃ M', w'.ownsRow w.heap.size 32 2 (.slice a' n' cap') n' (nlv M' n') ∧ n' ≤ 20) ∧ Below w.heap.size w w'

theorem putN_20 {K : Int} {n : Nat} {f g : Nat → Int} {i d : Int} (h : putB K n f g i d = true) : putN K n ≤ 20 := by
  unfold putB heapB inB at h
  simp only [Bool.and_eq_true, decide_eq_true_eq] at h
  unfold putN
  split <;> omega

theorem sPutR (K : Int) (a : Option Addr) (n cap : Nat) (f g : Nat → Int) (i d : Int) (w : World) (h : PRow w a n f g) :
    Calls Try.prog 30 #[.agg #[.int .i64 K, .slice a n cap], .agg #[.int .i64 i, .int .i64 d]] w fun e w' => PutR w e w' := by
  refine (sHeapPut_any K a n cap f g i d w h).mono fun e w' q => ?_
  rcases q with ⟨_, he, hb⟩ | ⟨hp, hb, b, cap', m, he, hlo, hm1, hm2, hm3, hr⟩
  · exact ⟨0, none, 0, 0, false, he, (fun q => absurd q (by simp)), hb⟩
  · exact ⟨K, _, _, _, true, he, fun _ => ⟨_, owns_of_rows hr hlo hm1 hm2 hm3, putN_20 hp⟩, hb⟩

/-- A variable that is a heap: the box z holds K and a list. -/
structure HVr (w0 w : World) (z : Nat) (K : Int) (a : Option Addr) (n cap : Nat) (M : NL) : Prop where
  bx : Bx w z (.int .i64 K) (.slice a n cap)
  lo : w0.heap.size < z
  own : w.ownsRow (w0.heap.size + 1) 32 2 (.slice a n cap) n (nlv M n)
  sep : ∀ g, (Value.slice a n cap).ownBlock = some g → g ≠ z
/-- All that a round of heap leaves as it was. -/
structure HSt (B : Nat) (w0 : World) (rb : Nat) (ca : Option Addr) (cn cc : Nat) (z : Nat) (K : Int) (a : Option Addr) (n cap : Nat) (M : NL) (w : World) : Prop where
  var : HVr w0 w z K a n cap M
  rd : Rd B w rb ca cn cc
  but : But rb w0 w
  lt : rb < w0.heap.size
  from_ : B ≤ w0.heap.size
  res : ∃ x y, Bx w w0.heap.size x y

theorem HSt.turn {B : Nat} {w0 : World} {rb : Nat} {ca : Option Addr} {cn cc z : Nat} {K : Int} {a : Option Addr} {n cap : Nat} {M : NL} {w w' : World} (h : HSt B w0 rb ca cn cc z K a n cap M w) (hr : Rd B w' rb ca cn cc) (hb : But rb w w') : HSt B w0 rb ca cn cc z K a n cap M w' := by
  have l := h.lt
  have lo := h.var.lo
  obtain ⟨x, y, hxy⟩ := h.res
  exact ⟨⟨h.var.bx.but hb (by omega), lo, owns_butH h.var.own hb (by omega), h.var.sep⟩, hr, h.but.trans hb, l, h.from_, x, y, hxy.but hb (by omega)⟩

theorem HSt.below {B : Nat} {w0 : World} {rb : Nat} {ca : Option Addr} {cn cc z : Nat} {K : Int} {a : Option Addr} {n cap : Nat} {M : NL} {w w' : World} (h : HSt B w0 rb ca cn cc z K a n cap M w) (hb : Below w.heap.size w w') : HSt B w0 rb ca cn cc z K a n cap M w' :=
  h.turn (h.rd.stays hb) (But.ofBelow hb)

theorem HSt.store {B : Nat} {w0 : World} {rb : Nat} {ca : Option Addr} {cn cc z : Nat} {K : Int} {a : Option Addr} {n cap : Nat} {M : NL} {w : World} (h : HSt B w0 rb ca cn cc z K a n cap M w) {y : Nat} (hy : w0.heap.size < y) (hyz : y ≠ z) (hg : ∀ g, (Value.slice a n cap).ownBlock = some g → g ≠ y) (u v : Value) : HSt B w0 rb ca cn cc z K a n cap M ((w.setCell ⟨y, 0, none⟩ u).setCell ⟨y, 1, none⟩ v) := by
  have l := h.lt
  have fr := h.from_
  have lo := h.var.lo
  obtain ⟨p, q, hpq⟩ := h.res
  have bt : But y w ((w.setCell ⟨y, 0, none⟩ u).setCell ⟨y, 1, none⟩ v) := ((But.refl y w).setCell 0 u).setCell 1 v
  exact ⟨⟨h.var.bx.but bt (by omega), lo, owns_awayH (owns_awayH h.var.own hg 0 u) hg 1 v, h.var.sep⟩, (h.rd.far y 0 u (by omega) (by omega)).far y 1 v (by omega) (by omega), but_far (but_far h.but (by omega) 0 u) (by omega) 1 v, l, fr, p, q, hpq.but bt (by omega)⟩

theorem Bx.stored {w : World} {y : Nat} {u0 v0 : Value} (h : Bx w y u0 v0) (u v : Value) : Bx ((w.setCell ⟨y, 0, none⟩ u).setCell ⟨y, 1, none⟩ v) y u v := by
  obtain ⟨l, c0, c1, f0, f1⟩ := h
  refine ⟨by simpa [World.setCell] using l, ?_, ?_, ?_, ?_⟩ <;> simp [go_sem, *]
/-- The variable takes a new value. -/
theorem HSt.take {B : Nat} {w0 : World} {rb : Nat} {ca : Option Addr} {cn cc z : Nat} {K : Int} {a : Option Addr} {n cap : Nat} {M : NL} {w : World} (h : HSt B w0 rb ca cn cc z K a n cap M w) {K' : Int} {a' : Option Addr} {n' cap' : Nat} {M' : NL} (ho : w.ownsRow (w0.heap.size + 1) 32 2 (.slice a' n' cap') n' (nlv M' n')) (hs : ∀ g, (Value.slice a' n' cap').ownBlock = some g → g ≠ z) :
    HSt B w0 rb ca cn cc z K' a' n' cap' M' ((w.setCell ⟨z, 0, none⟩ (.int .i64 K')).setCell ⟨z, 1, none⟩ (.slice a' n' cap')) := by
  have l := h.lt
  have fr := h.from_
  have lo := h.var.lo
  obtain ⟨p, q, hpq⟩ := h.res
  have bt : But z w ((w.setCell ⟨z, 0, none⟩ (.int .i64 K')).setCell ⟨z, 1, none⟩ (.slice a' n' cap')) := ((But.refl z w).setCell 0 _).setCell 1 _
  exact ⟨⟨h.var.bx.stored _ _, lo, owns_awayH (owns_awayH ho hs 0 _) hs 1 _, hs⟩, (h.rd.far z 0 _ (by omega) (by omega)).far z 1 _ (by omega) (by omega), but_far (but_far h.but (by omega) 0 _) (by omega) 1 _, l, fr, p, q, hpq.but bt (by omega)⟩

theorem HSt.k {B : Nat} {w0 : World} {rb : Nat} {ca : Option Addr} {cn cc z : Nat} {K : Int} {a : Option Addr} {n cap : Nat} {M : NL} {w : World} (h : HSt B w0 rb ca cn cc z K a n cap M w) (K' : Int) :
    HSt B w0 rb ca cn cc z K' a n cap M (w.setCell ⟨z, 0, none⟩ (.int .i64 K')) := by
  have l := h.lt
  have fr := h.from_
  have lo := h.var.lo
  obtain ⟨p, q, hpq⟩ := h.res
  obtain ⟨bl, c0, c1, f0, f1⟩ := h.var.bx
  have bt : But z w (w.setCell ⟨z, 0, none⟩ (.int .i64 K')) := (But.refl z w).setCell 0 _
  exact ⟨⟨⟨by simpa [World.setCell] using bl, by simp [go_sem, *], by simp [go_sem, *], by simp [go_sem, *], by simp [go_sem, *]⟩, lo, owns_awayH h.var.own h.var.sep 0 _, h.var.sep⟩, h.rd.far z 0 _ (by omega) (by omega), but_far h.but (by omega) 0 _, l, fr, p, q, hpq.but bt (by omega)⟩
/-- What stands behind one put: the box y holds what was told. -/
def NextR (B : Nat) (w0 : World) (rb : Nat) (ca : Option Addr) (cn cc z : Nat) (K : Int) (a : Option Addr) (n cap : Nat) (M : NL) (s5 s6 : Value) (wx : World) : Prop :=
  ∃ y K' a' n' cap' ok, s5 = .pointer (some ⟨y, 0, none⟩) ∧ s6 = .bool ok ∧ y ≠ z ∧ Bx wx y (.int .i64 K') (.slice a' n' cap') ∧ HSt B w0 rb ca cn cc z K a n cap M wx ∧ (ok = true → ∃ M', wx.ownsRow (w0.heap.size + 1) 32 2 (.slice a' n' cap') n' (nlv M' n') ∧ n' ≤ 20 ∧ ∀ g, (Value.slice a' n' cap').ownBlock = some g → g ≠ z)

/-- The variable's list takes a new value. -/
theorem HSt.l1 {B : Nat} {w0 : World} {rb : Nat} {ca : Option Addr} {cn cc z : Nat} {K : Int} {s0 : Value} {w : World} (hbx : Bx w z (.int .i64 K) s0) (lo : w0.heap.size < z) (hr : Rd B w rb ca cn cc) (hb : But rb w0 w) (l : rb < w0.heap.size) (fr : B ≤ w0.heap.size) (res : ∃ x y, Bx w w0.heap.size x y) {a' : Option Addr} {n' cap' : Nat} {M' : NL} (ho : w.ownsRow (w0.heap.size + 1) 32 2 (.slice a' n' cap') n' (nlv M' n')) (hs : ∀ g, (Value.slice a' n' cap').ownBlock = some g → g ≠ z) :
    HSt B w0 rb ca cn cc z K a' n' cap' M' (w.setCell ⟨z, 1, none⟩ (.slice a' n' cap')) := by
  obtain ⟨p, q, hpq⟩ := res
  obtain ⟨bl, c0, c1, f0, f1⟩ := hbx
  have bt : But z w (w.setCell ⟨z, 1, none⟩ (.slice a' n' cap')) := (But.refl z w).setCell 1 _
  exact ⟨⟨⟨by simpa [World.setCell] using bl, by simp [go_sem, *], by simp [go_sem, *], by simp [go_sem, *], by simp [go_sem, *]⟩, lo, owns_awayH ho hs 1 _, hs⟩, hr.far z 1 _ (by omega) (by omega), but_far hb (by omega) 1 _, l, fr, p, q, hpq.but bt (by omega)⟩

theorem PRow.awayH {w : World} {a : Option Addr} {n : Nat} {f g : Nat → Int} (h : PRow w a n f g) {q : Nat} (hq : ∀ b off, a = some ⟨b, off, none⟩ → b ≠ q) (o : Nat) (v : Value) : PRow (w.setCell ⟨q, o, none⟩ v) a n f g := by
  rcases h.lies with h0 | ⟨b, off, e, lt, hc⟩
  · exact ⟨.inl h0⟩
  · have hb := Below.heap_setCell w ⟨q, o, none⟩ v b (hq b off e)
    exact ⟨.inr ⟨b, off, e, by simpa [World.setCell] using lt, fun i hi => ⟨(World.cell?_of_block (a := ⟨b, off + i * 2, none⟩) hb).trans (hc i hi).1, (World.cell?_of_block (a := ⟨b, off + i * 2 + 1, none⟩) hb).trans (hc i hi).2⟩⟩⟩

theorem but_appH {w wr w2 : World} {rb base : Nat} {o : Obj} {v : Value} {k : Nat} {e : TypeId} {size : Nat} {xs : List Value} (hb : But rb w wr) (ho : wr.ownsRow base e size v k xs) (hbase : w.heap.size ≤ base) (hg : (wr.alloc o).grownBy w2 v.ownBlock) : But rb w w2 := by
  have h1 := hb.alloc o
  refine ⟨hg.os.trans h1.os, hg.tape.trans h1.tape, hg.output.trans h1.output, Nat.le_trans h1.size hg.size, fun i hi hne => ?_⟩
  exact (hg.block i (Nat.lt_of_lt_of_le hi h1.size) (fun e => by have := (ho.lt i e.symm).1; omega)).trans (h1.block i hi hne)

theorem Rd.appH {B base : Nat} {wr w2 : World} {rb : Nat} {a : Option Addr} {n c : Nat} {o : Obj} {v : Value} {k : Nat} {e : TypeId} {size : Nat} {xs : List Value} (h : Rd B wr rb a n c) (hlt : rb < base) (hB : B ≤ base) (ho : wr.ownsRow base e size v k xs) (hg : (wr.alloc o).grownBy w2 v.ownBlock) : Rd B w2 rb a n c := by
  have h1 := h.alloc o
  have hs := h.lt
  refine ⟨h.from_, h.small, ?_, ?_⟩
  · obtain ⟨p, hp, he⟩ := h1.blk
    exact ⟨p, hp, (hg.block rb h1.lt (fun e => by have := (ho.lt rb e.symm).1; omega)).trans he⟩
  · rcases h1.code with h0 | ⟨b, off, e', lt, hc⟩
    · exact .inl h0
    · refine .inr ⟨b, off, e', lt, fun i hi => ?_⟩
      obtain ⟨z, z0, z1, hz⟩ := hc i hi
      exact ⟨z, z0, z1, (World.cell?_of_block (w := wr.alloc o) (a := ⟨b, off + i, none⟩) (hg.block b (show b < (wr.alloc o).heap.size by have := h.from_; simp; omega) (fun e => by have := (ho.lt b e.symm).1; omega))).trans hz⟩

theorem Bx.grown {w w' : World} {row : Option Nat} {b : Nat} {x y : Value} (h : Bx w b x y) (hg : w.grownBy w' row) (hne : some b ≠ row) : Bx w' b x y :=
  ⟨Nat.lt_of_lt_of_le h.lt hg.size, (hg.cell_far ⟨b, 0, none⟩ h.lt hne).trans h.c0, (hg.cell_far ⟨b, 1, none⟩ h.lt hne).trans h.c1, (hg.frozen_far ⟨b, 0, none⟩ h.lt hne).trans h.f0, (hg.frozen_far ⟨b, 1, none⟩ h.lt hne).trans h.f1⟩

theorem two_oneH (x y : Int) : ∀ u ∈ [Value.int .i64 x, .int .i64 y], u.oneCell' = true := by
  intro u hu
  simp at hu
  rcases hu with rfl | rfl <;> rfl
/-- What stands behind an append onto the variable's list, and its store. -/
theorem HSt.grow {B : Nat} {w0 : World} {rb : Nat} {ca : Option Addr} {cn cc z : Nat} {K : Int} {a : Option Addr} {n cap : Nat} {M : NL} {w w8 : World} (h : HSt B w0 rb ca cn cc z K a n cap M w) {o : Obj} {g8 c8 : Nat} {p q : Int} (hown8 : w8.ownsRow (w0.heap.size + 1) 32 2 (.slice (some ⟨g8, 0, none⟩) (n + 1) c8) (n + 1) (nlv M n ++ [.int .i64 p, .int .i64 q])) (hgrow : (w.alloc o).grownBy w8 (Value.slice a n cap).ownBlock) (hat : (Value.slice a n cap).ownBlock = some g8 ∨ g8 = w.heap.size + 1) :
    Bx w8 z (.int .i64 K) (.slice a n cap) ∧ (∃ x y, Bx w8 w0.heap.size x y) ∧ HSt B w0 rb ca cn cc z K (some ⟨g8, 0, none⟩) (n + 1) c8 (M.put n (p, q)) (w8.setCell ⟨z, 1, none⟩ (.slice (some ⟨g8, 0, none⟩) (n + 1) c8)) := by
  have l := h.lt
  have fr := h.from_
  have lo := h.var.lo
  have zl := h.var.bx.lt
  obtain ⟨x, y, hxy⟩ := h.res
  have Z8 := (h.var.bx.alloc o).grown hgrow (fun e => h.var.sep z e.symm rfl)
  have R8 := (hxy.alloc o).grown hgrow (fun e => by have := (h.var.own.lt _ e.symm).1; omega)
  refine ⟨Z8, ⟨x, y, R8⟩, HSt.l1 Z8 lo (h.rd.appH (by omega) (by omega) h.var.own hgrow) (but_appH h.but h.var.own (by omega) hgrow) l fr ⟨x, y, R8⟩ (RC.grown hown8).owns (fun g hg => ?_)⟩
  have : g = g8 := by simpa [Value.ownBlock] using hg.symm
  subst this
  rcases hat with e | e
  · exact h.var.sep g e
  · omega

def HeapPost (B : Nat) (w : World) (rb : Nat) (ca : Option Addr) (cn cc : Nat) (e : Ending) (w' : World) : Prop :=
  ∃ K a n cap M, e = .returned (.agg #[.int .i64 K, .slice a n cap]) ∧ n ≤ 21 ∧ PRow w' a n (fun i => ((M : NL) i).1) (fun i => (M i).2) ∧ (∀ b off, a = some ⟨b, off, none⟩ → w.heap.size ≤ b) ∧ Rd B w' rb ca cn cc ∧ But rb w w'

/-- The end: the result's box is written. -/
theorem HSt.fin {B : Nat} {w0 : World} {rb : Nat} {ca : Option Addr} {cn cc z : Nat} {K : Int} {a : Option Addr} {n cap : Nat} {M : NL} {w : World} (h : HSt B w0 rb ca cn cc z K a n cap M w) (hn : n ≤ 21) (u v : Value) : HeapPost B w0 rb ca cn cc (.returned (.agg #[.int .i64 K, .slice a n cap])) ((w.setCell ⟨w0.heap.size, 0, none⟩ u).setCell ⟨w0.heap.size, 1, none⟩ v) := by
  have l := h.lt
  have fr := h.from_
  obtain ⟨hp, hlo⟩ := owns_prow h.var.own
  have hq : ∀ b off, a = some ⟨b, off, none⟩ → b ≠ w0.heap.size := fun b off e => by have := hlo b off e; omega
  exact ⟨K, a, n, cap, M, rfl, hn, (hp.awayH hq 0 u).awayH hq 1 v, fun b off e => by have := hlo b off e; omega, (h.rd.far _ 0 u (by omega) (by omega)).far _ 1 v (by omega) (by omega), but_far (but_far h.but (Nat.le_refl _) 0 u) (Nat.le_refl _) 1 v⟩

set_option maxHeartbeats 8000000 in
theorem heap_any (B rb cn cc : Nat) (ca : Option Addr) (w : World) (h : Rd B w rb ca cn cc) :
    Calls Try.prog 22 #[.pointer (some ⟨rb, 0, none⟩)] w fun e w' => HeapPost B w rb ca cn cc e w' := by
  have B8 := hide (fun w (h : Rd B w rb ca cn cc) => below_any B rb cn cc ca 8 w h (by omega) (by omega))
  have B2 := hide (fun w (h : Rd B w rb ca cn cc) => below_any B rb cn cc ca 2 w h (by omega) (by omega))
  have B24 := hide (fun w (h : Rd B w rb ca cn cc) => below_any B rb cn cc ca 24 w h (by omega) (by omega))
  have O12 := hide (fun w (h : Rd B w rb ca cn cc) => once_any B rb cn cc ca 12 w h (by omega) (by omega))
  have SZ := hide (fun w (h : Rd B w rb ca cn cc) => size_any B rb cn cc ca 8 24 w h (by omega) (by omega) (by omega) (by omega))
  have OFF := hide (fun w (h : Rd B w rb ca cn cc) => off_any B rb cn cc ca 1 20 w h (by omega) (by omega) (by omega) (by omega))
  have NB := hide (fun w (h : Rd B w rb ca cn cc) => nearby_any B rb cn cc ca w h)
  have H := hide h
  have hlt := h.lt
  have hfr := h.from_
  obtain ⟨i0, hi, hz0, hz1, hz2⟩ := nearInfo
  have HI := hide hi
  clear h hi
  go_enter Try.func22, Try.ntmps22
  go_wp2_with fail
  refine (B8.out _ (H.out.alloc _)).mono ?_
  rintro e w1 ⟨x, rfl, x0, x1, hr1, hb1⟩
  have R1 := (Bx.new w (.int .i64 0) (.slice none 0 0) 26).but hb1 (by omega)
  have BT1 := ((But.refl rb w).alloc (.cells #[.int .i64 0, .slice none 0 0] 26)).trans hb1
  have s1 : w.heap.size < w1.heap.size := R1.lt
  have rl1 := hr1.lt
  have S1 : Hid (HSt B w rb ca cn cc w1.heap.size (1 + x) none 0 0 (fun _ => (0, 0)) (w1.alloc (.cells #[.int .i64 (1 + x), .slice none 0 0] 26))) := hide
    ⟨⟨Bx.new _ _ _ _, s1, ⟨rfl, .inl ⟨rfl, rfl⟩⟩, fun g e => by cases e⟩, hr1.alloc _, BT1.alloc _, hlt, by omega, _, _, R1.alloc _⟩
  have RD1 := hide (hr1.alloc (.cells #[.int .i64 (1 + x), .slice none 0 0] 26))
  clear hr1 hb1 R1 BT1 H
  go_wp2_with fail
  refine (O12.out _ RD1.out).mono ?_
  rintro e w2 ⟨o, rfl, hr2, hb2⟩
  have S2 := hide (S1.out.turn hr2 hb2)
  obtain ⟨z, hz⟩ : ∃ z, w1.heap.size = z := ⟨_, rfl⟩
  rw [hz] at S2 ⊢
  have hz1' : w.heap.size < z := by omega
  clear hr2 hb2 S1 RD1 hz
  cases o
  · have S3 := S2
    go_wp2_with fail
    refine (SZ.out _ S3.out.rd).mono ?_
    rintro e w4 ⟨sz, rfl, s0, s1, hr4, hb4⟩
    have S4 := hide (S3.out.turn hr4 hb4)
    clear hr4 hb4 S3 S2
    go_wp2_with fail
    go_loopw [4] (fun i wr => ∃ (j : Nat) (K : Int) (a : Option Addr) (n cap : Nat) (M : NL), j ≤ 24 ∧ i = .int .i64 j ∧ n ≤ 20 ∧ HSt B w rb ca cn cc z K a n cap M wr) (fun i _ => (intOf i).toNat)
    case atStart => exact ⟨sz.toNat, _, _, _, _, _, by omega, by rw [Int.toNat_of_nonneg (by omega)], by omega, S4.out⟩
    case round =>
      clear S4
      obtain ⟨j, K, a, n, cap, M, hj, rfl, hn, hS⟩ := hrel
      have S := hide hS
      clear hS
      by_cases h0 : 0 < j
      · have h0' : (0 : Int) < (j : Int) := by omega
        have S0 := hide (S.out.below (Below.drew (Below.refl _ _)))
        have NBH := hide (fun W (h : HSt B w rb ca cn cc z K a n cap M W) => NB.out W h.rd)
        have HPH := hide (fun W x y (h : HSt B w rb ca cn cc z K a n cap M W) => sPutR K a n cap _ _ x y W (owns_prow h.var.own).1)
        go_upto_region 7 with fail
        go_cut [5, 6] from 19 to 31 (fun s5 s6 wx => NextR B w rb ca cn cc z K a n cap M s5 s6 wx)
        case first =>
          refine wp_region_held_drew (S := fun wx => HSt B w rb ca cn cc z K a n cap M wx) (by kernel_rfl) (S0.out) (fun hH0 => ?_)
          refine wpAnyH_take (i := 0) (oi := { dst := some 24, op := _, type := _, pos := _, after := _, guard := _ }) (v := ?_) rfl (by kernel_rfl) (by kernel_rfl) (by kernel_rfl) (fun _ _ _ h => h) (Or.inl ⟨by rfl, ?_⟩) (hH0) ?_
          rotate_left
          · (intro wx hSw; obtain ⟨⟨⟨_, q0, q1, _, _⟩, _, _, _⟩, _, _, _, _, _⟩ := hSw; go_simp <;> with_reducible rfl)
          simp only [Act.put, List.setIfInBounds_toArray, List.set_cons_zero, List.set_cons_succ]
          refine wpAnyH_take (i := 1) (oi := { dst := some 25, op := _, type := _, pos := _, after := _, guard := _ }) (v := ?_) rfl (by kernel_rfl) (by kernel_rfl) (by kernel_rfl) (fun _ _ _ h => h) (Or.inl ⟨by rfl, ?_⟩) (hH0) ?_
          rotate_left
          · (intro wx hSw; obtain ⟨⟨⟨_, q0, q1, _, _⟩, _, _, _⟩, _, _, _, _, _⟩ := hSw; go_simp <;> with_reducible rfl)
          simp only [Act.put, List.setIfInBounds_toArray, List.set_cons_zero, List.set_cons_succ]
          -- behind it: go_wp2_with fail, then go_meet (a cut) or go_ret; the condition at the end: hH0
          refine wpAnyH_ready (rs := [2, 7]) (by kernel_rfl) (by simp) ?_
          refine AllReadyH.cons (o := { dst := some 26, op := _, type := _, pos := _, after := _, guard := _ }) rfl (fun K hK => ?_) (AllReadyH.cons (o := { dst := some 5, op := _, type := _, pos := _, after := _, guard := _ }) rfl (fun K hK => ?_) AllReadyH.nil)
          · go_simp
            refine (NBH.out _ hH0).mono ?_
            rintro e wa ⟨xa, ya, rfl, ra, ba⟩
            dsimp only
            refine hK.out _ _ (hH0.turn ra ba) (fun hH1 => ?_)
            clear hK K
            refine wpAnyH_ready (rs := [3, 7]) (by kernel_rfl) (by simp) ?_
            refine AllReadyH.cons (o := { dst := some 27, op := _, type := _, pos := _, after := _, guard := _ }) rfl (fun K hK => ?_) (AllReadyH.cons (o := { dst := some 5, op := _, type := _, pos := _, after := _, guard := _ }) rfl (fun K hK => ?_) AllReadyH.nil)
            · go_simp
              refine (HPH.out _ _ _ hH1).mono ?_
              rintro e wb ⟨K', a', n', cap', ok, rfl, hok, bb⟩
              dsimp only
              refine hK.out _ _ (hH1.below bb) (fun hH2 => ?_)
              clear hK K
              refine wpAnyH_take (i := 4) (oi := { dst := some 23, op := _, type := _, pos := _, after := _, guard := _ }) (v := ?_) rfl (by kernel_rfl) (by kernel_rfl) (by kernel_rfl) (fun _ _ _ h => h) (Or.inl ⟨by rfl, ?_⟩) (hH2) ?_
              rotate_left
              · (intro wx hSw; obtain ⟨⟨⟨_, q0, q1, _, _⟩, _, _, _⟩, _, _, _, _, _⟩ := hSw; go_simp <;> with_reducible rfl)
              simp only [Act.put, List.setIfInBounds_toArray, List.set_cons_zero, List.set_cons_succ]
              refine wpAnyH_take (i := 5) (oi := { dst := some 28, op := _, type := _, pos := _, after := _, guard := _ }) (v := ?_) rfl (by kernel_rfl) (by kernel_rfl) (by kernel_rfl) (fun _ _ _ h => h) (Or.inl ⟨by rfl, ?_⟩) (hH2) ?_
              rotate_left
              · (intro wx hSw; obtain ⟨⟨⟨_, q0, q1, _, _⟩, _, _, _⟩, _, _, _, _, _⟩ := hSw; go_simp <;> with_reducible rfl)
              simp only [Act.put, List.setIfInBounds_toArray, List.set_cons_zero, List.set_cons_succ]
              refine wpAnyH_take (i := 6) (oi := { dst := some 29, op := _, type := _, pos := _, after := _, guard := _ }) (v := ?_) rfl (by kernel_rfl) (by kernel_rfl) (by kernel_rfl) (fun _ _ _ h => h) (Or.inl ⟨by rfl, ?_⟩) (hH2) ?_
              rotate_left
              · (intro wx hSw; obtain ⟨⟨⟨_, q0, q1, _, _⟩, _, _, _⟩, _, _, _, _, _⟩ := hSw; go_simp <;> with_reducible rfl)
              simp only [Act.put, List.setIfInBounds_toArray, List.set_cons_zero, List.set_cons_succ]
              refine wpAnyH_ready (rs := [7]) (by kernel_rfl) (by simp) ?_
              refine AllReadyH.cons (o := { dst := some 5, op := _, type := _, pos := _, after := _, guard := _ }) rfl (fun K hK => ?_) AllReadyH.nil
              go_simp
              refine hK.out _ _ (HSt.below hH2 (balloc (Below.refl _ _) _)) (fun hH13 => ?_)
              clear hK K
              -- behind it: go_wp2_with fail, then go_meet (a cut) or go_ret; the condition at the end: hH13
              refine wpAnyH_ready (rs := [8]) (by kernel_rfl) (by simp) ?_
              refine AllReadyH.cons (o := { dst := none, op := _, type := _, pos := _, after := _, guard := _ }) rfl (fun K hK => ?_) AllReadyH.nil
              go_simp
              refine hK.out _ _ (hH2.below (balloc (Below.refl _ _) _)) (fun hH50 => ?_)
              clear hK K
              refine wpAnyH_take (i := 9) (oi := { dst := some 6, op := _, type := _, pos := _, after := _, guard := _ }) (v := ?_) rfl (by kernel_rfl) (by kernel_rfl) (by kernel_rfl) (fun _ _ _ h => h) (Or.inl ⟨by rfl, ?_⟩) (hH50) ?_
              rotate_left
              · (intro wx hSw; obtain ⟨⟨⟨_, q0, q1, _, _⟩, _, _, _⟩, _, _, _, _, _⟩ := hSw; go_simp <;> with_reducible rfl)
              simp only [Act.put, List.setIfInBounds_toArray, List.set_cons_zero, List.set_cons_succ]
              refine wpAnyH_done (by kernel_rfl) ?_ _
              -- behind it: go_wp2_with fail, then go_meet (a cut) or go_ret; the condition at the end: hH50
              go_wp2_with fail
              go_meet
              have lo := hH2.var.lo
              have lz := hH2.var.bx.lt
              have sw := hH1.but.size
              have sb := bb.size
              have lza := hH1.var.bx.lt
              refine ⟨_, K', a', n', cap', ok, rfl, rfl, by omega, Bx.new _ _ _ _, hH50, fun q => ?_⟩
              obtain ⟨M', ho, hn'⟩ := hok q
              exact ⟨M', (owns_monoH ho (by omega)).alloc _, hn', fun g hg => by have := (ho.lt g hg).1; omega⟩
            · go_simp
              refine hK.out _ _ (hH1.below (balloc (Below.refl _ _) _)) (fun hH2 => ?_)
              clear hK K
              refine wpAnyH_ready (rs := [3]) (by kernel_rfl) (by simp) ?_
              refine AllReadyH.cons (o := { dst := some 27, op := _, type := _, pos := _, after := _, guard := _ }) rfl (fun K hK => ?_) AllReadyH.nil
              go_simp
              refine (HPH.out _ _ _ hH2).mono ?_
              rintro e wb ⟨K', a', n', cap', ok, rfl, hok, bb⟩
              dsimp only
              refine hK.out _ _ (hH2.below bb) (fun hH3 => ?_)
              clear hK K
              have YB := (Bx.new wa (.int .i64 0) (.slice none 0 0) 26).below bb
              obtain ⟨yl, y0, y1, yf0, yf1⟩ := id YB
              refine wpAnyH_take (i := 4) (oi := { dst := some 23, op := _, type := _, pos := _, after := _, guard := _ }) (v := ?_) rfl (by kernel_rfl) (by kernel_rfl) (by kernel_rfl) (fun _ _ _ h => h) (Or.inl ⟨by rfl, ?_⟩) (hH3) ?_
              rotate_left
              · (intro wx hSw; obtain ⟨⟨⟨_, q0, q1, _, _⟩, _, _, _⟩, _, _, _, _, _⟩ := hSw; go_simp <;> with_reducible rfl)
              simp only [Act.put, List.setIfInBounds_toArray, List.set_cons_zero, List.set_cons_succ]
              refine wpAnyH_take (i := 5) (oi := { dst := some 28, op := _, type := _, pos := _, after := _, guard := _ }) (v := ?_) rfl (by kernel_rfl) (by kernel_rfl) (by kernel_rfl) (fun _ _ _ h => h) (Or.inl ⟨by rfl, ?_⟩) (hH3) ?_
              rotate_left
              · (intro wx hSw; obtain ⟨⟨⟨_, q0, q1, _, _⟩, _, _, _⟩, _, _, _, _, _⟩ := hSw; go_simp <;> with_reducible rfl)
              simp only [Act.put, List.setIfInBounds_toArray, List.set_cons_zero, List.set_cons_succ]
              refine wpAnyH_take (i := 6) (oi := { dst := some 29, op := _, type := _, pos := _, after := _, guard := _ }) (v := ?_) rfl (by kernel_rfl) (by kernel_rfl) (by kernel_rfl) (fun _ _ _ h => h) (Or.inl ⟨by rfl, ?_⟩) (hH3) ?_
              rotate_left
              · (intro wx hSw; obtain ⟨⟨⟨_, q0, q1, _, _⟩, _, _, _⟩, _, _, _, _, _⟩ := hSw; go_simp <;> with_reducible rfl)
              simp only [Act.put, List.setIfInBounds_toArray, List.set_cons_zero, List.set_cons_succ]
              -- behind it: go_wp2_with fail, then go_meet (a cut) or go_ret; the condition at the end: hH3
              refine wpAnyH_ready (rs := [8]) (by kernel_rfl) (by simp) ?_
              refine AllReadyH.cons (o := { dst := none, op := _, type := _, pos := _, after := _, guard := _ }) rfl (fun K hK => ?_) AllReadyH.nil
              go_simp
              have lo := hH2.var.lo
              have lzA := hH1.var.bx.lt
              have sA := hH1.but.size
              have ogA := fun g hg => (hH1.var.own.lt g hg).2
              have sb := bb.size
              have sz2 := hH2.but.size
              (try simp only [World.size_alloc, World.size_drew] at sb sA lzA ogA)
              have hyA : w.heap.size < wa.heap.size := by omega
              have hyz : wa.heap.size ≠ z := by omega
              have hyb : wa.heap.size < (wa.alloc (.cells #[.int .i64 0, .slice none 0 0] 26)).heap.size := by simp
              refine hK.out _ _ (hH3.store hyA hyz (fun g hg => by have := ogA g hg; omega) _ _) (fun hH50 => ?_)
              clear hK K
              refine wpAnyH_take (i := 9) (oi := { dst := some 6, op := _, type := _, pos := _, after := _, guard := _ }) (v := ?_) rfl (by kernel_rfl) (by kernel_rfl) (by kernel_rfl) (fun _ _ _ h => h) (Or.inl ⟨by rfl, ?_⟩) (hH50) ?_
              rotate_left
              · (intro wx hSw; obtain ⟨⟨⟨_, q0, q1, _, _⟩, _, _, _⟩, _, _, _, _, _⟩ := hSw; go_simp <;> with_reducible rfl)
              simp only [Act.put, List.setIfInBounds_toArray, List.set_cons_zero, List.set_cons_succ]
              refine wpAnyH_done (by kernel_rfl) ?_ _
              -- behind it: go_wp2_with fail, then go_meet (a cut) or go_ret; the condition at the end: hH50
              go_wp2_with fail
              go_meet
              refine ⟨_, K', a', n', cap', ok, rfl, rfl, hyz, YB.stored _ _, hH50, fun q => ?_⟩
              obtain ⟨M', ho, hn'⟩ := hok q
              have hgy : ∀ g, (Value.slice a' n' cap').ownBlock = some g → g ≠ wa.heap.size := fun g hg => by have := (ho.lt g hg).1; (try simp only [World.size_alloc, World.size_drew] at this); omega
              exact ⟨M', owns_awayH (owns_awayH (owns_monoH ho (by (try simp only [World.size_alloc, World.size_drew]); omega)) hgy 0 _) hgy 1 _, hn', fun g hg => by have := (ho.lt g hg).1; have := hH2.var.bx.lt; (try simp only [World.size_alloc, World.size_drew] at *); omega⟩
          · go_simp
            refine hK.out _ _ (hH0.below (balloc (Below.refl _ _) _)) (fun hH1 => ?_)
            clear hK K
            refine wpAnyH_ready (rs := [2]) (by kernel_rfl) (by simp) ?_
            refine AllReadyH.cons (o := { dst := some 26, op := _, type := _, pos := _, after := _, guard := _ }) rfl (fun K hK => ?_) AllReadyH.nil
            go_simp
            refine (NBH.out _ hH1).mono ?_
            rintro e wa ⟨xa, ya, rfl, ra, ba⟩
            dsimp only
            refine hK.out _ _ (hH1.turn ra ba) (fun hH2 => ?_)
            clear hK K
            refine wpAnyH_ready (rs := [3]) (by kernel_rfl) (by simp) ?_
            refine AllReadyH.cons (o := { dst := some 27, op := _, type := _, pos := _, after := _, guard := _ }) rfl (fun K hK => ?_) AllReadyH.nil
            go_simp
            refine (HPH.out _ _ _ hH2).mono ?_
            rintro e wb ⟨K', a', n', cap', ok, rfl, hok, bb⟩
            dsimp only
            refine hK.out _ _ (hH2.below bb) (fun hH3 => ?_)
            clear hK K
            have rlw := hH0.rd.lt
            have YB : Bx wb wr.heap.size (.int .i64 0) (.slice none 0 0) := ((Bx.new wr.drew (.int .i64 0) (.slice none 0 0) 26).but ba (by omega)).below bb
            obtain ⟨yl, y0, y1, yf0, yf1⟩ := id YB
            refine wpAnyH_take (i := 4) (oi := { dst := some 23, op := _, type := _, pos := _, after := _, guard := _ }) (v := ?_) rfl (by kernel_rfl) (by kernel_rfl) (by kernel_rfl) (fun _ _ _ h => h) (Or.inl ⟨by rfl, ?_⟩) (hH3) ?_
            rotate_left
            · (intro wx hSw; obtain ⟨⟨⟨_, q0, q1, _, _⟩, _, _, _⟩, _, _, _, _, _⟩ := hSw; go_simp <;> with_reducible rfl)
            simp only [Act.put, List.setIfInBounds_toArray, List.set_cons_zero, List.set_cons_succ]
            refine wpAnyH_take (i := 5) (oi := { dst := some 28, op := _, type := _, pos := _, after := _, guard := _ }) (v := ?_) rfl (by kernel_rfl) (by kernel_rfl) (by kernel_rfl) (fun _ _ _ h => h) (Or.inl ⟨by rfl, ?_⟩) (hH3) ?_
            rotate_left
            · (intro wx hSw; obtain ⟨⟨⟨_, q0, q1, _, _⟩, _, _, _⟩, _, _, _, _, _⟩ := hSw; go_simp <;> with_reducible rfl)
            simp only [Act.put, List.setIfInBounds_toArray, List.set_cons_zero, List.set_cons_succ]
            refine wpAnyH_take (i := 6) (oi := { dst := some 29, op := _, type := _, pos := _, after := _, guard := _ }) (v := ?_) rfl (by kernel_rfl) (by kernel_rfl) (by kernel_rfl) (fun _ _ _ h => h) (Or.inl ⟨by rfl, ?_⟩) (hH3) ?_
            rotate_left
            · (intro wx hSw; obtain ⟨⟨⟨_, q0, q1, _, _⟩, _, _, _⟩, _, _, _, _, _⟩ := hSw; go_simp <;> with_reducible rfl)
            simp only [Act.put, List.setIfInBounds_toArray, List.set_cons_zero, List.set_cons_succ]
            -- behind it: go_wp2_with fail, then go_meet (a cut) or go_ret; the condition at the end: hH3
            refine wpAnyH_ready (rs := [8]) (by kernel_rfl) (by simp) ?_
            refine AllReadyH.cons (o := { dst := none, op := _, type := _, pos := _, after := _, guard := _ }) rfl (fun K hK => ?_) AllReadyH.nil
            go_simp
            have lo := hH2.var.lo
            have lzA := hH0.var.bx.lt
            have sA := hH0.but.size
            have ogA := fun g hg => (hH0.var.own.lt g hg).2
            have sb := bb.size
            have sz2 := hH2.but.size
            (try simp only [World.size_alloc, World.size_drew] at sb sA lzA ogA)
            have hyA : w.heap.size < wr.heap.size := by omega
            have hyz : wr.heap.size ≠ z := by omega
            have hyb : wr.heap.size < wa.heap.size := by have := ba.size; (try simp only [World.size_alloc, World.size_drew] at this); omega
            refine hK.out _ _ (hH3.store hyA hyz (fun g hg => by have := ogA g hg; omega) _ _) (fun hH50 => ?_)
            clear hK K
            refine wpAnyH_take (i := 9) (oi := { dst := some 6, op := _, type := _, pos := _, after := _, guard := _ }) (v := ?_) rfl (by kernel_rfl) (by kernel_rfl) (by kernel_rfl) (fun _ _ _ h => h) (Or.inl ⟨by rfl, ?_⟩) (hH50) ?_
            rotate_left
            · (intro wx hSw; obtain ⟨⟨⟨_, q0, q1, _, _⟩, _, _, _⟩, _, _, _, _, _⟩ := hSw; go_simp <;> with_reducible rfl)
            simp only [Act.put, List.setIfInBounds_toArray, List.set_cons_zero, List.set_cons_succ]
            refine wpAnyH_done (by kernel_rfl) ?_ _
            -- behind it: go_wp2_with fail, then go_meet (a cut) or go_ret; the condition at the end: hH50
            go_wp2_with fail
            go_meet
            refine ⟨_, K', a', n', cap', ok, rfl, rfl, hyz, YB.stored _ _, hH50, fun q => ?_⟩
            obtain ⟨M', ho, hn'⟩ := hok q
            have hgy : ∀ g, (Value.slice a' n' cap').ownBlock = some g → g ≠ wr.heap.size := fun g hg => by have := (ho.lt g hg).1; (try simp only [World.size_alloc, World.size_drew] at this); omega
            exact ⟨M', owns_awayH (owns_awayH (owns_monoH ho (by (try simp only [World.size_alloc, World.size_drew]); omega)) hgy 0 _) hgy 1 _, hn', fun g hg => by have := (ho.lt g hg).1; have := hH2.var.bx.lt; (try simp only [World.size_alloc, World.size_drew] at *); omega⟩
        case rest =>
          clear S0 NBH HPH S
          obtain ⟨y, K', a', n', cap', ok, rfl, rfl, hyz, hbx, hst, hok⟩ := hcut
          have ST := hide hst
          cases ok
          · clear hok hst hbx
            go_wp2_with fail
            go_roundw
            case rel => exact ⟨j - 1, K, a, n, cap, M, by omega, by go_num, hn, ST.out⟩
            case measure => simp [intOf]; omega
          · obtain ⟨M', ho, hn', hs⟩ := hok rfl
            have T := hide (hst.take (K' := K') ho hs)
            obtain ⟨yl, y0, y1, _, _⟩ := hbx
            obtain ⟨⟨⟨zl, z0, z1, f0, f1⟩, _, _, _⟩, _, _, _, _, _⟩ := hst
            clear hok ho
            go_wp2_with fail
            go_roundw
            case rel => exact ⟨j - 1, K', a', n', cap', M', by omega, by go_num, hn', T.out⟩
            case measure => simp [intOf]; omega
      · obtain rfl : j = 0 := by omega
        go_wp2_with fail
        refine (B24.out _ S.out.rd).mono ?_
        rintro e w5 ⟨u, rfl, u0, u1, hr5, hb5⟩
        have S5 := hide (S.out.turn hr5 hb5)
        clear hr5 hb5 S
        by_cases e0 : u = 0
        · have b0 : (u == 0) = true := by simp [e0]
          go_wp2_with fail
          refine (OFF.out _ S5.out.rd).mono ?_
          rintro e w6 ⟨v, rfl, hr6, hb6⟩
          have T6 := S5.out.turn hr6 hb6
          have F6 := hide ((T6.k v).fin (by omega) (.int .i64 v) (.slice a n cap))
          obtain ⟨⟨⟨_, c0, c1, f0, f1⟩, lo, _, _⟩, _, _, _, _, rx, ry, ⟨_, r0, r1, g0, g1⟩⟩ := T6
          have hne : ¬ z = w.heap.size := by omega
          have hne' : ¬ w.heap.size = z := by omega
          clear hr6 hb6
          go_wp2_with fail
          refine bodyPost_ret (v := .agg #[.int .i64 v, .slice a n cap]) ?_ rfl F6.out
          simp [results, Try.results22, go_sem, *]
        · have b0 : (u == 0) = false := by simp [e0]
          by_cases e1 : u = 1
          · have b1 : (u == 1) = true := by simp [e1]
            have NB5 := hide (NB.out w5.drew (S5.out.rd.stays (Below.drew (Below.refl _ _))))
            have c1 := S5.out.var.bx.c1
            go_upto_region 14 with fail
            refine wp_region_held_drew (S := fun wx => True) (by kernel_rfl) (trivial) (fun hH0 => ?_)
            refine wpAnyH_take (i := 0) (oi := { dst := some 41, op := _, type := _, pos := _, after := _, guard := _ }) (v := ?_) rfl (by kernel_rfl) (by kernel_rfl) (by kernel_rfl) (fun _ _ _ h => h) (Or.inl ⟨by rfl, ?_⟩) (hH0) ?_
            rotate_left
            · (intro wx hSw; obtain _ := hSw; go_simp <;> with_reducible rfl)
            simp only [Act.put, List.setIfInBounds_toArray, List.set_cons_zero, List.set_cons_succ]
            refine wpAnyH_take (i := 2) (oi := { dst := some 43, op := _, type := _, pos := _, after := _, guard := _ }) (v := ?_) rfl (by kernel_rfl) (by kernel_rfl) (by kernel_rfl) (fun _ _ _ h => h) (Or.inl ⟨by rfl, ?_⟩) (hH0) ?_
            rotate_left
            · (intro wx hSw; obtain _ := hSw; go_simp <;> with_reducible rfl)
            simp only [Act.put, List.setIfInBounds_toArray, List.set_cons_zero, List.set_cons_succ]
            -- behind it: go_wp2_with fail, then go_meet (a cut) or go_ret; the condition at the end: hH0
            refine wpAnyH_ready (rs := [1, 3]) (by kernel_rfl) (by simp) ?_
            refine AllReadyH.cons (o := { dst := some 42, op := _, type := _, pos := _, after := _, guard := _ }) rfl (fun KK hK => ?_) (AllReadyH.cons (o := { dst := some 44, op := _, type := _, pos := _, after := _, guard := _ }) rfl (fun KK hK => ?_) AllReadyH.nil)
            · go_simp
              refine hK.out _ _ trivial (fun hH21 => ?_)
              clear hK KK
              refine wpAnyH_ready (rs := [3]) (by kernel_rfl) (by simp) ?_
              refine AllReadyH.cons (o := { dst := some 44, op := _, type := _, pos := _, after := _, guard := _ }) rfl (fun KK hK => ?_) AllReadyH.nil
              go_simp
              refine (NB5.out).mono ?_
              rintro e w6 ⟨p, q, rfl, r6, b6⟩
              dsimp only
              have T6 := S5.out.below (Below.drew (Below.refl _ _))
              have T6 := T6.turn r6 b6
              have k1 := T6.var.bx.c1
              have k2 := (T6.var.bx.alloc (.cells #[.int .i64 p, .int .i64 q] 32)).c1
              refine hK.out _ _ trivial (fun hH22 => ?_)
              clear hK KK
              refine wpAnyH_ready (rs := [4]) (by kernel_rfl) (by simp) ?_
              refine AllReadyH.cons (o := { dst := some 45, op := _, type := _, pos := _, after := _, guard := _ }) rfl (fun KK hK => ?_) AllReadyH.nil
              go_simp
              refine hK.out _ _ trivial (fun hH23 => ?_)
              clear hK KK
              have T6H := hide T6
              have s6 := T6.but.size
              have hown := hide (T6.var.own.alloc (.cells #[.int .i64 p, .int .i64 q] 32))
              clear T6
              generalize hNV : nlv M n = NV at hown
              have HNV := hide hNV
              clear hNV
              refine wpAnyH_ready (rs := [5]) (by kernel_rfl) (by simp) ?_
              refine AllReadyH.cons (o := { dst := some 46, op := _, type := _, pos := _, after := _, guard := _ }) rfl (fun KK hK => ?_) AllReadyH.nil
              refine step_append_lies _ rfl _ _ 24 rfl (w.heap.size + 1) 32 i0 _ 2 16 Try.underlying24 HI.out hz0 hz1 hz2 rfl (by decide) _ _ _ rfl hown.out ⟨_, 0, none⟩ 1 1 [.int .i64 p, .int .i64 q] rfl rfl (two_newN _ _ _ _) (two_oneH _ _) (by omega) (by unfold maxLen; omega) (by omega) (by have := T6H.out.var.lo; have := T6H.out.var.bx.lt; simp; omega) _ rfl ?_
              intro g8 c8 w8 hown8 hgrow hat8 hglt
              rw [← HNV.out] at hown8
              obtain ⟨⟨_, d0, d1, df0, df1⟩, ⟨rx, ry, ⟨_, r0, r1, g0, g1⟩⟩, T8⟩ := T6H.out.grow hown8 hgrow (by rcases hat8 with h | h; exact .inl h; exact .inr (by simp [h]))
              have lo := T6H.out.var.lo
              have F8 := hide (T8.fin (by omega) (.int .i64 K) (.slice (some ⟨g8, 0, none⟩) (n + 1) c8))
              clear T8 hown8 hgrow hat8 hown T6H
              refine hK.out _ _ trivial (fun hH24 => ?_)
              clear hK KK
              simp only [Act.put, List.setIfInBounds_toArray, List.set_cons_zero, List.set_cons_succ]
              refine wpAnyH_take (i := 6) (oi := { dst := some 47, op := _, type := _, pos := _, after := _, guard := _ }) (v := ?_) rfl (by kernel_rfl) (by kernel_rfl) (by kernel_rfl) (fun _ _ _ h => h) (Or.inl ⟨by rfl, ?_⟩) (trivial) ?_
              rotate_left
              · (intro wx hSw; go_simp <;> with_reducible rfl)
              simp only [Act.put, List.setIfInBounds_toArray, List.set_cons_zero, List.set_cons_succ]
              refine wpAnyH_ready (rs := [7]) (by kernel_rfl) (by simp) ?_
              refine AllReadyH.cons (o := { dst := none, op := _, type := _, pos := _, after := _, guard := _ }) rfl (fun KK hK => ?_) AllReadyH.nil
              go_simp
              refine hK.out _ _ trivial (fun hH25 => ?_)
              clear hK KK
              refine wpAnyH_done (by kernel_rfl) ?_ _
              have hne : ¬ z = w.heap.size := by omega
              have hne' : ¬ w.heap.size = z := by omega
              go_wp2_with fail
              refine bodyPost_ret (v := .agg #[.int .i64 K, .slice (some ⟨g8, 0, none⟩) (n + 1) c8]) ?_ rfl F8.out
              simp [results, Try.results22, go_sem, *]
            · go_simp
              refine (NB5.out).mono ?_
              rintro e w6 ⟨p, q, rfl, r6, b6⟩
              dsimp only
              have T6 := S5.out.below (Below.drew (Below.refl _ _))
              have T6 := T6.turn r6 b6
              have k1 := T6.var.bx.c1
              have k2 := (T6.var.bx.alloc (.cells #[.int .i64 p, .int .i64 q] 32)).c1
              refine hK.out _ _ trivial (fun hH22 => ?_)
              clear hK KK
              refine wpAnyH_ready (rs := [1, 4]) (by kernel_rfl) (by simp) ?_
              refine AllReadyH.cons (o := { dst := some 42, op := _, type := _, pos := _, after := _, guard := _ }) rfl (fun KK hK => ?_) (AllReadyH.cons (o := { dst := some 45, op := _, type := _, pos := _, after := _, guard := _ }) rfl (fun KK hK => ?_) AllReadyH.nil)
              · go_simp
                refine hK.out _ _ trivial (fun hH21 => ?_)
                clear hK KK
                refine wpAnyH_ready (rs := [4]) (by kernel_rfl) (by simp) ?_
                refine AllReadyH.cons (o := { dst := some 45, op := _, type := _, pos := _, after := _, guard := _ }) rfl (fun KK hK => ?_) AllReadyH.nil
                go_simp
                refine hK.out _ _ trivial (fun hH23 => ?_)
                clear hK KK
                have T6H := hide T6
                have s6 := T6.but.size
                have hown := hide (T6.var.own.alloc (.cells #[.int .i64 p, .int .i64 q] 32))
                clear T6
                generalize hNV : nlv M n = NV at hown
                have HNV := hide hNV
                clear hNV
                refine wpAnyH_ready (rs := [5]) (by kernel_rfl) (by simp) ?_
                refine AllReadyH.cons (o := { dst := some 46, op := _, type := _, pos := _, after := _, guard := _ }) rfl (fun KK hK => ?_) AllReadyH.nil
                refine step_append_lies _ rfl _ _ 24 rfl (w.heap.size + 1) 32 i0 _ 2 16 Try.underlying24 HI.out hz0 hz1 hz2 rfl (by decide) _ _ _ rfl hown.out ⟨_, 0, none⟩ 1 1 [.int .i64 p, .int .i64 q] rfl rfl (two_newN _ _ _ _) (two_oneH _ _) (by omega) (by unfold maxLen; omega) (by omega) (by have := T6H.out.var.lo; have := T6H.out.var.bx.lt; simp; omega) _ rfl ?_
                intro g8 c8 w8 hown8 hgrow hat8 hglt
                rw [← HNV.out] at hown8
                obtain ⟨⟨_, d0, d1, df0, df1⟩, ⟨rx, ry, ⟨_, r0, r1, g0, g1⟩⟩, T8⟩ := T6H.out.grow hown8 hgrow (by rcases hat8 with h | h; exact .inl h; exact .inr (by simp [h]))
                have lo := T6H.out.var.lo
                have F8 := hide (T8.fin (by omega) (.int .i64 K) (.slice (some ⟨g8, 0, none⟩) (n + 1) c8))
                clear T8 hown8 hgrow hat8 hown T6H
                refine hK.out _ _ trivial (fun hH24 => ?_)
                clear hK KK
                simp only [Act.put, List.setIfInBounds_toArray, List.set_cons_zero, List.set_cons_succ]
                refine wpAnyH_take (i := 6) (oi := { dst := some 47, op := _, type := _, pos := _, after := _, guard := _ }) (v := ?_) rfl (by kernel_rfl) (by kernel_rfl) (by kernel_rfl) (fun _ _ _ h => h) (Or.inl ⟨by rfl, ?_⟩) (trivial) ?_
                rotate_left
                · (intro wx hSw; go_simp <;> with_reducible rfl)
                simp only [Act.put, List.setIfInBounds_toArray, List.set_cons_zero, List.set_cons_succ]
                refine wpAnyH_ready (rs := [7]) (by kernel_rfl) (by simp) ?_
                refine AllReadyH.cons (o := { dst := none, op := _, type := _, pos := _, after := _, guard := _ }) rfl (fun KK hK => ?_) AllReadyH.nil
                go_simp
                refine hK.out _ _ trivial (fun hH25 => ?_)
                clear hK KK
                refine wpAnyH_done (by kernel_rfl) ?_ _
                have hne : ¬ z = w.heap.size := by omega
                have hne' : ¬ w.heap.size = z := by omega
                go_wp2_with fail
                refine bodyPost_ret (v := .agg #[.int .i64 K, .slice (some ⟨g8, 0, none⟩) (n + 1) c8]) ?_ rfl F8.out
                simp [results, Try.results22, go_sem, *]
              · go_simp
                refine hK.out _ _ trivial (fun hH23 => ?_)
                clear hK KK
                refine wpAnyH_ready (rs := [1]) (by kernel_rfl) (by simp) ?_
                refine AllReadyH.cons (o := { dst := some 42, op := _, type := _, pos := _, after := _, guard := _ }) rfl (fun KK hK => ?_) AllReadyH.nil
                go_simp
                refine hK.out _ _ trivial (fun hH21 => ?_)
                clear hK KK
                have T6H := hide T6
                have s6 := T6.but.size
                have hown := hide (T6.var.own.alloc (.cells #[.int .i64 p, .int .i64 q] 32))
                clear T6
                generalize hNV : nlv M n = NV at hown
                have HNV := hide hNV
                clear hNV
                refine wpAnyH_ready (rs := [5]) (by kernel_rfl) (by simp) ?_
                refine AllReadyH.cons (o := { dst := some 46, op := _, type := _, pos := _, after := _, guard := _ }) rfl (fun KK hK => ?_) AllReadyH.nil
                refine step_append_lies _ rfl _ _ 24 rfl (w.heap.size + 1) 32 i0 _ 2 16 Try.underlying24 HI.out hz0 hz1 hz2 rfl (by decide) _ _ _ rfl hown.out ⟨_, 0, none⟩ 1 1 [.int .i64 p, .int .i64 q] rfl rfl (two_newN _ _ _ _) (two_oneH _ _) (by omega) (by unfold maxLen; omega) (by omega) (by have := T6H.out.var.lo; have := T6H.out.var.bx.lt; simp; omega) _ rfl ?_
                intro g8 c8 w8 hown8 hgrow hat8 hglt
                rw [← HNV.out] at hown8
                obtain ⟨⟨_, d0, d1, df0, df1⟩, ⟨rx, ry, ⟨_, r0, r1, g0, g1⟩⟩, T8⟩ := T6H.out.grow hown8 hgrow (by rcases hat8 with h | h; exact .inl h; exact .inr (by simp [h]))
                have lo := T6H.out.var.lo
                have F8 := hide (T8.fin (by omega) (.int .i64 K) (.slice (some ⟨g8, 0, none⟩) (n + 1) c8))
                clear T8 hown8 hgrow hat8 hown T6H
                refine hK.out _ _ trivial (fun hH24 => ?_)
                clear hK KK
                simp only [Act.put, List.setIfInBounds_toArray, List.set_cons_zero, List.set_cons_succ]
                refine wpAnyH_take (i := 6) (oi := { dst := some 47, op := _, type := _, pos := _, after := _, guard := _ }) (v := ?_) rfl (by kernel_rfl) (by kernel_rfl) (by kernel_rfl) (fun _ _ _ h => h) (Or.inl ⟨by rfl, ?_⟩) (trivial) ?_
                rotate_left
                · (intro wx hSw; go_simp <;> with_reducible rfl)
                simp only [Act.put, List.setIfInBounds_toArray, List.set_cons_zero, List.set_cons_succ]
                refine wpAnyH_ready (rs := [7]) (by kernel_rfl) (by simp) ?_
                refine AllReadyH.cons (o := { dst := none, op := _, type := _, pos := _, after := _, guard := _ }) rfl (fun KK hK => ?_) AllReadyH.nil
                go_simp
                refine hK.out _ _ trivial (fun hH25 => ?_)
                clear hK KK
                refine wpAnyH_done (by kernel_rfl) ?_ _
                have hne : ¬ z = w.heap.size := by omega
                have hne' : ¬ w.heap.size = z := by omega
                go_wp2_with fail
                refine bodyPost_ret (v := .agg #[.int .i64 K, .slice (some ⟨g8, 0, none⟩) (n + 1) c8]) ?_ rfl F8.out
                simp [results, Try.results22, go_sem, *]
          · have b1 : (u == 1) = false := by simp [e1]
            have F6 := hide (S5.out.fin (by omega) (.int .i64 K) (.slice a n cap))
            obtain ⟨⟨⟨_, c0, c1, f0, f1⟩, lo, _, _⟩, _, _, _, _, rx, ry, ⟨_, r0, r1, g0, g1⟩⟩ := S5.out
            have hne : ¬ z = w.heap.size := by omega
            have hne' : ¬ w.heap.size = z := by omega
            go_wp2_with fail
            refine bodyPost_ret (v := .agg #[.int .i64 K, .slice a n cap]) ?_ rfl F6.out
            simp [results, Try.results22, go_sem, *]
  · go_wp2_with fail
    refine (B2.out _ S2.out.rd).mono ?_
    rintro e w3 ⟨x3, rfl, _, _, hr3, hb3⟩
    have T3 := S2.out.turn hr3 hb3
    have S3 := hide (T3.k (19 + x3))
    obtain ⟨⟨⟨_, c0, c1, f0, f1⟩, _, _, _⟩, _, _, _, _, _⟩ := T3
    clear hr3 hb3
    go_wp2_with fail
    clear c0 c1 f0 f1
    refine (SZ.out _ S3.out.rd).mono ?_
    rintro e w4 ⟨sz, rfl, s0, s1, hr4, hb4⟩
    have S4 := hide (S3.out.turn hr4 hb4)
    clear hr4 hb4 S3 S2
    go_wp2_with fail
    go_loopw [4] (fun i wr => ∃ (j : Nat) (K : Int) (a : Option Addr) (n cap : Nat) (M : NL), j ≤ 24 ∧ i = .int .i64 j ∧ n ≤ 20 ∧ HSt B w rb ca cn cc z K a n cap M wr) (fun i _ => (intOf i).toNat)
    case atStart => exact ⟨sz.toNat, _, _, _, _, _, by omega, by rw [Int.toNat_of_nonneg (by omega)], by omega, S4.out⟩
    case round =>
      clear S4
      obtain ⟨j, K, a, n, cap, M, hj, rfl, hn, hS⟩ := hrel
      have S := hide hS
      clear hS
      by_cases h0 : 0 < j
      · have h0' : (0 : Int) < (j : Int) := by omega
        have S0 := hide (S.out.below (Below.drew (Below.refl _ _)))
        have NBH := hide (fun W (h : HSt B w rb ca cn cc z K a n cap M W) => NB.out W h.rd)
        have HPH := hide (fun W x y (h : HSt B w rb ca cn cc z K a n cap M W) => sPutR K a n cap _ _ x y W (owns_prow h.var.own).1)
        go_upto_region 7 with fail
        go_cut [5, 6] from 19 to 31 (fun s5 s6 wx => NextR B w rb ca cn cc z K a n cap M s5 s6 wx)
        case first =>
          refine wp_region_held_drew (S := fun wx => HSt B w rb ca cn cc z K a n cap M wx) (by kernel_rfl) (S0.out) (fun hH0 => ?_)
          refine wpAnyH_take (i := 0) (oi := { dst := some 24, op := _, type := _, pos := _, after := _, guard := _ }) (v := ?_) rfl (by kernel_rfl) (by kernel_rfl) (by kernel_rfl) (fun _ _ _ h => h) (Or.inl ⟨by rfl, ?_⟩) (hH0) ?_
          rotate_left
          · (intro wx hSw; obtain ⟨⟨⟨_, q0, q1, _, _⟩, _, _, _⟩, _, _, _, _, _⟩ := hSw; go_simp <;> with_reducible rfl)
          simp only [Act.put, List.setIfInBounds_toArray, List.set_cons_zero, List.set_cons_succ]
          refine wpAnyH_take (i := 1) (oi := { dst := some 25, op := _, type := _, pos := _, after := _, guard := _ }) (v := ?_) rfl (by kernel_rfl) (by kernel_rfl) (by kernel_rfl) (fun _ _ _ h => h) (Or.inl ⟨by rfl, ?_⟩) (hH0) ?_
          rotate_left
          · (intro wx hSw; obtain ⟨⟨⟨_, q0, q1, _, _⟩, _, _, _⟩, _, _, _, _, _⟩ := hSw; go_simp <;> with_reducible rfl)
          simp only [Act.put, List.setIfInBounds_toArray, List.set_cons_zero, List.set_cons_succ]
          -- behind it: go_wp2_with fail, then go_meet (a cut) or go_ret; the condition at the end: hH0
          refine wpAnyH_ready (rs := [2, 7]) (by kernel_rfl) (by simp) ?_
          refine AllReadyH.cons (o := { dst := some 26, op := _, type := _, pos := _, after := _, guard := _ }) rfl (fun K hK => ?_) (AllReadyH.cons (o := { dst := some 5, op := _, type := _, pos := _, after := _, guard := _ }) rfl (fun K hK => ?_) AllReadyH.nil)
          · go_simp
            refine (NBH.out _ hH0).mono ?_
            rintro e wa ⟨xa, ya, rfl, ra, ba⟩
            dsimp only
            refine hK.out _ _ (hH0.turn ra ba) (fun hH1 => ?_)
            clear hK K
            refine wpAnyH_ready (rs := [3, 7]) (by kernel_rfl) (by simp) ?_
            refine AllReadyH.cons (o := { dst := some 27, op := _, type := _, pos := _, after := _, guard := _ }) rfl (fun K hK => ?_) (AllReadyH.cons (o := { dst := some 5, op := _, type := _, pos := _, after := _, guard := _ }) rfl (fun K hK => ?_) AllReadyH.nil)
            · go_simp
              refine (HPH.out _ _ _ hH1).mono ?_
              rintro e wb ⟨K', a', n', cap', ok, rfl, hok, bb⟩
              dsimp only
              refine hK.out _ _ (hH1.below bb) (fun hH2 => ?_)
              clear hK K
              refine wpAnyH_take (i := 4) (oi := { dst := some 23, op := _, type := _, pos := _, after := _, guard := _ }) (v := ?_) rfl (by kernel_rfl) (by kernel_rfl) (by kernel_rfl) (fun _ _ _ h => h) (Or.inl ⟨by rfl, ?_⟩) (hH2) ?_
              rotate_left
              · (intro wx hSw; obtain ⟨⟨⟨_, q0, q1, _, _⟩, _, _, _⟩, _, _, _, _, _⟩ := hSw; go_simp <;> with_reducible rfl)
              simp only [Act.put, List.setIfInBounds_toArray, List.set_cons_zero, List.set_cons_succ]
              refine wpAnyH_take (i := 5) (oi := { dst := some 28, op := _, type := _, pos := _, after := _, guard := _ }) (v := ?_) rfl (by kernel_rfl) (by kernel_rfl) (by kernel_rfl) (fun _ _ _ h => h) (Or.inl ⟨by rfl, ?_⟩) (hH2) ?_
              rotate_left
              · (intro wx hSw; obtain ⟨⟨⟨_, q0, q1, _, _⟩, _, _, _⟩, _, _, _, _, _⟩ := hSw; go_simp <;> with_reducible rfl)
              simp only [Act.put, List.setIfInBounds_toArray, List.set_cons_zero, List.set_cons_succ]
              refine wpAnyH_take (i := 6) (oi := { dst := some 29, op := _, type := _, pos := _, after := _, guard := _ }) (v := ?_) rfl (by kernel_rfl) (by kernel_rfl) (by kernel_rfl) (fun _ _ _ h => h) (Or.inl ⟨by rfl, ?_⟩) (hH2) ?_
              rotate_left
              · (intro wx hSw; obtain ⟨⟨⟨_, q0, q1, _, _⟩, _, _, _⟩, _, _, _, _, _⟩ := hSw; go_simp <;> with_reducible rfl)
              simp only [Act.put, List.setIfInBounds_toArray, List.set_cons_zero, List.set_cons_succ]
              refine wpAnyH_ready (rs := [7]) (by kernel_rfl) (by simp) ?_
              refine AllReadyH.cons (o := { dst := some 5, op := _, type := _, pos := _, after := _, guard := _ }) rfl (fun K hK => ?_) AllReadyH.nil
              go_simp
              refine hK.out _ _ (HSt.below hH2 (balloc (Below.refl _ _) _)) (fun hH13 => ?_)
              clear hK K
              -- behind it: go_wp2_with fail, then go_meet (a cut) or go_ret; the condition at the end: hH13
              refine wpAnyH_ready (rs := [8]) (by kernel_rfl) (by simp) ?_
              refine AllReadyH.cons (o := { dst := none, op := _, type := _, pos := _, after := _, guard := _ }) rfl (fun K hK => ?_) AllReadyH.nil
              go_simp
              refine hK.out _ _ (hH2.below (balloc (Below.refl _ _) _)) (fun hH50 => ?_)
              clear hK K
              refine wpAnyH_take (i := 9) (oi := { dst := some 6, op := _, type := _, pos := _, after := _, guard := _ }) (v := ?_) rfl (by kernel_rfl) (by kernel_rfl) (by kernel_rfl) (fun _ _ _ h => h) (Or.inl ⟨by rfl, ?_⟩) (hH50) ?_
              rotate_left
              · (intro wx hSw; obtain ⟨⟨⟨_, q0, q1, _, _⟩, _, _, _⟩, _, _, _, _, _⟩ := hSw; go_simp <;> with_reducible rfl)
              simp only [Act.put, List.setIfInBounds_toArray, List.set_cons_zero, List.set_cons_succ]
              refine wpAnyH_done (by kernel_rfl) ?_ _
              -- behind it: go_wp2_with fail, then go_meet (a cut) or go_ret; the condition at the end: hH50
              go_wp2_with fail
              go_meet
              have lo := hH2.var.lo
              have lz := hH2.var.bx.lt
              have sw := hH1.but.size
              have sb := bb.size
              have lza := hH1.var.bx.lt
              refine ⟨_, K', a', n', cap', ok, rfl, rfl, by omega, Bx.new _ _ _ _, hH50, fun q => ?_⟩
              obtain ⟨M', ho, hn'⟩ := hok q
              exact ⟨M', (owns_monoH ho (by omega)).alloc _, hn', fun g hg => by have := (ho.lt g hg).1; omega⟩
            · go_simp
              refine hK.out _ _ (hH1.below (balloc (Below.refl _ _) _)) (fun hH2 => ?_)
              clear hK K
              refine wpAnyH_ready (rs := [3]) (by kernel_rfl) (by simp) ?_
              refine AllReadyH.cons (o := { dst := some 27, op := _, type := _, pos := _, after := _, guard := _ }) rfl (fun K hK => ?_) AllReadyH.nil
              go_simp
              refine (HPH.out _ _ _ hH2).mono ?_
              rintro e wb ⟨K', a', n', cap', ok, rfl, hok, bb⟩
              dsimp only
              refine hK.out _ _ (hH2.below bb) (fun hH3 => ?_)
              clear hK K
              have YB := (Bx.new wa (.int .i64 0) (.slice none 0 0) 26).below bb
              obtain ⟨yl, y0, y1, yf0, yf1⟩ := id YB
              refine wpAnyH_take (i := 4) (oi := { dst := some 23, op := _, type := _, pos := _, after := _, guard := _ }) (v := ?_) rfl (by kernel_rfl) (by kernel_rfl) (by kernel_rfl) (fun _ _ _ h => h) (Or.inl ⟨by rfl, ?_⟩) (hH3) ?_
              rotate_left
              · (intro wx hSw; obtain ⟨⟨⟨_, q0, q1, _, _⟩, _, _, _⟩, _, _, _, _, _⟩ := hSw; go_simp <;> with_reducible rfl)
              simp only [Act.put, List.setIfInBounds_toArray, List.set_cons_zero, List.set_cons_succ]
              refine wpAnyH_take (i := 5) (oi := { dst := some 28, op := _, type := _, pos := _, after := _, guard := _ }) (v := ?_) rfl (by kernel_rfl) (by kernel_rfl) (by kernel_rfl) (fun _ _ _ h => h) (Or.inl ⟨by rfl, ?_⟩) (hH3) ?_
              rotate_left
              · (intro wx hSw; obtain ⟨⟨⟨_, q0, q1, _, _⟩, _, _, _⟩, _, _, _, _, _⟩ := hSw; go_simp <;> with_reducible rfl)
              simp only [Act.put, List.setIfInBounds_toArray, List.set_cons_zero, List.set_cons_succ]
              refine wpAnyH_take (i := 6) (oi := { dst := some 29, op := _, type := _, pos := _, after := _, guard := _ }) (v := ?_) rfl (by kernel_rfl) (by kernel_rfl) (by kernel_rfl) (fun _ _ _ h => h) (Or.inl ⟨by rfl, ?_⟩) (hH3) ?_
              rotate_left
              · (intro wx hSw; obtain ⟨⟨⟨_, q0, q1, _, _⟩, _, _, _⟩, _, _, _, _, _⟩ := hSw; go_simp <;> with_reducible rfl)
              simp only [Act.put, List.setIfInBounds_toArray, List.set_cons_zero, List.set_cons_succ]
              -- behind it: go_wp2_with fail, then go_meet (a cut) or go_ret; the condition at the end: hH3
              refine wpAnyH_ready (rs := [8]) (by kernel_rfl) (by simp) ?_
              refine AllReadyH.cons (o := { dst := none, op := _, type := _, pos := _, after := _, guard := _ }) rfl (fun K hK => ?_) AllReadyH.nil
              go_simp
              have lo := hH2.var.lo
              have lzA := hH1.var.bx.lt
              have sA := hH1.but.size
              have ogA := fun g hg => (hH1.var.own.lt g hg).2
              have sb := bb.size
              have sz2 := hH2.but.size
              (try simp only [World.size_alloc, World.size_drew] at sb sA lzA ogA)
              have hyA : w.heap.size < wa.heap.size := by omega
              have hyz : wa.heap.size ≠ z := by omega
              have hyb : wa.heap.size < (wa.alloc (.cells #[.int .i64 0, .slice none 0 0] 26)).heap.size := by simp
              refine hK.out _ _ (hH3.store hyA hyz (fun g hg => by have := ogA g hg; omega) _ _) (fun hH50 => ?_)
              clear hK K
              refine wpAnyH_take (i := 9) (oi := { dst := some 6, op := _, type := _, pos := _, after := _, guard := _ }) (v := ?_) rfl (by kernel_rfl) (by kernel_rfl) (by kernel_rfl) (fun _ _ _ h => h) (Or.inl ⟨by rfl, ?_⟩) (hH50) ?_
              rotate_left
              · (intro wx hSw; obtain ⟨⟨⟨_, q0, q1, _, _⟩, _, _, _⟩, _, _, _, _, _⟩ := hSw; go_simp <;> with_reducible rfl)
              simp only [Act.put, List.setIfInBounds_toArray, List.set_cons_zero, List.set_cons_succ]
              refine wpAnyH_done (by kernel_rfl) ?_ _
              -- behind it: go_wp2_with fail, then go_meet (a cut) or go_ret; the condition at the end: hH50
              go_wp2_with fail
              go_meet
              refine ⟨_, K', a', n', cap', ok, rfl, rfl, hyz, YB.stored _ _, hH50, fun q => ?_⟩
              obtain ⟨M', ho, hn'⟩ := hok q
              have hgy : ∀ g, (Value.slice a' n' cap').ownBlock = some g → g ≠ wa.heap.size := fun g hg => by have := (ho.lt g hg).1; (try simp only [World.size_alloc, World.size_drew] at this); omega
              exact ⟨M', owns_awayH (owns_awayH (owns_monoH ho (by (try simp only [World.size_alloc, World.size_drew]); omega)) hgy 0 _) hgy 1 _, hn', fun g hg => by have := (ho.lt g hg).1; have := hH2.var.bx.lt; (try simp only [World.size_alloc, World.size_drew] at *); omega⟩
          · go_simp
            refine hK.out _ _ (hH0.below (balloc (Below.refl _ _) _)) (fun hH1 => ?_)
            clear hK K
            refine wpAnyH_ready (rs := [2]) (by kernel_rfl) (by simp) ?_
            refine AllReadyH.cons (o := { dst := some 26, op := _, type := _, pos := _, after := _, guard := _ }) rfl (fun K hK => ?_) AllReadyH.nil
            go_simp
            refine (NBH.out _ hH1).mono ?_
            rintro e wa ⟨xa, ya, rfl, ra, ba⟩
            dsimp only
            refine hK.out _ _ (hH1.turn ra ba) (fun hH2 => ?_)
            clear hK K
            refine wpAnyH_ready (rs := [3]) (by kernel_rfl) (by simp) ?_
            refine AllReadyH.cons (o := { dst := some 27, op := _, type := _, pos := _, after := _, guard := _ }) rfl (fun K hK => ?_) AllReadyH.nil
            go_simp
            refine (HPH.out _ _ _ hH2).mono ?_
            rintro e wb ⟨K', a', n', cap', ok, rfl, hok, bb⟩
            dsimp only
            refine hK.out _ _ (hH2.below bb) (fun hH3 => ?_)
            clear hK K
            have rlw := hH0.rd.lt
            have YB : Bx wb wr.heap.size (.int .i64 0) (.slice none 0 0) := ((Bx.new wr.drew (.int .i64 0) (.slice none 0 0) 26).but ba (by omega)).below bb
            obtain ⟨yl, y0, y1, yf0, yf1⟩ := id YB
            refine wpAnyH_take (i := 4) (oi := { dst := some 23, op := _, type := _, pos := _, after := _, guard := _ }) (v := ?_) rfl (by kernel_rfl) (by kernel_rfl) (by kernel_rfl) (fun _ _ _ h => h) (Or.inl ⟨by rfl, ?_⟩) (hH3) ?_
            rotate_left
            · (intro wx hSw; obtain ⟨⟨⟨_, q0, q1, _, _⟩, _, _, _⟩, _, _, _, _, _⟩ := hSw; go_simp <;> with_reducible rfl)
            simp only [Act.put, List.setIfInBounds_toArray, List.set_cons_zero, List.set_cons_succ]
            refine wpAnyH_take (i := 5) (oi := { dst := some 28, op := _, type := _, pos := _, after := _, guard := _ }) (v := ?_) rfl (by kernel_rfl) (by kernel_rfl) (by kernel_rfl) (fun _ _ _ h => h) (Or.inl ⟨by rfl, ?_⟩) (hH3) ?_
            rotate_left
            · (intro wx hSw; obtain ⟨⟨⟨_, q0, q1, _, _⟩, _, _, _⟩, _, _, _, _, _⟩ := hSw; go_simp <;> with_reducible rfl)
            simp only [Act.put, List.setIfInBounds_toArray, List.set_cons_zero, List.set_cons_succ]
            refine wpAnyH_take (i := 6) (oi := { dst := some 29, op := _, type := _, pos := _, after := _, guard := _ }) (v := ?_) rfl (by kernel_rfl) (by kernel_rfl) (by kernel_rfl) (fun _ _ _ h => h) (Or.inl ⟨by rfl, ?_⟩) (hH3) ?_
            rotate_left
            · (intro wx hSw; obtain ⟨⟨⟨_, q0, q1, _, _⟩, _, _, _⟩, _, _, _, _, _⟩ := hSw; go_simp <;> with_reducible rfl)
            simp only [Act.put, List.setIfInBounds_toArray, List.set_cons_zero, List.set_cons_succ]
            -- behind it: go_wp2_with fail, then go_meet (a cut) or go_ret; the condition at the end: hH3
            refine wpAnyH_ready (rs := [8]) (by kernel_rfl) (by simp) ?_
            refine AllReadyH.cons (o := { dst := none, op := _, type := _, pos := _, after := _, guard := _ }) rfl (fun K hK => ?_) AllReadyH.nil
            go_simp
            have lo := hH2.var.lo
            have lzA := hH0.var.bx.lt
            have sA := hH0.but.size
            have ogA := fun g hg => (hH0.var.own.lt g hg).2
            have sb := bb.size
            have sz2 := hH2.but.size
            (try simp only [World.size_alloc, World.size_drew] at sb sA lzA ogA)
            have hyA : w.heap.size < wr.heap.size := by omega
            have hyz : wr.heap.size ≠ z := by omega
            have hyb : wr.heap.size < wa.heap.size := by have := ba.size; (try simp only [World.size_alloc, World.size_drew] at this); omega
            refine hK.out _ _ (hH3.store hyA hyz (fun g hg => by have := ogA g hg; omega) _ _) (fun hH50 => ?_)
            clear hK K
            refine wpAnyH_take (i := 9) (oi := { dst := some 6, op := _, type := _, pos := _, after := _, guard := _ }) (v := ?_) rfl (by kernel_rfl) (by kernel_rfl) (by kernel_rfl) (fun _ _ _ h => h) (Or.inl ⟨by rfl, ?_⟩) (hH50) ?_
            rotate_left
            · (intro wx hSw; obtain ⟨⟨⟨_, q0, q1, _, _⟩, _, _, _⟩, _, _, _, _, _⟩ := hSw; go_simp <;> with_reducible rfl)
            simp only [Act.put, List.setIfInBounds_toArray, List.set_cons_zero, List.set_cons_succ]
            refine wpAnyH_done (by kernel_rfl) ?_ _
            -- behind it: go_wp2_with fail, then go_meet (a cut) or go_ret; the condition at the end: hH50
            go_wp2_with fail
            go_meet
            refine ⟨_, K', a', n', cap', ok, rfl, rfl, hyz, YB.stored _ _, hH50, fun q => ?_⟩
            obtain ⟨M', ho, hn'⟩ := hok q
            have hgy : ∀ g, (Value.slice a' n' cap').ownBlock = some g → g ≠ wr.heap.size := fun g hg => by have := (ho.lt g hg).1; (try simp only [World.size_alloc, World.size_drew] at this); omega
            exact ⟨M', owns_awayH (owns_awayH (owns_monoH ho (by (try simp only [World.size_alloc, World.size_drew]); omega)) hgy 0 _) hgy 1 _, hn', fun g hg => by have := (ho.lt g hg).1; have := hH2.var.bx.lt; (try simp only [World.size_alloc, World.size_drew] at *); omega⟩
        case rest =>
          clear S0 NBH HPH S
          obtain ⟨y, K', a', n', cap', ok, rfl, rfl, hyz, hbx, hst, hok⟩ := hcut
          have ST := hide hst
          cases ok
          · clear hok hst hbx
            go_wp2_with fail
            go_roundw
            case rel => exact ⟨j - 1, K, a, n, cap, M, by omega, by go_num, hn, ST.out⟩
            case measure => simp [intOf]; omega
          · obtain ⟨M', ho, hn', hs⟩ := hok rfl
            have T := hide (hst.take (K' := K') ho hs)
            obtain ⟨yl, y0, y1, _, _⟩ := hbx
            obtain ⟨⟨⟨zl, z0, z1, f0, f1⟩, _, _, _⟩, _, _, _, _, _⟩ := hst
            clear hok ho
            go_wp2_with fail
            go_roundw
            case rel => exact ⟨j - 1, K', a', n', cap', M', by omega, by go_num, hn', T.out⟩
            case measure => simp [intOf]; omega
      · obtain rfl : j = 0 := by omega
        go_wp2_with fail
        refine (B24.out _ S.out.rd).mono ?_
        rintro e w5 ⟨u, rfl, u0, u1, hr5, hb5⟩
        have S5 := hide (S.out.turn hr5 hb5)
        clear hr5 hb5 S
        by_cases e0 : u = 0
        · have b0 : (u == 0) = true := by simp [e0]
          go_wp2_with fail
          refine (OFF.out _ S5.out.rd).mono ?_
          rintro e w6 ⟨v, rfl, hr6, hb6⟩
          have T6 := S5.out.turn hr6 hb6
          have F6 := hide ((T6.k v).fin (by omega) (.int .i64 v) (.slice a n cap))
          obtain ⟨⟨⟨_, c0, c1, f0, f1⟩, lo, _, _⟩, _, _, _, _, rx, ry, ⟨_, r0, r1, g0, g1⟩⟩ := T6
          have hne : ¬ z = w.heap.size := by omega
          have hne' : ¬ w.heap.size = z := by omega
          clear hr6 hb6
          go_wp2_with fail
          refine bodyPost_ret (v := .agg #[.int .i64 v, .slice a n cap]) ?_ rfl F6.out
          simp [results, Try.results22, go_sem, *]
        · have b0 : (u == 0) = false := by simp [e0]
          by_cases e1 : u = 1
          · have b1 : (u == 1) = true := by simp [e1]
            have NB5 := hide (NB.out w5.drew (S5.out.rd.stays (Below.drew (Below.refl _ _))))
            have c1 := S5.out.var.bx.c1
            go_upto_region 14 with fail
            refine wp_region_held_drew (S := fun wx => True) (by kernel_rfl) (trivial) (fun hH0 => ?_)
            refine wpAnyH_take (i := 0) (oi := { dst := some 41, op := _, type := _, pos := _, after := _, guard := _ }) (v := ?_) rfl (by kernel_rfl) (by kernel_rfl) (by kernel_rfl) (fun _ _ _ h => h) (Or.inl ⟨by rfl, ?_⟩) (hH0) ?_
            rotate_left
            · (intro wx hSw; obtain _ := hSw; go_simp <;> with_reducible rfl)
            simp only [Act.put, List.setIfInBounds_toArray, List.set_cons_zero, List.set_cons_succ]
            refine wpAnyH_take (i := 2) (oi := { dst := some 43, op := _, type := _, pos := _, after := _, guard := _ }) (v := ?_) rfl (by kernel_rfl) (by kernel_rfl) (by kernel_rfl) (fun _ _ _ h => h) (Or.inl ⟨by rfl, ?_⟩) (hH0) ?_
            rotate_left
            · (intro wx hSw; obtain _ := hSw; go_simp <;> with_reducible rfl)
            simp only [Act.put, List.setIfInBounds_toArray, List.set_cons_zero, List.set_cons_succ]
            -- behind it: go_wp2_with fail, then go_meet (a cut) or go_ret; the condition at the end: hH0
            refine wpAnyH_ready (rs := [1, 3]) (by kernel_rfl) (by simp) ?_
            refine AllReadyH.cons (o := { dst := some 42, op := _, type := _, pos := _, after := _, guard := _ }) rfl (fun KK hK => ?_) (AllReadyH.cons (o := { dst := some 44, op := _, type := _, pos := _, after := _, guard := _ }) rfl (fun KK hK => ?_) AllReadyH.nil)
            · go_simp
              refine hK.out _ _ trivial (fun hH21 => ?_)
              clear hK KK
              refine wpAnyH_ready (rs := [3]) (by kernel_rfl) (by simp) ?_
              refine AllReadyH.cons (o := { dst := some 44, op := _, type := _, pos := _, after := _, guard := _ }) rfl (fun KK hK => ?_) AllReadyH.nil
              go_simp
              refine (NB5.out).mono ?_
              rintro e w6 ⟨p, q, rfl, r6, b6⟩
              dsimp only
              have T6 := S5.out.below (Below.drew (Below.refl _ _))
              have T6 := T6.turn r6 b6
              have k1 := T6.var.bx.c1
              have k2 := (T6.var.bx.alloc (.cells #[.int .i64 p, .int .i64 q] 32)).c1
              refine hK.out _ _ trivial (fun hH22 => ?_)
              clear hK KK
              refine wpAnyH_ready (rs := [4]) (by kernel_rfl) (by simp) ?_
              refine AllReadyH.cons (o := { dst := some 45, op := _, type := _, pos := _, after := _, guard := _ }) rfl (fun KK hK => ?_) AllReadyH.nil
              go_simp
              refine hK.out _ _ trivial (fun hH23 => ?_)
              clear hK KK
              have T6H := hide T6
              have s6 := T6.but.size
              have hown := hide (T6.var.own.alloc (.cells #[.int .i64 p, .int .i64 q] 32))
              clear T6
              generalize hNV : nlv M n = NV at hown
              have HNV := hide hNV
              clear hNV
              refine wpAnyH_ready (rs := [5]) (by kernel_rfl) (by simp) ?_
              refine AllReadyH.cons (o := { dst := some 46, op := _, type := _, pos := _, after := _, guard := _ }) rfl (fun KK hK => ?_) AllReadyH.nil
              refine step_append_lies _ rfl _ _ 24 rfl (w.heap.size + 1) 32 i0 _ 2 16 Try.underlying24 HI.out hz0 hz1 hz2 rfl (by decide) _ _ _ rfl hown.out ⟨_, 0, none⟩ 1 1 [.int .i64 p, .int .i64 q] rfl rfl (two_newN _ _ _ _) (two_oneH _ _) (by omega) (by unfold maxLen; omega) (by omega) (by have := T6H.out.var.lo; have := T6H.out.var.bx.lt; simp; omega) _ rfl ?_
              intro g8 c8 w8 hown8 hgrow hat8 hglt
              rw [← HNV.out] at hown8
              obtain ⟨⟨_, d0, d1, df0, df1⟩, ⟨rx, ry, ⟨_, r0, r1, g0, g1⟩⟩, T8⟩ := T6H.out.grow hown8 hgrow (by rcases hat8 with h | h; exact .inl h; exact .inr (by simp [h]))
              have lo := T6H.out.var.lo
              have F8 := hide (T8.fin (by omega) (.int .i64 K) (.slice (some ⟨g8, 0, none⟩) (n + 1) c8))
              clear T8 hown8 hgrow hat8 hown T6H
              refine hK.out _ _ trivial (fun hH24 => ?_)
              clear hK KK
              simp only [Act.put, List.setIfInBounds_toArray, List.set_cons_zero, List.set_cons_succ]
              refine wpAnyH_take (i := 6) (oi := { dst := some 47, op := _, type := _, pos := _, after := _, guard := _ }) (v := ?_) rfl (by kernel_rfl) (by kernel_rfl) (by kernel_rfl) (fun _ _ _ h => h) (Or.inl ⟨by rfl, ?_⟩) (trivial) ?_
              rotate_left
              · (intro wx hSw; go_simp <;> with_reducible rfl)
              simp only [Act.put, List.setIfInBounds_toArray, List.set_cons_zero, List.set_cons_succ]
              refine wpAnyH_ready (rs := [7]) (by kernel_rfl) (by simp) ?_
              refine AllReadyH.cons (o := { dst := none, op := _, type := _, pos := _, after := _, guard := _ }) rfl (fun KK hK => ?_) AllReadyH.nil
              go_simp
              refine hK.out _ _ trivial (fun hH25 => ?_)
              clear hK KK
              refine wpAnyH_done (by kernel_rfl) ?_ _
              have hne : ¬ z = w.heap.size := by omega
              have hne' : ¬ w.heap.size = z := by omega
              go_wp2_with fail
              refine bodyPost_ret (v := .agg #[.int .i64 K, .slice (some ⟨g8, 0, none⟩) (n + 1) c8]) ?_ rfl F8.out
              simp [results, Try.results22, go_sem, *]
            · go_simp
              refine (NB5.out).mono ?_
              rintro e w6 ⟨p, q, rfl, r6, b6⟩
              dsimp only
              have T6 := S5.out.below (Below.drew (Below.refl _ _))
              have T6 := T6.turn r6 b6
              have k1 := T6.var.bx.c1
              have k2 := (T6.var.bx.alloc (.cells #[.int .i64 p, .int .i64 q] 32)).c1
              refine hK.out _ _ trivial (fun hH22 => ?_)
              clear hK KK
              refine wpAnyH_ready (rs := [1, 4]) (by kernel_rfl) (by simp) ?_
              refine AllReadyH.cons (o := { dst := some 42, op := _, type := _, pos := _, after := _, guard := _ }) rfl (fun KK hK => ?_) (AllReadyH.cons (o := { dst := some 45, op := _, type := _, pos := _, after := _, guard := _ }) rfl (fun KK hK => ?_) AllReadyH.nil)
              · go_simp
                refine hK.out _ _ trivial (fun hH21 => ?_)
                clear hK KK
                refine wpAnyH_ready (rs := [4]) (by kernel_rfl) (by simp) ?_
                refine AllReadyH.cons (o := { dst := some 45, op := _, type := _, pos := _, after := _, guard := _ }) rfl (fun KK hK => ?_) AllReadyH.nil
                go_simp
                refine hK.out _ _ trivial (fun hH23 => ?_)
                clear hK KK
                have T6H := hide T6
                have s6 := T6.but.size
                have hown := hide (T6.var.own.alloc (.cells #[.int .i64 p, .int .i64 q] 32))
                clear T6
                generalize hNV : nlv M n = NV at hown
                have HNV := hide hNV
                clear hNV
                refine wpAnyH_ready (rs := [5]) (by kernel_rfl) (by simp) ?_
                refine AllReadyH.cons (o := { dst := some 46, op := _, type := _, pos := _, after := _, guard := _ }) rfl (fun KK hK => ?_) AllReadyH.nil
                refine step_append_lies _ rfl _ _ 24 rfl (w.heap.size + 1) 32 i0 _ 2 16 Try.underlying24 HI.out hz0 hz1 hz2 rfl (by decide) _ _ _ rfl hown.out ⟨_, 0, none⟩ 1 1 [.int .i64 p, .int .i64 q] rfl rfl (two_newN _ _ _ _) (two_oneH _ _) (by omega) (by unfold maxLen; omega) (by omega) (by have := T6H.out.var.lo; have := T6H.out.var.bx.lt; simp; omega) _ rfl ?_
                intro g8 c8 w8 hown8 hgrow hat8 hglt
                rw [← HNV.out] at hown8
                obtain ⟨⟨_, d0, d1, df0, df1⟩, ⟨rx, ry, ⟨_, r0, r1, g0, g1⟩⟩, T8⟩ := T6H.out.grow hown8 hgrow (by rcases hat8 with h | h; exact .inl h; exact .inr (by simp [h]))
                have lo := T6H.out.var.lo
                have F8 := hide (T8.fin (by omega) (.int .i64 K) (.slice (some ⟨g8, 0, none⟩) (n + 1) c8))
                clear T8 hown8 hgrow hat8 hown T6H
                refine hK.out _ _ trivial (fun hH24 => ?_)
                clear hK KK
                simp only [Act.put, List.setIfInBounds_toArray, List.set_cons_zero, List.set_cons_succ]
                refine wpAnyH_take (i := 6) (oi := { dst := some 47, op := _, type := _, pos := _, after := _, guard := _ }) (v := ?_) rfl (by kernel_rfl) (by kernel_rfl) (by kernel_rfl) (fun _ _ _ h => h) (Or.inl ⟨by rfl, ?_⟩) (trivial) ?_
                rotate_left
                · (intro wx hSw; go_simp <;> with_reducible rfl)
                simp only [Act.put, List.setIfInBounds_toArray, List.set_cons_zero, List.set_cons_succ]
                refine wpAnyH_ready (rs := [7]) (by kernel_rfl) (by simp) ?_
                refine AllReadyH.cons (o := { dst := none, op := _, type := _, pos := _, after := _, guard := _ }) rfl (fun KK hK => ?_) AllReadyH.nil
                go_simp
                refine hK.out _ _ trivial (fun hH25 => ?_)
                clear hK KK
                refine wpAnyH_done (by kernel_rfl) ?_ _
                have hne : ¬ z = w.heap.size := by omega
                have hne' : ¬ w.heap.size = z := by omega
                go_wp2_with fail
                refine bodyPost_ret (v := .agg #[.int .i64 K, .slice (some ⟨g8, 0, none⟩) (n + 1) c8]) ?_ rfl F8.out
                simp [results, Try.results22, go_sem, *]
              · go_simp
                refine hK.out _ _ trivial (fun hH23 => ?_)
                clear hK KK
                refine wpAnyH_ready (rs := [1]) (by kernel_rfl) (by simp) ?_
                refine AllReadyH.cons (o := { dst := some 42, op := _, type := _, pos := _, after := _, guard := _ }) rfl (fun KK hK => ?_) AllReadyH.nil
                go_simp
                refine hK.out _ _ trivial (fun hH21 => ?_)
                clear hK KK
                have T6H := hide T6
                have s6 := T6.but.size
                have hown := hide (T6.var.own.alloc (.cells #[.int .i64 p, .int .i64 q] 32))
                clear T6
                generalize hNV : nlv M n = NV at hown
                have HNV := hide hNV
                clear hNV
                refine wpAnyH_ready (rs := [5]) (by kernel_rfl) (by simp) ?_
                refine AllReadyH.cons (o := { dst := some 46, op := _, type := _, pos := _, after := _, guard := _ }) rfl (fun KK hK => ?_) AllReadyH.nil
                refine step_append_lies _ rfl _ _ 24 rfl (w.heap.size + 1) 32 i0 _ 2 16 Try.underlying24 HI.out hz0 hz1 hz2 rfl (by decide) _ _ _ rfl hown.out ⟨_, 0, none⟩ 1 1 [.int .i64 p, .int .i64 q] rfl rfl (two_newN _ _ _ _) (two_oneH _ _) (by omega) (by unfold maxLen; omega) (by omega) (by have := T6H.out.var.lo; have := T6H.out.var.bx.lt; simp; omega) _ rfl ?_
                intro g8 c8 w8 hown8 hgrow hat8 hglt
                rw [← HNV.out] at hown8
                obtain ⟨⟨_, d0, d1, df0, df1⟩, ⟨rx, ry, ⟨_, r0, r1, g0, g1⟩⟩, T8⟩ := T6H.out.grow hown8 hgrow (by rcases hat8 with h | h; exact .inl h; exact .inr (by simp [h]))
                have lo := T6H.out.var.lo
                have F8 := hide (T8.fin (by omega) (.int .i64 K) (.slice (some ⟨g8, 0, none⟩) (n + 1) c8))
                clear T8 hown8 hgrow hat8 hown T6H
                refine hK.out _ _ trivial (fun hH24 => ?_)
                clear hK KK
                simp only [Act.put, List.setIfInBounds_toArray, List.set_cons_zero, List.set_cons_succ]
                refine wpAnyH_take (i := 6) (oi := { dst := some 47, op := _, type := _, pos := _, after := _, guard := _ }) (v := ?_) rfl (by kernel_rfl) (by kernel_rfl) (by kernel_rfl) (fun _ _ _ h => h) (Or.inl ⟨by rfl, ?_⟩) (trivial) ?_
                rotate_left
                · (intro wx hSw; go_simp <;> with_reducible rfl)
                simp only [Act.put, List.setIfInBounds_toArray, List.set_cons_zero, List.set_cons_succ]
                refine wpAnyH_ready (rs := [7]) (by kernel_rfl) (by simp) ?_
                refine AllReadyH.cons (o := { dst := none, op := _, type := _, pos := _, after := _, guard := _ }) rfl (fun KK hK => ?_) AllReadyH.nil
                go_simp
                refine hK.out _ _ trivial (fun hH25 => ?_)
                clear hK KK
                refine wpAnyH_done (by kernel_rfl) ?_ _
                have hne : ¬ z = w.heap.size := by omega
                have hne' : ¬ w.heap.size = z := by omega
                go_wp2_with fail
                refine bodyPost_ret (v := .agg #[.int .i64 K, .slice (some ⟨g8, 0, none⟩) (n + 1) c8]) ?_ rfl F8.out
                simp [results, Try.results22, go_sem, *]
          · have b1 : (u == 1) = false := by simp [e1]
            have F6 := hide (S5.out.fin (by omega) (.int .i64 K) (.slice a n cap))
            obtain ⟨⟨⟨_, c0, c1, f0, f1⟩, lo, _, _⟩, _, _, _, _, rx, ry, ⟨_, r0, r1, g0, g1⟩⟩ := S5.out
            have hne : ¬ z = w.heap.size := by omega
            have hne' : ¬ w.heap.size = z := by omega
            go_wp2_with fail
            refine bodyPost_ret (v := .agg #[.int .i64 K, .slice a n cap]) ?_ rfl F6.out
            simp [results, Try.results22, go_sem, *]
end Go.Proofs.Ytkonckgapicdfaa
