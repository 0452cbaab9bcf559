/- Drawn heaps: DrawHeapOk, DrawHeapPut, DrawHeapSorted, DrawHeapTop. -/
import Derived.Test.YthfkpgnpfhkfpaaRA
namespace Go.Proofs.Ythfkpgnpfhkfpaa
open Go.RowKit
set_option maxRecDepth 8000
set_option linter.unusedSimpArgs false
set_option linter.unusedVariables false

def DrawHO (w : World) (e : Ending) (w' : World) : Prop :=
  ∃ K a n cap M, e = .returned (.agg #[.int .i64 K, .slice a n cap]) ∧ n ≤ 21 ∧ PRow w' a n (fun i => ((M : NL) i).1) (fun i => (M i).2) ∧ (∀ b off, a = some ⟨b, off, none⟩ → w.heap.size ≤ b) ∧ Below w.heap.size w w'
def DrawHP (w : World) (e : Ending) (w' : World) : Prop :=
  ∃ K a n cap M i d, e = .returned (.tuple #[.agg #[.int .i64 K, .slice a n cap], .agg #[.int .i64 i, .int .i64 d]]) ∧ n ≤ 21 ∧ PRow w' a n (fun i => ((M : NL) i).1) (fun i => (M i).2) ∧ Below w.heap.size w w'

theorem PRow.butH {rb : Nat} {w w' : World} {a : Option Addr} {n : Nat} {f g : Nat → Int} (h : PRow w a n f g) (hb : But rb w w') (hq : ∀ b off, a = some ⟨b, off, none⟩ → b ≠ rb) : PRow w' a n f g := by
  rcases h.lies with h0 | ⟨b, off, e, lt, hc⟩
  · exact ⟨.inl h0⟩
  · have hk := hb.block b lt (hq b off e)
    exact ⟨.inr ⟨b, off, e, Nat.lt_of_lt_of_le lt hb.size, fun i hi => ⟨(World.cell?_of_block (a := ⟨b, off + i * 2, none⟩) hk).trans (hc i hi).1, (World.cell?_of_block (a := ⟨b, off + i * 2 + 1, none⟩) hk).trans (hc i hi).2⟩⟩⟩



set_option maxHeartbeats 2000000 in
theorem drawHeapPut_any (a : Option Addr) (n c : Nat) (w : World) (h : Code w a n) :
    Calls Try.prog 5 #[.slice a n c] w fun e w' => DrawHP w e w' := by
  have OP := hide (fun w1 (hb : Below w.heap.size w w1) => open_any a n c w1 (h.below hb))
  clear h
  go_enter Try.func5, Try.ntmps5
  go_wp2_with fail
  refine (OP.out _ (by repeat' first | with_reducible exact Below.refl _ _ | with_reducible assumption | with_reducible refine below_drewN ?_ _ | with_reducible refine balloc ?_ _ | with_reducible refine Below.drew ?_ | with_reducible refine Below.setCell ?_ (by first | (simp; done) | (simp; omega) | omega) _ | with_reducible refine bstep ?_ (by assumption))).mono ?_
  rintro e w1 ⟨rfl, hr1, hb1, hs1⟩
  simp only [World.size_alloc] at hr1 hs1
  have HP := hide (heap_any (w.heap.size + 1 + 1) (w.heap.size + 1 + 1) n c a w1 hr1)
  have NB := hide (fun w2 (h : Rd (w.heap.size + 1 + 1) w2 (w.heap.size + 1 + 1) a n c) => nearby_any (w.heap.size + 1 + 1) (w.heap.size + 1 + 1) n c a w2 h)
  have R1 := ((Bx.new w (.int .i64 0) (.slice none 0 0) 26).alloc (.cells #[.int .i64 0, .int .i64 0] 28)).below hb1
  have Q1 : Bx w1 (w.heap.size + 1) (.int .i64 0) (.int .i64 0) := by
    have := (Bx.new (w.alloc (.cells #[.int .i64 0, .slice none 0 0] 26)) (.int .i64 0) (.int .i64 0) 28).below hb1
    rwa [World.size_alloc] at this
  have B1 : Below w.heap.size w w1 := (by repeat' first | with_reducible exact Below.refl _ _ | with_reducible assumption | with_reducible refine below_drewN ?_ _ | with_reducible refine balloc ?_ _ | with_reducible refine Below.drew ?_ | with_reducible refine Below.setCell ?_ (by first | (simp; done) | (simp; omega) | omega) _ | with_reducible refine bstep ?_ (by assumption))
  have l1 := hr1.lt
  clear hb1 hr1
  go_wp2_with fail
  refine HP.out.mono ?_
  rintro e w2 ⟨K, ha, hn, hc, M, rfl, hn21, hp, hlo, hr2, hb2⟩
  have B2 : Below w.heap.size w w2 := B1.trans (hb2.below (by omega) (by omega))
  have R2 := R1.but hb2 (by omega)
  have Q2 := Q1.but hb2 (by omega)
  have s2 := hb2.size
  have HPR := hide hp
  have HLO := hide hlo
  clear hp hlo hb2 HP OP R1 Q1 B1
  go_wp2_with fail
  refine (NB.out _ hr2).mono ?_
  rintro e w3 ⟨x, y, rfl, hr3, hb3⟩
  have B3 : Below w.heap.size w w3 := B2.trans (hb3.below (by omega) (by omega))
  have hq : ∀ q, q ≤ w.heap.size + 1 + 1 → ∀ b off, ha = some ⟨b, off, none⟩ → b ≠ q := fun q hq b off e => by have := HLO.out b off e; omega
  have P3 := HPR.out.butH hb3 (hq _ (Nat.le_refl _))
  have FIN : Hid (DrawHP w (.returned (.tuple #[.agg #[.int .i64 K, .slice ha hn hc], .agg #[.int .i64 x, .int .i64 y]])) ((((w3.setCell ⟨w.heap.size, 0, none⟩ (.int .i64 K)).setCell ⟨w.heap.size, 1, none⟩ (.slice ha hn hc)).setCell ⟨w.heap.size + 1, 0, none⟩ (.int .i64 x)).setCell ⟨w.heap.size + 1, 1, none⟩ (.int .i64 y))) := hide
    ⟨K, ha, hn, hc, M, x, y, rfl, hn21, (((P3.awayH (hq _ (by omega)) 0 _).awayH (hq _ (by omega)) 1 _).awayH (hq _ (by omega)) 0 _).awayH (hq _ (by omega)) 1 _, (((B3.setCell (Nat.le_refl _) _).setCell (Nat.le_refl _) _).setCell (show w.heap.size ≤ w.heap.size + 1 by omega) _).setCell (show w.heap.size ≤ w.heap.size + 1 by omega) _⟩
  obtain ⟨_, r0, r1, f0, f1⟩ := R2.but hb3 (by omega)
  obtain ⟨_, q0, q1, g0, g1⟩ := Q2.but hb3 (by omega)
  clear hr2 hb3 hr3 R2 Q2 B2 HPR HLO NB P3
  go_wp2_with fail
  refine bodyPost_ret (v := .tuple #[.agg #[.int .i64 K, .slice ha hn hc], .agg #[.int .i64 x, .int .i64 y]]) ?_ rfl FIN.out
  simp [results, Try.results5, go_sem, *]



end Go.Proofs.Ythfkpgnpfhkfpaa