/- Drawn heaps: DrawHeapOk, DrawHeapPut, DrawHeapSorted, DrawHeapTop. -/
import Derived.Test.YtkonckgapicdfaaRA
namespace Go.Proofs.Ytkonckgapicdfaa
open Go.RowKit
set_option maxRecDepth 8000
set_option linter.unusedSimpArgs false
set_option linter.unusedVariables false

def DrawHO (w : World) (e : Ending) (w' : World) : Prop :=
  ∃ K a n cap M, e = .returned (.agg #[.int .i64 K, .slice a n cap]) ∧ n ≤ 21 ∧ PRow w' a n (fun i => ((M : NL) i).1) (fun i => (M i).2) ∧ (∀ b off, a = some ⟨b, off, none⟩ → w.heap.size ≤ b) ∧ Below w.heap.size w w'
def DrawHP (w : World) (e : Ending) (w' : World) : Prop :=
  ∃ K a n cap M i d, e = .returned (.tuple #[.agg #[.int .i64 K, .slice a n cap], .agg #[.int .i64 i, .int .i64 d]]) ∧ n ≤ 21 ∧ PRow w' a n (fun i => ((M : NL) i).1) (fun i => (M i).2) ∧ Below w.heap.size w w'

theorem PRow.butH {rb : Nat} {w w' : World} {a : Option Addr} {n : Nat} {f g : Nat → Int} (h : PRow w a n f g) (hb : But rb w w') (hq : ∀ b off, a = some ⟨b, off, none⟩ → b ≠ rb) : PRow w' a n f g := by
  rcases h.lies with h0 | ⟨b, off, e, lt, hc⟩
  · exact ⟨.inl h0⟩
  · have hk := hb.block b lt (hq b off e)
    exact ⟨.inr ⟨b, off, e, Nat.lt_of_lt_of_le lt hb.size, fun i hi => ⟨(World.cell?_of_block (a := ⟨b, off + i * 2, none⟩) hk).trans (hc i hi).1, (World.cell?_of_block (a := ⟨b, off + i * 2 + 1, none⟩) hk).trans (hc i hi).2⟩⟩⟩

set_option maxHeartbeats 2000000 in
theorem drawHeapOk_any (a : Option Addr) (n c : Nat) (w : World) (h : Code w a n) :
    Calls Try.prog 11 #[.slice a n c] w fun e w' => DrawHO w e w' := by
  have OP := hide (fun w1 (hb : Below w.heap.size w w1) => open_any a n c w1 (h.below hb))
  clear h
  go_enter Try.func11, Try.ntmps11
  go_wp2_with fail
  refine (OP.out _ (by repeat' first | with_reducible exact Below.refl _ _ | with_reducible assumption | with_reducible refine below_drewN ?_ _ | with_reducible refine balloc ?_ _ | with_reducible refine Below.drew ?_ | with_reducible refine Below.setCell ?_ (by first | (simp; done) | (simp; omega) | omega) _ | with_reducible refine bstep ?_ (by assumption))).mono ?_
  rintro e w1 ⟨rfl, hr1, hb1, hs1⟩
  simp only [World.size_alloc] at hr1 hs1
  have HP := hide (heap_any (w.heap.size + 1) (w.heap.size + 1) n c a w1 hr1)
  have R1 := (Bx.new w (.int .i64 0) (.slice none 0 0) 26).below hb1
  have B1 : Below w.heap.size w w1 := (by repeat' first | with_reducible exact Below.refl _ _ | with_reducible assumption | with_reducible refine below_drewN ?_ _ | with_reducible refine balloc ?_ _ | with_reducible refine Below.drew ?_ | with_reducible refine Below.setCell ?_ (by first | (simp; done) | (simp; omega) | omega) _ | with_reducible refine bstep ?_ (by assumption))
  have l1 := hr1.lt
  clear hb1 hr1
  go_wp2_with fail
  refine HP.out.mono ?_
  rintro e w2 ⟨K, ha, hn, hc, M, rfl, hn21, hp, hlo, hr2, hb2⟩
  have B2 : Below w.heap.size w w2 := B1.trans (hb2.below (by omega) (by omega))
  have hq : ∀ b off, ha = some ⟨b, off, none⟩ → b ≠ w.heap.size := fun b off e => by have := hlo b off e; omega
  have FIN : Hid (DrawHO w (.returned (.agg #[.int .i64 K, .slice ha hn hc])) ((w2.setCell ⟨w.heap.size, 0, none⟩ (.int .i64 K)).setCell ⟨w.heap.size, 1, none⟩ (.slice ha hn hc))) := hide
    ⟨K, ha, hn, hc, M, rfl, hn21, (hp.awayH hq 0 _).awayH hq 1 _, (fun b off e => by have := hlo b off e; omega), (B2.setCell (Nat.le_refl _) _).setCell (Nat.le_refl _) _⟩
  obtain ⟨_, r0, r1, f0, f1⟩ := R1.but hb2 (by omega)
  clear hp hlo hr2 hb2 HP OP
  go_wp2_with fail
  refine bodyPost_ret (v := .agg #[.int .i64 K, .slice ha hn hc]) ?_ rfl FIN.out
  simp [results, Try.results11, go_sem, *]



set_option maxHeartbeats 2000000 in
theorem drawHeapSorted_any (a : Option Addr) (n c : Nat) (w : World) (h : Code w a n) :
    Calls Try.prog 5 #[.slice a n c] w fun e w' => DrawHO w e w' := by
  have OP := hide (fun w1 (hb : Below w.heap.size w w1) => drawHeapOk_any a n c w1 (h.below hb))
  clear h
  go_enter Try.func5, Try.ntmps5
  go_wp2_with fail
  refine (OP.out _ (by repeat' first | with_reducible exact Below.refl _ _ | with_reducible assumption | with_reducible refine below_drewN ?_ _ | with_reducible refine balloc ?_ _ | with_reducible refine Below.drew ?_ | with_reducible refine Below.setCell ?_ (by first | (simp; done) | (simp; omega) | omega) _ | with_reducible refine bstep ?_ (by assumption))).mono ?_
  rintro e w2 ⟨K, ha, hn, hc, M, rfl, hn21, hp, hlo, hb2⟩
  have B2 : Below w.heap.size w w2 := (by repeat' first | with_reducible exact Below.refl _ _ | with_reducible assumption | with_reducible refine below_drewN ?_ _ | with_reducible refine balloc ?_ _ | with_reducible refine Below.drew ?_ | with_reducible refine Below.setCell ?_ (by first | (simp; done) | (simp; omega) | omega) _ | with_reducible refine bstep ?_ (by assumption))
  simp only [World.size_alloc] at hlo
  have hq : ∀ b off, ha = some ⟨b, off, none⟩ → b ≠ w.heap.size := fun b off e => by have := hlo b off e; omega
  have FIN : Hid (DrawHO w (.returned (.agg #[.int .i64 K, .slice ha hn hc])) ((w2.setCell ⟨w.heap.size, 0, none⟩ (.int .i64 K)).setCell ⟨w.heap.size, 1, none⟩ (.slice ha hn hc))) := hide
    ⟨K, ha, hn, hc, M, rfl, hn21, (hp.awayH hq 0 _).awayH hq 1 _, (fun b off e => by have := hlo b off e; omega), (B2.setCell (Nat.le_refl _) _).setCell (Nat.le_refl _) _⟩
  obtain ⟨_, r0, r1, f0, f1⟩ := (Bx.new w (.int .i64 0) (.slice none 0 0) 26).below hb2
  clear hp hlo hb2 OP
  go_wp2_with fail
  refine bodyPost_ret (v := .agg #[.int .i64 K, .slice ha hn hc]) ?_ rfl FIN.out
  simp [results, Try.results5, go_sem, *]

end Go.Proofs.Ytkonckgapicdfaa