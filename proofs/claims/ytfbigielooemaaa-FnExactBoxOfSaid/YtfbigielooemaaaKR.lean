/- BoxOf of the model at all arguments; the walk of FnExactBoxOf. -/
import Derived.Test.YtfbigielooemaaaKQ
import Derived.Test.YtfbigielooemaaaKM
import Derived.Test.YtfbigielooemaaaFAR
namespace Go.Proofs.Ytfbigielooemaaa
open Go.RowKit
set_option linter.unusedSimpArgs false
set_option linter.unusedVariables false

/-- The answer of the model's BoxOf. -/
def SBoxT (w : World) (ok : Bool) (n : Nat) (F G : Nat → Int) (e : Ending) (w' : World) : Prop :=
  ∃ a m cap, e = .returned (.tuple #[.slice a m cap, .bool ok]) ∧ m = (if ok then n else 0) ∧ PRow w' a m F G ∧ Below w.heap.size w w'

set_option maxHeartbeats 4000000 in
theorem sBoxOf_any (a : Option Addr) (n cap : Nat) (f g : Nat → Int) (r : RowV) (L1 L2 L3 : List Int) (t : Int) (w : World) (h : PRow w a n f g) (hr : r.is w L1 L2 L3) (hn : n ≤ 1048576) :
    Calls Try.prog 6 #[.slice a n cap, r.v, .int .i64 t] w fun e w' => SBoxT w (rowOkB n f g L1 L2 L3 && tierB t) n (boxF f g t (tierL t L1 L2 L3)) (boxG f g t (tierL t L1 L2 L3)) e w' := by
  have RO := hide (fun w1 (hb : Below w.heap.size w w1) => sRowOk_any a n cap f g r L1 L2 L3 w1 (h.below hb) (hr.below hb) hn)
  have LT := hide (l3Tier_any t)
  cases hv : rowOkB n f g L1 L2 L3
  · rw [hv] at RO
    obtain ⟨a1, a2, a3, m1, m2, m3, k1, k2, k3⟩ := r
    unfold RowV.v at RO ⊢
    simp only [Bool.false_and] at RO ⊢
    clear h hr hv
    go_enter Try.func6, Try.ntmps6
    go_wp2_with fail
    refine (RO.out _ (by repeat' first | with_reducible exact Below.refl _ _ | with_reducible assumption | with_reducible refine below_drewN ?_ _ | with_reducible refine balloc ?_ _ | with_reducible refine Below.drew ?_ | with_reducible refine Below.setCell ?_ (by first | (simp; done) | (simp; omega) | omega) _ | with_reducible refine bstep ?_ (by assumption))).mono ?_
    rintro e w1 ⟨rfl, hb1⟩
    go_wp2_with fail
    refine bodyPost_ret (v := .tuple #[.slice none 0 0, .bool false]) ?_ rfl ⟨none, 0, 0, rfl, rfl, ⟨.inl rfl⟩, (by repeat' first | with_reducible exact Below.refl _ _ | with_reducible assumption | with_reducible refine below_drewN ?_ _ | with_reducible refine balloc ?_ _ | with_reducible refine Below.drew ?_ | with_reducible refine Below.setCell ?_ (by first | (simp; done) | (simp; omega) | omega) _ | with_reducible refine bstep ?_ (by assumption))⟩
    simp [results, Try.results6, go_sem]
  · rw [hv] at RO
    cases ht : tierB t
    · rw [ht] at LT
      obtain ⟨a1, a2, a3, m1, m2, m3, k1, k2, k3⟩ := r
      unfold RowV.v at RO ⊢
      simp only [Bool.and_false] at RO ⊢
      clear h hr hv ht
      go_enter Try.func6, Try.ntmps6
      go_wp2_with fail
      refine (RO.out _ (by repeat' first | with_reducible exact Below.refl _ _ | with_reducible assumption | with_reducible refine below_drewN ?_ _ | with_reducible refine balloc ?_ _ | with_reducible refine Below.drew ?_ | with_reducible refine Below.setCell ?_ (by first | (simp; done) | (simp; omega) | omega) _ | with_reducible refine bstep ?_ (by assumption))).mono ?_
      rintro e w1 ⟨rfl, hb1⟩
      go_wp2_with fail
      refine (LT.out _).mono ?_
      rintro e w2 ⟨rfl, rfl⟩
      go_wp2_with fail
      refine bodyPost_ret (v := .tuple #[.slice none 0 0, .bool false]) ?_ rfl ⟨none, 0, 0, rfl, rfl, ⟨.inl rfl⟩, (by repeat' first | with_reducible exact Below.refl _ _ | with_reducible assumption | with_reducible refine below_drewN ?_ _ | with_reducible refine balloc ?_ _ | with_reducible refine Below.drew ?_ | with_reducible refine Below.setCell ?_ (by first | (simp; done) | (simp; omega) | omega) _ | with_reducible refine bstep ?_ (by assumption))⟩
      simp [results, Try.results6, go_sem]
    · rw [ht] at LT
      have hv' := hv
      simp only [rowOkB, Bool.and_eq_true, decide_eq_true_eq] at hv'
      obtain ⟨hB, ⟨e1, e2, e3⟩, _⟩ := hv'
      have hn8 := boxB_num' hB
      have f1 := hr.r1.len
      have f2 := hr.r2.len
      have f3 := hr.r3.len
      rcases h.lies with q | ⟨b, off, rfl, lt, hc⟩
      · omega
      have LB : Hid (∀ w1, Below w.heap.size w w1 → Calls Try.prog 18 #[.slice (some ⟨b, off, none⟩) n cap, r.v, .int .i64 t] w1 fun e w' => SBox w1 n (boxF f g t (tierL t L1 L2 L3)) (boxG f g t (tierL t L1 L2 L3)) e w') := by
        refine hide fun w1 hb1 => ?_
        have TI := hide (fun w1 => l5Tier_any r t w1 ht)
        have hc1 : ∀ i, i < n → w1.cell? ⟨b, off + i * 2, none⟩ = some (.int .i64 (f i)) ∧ w1.cell? ⟨b, off + i * 2 + 1, none⟩ = some (.int .i64 (g i)) := fun i hi => ⟨(hb1.cell (p := ⟨b, off + i * 2, none⟩) lt).trans (hc i hi).1, (hb1.cell (p := ⟨b, off + i * 2 + 1, none⟩) lt).trans (hc i hi).2⟩
        have hr' := hr.below hb1
        obtain ⟨a1, a2, a3, m1, m2, m3, k1, k2, k3⟩ := r
        obtain ⟨r1, r2, r3⟩ := hr'
        simp only at r1 r2 r3 f1 f2 f3
        obtain rfl : m1 = n := by omega
        obtain rfl : m2 = m1 := by omega
        obtain rfl : m3 = m2 := by omega
        rcases r1.lies with q | ⟨b1, o1, rfl, lt1, hc1'⟩
        · omega
        rcases r2.lies with q | ⟨b2, o2, rfl, lt2, hc2'⟩
        · omega
        rcases r3.lies with q | ⟨b3, o3, rfl, lt3, hc3'⟩
        · omega
        have ltw := Nat.lt_of_lt_of_le lt hb1.size
        rcases tier_cases ht with rfl | rfl | rfl
        · exact l5Box_some b off m3 cap f g _ b1 o1 k1 L1 1 w1 hn8.2 ltw lt1 hc1 hc1' TI
        · exact l5Box_some b off m3 cap f g _ b2 o2 k2 L2 2 w1 hn8.2 ltw lt2 hc1 hc2' TI
        · exact l5Box_some b off m3 cap f g _ b3 o3 k3 L3 3 w1 hn8.2 ltw lt3 hc1 hc3' TI
      obtain ⟨a1, a2, a3, m1, m2, m3, k1, k2, k3⟩ := r
      unfold RowV.v at RO LB ⊢
      simp only [Bool.and_self] at RO LB ⊢
      generalize boxF f g t (tierL t L1 L2 L3) = F at LB ⊢
      generalize boxG f g t (tierL t L1 L2 L3) = G at LB ⊢
      clear h hr hc hv ht hB f1 f2 f3
      go_enter Try.func6, Try.ntmps6
      go_wp2_with fail
      refine (RO.out _ (by repeat' first | with_reducible exact Below.refl _ _ | with_reducible assumption | with_reducible refine below_drewN ?_ _ | with_reducible refine balloc ?_ _ | with_reducible refine Below.drew ?_ | with_reducible refine Below.setCell ?_ (by first | (simp; done) | (simp; omega) | omega) _ | with_reducible refine bstep ?_ (by assumption))).mono ?_
      rintro e w1 ⟨rfl, hb1⟩
      have T1 : TriW w1 w.heap.size (.slice a1 m1 k1) (.slice a2 m2 k2) (.slice a3 m3 k3) := (TriW.new w _ _ _ _ _ rfl).below hb1
      have B1 : Below w.heap.size w w1 := (by repeat' first | with_reducible exact Below.refl _ _ | with_reducible assumption | with_reducible refine below_drewN ?_ _ | with_reducible refine balloc ?_ _ | with_reducible refine Below.drew ?_ | with_reducible refine Below.setCell ?_ (by first | (simp; done) | (simp; omega) | omega) _ | with_reducible refine bstep ?_ (by assumption))
      obtain ⟨_, t0, t1, t2, _, _, _⟩ := T1
      clear hb1
      go_wp2_with fail
      refine (LT.out _).mono ?_
      rintro e w2 ⟨rfl, hw2⟩
      obtain rfl := hw2.symm
      clear hw2
      go_wp2_with fail
      refine (LB.out _ B1).mono ?_
      rintro e w3 ⟨a4, c4, rfl, r4, hb4⟩
      have R4 := hide r4
      clear r4
      go_wp2_with fail
      refine bodyPost_ret (v := .tuple #[.slice a4 n c4, .bool true]) ?_ rfl ⟨a4, n, c4, rfl, rfl, R4.out, bstep B1 hb4⟩
      simp [results, Try.results6, go_sem]

set_option maxHeartbeats 4000000 in
theorem markRowM_any (B C g1 g2 g3 : Nat) (q : Int) (L1 L2 L3 : List Int) (w : World) (q1 : L1.length ≤ 1048576) (q2 : L2.length ≤ 1048576) (q3 : L3.length ≤ 1048576) (hq : 0 ≤ q) (hq2 : q ≤ 10000000) (h : Mine3 B C w g1 g2 g3 L1 L2 L3) :
    Calls Try.prog 13 #[.agg #[.slice (some ⟨g1, 0, none⟩) L1.length L1.length, .slice (some ⟨g2, 0, none⟩) L2.length L2.length, .slice (some ⟨g3, 0, none⟩) L3.length L3.length], .int .i64 q] w fun e w' => e = .returned (.int .i64 (q + L1.length + L2.length + L3.length)) ∧ Far B C w w' := by
  obtain ⟨o1, o2, o3, ⟨b1, b2, b3⟩, ⟨c1, c2, c3⟩, ⟨d1, d2, d3⟩⟩ := h
  obtain ⟨m1, h1⟩ : ∃ m, L1.length = m := ⟨_, rfl⟩
  obtain ⟨m2, h2⟩ : ∃ m, L2.length = m := ⟨_, rfl⟩
  obtain ⟨m3, h3⟩ : ∃ m, L3.length = m := ⟨_, rfl⟩
  rw [h1] at q1 ⊢
  rw [h2] at q2 ⊢
  rw [h3] at q3 ⊢
  have H1 := hide h1
  have H2 := hide h2
  have H3 := hide h3
  clear h1 h2 h3
  have T0 := TriW.new w (.slice (some ⟨g1, 0, none⟩) m1 m1) (.slice (some ⟨g2, 0, none⟩) m2 m2) (.slice (some ⟨g3, 0, none⟩) m3 m3) 32 _ rfl
  have ba : Below w.heap.size w (w.alloc (.cells #[.slice (some ⟨g1, 0, none⟩) m1 m1, .slice (some ⟨g2, 0, none⟩) m2 m2, .slice (some ⟨g3, 0, none⟩) m3 m3] 32)) := (by repeat' first | with_reducible exact Below.refl _ _ | with_reducible assumption | with_reducible refine below_drewN ?_ _ | with_reducible refine balloc ?_ _ | with_reducible refine Below.drew ?_ | with_reducible refine Below.setCell ?_ (by first | (simp; done) | (simp; omega) | omega) _ | with_reducible refine bstep ?_ (by assumption))
  have x1 := World.rowIs.lt o1
  have x2 := World.rowIs.lt o2
  have x3 := World.rowIs.lt o3
  have p1 := hide (Own.below o1 ba)
  have p2 := hide (Own.below o2 ba)
  have p3 := hide (Own.below o3 ba)
  have fa : Far B C w (w.alloc (.cells #[.slice (some ⟨g1, 0, none⟩) m1 m1, .slice (some ⟨g2, 0, none⟩) m2 m2, .slice (some ⟨g3, 0, none⟩) m3 m3] 32)) := Far.ofBelow ba
  have HT0 := hide T0
  clear o1 o2 o3 T0
  go_enter Try.func13, Try.ntmps13
  go_wp2_with fail
  refine (markInts_any g1 m1 m1 q L1 _ p1.out H1.out (by omega) hq (by omega)).mono ?_
  rintro e w1 ⟨rfl, _, hb1⟩
  have p2 := hide (hb1.own p2.out (Ne.symm d1))
  have p3 := hide (hb1.own p3.out (Ne.symm d2))
  have T1 := TriW.but HT0.out hb1 (by omega)
  have HT1 := hide T1
  obtain ⟨_, t0, t1, t2, _, _, _⟩ := T1
  have fb := hide (fa.trans (Far.ofBut hb1 b1 c1))
  clear hb1 HT0
  go_wp2_with fail
  refine (markInts_any g2 m2 m2 (q + m1) L2 _ p2.out H2.out (by omega) (by omega) (by omega)).mono ?_
  rintro e w2 ⟨rfl, _, hb2⟩
  have p3 := hide (hb2.own p3.out (Ne.symm d3))
  have T2 := TriW.but HT1.out hb2 (by omega)
  clear t0 t1 t2 HT1
  obtain ⟨_, t0, t1, t2, _, _, _⟩ := T2
  have fb := hide (fb.out.trans (Far.ofBut hb2 b2 c2))
  clear hb2
  go_wp2_with fail
  refine (markInts_any g3 m3 m3 (q + m1 + m2) L3 _ p3.out H3.out (by omega) (by omega) (by omega)).mono ?_
  rintro e w3 ⟨rfl, _, hb3⟩
  have fb := hide (fb.out.trans (Far.ofBut hb3 b3 c3))
  clear hb3
  go_wp2_with fail
  go_ret
  exact ⟨rfl, fb.out⟩

theorem TriW.far' {w w' : World} {b B C : Nat} {v0 v1 v2 : Value} (h : TriW w b v0 v1 v2) (hf : Far B C w w') (hne : b < B ∨ C ≤ b) : TriW w' b v0 v1 v2 := by
  have e := hf.block b h.lt hne
  obtain ⟨h0, h1, h2, h3, f0, f1, f2⟩ := h
  refine ⟨Nat.lt_of_lt_of_le h0 hf.size, ?_, ?_, ?_, ?_, ?_, ?_⟩ <;> simp only [World.cell?, World.frozen?, e] at * <;> assumption
theorem PRow.far {w w' : World} {B C : Nat} {a : Option Addr} {n : Nat} {f g : Nat → Int} (h : PRow w a n f g) (hf : Far B C w w') (hne : ∀ b off, a = some ⟨b, off, none⟩ → 0 < n → b < B ∨ C ≤ b) : PRow w' a n f g := by
  rcases h.lies with h0 | ⟨b, off, e, lt, hc⟩
  · exact ⟨.inl h0⟩
  · by_cases hn : n = 0
    · exact ⟨.inl hn⟩
    · have eb := hf.block b lt (hne b off e (by omega))
      exact ⟨.inr ⟨b, off, e, Nat.lt_of_lt_of_le lt hf.size, fun i hi => ⟨(World.cell?_of_block (w := w) eb).trans (hc i hi).1, (World.cell?_of_block (w := w) eb).trans (hc i hi).2⟩⟩⟩
theorem PRow.lt {w : World} {a : Option Addr} {n : Nat} {f g : Nat → Int} (h : PRow w a n f g) (hn : 0 < n) : ∀ b off, a = some ⟨b, off, none⟩ → b < w.heap.size := by
  intro b off e
  rcases h.lies with h0 | ⟨b', off', e', lt, _⟩
  · omega
  · rw [e] at e'; cases e'; exact lt
theorem Mine3.far {B C B' C' : Nat} {w w' : World} {g1 g2 g3 : Nat} {L1 L2 L3 : List Int} (h : Mine3 B C w g1 g2 g3 L1 L2 L3) (hf : Far B' C' w w') (hd : C ≤ B' ∨ C' ≤ B) : Mine3 B C w' g1 g2 g3 L1 L2 L3 := by
  obtain ⟨o1, o2, o3, ⟨b1, b2, b3⟩, ⟨c1, c2, c3⟩, ap⟩ := h
  exact ⟨World.rowIs.of_block o1 (hf.block _ (World.rowIs.lt o1) (by omega)), World.rowIs.of_block o2 (hf.block _ (World.rowIs.lt o2) (by omega)), World.rowIs.of_block o3 (hf.block _ (World.rowIs.lt o3) (by omega)), ⟨b1, b2, b3⟩, ⟨c1, c2, c3⟩, ap⟩

/-- What lies there once both have answered: the row's box, the model's ranges below t, the program's between B and C. -/
structure BS (w0 W : World) (u0 u1 u2 : Value) (t B C : Nat) (sa ia : Option Addr) (m : Nat) (F G F' G' : Nat → Int) : Prop where
  bel : Below w0.heap.size w0 W
  bx : TriW W w0.heap.size u0 u1 u2
  r : PRow W sa m F G
  e : ∀ b off, sa = some ⟨b, off, none⟩ → 0 < m → b < t
  o : m = 0 ∨ ∃ b, ia = some ⟨b, 0, none⟩ ∧ B ≤ b ∧ b < C ∧ OwnP W b m F' G'
  lo : w0.heap.size < t
  tB : t ≤ B
theorem BS.below {w0 W W' : World} {u0 u1 u2 : Value} {t B C : Nat} {sa ia : Option Addr} {m : Nat} {F G F' G' : Nat → Int} (h : BS w0 W u0 u1 u2 t B C sa ia m F G F' G') (hb : Below W.heap.size W W') : BS w0 W' u0 u1 u2 t B C sa ia m F G F' G' :=
  ⟨bstep h.bel hb, h.bx.below hb, h.r.below hb, h.e, h.o.imp id (fun ⟨b, e, l, l', o⟩ => ⟨b, e, l, l', o.below hb⟩), h.lo, h.tB⟩
theorem BS.far {w0 W W' : World} {u0 u1 u2 : Value} {t B C B' C' : Nat} {sa ia : Option Addr} {m : Nat} {F G F' G' : Nat → Int} (h : BS w0 W u0 u1 u2 t B C sa ia m F G F' G') (hf : Far B' C' W W') (h1 : t ≤ B') (h2 : C' ≤ B) : BS w0 W' u0 u1 u2 t B C sa ia m F G F' G' :=
  ⟨h.bel.trans (hf.below (by have := h.lo; omega) h.bel.size), h.bx.far' hf (by have := h.lo; omega), h.r.far hf (fun b off e p => by have := h.e b off e p; omega), h.e, h.o.imp id (fun ⟨b, e, l, l', o⟩ => ⟨b, e, l, l', World.rowIs.of_block o (hf.block b (World.rowIs.lt o) (by omega))⟩), h.lo, h.tB⟩
theorem BS.prow {w0 W : World} {u0 u1 u2 : Value} {t B C : Nat} {sa ia : Option Addr} {m : Nat} {F G F' G' : Nat → Int} (h : BS w0 W u0 u1 u2 t B C sa ia m F G F' G') : PRow W ia m F' G' := by
  rcases h.o with h0 | ⟨b, rfl, _, _, o⟩
  · exact ⟨.inl h0⟩
  · exact o.prow
theorem BS.mark {w0 W : World} {u0 u1 u2 : Value} {t B C : Nat} {sa ia : Option Addr} {m cap : Nat} {F G F' G' : Nat → Int} (h : BS w0 W u0 u1 u2 t B C sa ia m F G F' G') (hm : m ≤ 8) :
    Calls Try.prog 12 #[.slice ia m cap, .int .i64 1] W fun e w' => e = .returned (.int .i64 (1 + 2 * (m : Int))) ∧ BS w0 w' u0 u1 u2 t B C sa ia m F G (mlo 1) (mhi 1) := by
  by_cases h0 : m = 0
  · subst h0
    refine (markRangeS_nil ia 0 cap 1 W (by omega)).mono ?_
    rintro e w' ⟨rfl, rfl⟩
    exact ⟨rfl, ⟨h.bel, h.bx, h.r, h.e, .inl rfl, h.lo, h.tB⟩⟩
  · rcases h.o with q | ⟨b, rfl, l, l', o⟩
    · omega
    · refine (markRangeS_own b m cap 1 F' G' W o (by omega) (by omega) (by omega)).mono ?_
      rintro e w' ⟨rfl, o', hb⟩
      have hf : Far b (b + 1) W w' := Far.ofBut hb (by omega) (by omega)
      have hlo := h.lo
      have htB := h.tB
      exact ⟨rfl, ⟨h.bel.trans (hf.below (by omega) h.bel.size), h.bx.far' hf (by omega), h.r.far hf (fun b off e p => by have := h.e b off e p; omega), h.e, .inr ⟨b, rfl, l, l', o'⟩, h.lo, h.tB⟩⟩
theorem BS.held {w0 W : World} {u0 u1 u2 : Value} {t B C : Nat} {sa ia : Option Addr} {m cap : Nat} {F G : Nat → Int} (h : BS w0 W u0 u1 u2 t B C sa ia m F G (mlo 1) (mhi 1)) (hm : m ≤ 8) :
    Calls Try.prog 14 #[.slice ia m cap, .int .i64 1] W fun e w' => e = .returned (.int .i64 (1 + 2 * (m : Int))) ∧ w' = W := by
  by_cases h0 : m = 0
  · subst h0
    refine (heldRangeS_nil ia 0 cap 1 W (by omega)).mono ?_
    rintro e w' ⟨rfl, rfl⟩
    exact ⟨rfl, rfl⟩
  · rcases h.o with q | ⟨b, rfl, l, l', o⟩
    · omega
    · exact heldRangeS_own b m cap 1 W o (by omega) (by omega) (by omega)
end Go.Proofs.Ytfbigielooemaaa
