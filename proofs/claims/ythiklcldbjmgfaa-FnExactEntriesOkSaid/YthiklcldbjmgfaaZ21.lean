/- An entry that is read; l9Entry of the model. -/
import Derived.Test.YthiklcldbjmgfaaZ18
import Derived.Test.YthiklcldbjmgfaaZ19
import Derived.Test.YthiklcldbjmgfaaZ6
namespace Go.Proofs.Ythiklcldbjmgfaa
open Go.RowKit
set_option maxRecDepth 8000
set_option linter.unusedSimpArgs false
set_option linter.unusedVariables false

structure En where
  it : It
  r1 : List Int
  r2 : List Int
  r3 : List Int
  is : Bool
/-- Whether an entry's codes are its vector's. -/
def sameR (n : Nat) (f g f' g' : Nat → Int) (x : En) : Bool :=
  decide (ints (vcode (bkF x.is f f') (bkF x.is g g') x.it.vec 1) n = x.r1) && (decide (ints (vcode (bkF x.is f f') (bkF x.is g g') x.it.vec 2) n = x.r2) && decide (ints (vcode (bkF x.is f f') (bkF x.is g g') x.it.vec 3) n = x.r3))
def entryB (n : Nat) (f g : Nat → Int) (n' : Nat) (f' g' : Nat → Int) (x : En) : Bool := entB n f g n' f' g' x.it && sameR n f g f' g' x

set_option maxHeartbeats 4000000 in
set_option maxRecDepth 4000 in
theorem l9Entry_any (a a' : Option Addr) (n cap n' cap' : Nat) (f g f' g' : Nat → Int) (x : En) (va : Option Addr) (vn vc : Nat) (r : RowV) (w : World) (h : PRow w a n f g) (h' : PRow w a' n' f' g') (hx : Row w va vn x.it.vec) (hr : r.is w x.r1 x.r2 x.r3) (hn : n ≤ 1048576) (hn' : n' ≤ 1048576) (hvn : vn ≤ 1048576) :
    Calls Try.prog 14 #[.slice a n cap, .slice a' n' cap', .agg #[.int .i64 x.it.id, .int .i64 x.it.tags, .slice va vn vc, .slice r.a1 r.m1 r.k1, .slice r.a2 r.m2 r.k2, .slice r.a3 r.m3 r.k3, .bool x.is]] w fun e w' => e = .returned (.bool (entryB n f g n' f' g' x)) ∧ Below w.heap.size w w' := by
  have EO := hide (fun w1 (hb : Below w.heap.size w w1) => sEntryOf_any a a' n cap n' cap' f g f' g' x.it va vn vc x.is w1 (h.below hb) (h'.below hb) (hx.below hb) hn hn' hvn)
  have HR := hide (fun w1 (hb : Below w.heap.size w w1) => hr.below hb)
  have HNB : Hid (entB n f g n' f' g' x.it = true → 1 ≤ n) := hide (fun q => by
    unfold entB alikeB at q
    simp only [Bool.and_eq_true] at q
    exact (boxB_num q.1.1.1).1)
  have S0 : Hid (Sev (w.alloc (.cells #[.int .i64 x.it.id, .int .i64 x.it.tags, .slice va vn vc, .slice r.a1 r.m1 r.k1, .slice r.a2 r.m2 r.k2, .slice r.a3 r.m3 r.k3, .bool x.is] 46)) w.heap.size (.int .i64 x.it.id) (.int .i64 x.it.tags) (.slice va vn vc) (.slice r.a1 r.m1 r.k1) (.slice r.a2 r.m2 r.k2) (.slice r.a3 r.m3 r.k3) (.bool x.is)) := hide (Sev.new _ _ _ _ _ _ _ _ _ _ rfl)
  have B0 : Hid (Below w.heap.size w (w.alloc (.cells #[.int .i64 x.it.id, .int .i64 x.it.tags, .slice va vn vc, .slice r.a1 r.m1 r.k1, .slice r.a2 r.m2 r.k2, .slice r.a3 r.m3 r.k3, .bool x.is] 46))) := hide (balloc (Below.refl _ _) _)
  have HS := hide (show sameR n f g f' g' x = (decide (ints (vcode (bkF x.is f f') (bkF x.is g g') x.it.vec 1) n = x.r1) && (decide (ints (vcode (bkF x.is f f') (bkF x.is g g') x.it.vec 2) n = x.r2) && decide (ints (vcode (bkF x.is f f') (bkF x.is g g') x.it.vec 3) n = x.r3))) from rfl)
  have HE := hide (show entryB n f g n' f' g' x = (entB n f g n' f' g' x.it && sameR n f g f' g' x) from rfl)
  clear h h' hx hr
  obtain ⟨z0, z1, z2, z3, z4, z5, z6, z7⟩ := S0.out
  cases hB : entB n f g n' f' g' x.it
  · rw [hB] at EO HE
    rw [HE.out, Bool.false_and]
    clear hB
    unfold SEnt entOf at EO
    go_enter Try.func14, Try.ntmps14
    go_wp2_with fail
    refine (EO.out _ B0.out).mono ?_
    rintro e w1 ⟨av, cv, s1, s2, s3, q1, q2, q3, rfl, _, _, _, _, _, hb1⟩
    have B1 := hide (bstep B0.out hb1)
    clear hb1 EO z0 z1 z2 z3 z4 z5 z6 z7
    go_wp2_with fail
    go_ret
    exact ⟨rfl, balloc B1.out _⟩
  · have n1 := HNB.out hB
    rw [hB] at EO HE
    rw [HE.out, Bool.true_and, HS.out]
    clear hB
    unfold SEnt entOf at EO
    obtain ⟨C1, hC1⟩ : ∃ C1, ints (vcode (bkF x.is f f') (bkF x.is g g') x.it.vec 1) n = C1 := ⟨_, rfl⟩
    obtain ⟨C2, hC2⟩ : ∃ C2, ints (vcode (bkF x.is f f') (bkF x.is g g') x.it.vec 2) n = C2 := ⟨_, rfl⟩
    obtain ⟨C3, hC3⟩ : ∃ C3, ints (vcode (bkF x.is f f') (bkF x.is g g') x.it.vec 3) n = C3 := ⟨_, rfl⟩
    simp only [if_true, hC1, hC2, hC3] at EO
    rw [hC1, hC2, hC3]
    clear hC1 hC2 hC3
    go_enter Try.func14, Try.ntmps14
    go_wp2_with fail
    refine (EO.out _ B0.out).mono ?_
    rintro e w1 ⟨av, cv, s1, s2, s3, q1, q2, q3, rfl, _, hr1, hr2, hr3, _, hb1⟩
    have nb := balloc (Below.refl w1.heap.size w1) (.cells #[.int .i64 x.it.id, .int .i64 x.it.tags, .slice av x.it.vec.length cv, .slice s1 n q1, .slice s2 n q2, .slice s3 n q3, .bool x.is] 46)
    have B1 := hide (bstep (bstep B0.out hb1) nb)
    have S1 := hide ((S0.out.below hb1).below nb)
    have T1 : Hid (Sev (w1.alloc (.cells #[.int .i64 x.it.id, .int .i64 x.it.tags, .slice av x.it.vec.length cv, .slice s1 n q1, .slice s2 n q2, .slice s3 n q3, .bool x.is] 46)) w1.heap.size (.int .i64 x.it.id) (.int .i64 x.it.tags) (.slice av x.it.vec.length cv) (.slice s1 n q1) (.slice s2 n q2) (.slice s3 n q3) (.bool x.is)) := hide (Sev.new _ _ _ _ _ _ _ _ _ _ rfl)
    have SM := hide (l5Same_any ⟨s1, s2, s3, n, n, n, q1, q2, q3⟩ r C1 C2 C3 x.r1 x.r2 x.r3 _ (show RowV.is ⟨s1, s2, s3, n, n, n, q1, q2, q3⟩ (w1.alloc (.cells #[.int .i64 x.it.id, .int .i64 x.it.tags, .slice av x.it.vec.length cv, .slice s1 n q1, .slice s2 n q2, .slice s3 n q3, .bool x.is] 46)) C1 C2 C3 from ⟨hr1.below nb, hr2.below nb, hr3.below nb⟩) (HR.out _ B1.out) n1 n1 n1 hn hn hn)
    unfold RowV.v at SM
    clear hr1 hr2 hr3 hb1 nb EO S0 z0 z1 z2 z3 z4 z5 z6 z7
    obtain ⟨z0, z1, z2, z3, z4, z5, z6, z7⟩ := S1.out
    obtain ⟨y0, y1, y2, y3, y4, y5, y6, y7⟩ := T1.out
    go_wp2_with fail
    refine SM.out.mono ?_
    rintro e w2 ⟨rfl, hb2⟩
    have B2 := hide (bstep B1.out hb2)
    clear hb2
    go_wp2_with fail
    go_ret
    exact ⟨rfl, B2.out⟩
end Go.Proofs.Ythiklcldbjmgfaa

/- Slices of entries that are read; itemsIn of the program. -/
namespace Go.Proofs.Ythiklcldbjmgfaa
open Go.RowKit
set_option maxRecDepth 8000
set_option linter.unusedSimpArgs false
set_option linter.unusedVariables false

/-- At b, o lies the entry x. -/
structure EAt (w : World) (b o : Nat) (x : En) : Prop where
  c0 : w.cell? ⟨b, o, none⟩ = some (.int .i64 x.it.id)
  c1 : w.cell? ⟨b, o + 1, none⟩ = some (.int .i64 x.it.tags)
  vec : ∃ a n c, w.cell? ⟨b, o + 2, none⟩ = some (.slice a n c) ∧ Row w a n x.it.vec
  row : ∃ r : RowV, w.cell? ⟨b, o + 3, none⟩ = some (.slice r.a1 r.m1 r.k1) ∧ w.cell? ⟨b, o + 4, none⟩ = some (.slice r.a2 r.m2 r.k2) ∧ w.cell? ⟨b, o + 5, none⟩ = some (.slice r.a3 r.m3 r.k3) ∧ r.is w x.r1 x.r2 x.r3
  c6 : w.cell? ⟨b, o + 6, none⟩ = some (.bool x.is)

theorem EAt.below {w w' : World} {b o : Nat} {x : En} (h : EAt w b o x) (lt : b < w.heap.size) (hb : Below w.heap.size w w') : EAt w' b o x := by
  obtain ⟨a, n, c, hc, hr⟩ := h.vec
  obtain ⟨r, h3, h4, h5, hi⟩ := h.row
  have q : ∀ j v, w.cell? ⟨b, j, none⟩ = some v → w'.cell? ⟨b, j, none⟩ = some v := fun j v e => (hb.cell (p := ⟨b, j, none⟩) lt).trans e
  exact ⟨q _ _ h.c0, q _ _ h.c1, ⟨a, n, c, q _ _ hc, hr.below hb⟩, ⟨r, q _ _ h3, q _ _ h4, q _ _ h5, hi.below hb⟩, q _ _ h.c6⟩
abbrev EL := Nat → En
structure ERow (w : World) (a : Option Addr) (n : Nat) (E : EL) : Prop where
  lies : n = 0 ∨ ∃ b off, a = some ⟨b, off, none⟩ ∧ b < w.heap.size ∧ ∀ i, i < n → EAt w b (off + i * 7) (E i)

theorem ERow.below {w w' : World} {a : Option Addr} {n : Nat} {E : EL} (h : ERow w a n E) (hb : Below w.heap.size w w') : ERow w' a n E := by
  rcases h.lies with h0 | ⟨b, off, e, lt, hc⟩
  · exact ⟨.inl h0⟩
  · exact ⟨.inr ⟨b, off, e, Nat.lt_of_lt_of_le lt hb.size, fun i hi => (hc i hi).below lt hb⟩⟩

theorem infoItemE : (Try.prog.info? 43).map (fun i => (i.zero, i.size, i.bytes)) = some (some (.agg #[.int .i64 0, .int .i64 0, .slice none 0 0]), 3, 40) := by kernel_rfl

theorem rowIs_ex (w : World) (cs : Array Value) (T : TypeId) (m : Nat) (hm : cs.size = m) : ∃ F, (w.alloc (.cells cs T)).rowIs w.heap.size T m F := by
  subst hm
  exact ⟨fun i => cs[i]?.getD (.int .i64 0), World.rowIs_alloc w cs T _ (by intro i hi; simp [hi])⟩
/-- Items that were read out of entries, k of n of them. -/
structure InB (w0 w : World) (g n k : Nat) (E : EL) (F : Nat → Value) : Prop where
  row : w.rowIs g 43 (n * 3) F
  pre : ∀ i, i < k → F (i * 3) = .int .i64 (E i).it.id ∧ F (i * 3 + 1) = .int .i64 (E i).it.tags ∧ ∃ a m c, F (i * 3 + 2) = .slice a m c ∧ Row w0 a m (E i).it.vec
  bel : Below w0.heap.size w0 w
  ge : w0.heap.size ≤ g

theorem InB.irow {w0 w : World} {g n : Nat} {E : EL} {F : Nat → Value} (h : InB w0 w g n n E F) : IRow w (some ⟨g, 0, none⟩) n (fun i => (E i).it) := by
  refine ⟨.inr ⟨g, 0, rfl, World.rowIs.lt h.row, fun i hi => ?_⟩⟩
  obtain ⟨h0, h1, a, m, c, h2, hr⟩ := h.pre i hi
  rw [Nat.zero_add]
  exact ⟨by rw [World.rowIs.cell h.row (i := i * 3) (by omega), h0], by rw [World.rowIs.cell h.row (i := i * 3 + 1) (by omega), h1], a, m, c, by rw [World.rowIs.cell h.row (i := i * 3 + 2) (by omega), h2], hr.below h.bel⟩

theorem InB.below {w0 w w' : World} {g n k : Nat} {E : EL} {F : Nat → Value} (h : InB w0 w g n k E F) (hb : Below w.heap.size w w') : InB w0 w' g n k E F := ⟨h.row.of_block (hb.block _ (World.rowIs.lt h.row)), h.pre, bstep h.bel hb, h.ge⟩

theorem InB.put {w0 w : World} {g n k : Nat} {E : EL} {F : Nat → Value} (h : InB w0 w g n k E F) (a : Option Addr) (m c : Nat) (hr : Row w0 a m (E k).it.vec) :
    ∃ G, InB w0 (((w.setCell ⟨g, k * 3, none⟩ (.int .i64 (E k).it.id)).setCell ⟨g, k * 3 + 1, none⟩ (.int .i64 (E k).it.tags)).setCell ⟨g, k * 3 + 2, none⟩ (.slice a m c)) g n (k + 1) E G := by
  refine ⟨_, World.rowIs.set (World.rowIs.set (World.rowIs.set h.row (k * 3) _) (k * 3 + 1) _) (k * 3 + 2) _, fun i hi => ?_, ((h.bel.setCell h.ge _).setCell h.ge _).setCell h.ge _, h.ge⟩
  rcases Nat.lt_succ_iff_lt_or_eq.1 hi with h' | rfl
  · obtain ⟨h0, h1, a', m', c', h2, hr'⟩ := h.pre i h'
    refine ⟨?_, ?_, a', m', c', ?_, hr'⟩
    · rw [if_neg (by omega), if_neg (by omega), if_neg (by omega), h0]
    · rw [if_neg (by omega), if_neg (by omega), if_neg (by omega), h1]
    · rw [if_neg (by omega), if_neg (by omega), if_neg (by omega), h2]
  · refine ⟨?_, ?_, a, m, c, ?_, hr⟩
    · rw [if_neg (by omega), if_neg (by omega), if_pos rfl]
    · rw [if_neg (by omega), if_pos rfl]
    · rw [if_pos rfl]

set_option maxHeartbeats 4000000 in
set_option maxRecDepth 4000 in
theorem itemsIn_any (a : Option Addr) (n cap : Nat) (E : EL) (w : World) (h : ERow w a n E) (hn : n ≤ 1048576) :
    Calls Try.prog 19 #[.slice a n cap] w fun e w' => ∃ g, e = .returned (.slice (some ⟨g, 0, none⟩) n n) ∧ IRow w' (some ⟨g, 0, none⟩) n (fun i => (E i).it) ∧ Below w.heap.size w w' := by
  have hmk := run_make_cells (P := Try.prog) 53 43 (.agg #[.int .i64 0, .int .i64 0, .slice none 0 0]) #[.int .i64 0, .int .i64 0, .slice none 0 0] 40 rfl Try.underlying53 infoItemE .i64 .i64 n (by omega) (by omega)
  obtain ⟨F0, hF0⟩ := rowIs_ex w (madeCells #[.int .i64 0, .int .i64 0, .slice none 0 0] (n * 3)) 43 (n * 3) (size_madeCells _ _)
  have I0 : Hid (InB w (w.alloc (.cells (madeCells #[.int .i64 0, .int .i64 0, .slice none 0 0] (n * 3)) 43)) w.heap.size n 0 E F0) := hide ⟨hF0, fun i hi => absurd hi (by omega), balloc (Below.refl _ _) _, Nat.le_refl _⟩
  have HH := hide h
  clear hF0 h
  go_enter Try.func19, Try.ntmps19
  go_wp2_with fail
  go_loopw [4, 11] (fun _ i wr => ∃ (k : Nat) (F : Nat → Value), k ≤ n ∧ i = .int .i64 k ∧ Hid (InB w wr w.heap.size n k E F)) (fun _ i _ => n - (intOf i).toNat)
  case atStart => exact ⟨0, F0, Nat.zero_le _, rfl, I0⟩
  case round =>
    clear I0
    obtain ⟨k, F, hk, rfl, HI⟩ := hrel
    by_cases hlt : k < n
    · have hlt' : (k : Int) < (n : Int) := by omega
      rcases HH.out.lies with h0 | ⟨b, off, rfl, hb, hc⟩
      · omega
      · have hcr := (hc k hlt).below hb HI.out.bel
        obtain ⟨va, vn, vc, h2, _⟩ := hcr.vec
        obtain ⟨va', vn', vc', h2', hv0⟩ := (hc k hlt).vec
        have e2 := (HI.out.bel.cell (p := ⟨b, off + k * 7 + 2, none⟩) hb).trans h2'
        rw [h2] at e2
        simp at e2
        obtain ⟨rfl, rfl, rfl⟩ := e2
        obtain ⟨r, h3, h4, h5, _⟩ := hcr.row
        have h0 := hcr.c0
        have h1 := hcr.c1
        have h6 := hcr.c6
        have HV := hide hv0
        have lb : b < wr.heap.size := Nat.lt_of_lt_of_le hb HI.out.bel.size
        have lw := World.rowIs.lt HI.out.row
        have y0 := World.rowIs.cell HI.out.row (i := k * 3) (by omega)
        have y1 := World.rowIs.cell HI.out.row (i := k * 3 + 1) (by omega)
        have y2 := World.rowIs.cell HI.out.row (i := k * 3 + 2) (by omega)
        have z0 := World.rowIs.frozen HI.out.row (k * 3)
        have z1 := World.rowIs.frozen HI.out.row (k * 3 + 1)
        have z2 := World.rowIs.frozen HI.out.row (k * 3 + 2)
        have NE : ¬ wr.heap.size = w.heap.size := by omega
        have NE' : ¬ w.heap.size = wr.heap.size := by omega
        clear hc hcr h2' hv0
        go_wp2_with fail
        go_roundw
        case rel =>
          obtain ⟨G, hG⟩ := HI.out.put va vn vc HV.out
          exact ⟨k + 1, G, by omega, by go_num, hide (hG.below (balloc (Below.refl _ _) _))⟩
        case measure => simp [intOf]; omega
    · obtain rfl : k = n := by omega
      go_wp2_with fail
      go_ret
      exact ⟨w.heap.size, rfl, HI.out.irow, HI.out.bel⟩
end Go.Proofs.Ythiklcldbjmgfaa
