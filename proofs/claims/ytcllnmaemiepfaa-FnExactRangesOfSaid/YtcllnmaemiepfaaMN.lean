/- The laws' small functions over lists of vectors: szInt64SS, toInt64SS, eqInt64SS. -/
import Derived.Test.YtcllnmaemiepfaaMA
import Derived.Test.YtcllnmaemiepfaaVA
import Derived.Test.YtcllnmaemiepfaaSZI
import Derived.Test.YtcllnmaemiepfaaVD0
import Derived.Deep.Matrix
import Derived.Deep.RegionHeld3
import Derived.ProofKit
namespace Go.Proofs.Ytcllnmaemiepfaa
open Go.RowKit
set_option maxRecDepth 8000
set_option linter.unusedSimpArgs false
set_option linter.unusedVariables false

/-- A list of vectors that came in, of whatever length each. -/
structure LMat (w : World) (a : Option Addr) (m : Nat) (xss : List (List Int)) : Prop where
  len : xss.length = m
  big : m ≤ 9223372036854775807
  lies : m = 0 ∨ ∃ b off, a = some ⟨b, off, none⟩ ∧ b < w.heap.size ∧ ∀ i, i < m → ∃ a' n' c', w.cell? ⟨b, off + i, none⟩ = some (.slice a' n' c') ∧ Row w a' n' (row xss i) ∧ n' ≤ 9223372036854775807

theorem LMat.below {w w' : World} {a : Option Addr} {m : Nat} {xss : List (List Int)} (h : LMat w a m xss) (hb : Below w.heap.size w w') : LMat w' a m xss := by
  refine ⟨h.len, h.big, ?_⟩
  rcases h.lies with h0 | ⟨b, off, e, lt, hc⟩
  · exact .inl h0
  · refine .inr ⟨b, off, e, Nat.lt_of_lt_of_le lt hb.size, fun i hi => ?_⟩
    obtain ⟨a', n', c', hz, hr, hn⟩ := hc i hi
    exact ⟨a', n', c', (hb.cell (p := ⟨b, off + i, none⟩) lt).trans hz, hr.below hb, hn⟩

theorem LMat.mat {w : World} {a : Option Addr} {m : Nat} {xss : List (List Int)} (h : LMat w a m xss) (hb : ∀ i, i < m → (row xss i).length ≤ 1048576) : Mat w a m xss := by
  refine ⟨h.len, ?_⟩
  rcases h.lies with h0 | ⟨b, off, e, lt, hc⟩
  · exact .inl h0
  · refine .inr ⟨b, off, e, lt, fun i hi => ?_⟩
    obtain ⟨a', n', c', hz, hr, hn⟩ := hc i hi
    exact ⟨a', n', c', hz, hr, by have := hb i hi; rw [hr.len] at this; exact this⟩

theorem rows_of {H : Type} {enc : TypeId × Value → H} {P : Program} {w : World} {base : Nat} {held : Bool} {t e q : TypeId} {fuel : Nat} {v : Value} {x : DataW H × List MemPlace}
    (ht : P.underlying t = some (.slice e)) (he : P.underlying e = some (.slice q)) (hq : P.underlying q = some (.int .i64)) (ce : P.cellsOf e = 1) (cq : P.cellsOf q = 1)
    (h : DataW.trod enc P w base (fun _ => true) held fuel t [v] = some x) : ∃ a n c xss, v = .slice a n c ∧ LMat w a n xss := by
  rcases Go.Deep.open_int_rows ht he hq ce cq h with ⟨hcs, _⟩ | ⟨a, len, cap, A, L, C, Z, hcs, hb, hl, hm, _, hx⟩
  · simp at hcs
    exact ⟨none, 0, 0, [], hcs, rfl, by omega, .inl rfl⟩
  simp at hcs
  have hlen : ((List.range len).map fun r => (Z r).take (L r)).length = len := by simp
  have hrow : ∀ r, r < len → row ((List.range len).map fun r => (Z r).take (L r)) r = (Z r).take (L r) := fun r hr => by simp [row, List.getD, hr]
  refine ⟨some a, len, cap, (List.range len).map fun r => (Z r).take (L r), hcs, hlen, by unfold maxLen at hm; omega, ?_⟩
  by_cases h0 : len = 0
  · exact .inl h0
  · obtain ⟨b, off, spot⟩ := a
    have hc := (hx 0 (by omega)).1
    have hspot : spot = none := by simpa [Addr.add] using World.cell?_spot hc
    subst hspot
    refine .inr ⟨b, off, rfl, ?_, fun r hr => ?_⟩
    · have := cellLt hc
      simpa [Addr.add] using this
    · obtain ⟨x1, x2, x3, x4, x5, x6, x7⟩ := hx r (by omega)
      refine ⟨A r, L r, C r, ?_, ?_, by unfold maxLen at x3; omega⟩
      · by_cases h00 : r = 0
        · subst h00; simpa [Addr.add] using x1
        · simpa [Addr.add, h00] using x1
      · rw [hrow r hr]
        refine IsRow.row (cap := C r) ?_
        cases hA : A r with
        | none =>
          have hC := x6 hA
          exact .inl ⟨rfl, by omega, hC, List.eq_nil_of_length_eq_zero (by omega)⟩
        | some a' =>
          exact .inr ⟨a', rfl, x2, x3, x4, fun i hi => (x7 a' hA).2 i (by omega), x5⟩

set_option maxHeartbeats 1600000 in
theorem szRows_any (a : Option Addr) (m cap : Nat) (xss : List (List Int)) (left : Int) (w : World) (h : LMat w a m xss) (h0 : 0 ≤ left) (h1 : left ≤ 1048576) :
    Calls Try.prog 4 #[.slice a m cap, .int .i64 left] w fun e w' => (∃ v : Int, e = .returned (.int .i64 v) ∧ v ≤ left ∧ (v < 0 ∨ ((m : Int) ≤ left ∧ ∀ i, i < m → ((row xss i).length : Int) ≤ left))) ∧ w' = w := by
  have hbig := h.big
  have hl := h.len
  by_cases hm : left - (m : Int) < 0
  · clear h
    go_enter Try.func4, Try.ntmps4
    go_wp2
    go_ret
    exact ⟨⟨-1, rfl, by omega, .inl (by omega)⟩, rfl⟩
  · have HL := hide h.lies
    clear h
    go_enter Try.func4, Try.ntmps4
    go_wp2_with fail
    go_loopw [1, 5] (fun s i wr => ∃ (k : Nat) (lf : Int), k ≤ m ∧ i = .int .i64 k ∧ s = .int .i64 lf ∧ 0 ≤ lf ∧ lf ≤ left ∧ Hid (∀ j, j < k → ((row xss j).length : Int) ≤ left) ∧ wr = w) (fun _ i _ => m - (intOf i).toNat)
    case atStart => exact ⟨0, _, Nat.zero_le _, rfl, rfl, by omega, by omega, hide (fun j hj => absurd hj (by omega)), rfl⟩
    case round =>
      obtain ⟨k, lf, hk, rfl, rfl, l0, l1, HA, rfl⟩ := hrel
      by_cases hlt : k < m
      · have hlt' : (k : Int) < (m : Int) := by omega
        obtain ⟨b, off, a', n', c', rfl, hz, hr, hn'⟩ : ∃ b off a' n' c', a = some ⟨b, off, none⟩ ∧ wr.cell? ⟨b, off + k, none⟩ = some (.slice a' n' c') ∧ Row wr a' n' (row xss k) ∧ n' ≤ 9223372036854775807 := by
          rcases HL.out with q | ⟨b, off, e, _, hc⟩
          · omega
          · obtain ⟨a', n', c', h1, h2, h3⟩ := hc k hlt
            exact ⟨b, off, a', n', c', e, h1, h2, h3⟩
        have hrl := hr.len
        have SZ := hide (szInts_any a' n' c' lf wr l0 (by omega) hn')
        clear hr
        by_cases hn : lf - (n' : Int) < 0
        · rw [show szN lf n' = -1 by unfold szN; rw [if_pos hn]] at SZ
          go_wp2_with fail
          refine SZ.out.mono ?_
          rintro e w2 ⟨rfl, hw⟩
          obtain rfl := hw.symm
          clear hw
          go_wp2_with fail
          go_ret
          exact ⟨⟨-1, rfl, by omega, .inl (by omega)⟩, rfl⟩
        · rw [show szN lf n' = lf - (n' : Int) by unfold szN; rw [if_neg hn]] at SZ
          have HN : Hid (∀ j, j < k + 1 → ((row xss j).length : Int) ≤ left) := hide fun j hj => by
            rcases Nat.lt_succ_iff_lt_or_eq.1 hj with q | q
            · exact HA.out j q
            · subst q; omega
          obtain ⟨l2, hl2⟩ : ∃ l2, lf - (n' : Int) = l2 := ⟨_, rfl⟩
          have l2a : 0 ≤ l2 := by omega
          have l2b : l2 ≤ left := by omega
          rw [hl2] at SZ
          have l2c : ¬ l2 < 0 := by omega
          clear hl2 hn hrl
          go_wp2_with fail
          refine SZ.out.mono ?_
          rintro e w2 ⟨rfl, hw⟩
          obtain rfl := hw.symm
          clear hw
          go_wp2_with fail
          go_roundw
          case rel => exact ⟨k + 1, l2, by omega, by go_num, rfl, l2a, l2b, HN, by first | trivial | rfl⟩
          case measure => simp [intOf]; omega
      · obtain rfl : k = m := by omega
        go_wp2_with fail
        go_ret
        exact ⟨⟨lf, rfl, by omega, .inr ⟨by omega, HA.out⟩⟩, rfl⟩

theorem Try.infoVecX : (Try.prog.info? 33).map (fun i => (i.zero, i.size, i.bytes)) = some (some (.slice none 0 0), 1, 24) := by kernel_rfl
/-- The cells of a list that is made: the first k lead to vectors. -/
def hdTo (k : Nat) (V : Nat → Nat) (xss : List (List Int)) (i : Nat) : Value := if i < k then .slice (some ⟨V i, 0, none⟩) (row xss i).length (row xss i).length else .slice none 0 0
/-- A list of vectors of the call's own. -/
structure OwnM (w : World) (B g k m : Nat) (V : Nat → Nat) (xss : List (List Int)) : Prop where
  head : w.rowIs g 33 m (hdTo k V xss)
  low : B ≤ g
  each : ∀ i, i < k → Own w (V i) (row xss i) ∧ g < V i
  sep : ∀ i j, i < j → j < k → V i < V j

theorem OwnM.below {w w' : World} {B g k m : Nat} {V : Nat → Nat} {xss : List (List Int)} (h : OwnM w B g k m V xss) (hb : Below w.heap.size w w') : OwnM w' B g k m V xss :=
  ⟨World.rowIs.of_block h.head (hb.block g (World.rowIs.lt h.head)), h.low, fun i hi => ⟨(h.each i hi).1.below hb, (h.each i hi).2⟩, h.sep⟩

theorem OwnM.step {w : World} {B g k m : Nat} {V : Nat → Nat} {xss : List (List Int)} (h : OwnM w B g k m V xss) (hk : k < m) {gv : Nat} (ho : Own w gv (row xss k)) (hg : g < gv) (hV : ∀ i, i < k → V i < gv) :
    OwnM (w.setCell ⟨g, k, none⟩ (.slice (some ⟨gv, 0, none⟩) (row xss k).length (row xss k).length)) B g (k + 1) m (fun i => if i = k then gv else V i) xss := by
  refine ⟨(World.rowIs.set h.head k _).congr fun i hi => ?_, h.low, fun i hi => ?_, fun i j hij hj => ?_⟩
  · unfold hdTo
    by_cases e : i = k
    · subst e; simp
    · simp only [e, if_false]
      by_cases l : i < k
      · rw [if_pos l, if_pos (by omega)]
      · rw [if_neg l, if_neg (by omega)]
  · by_cases e : i = k
    · subst e
      simp only [if_true]
      exact ⟨World.rowIs.of_block ho (Below.heap_setCell w ⟨g, i, none⟩ _ gv (by simp; omega)), hg⟩
    · simp only [e, if_false]
      have := h.each i (by omega)
      exact ⟨World.rowIs.of_block this.1 (Below.heap_setCell w ⟨g, k, none⟩ _ (V i) (by have := this.2; simp; omega)), this.2⟩
  · by_cases e : j = k
    · subst e
      simp only [show ¬ i = j by omega, if_false, if_true]
      exact hV i (by omega)
    · simp only [show ¬ i = k by omega, e, if_false]
      exact h.sep i j hij (by omega)

theorem OwnM.mat {w : World} {B g m : Nat} {V : Nat → Nat} {xss : List (List Int)} (h : OwnM w B g m m V xss) (hl : xss.length = m) (hb : ∀ i, i < m → (row xss i).length ≤ 1048576) : Mat w (some ⟨g, 0, none⟩) m xss := by
  refine ⟨hl, .inr ⟨g, 0, rfl, World.rowIs.lt h.head, fun i hi => ?_⟩⟩
  have hc := World.rowIs.cell h.head hi
  unfold hdTo at hc
  rw [if_pos hi] at hc
  exact ⟨_, _, _, by rw [Nat.zero_add]; exact hc, (h.each i hi).1.row, hb i hi⟩

set_option maxHeartbeats 1600000 in
theorem toRows_any (a : Option Addr) (m cap : Nat) (xss : List (List Int)) (w : World) (h : Mat w a m xss) (hm : m ≤ 1048576) :
    Calls Try.prog 6 #[.slice a m cap] w fun e w' => ∃ g V, e = .returned (.slice (some ⟨g, 0, none⟩) m m) ∧ OwnM w' w.heap.size g m m V xss ∧ Below w.heap.size w w' := by
  have hmk := run_make_row' (P := Try.prog) 22 33 (.slice none 0 0) 24 Try.underlying22 Try.infoVecX rfl .i64 .i64 m (by omega) (by omega)
  have HL := hide h.lies
  clear h
  go_enter Try.func6, Try.ntmps6
  go_wp2_with fail
  go_loopw [4] (fun i wr => ∃ (k : Nat) (V : Nat → Nat), k ≤ m ∧ i = .int .i64 k ∧ OwnM wr w.heap.size w.heap.size k m V xss ∧ Below w.heap.size w wr) (fun i _ => m - (intOf i).toNat)
  case atStart => exact ⟨0, fun _ => 0, Nat.zero_le _, rfl, ⟨(World.rowIs_made w (.slice none 0 0) m 33).congr (fun i hi => by unfold hdTo; rw [if_neg (by omega)]), Nat.le_refl _, fun i hi => absurd hi (by omega), fun i j _ hj => absurd hj (by omega)⟩, (by repeat' first | with_reducible exact Below.refl _ _ | with_reducible assumption | with_reducible refine below_drewN ?_ _ | with_reducible refine balloc ?_ _ | with_reducible refine Below.drew ?_ | with_reducible refine Below.setCell ?_ (by first | (simp; done) | (simp; omega) | omega) _ | with_reducible refine bstep ?_ (by assumption))⟩
  case round =>
    obtain ⟨k, V, hk, rfl, hO, hbel⟩ := hrel
    have HO := hide hO
    have HB := hide hbel
    clear hO hbel
    by_cases hlt : k < m
    · have hlt' : (k : Int) < (m : Int) := by omega
      obtain ⟨b, off, a', c', rfl, hz, hr, hn'⟩ : ∃ b off a' c', a = some ⟨b, off, none⟩ ∧ wr.cell? ⟨b, off + k, none⟩ = some (.slice a' (row xss k).length c') ∧ Row wr a' (row xss k).length (row xss k) ∧ (row xss k).length ≤ 1048576 := by
        rcases HL.out with q | ⟨b, off, e, lt, hc⟩
        · omega
        · obtain ⟨a', n', c', h1, h2, h3⟩ := hc k hlt
          have e2 := h2.len
          subst e2
          exact ⟨b, off, a', c', e, (HB.out.cell (p := ⟨b, off + k, none⟩) lt).trans h1, h2.below HB.out, h3⟩
      have TI := hide (toInts_any a' _ c' (row xss k) wr hr hn')
      have hgl := World.rowIs.lt HO.out.head
      have HVl := hide (fun i (hi : i < k) => World.rowIs.lt (HO.out.each i hi).1)
      have hsz := HB.out.size
      clear hr
      go_wp2_with fail
      refine TI.out.mono ?_
      rintro e w2 ⟨gv, rfl, hgv, ho, hb2⟩
      have HO2 := hide (HO.out.below hb2)
      have HB2 := hide (bstep HB.out hb2)
      have HS := hide (HO2.out.step hlt ho (by omega) (fun i hi => Nat.lt_of_lt_of_le (HVl.out i hi) hgv))
      have y0 := World.rowIs.cell HO2.out.head hlt
      have y1 := World.rowIs.frozen HO2.out.head k
      clear ho hb2 HO HB TI hz
      go_wp2_with fail
      go_roundw
      case rel => exact ⟨k + 1, _, by omega, by go_num, HS.out, HB2.out.setCell (Nat.le_refl _) _⟩
      case measure => simp [intOf]; omega
    · obtain rfl : k = m := by omega
      go_wp2_with fail
      go_ret
      exact ⟨_, V, rfl, HO.out, HB.out⟩

/-- Two lists, a vector of each. -/
structure Hd2 (W w : World) (b o : Nat) (v : Value) (b' o' : Nat) (v' : Value) : Prop where
  bel : Below W.heap.size W w
  l : b < w.heap.size
  c : w.cell? ⟨b, o, none⟩ = some v
  l' : b' < w.heap.size
  d : w.cell? ⟨b', o', none⟩ = some v'

theorem Hd2.below {W w w' : World} {b o : Nat} {v : Value} {b' o' : Nat} {v' : Value} (h : Hd2 W w b o v b' o' v') (hb : Below w.heap.size w w') : Hd2 W w' b o v b' o' v' :=
  ⟨bstep h.bel hb, Nat.lt_of_lt_of_le h.l hb.size, (hb.cell (p := ⟨b, o, none⟩) h.l).trans h.c, Nat.lt_of_lt_of_le h.l' hb.size, (hb.cell (p := ⟨b', o', none⟩) h.l').trans h.d⟩

theorem Hd2.drew {W w : World} {b o : Nat} {v : Value} {b' o' : Nat} {v' : Value} (h : Hd2 W w b o v b' o' v') : Hd2 W w.drew b o v b' o' v' := h.below (Below.drew (Below.refl _ _))

set_option maxHeartbeats 1600000 in
theorem eqRows_self (a a' : Option Addr) (m cap cap' : Nat) (xss : List (List Int)) (w : World) (h : Mat w a m xss) (h' : Mat w a' m xss) (hm : m ≤ 1048576) :
    Calls Try.prog 9 #[.slice a m cap, .slice a' m cap'] w fun e w' => e = .returned (.bool true) ∧ Below w.heap.size w w' := by
  have hne : ((m : Int) != (m : Int)) = false := by simp
  have H1 := hide h.lies
  have H2 := hide h'.lies
  clear h h'
  go_enter Try.func9, Try.ntmps9
  go_wp2_with fail
  go_loopw [5] (fun i wr => ∃ k : Nat, k ≤ m ∧ i = .int .i64 k ∧ Below w.heap.size w wr) (fun i _ => m - (intOf i).toNat)
  case atStart => exact ⟨0, Nat.zero_le _, rfl, (by repeat' first | with_reducible exact Below.refl _ _ | with_reducible assumption | with_reducible refine below_drewN ?_ _ | with_reducible refine balloc ?_ _ | with_reducible refine Below.drew ?_ | with_reducible refine Below.setCell ?_ (by first | (simp; done) | (simp; omega) | omega) _ | with_reducible refine bstep ?_ (by assumption))⟩
  case round =>
    obtain ⟨k, hk, rfl, hbel⟩ := hrel
    have HB := hide hbel
    clear hbel
    by_cases hlt : k < m
    · have hlt' : (k : Int) < (m : Int) := by omega
      obtain ⟨b, off, x, c, rfl, lb, hz, hr, hn⟩ : ∃ b off x c, a = some ⟨b, off, none⟩ ∧ b < w.heap.size ∧ w.cell? ⟨b, off + k, none⟩ = some (.slice x (row xss k).length c) ∧ Row w x (row xss k).length (row xss k) ∧ (row xss k).length ≤ 1048576 := by
        rcases H1.out with q | ⟨b, off, e, lt, hc⟩
        · omega
        · obtain ⟨x, n, c, h1, h2, h3⟩ := hc k hlt
          have e2 := h2.len
          subst e2
          exact ⟨b, off, x, c, e, lt, h1, h2, h3⟩
      obtain ⟨b', off', x', c', rfl, lb', hz', hr', hn'⟩ : ∃ b off x c, a' = some ⟨b, off, none⟩ ∧ b < w.heap.size ∧ w.cell? ⟨b, off + k, none⟩ = some (.slice x (row xss k).length c) ∧ Row w x (row xss k).length (row xss k) ∧ (row xss k).length ≤ 1048576 := by
        rcases H2.out with q | ⟨b, off, e, lt, hc⟩
        · omega
        · obtain ⟨x, n, c, h1, h2, h3⟩ := hc k hlt
          have e2 := h2.len
          subst e2
          exact ⟨b, off, x, c, e, lt, h1, h2, h3⟩
      obtain ⟨L, hL⟩ : ∃ L, (row xss k).length = L := ⟨_, rfl⟩
      have EI := hide (fun W (q : Hd2 w W b (off + k) (.slice x L c) b' (off' + k) (.slice x' L c')) => eqInts_any x x' L c L c' (row xss k) (row xss k) W (by have := hr.below q.bel; rwa [hL] at this) (by have := hr'.below q.bel; rwa [hL] at this) (by omega))
      simp only [decide_true] at EI
      have T : Hid (Hd2 w wr b (off + k) (.slice x L c) b' (off' + k) (.slice x' L c')) := hide ⟨HB.out, Nat.lt_of_lt_of_le lb HB.out.size, hL ▸ (HB.out.cell (p := ⟨b, off + k, none⟩) lb).trans hz, Nat.lt_of_lt_of_le lb' HB.out.size, hL ▸ (HB.out.cell (p := ⟨b', off' + k, none⟩) lb').trans hz'⟩
      clear hz hr hz' hr' hL hn hn'
      go_upto_region 6 with fail
      refine wp_region_held_drew (S := fun wx => Hd2 w wx b (off + k) (.slice x L c) b' (off' + k) (.slice x' L c')) (by kernel_rfl) (T.out.drew) (fun hH0 => ?_)
      refine wpAnyH_take (i := 0) (oi := { dst := some 17, op := _, type := _, pos := _, after := _, guard := _ }) (v := ?_) rfl (by kernel_rfl) (by kernel_rfl) (by kernel_rfl) (fun _ _ _ h => h) (Or.inl ⟨by rfl, ?_⟩) (hH0) ?_
      rotate_left
      · (intro wx hSw; obtain ⟨_, _, q0, _, q1⟩ := hSw; go_simp <;> with_reducible rfl)
      simp only [Act.put, List.setIfInBounds_toArray, List.set_cons_zero, List.set_cons_succ]
      refine wpAnyH_take (i := 1) (oi := { dst := some 18, op := _, type := _, pos := _, after := _, guard := _ }) (v := ?_) rfl (by kernel_rfl) (by kernel_rfl) (by kernel_rfl) (fun _ _ _ h => h) (Or.inl ⟨by rfl, ?_⟩) (hH0) ?_
      rotate_left
      · (intro wx hSw; obtain ⟨_, _, q0, _, q1⟩ := hSw; go_simp <;> with_reducible rfl)
      simp only [Act.put, List.setIfInBounds_toArray, List.set_cons_zero, List.set_cons_succ]
      refine wpAnyH_take (i := 2) (oi := { dst := some 19, op := _, type := _, pos := _, after := _, guard := _ }) (v := ?_) rfl (by kernel_rfl) (by kernel_rfl) (by kernel_rfl) (fun _ _ _ h => h) (Or.inl ⟨by rfl, ?_⟩) (hH0) ?_
      rotate_left
      · (intro wx hSw; obtain ⟨_, _, q0, _, q1⟩ := hSw; go_simp <;> with_reducible rfl)
      simp only [Act.put, List.setIfInBounds_toArray, List.set_cons_zero, List.set_cons_succ]
      refine wpAnyH_take (i := 3) (oi := { dst := some 20, op := _, type := _, pos := _, after := _, guard := _ }) (v := ?_) rfl (by kernel_rfl) (by kernel_rfl) (by kernel_rfl) (fun _ _ _ h => h) (Or.inl ⟨by rfl, ?_⟩) (hH0) ?_
      rotate_left
      · (intro wx hSw; obtain ⟨_, _, q0, _, q1⟩ := hSw; go_simp <;> with_reducible rfl)
      simp only [Act.put, List.setIfInBounds_toArray, List.set_cons_zero, List.set_cons_succ]
      refine wpAnyH_take (i := 4) (oi := { dst := some 21, op := _, type := _, pos := _, after := _, guard := _ }) (v := ?_) rfl (by kernel_rfl) (by kernel_rfl) (by kernel_rfl) (fun _ _ _ h => h) (Or.inl ⟨by rfl, ?_⟩) (hH0) ?_
      rotate_left
      · (intro wx hSw; obtain ⟨_, _, q0, _, q1⟩ := hSw; go_simp <;> with_reducible rfl)
      simp only [Act.put, List.setIfInBounds_toArray, List.set_cons_zero, List.set_cons_succ]
      refine wpAnyH_take (i := 5) (oi := { dst := some 22, op := _, type := _, pos := _, after := _, guard := _ }) (v := ?_) rfl (by kernel_rfl) (by kernel_rfl) (by kernel_rfl) (fun _ _ _ h => h) (Or.inl ⟨by rfl, ?_⟩) (hH0) ?_
      rotate_left
      · (intro wx hSw; obtain ⟨_, _, q0, _, q1⟩ := hSw; go_simp <;> with_reducible rfl)
      simp only [Act.put, List.setIfInBounds_toArray, List.set_cons_zero, List.set_cons_succ]
      refine wpAnyH_take (i := 6) (oi := { dst := some 23, op := _, type := _, pos := _, after := _, guard := _ }) (v := ?_) rfl (by kernel_rfl) (by kernel_rfl) (by kernel_rfl) (fun _ _ _ h => h) (Or.inl ⟨by rfl, ?_⟩) (hH0) ?_
      rotate_left
      · (intro wx hSw; obtain ⟨_, _, q0, _, q1⟩ := hSw; go_simp <;> with_reducible rfl)
      simp only [Act.put, List.setIfInBounds_toArray, List.set_cons_zero, List.set_cons_succ]
      refine wpAnyH_take (i := 7) (oi := { dst := some 24, op := _, type := _, pos := _, after := _, guard := _ }) (v := ?_) rfl (by kernel_rfl) (by kernel_rfl) (by kernel_rfl) (fun _ _ _ h => h) (Or.inl ⟨by rfl, ?_⟩) (hH0) ?_
      rotate_left
      · (intro wx hSw; obtain ⟨_, _, q0, _, q1⟩ := hSw; go_simp <;> with_reducible rfl)
      simp only [Act.put, List.setIfInBounds_toArray, List.set_cons_zero, List.set_cons_succ]
      refine wpAnyH_ready (rs := [8]) (by kernel_rfl) (by simp) ?_
      refine AllReadyH.cons (o := { dst := some 25, op := _, type := _, pos := _, after := _, guard := _ }) rfl (fun K hK => ?_) AllReadyH.nil
      go_simp
      refine (EI.out _ hH0).mono ?_
      rintro e w_c25_1 ⟨rfl, hb_c25_1⟩
      dsimp only
      refine hK.out _ _ (Hd2.below hH0 hb_c25_1) (fun hH1 => ?_)
      clear hK K
      refine wpAnyH_take (i := 9) (oi := { dst := some 26, op := _, type := _, pos := _, after := _, guard := _ }) (v := ?_) rfl (by kernel_rfl) (by kernel_rfl) (by kernel_rfl) (fun _ _ _ h => h) (Or.inl ⟨by rfl, ?_⟩) (hH1) ?_
      rotate_left
      · (intro wx hSw; obtain ⟨_, _, q0, _, q1⟩ := hSw; go_simp <;> with_reducible rfl)
      simp only [Act.put, List.setIfInBounds_toArray, List.set_cons_zero, List.set_cons_succ]
      refine wpAnyH_done (by kernel_rfl) ?_ _
      -- behind it: go_wp2_with fail, then go_meet (a cut) or go_ret; the condition at the end: hH1
      have FF := hide hH1.bel
      go_wp2_with fail
      go_roundw
      case rel => exact ⟨k + 1, by omega, by go_num, FF.out⟩
      case measure => simp [intOf]; omega
    · obtain rfl : k = m := by omega
      go_wp2_with fail
      go_ret
      exact ⟨rfl, HB.out⟩
end Go.Proofs.Ytcllnmaemiepfaa
