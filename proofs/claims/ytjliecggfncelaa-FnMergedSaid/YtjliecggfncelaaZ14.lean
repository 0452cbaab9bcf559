/- l6Sorted and HeapSorted of the model. -/
import Derived.Test.YtjliecggfncelaaZ9
import Derived.Deep.RegionHeld3
import Derived.Deep.AppendLies
namespace Go.Proofs.Ytjliecggfncelaa
open Go.RowKit
set_option maxRecDepth 8000
set_option linter.unusedSimpArgs false
set_option linter.unusedVariables false

theorem insL_ext : ∀ (k : Nat) (M N : NL) (x : Int × Int), (∀ i, i < k → M i = N i) → ∀ i, i ≤ k → insL k M x i = insL k N x i := by
  intro k
  induction k with
  | zero =>
    intro M N x _ i hi
    obtain rfl : i = 0 := by omega
    simp only [insL, put_at]
  | succ k ih =>
    intro M N x h i hi
    rw [insL_succ, insL_succ, h k (by omega)]
    by_cases hb : lt2 x (N k) = true
    · rw [if_pos hb, if_pos hb]
      by_cases e : i = k + 1
      · subst e; rw [put_at, put_at]
      · rw [put_off _ _ e, put_off _ _ e]; exact ih M N x (fun j hj => h j (by omega)) i (by omega)
    · rw [if_neg hb, if_neg hb]
      by_cases e : i = k + 1
      · subst e; rw [put_at, put_at]
      · rw [put_off _ _ e, put_off _ _ e]; exact h i (by omega)

def nlv (M : NL) (k : Nat) : List Value := (List.range (k * 2)).map (pcell (fun i => (M i).1) (fun i => (M i).2))

theorem nlv_len (M : NL) (k : Nat) : (nlv M k).length = k * 2 := by simp [nlv]

theorem nlv_at (M : NL) {k i : Nat} (h : i < k) : (nlv M k)[i * 2]? = some (.int .i64 (M i).1) ∧ (nlv M k)[i * 2 + 1]? = some (.int .i64 (M i).2) := by
  have h1 : i * 2 < k * 2 := by omega
  have h2 : i * 2 + 1 < k * 2 := by omega
  simp only [nlv, List.getElem?_map, List.getElem?_range h1, List.getElem?_range h2, Option.map_some, pcell_lo, pcell_hi]
  constructor <;> first | rfl | trivial

/-- A row of the call's own that may grow: its first k are the list M. -/
structure RC (w : World) (base g cap k : Nat) (M : NL) : Prop where
  base : base ≤ g
  row : ∃ cur : Array Value, w.heap[g]? = some (.cells cur 49 (0, 0)) ∧ k ≤ cap ∧ cap ≤ maxLen ∧ cur.size = cap * 2 ∧ ∀ i, i < k → cur[i * 2]? = some (.int .i64 (M i).1) ∧ cur[i * 2 + 1]? = some (.int .i64 (M i).2)

theorem RC.rowl {w : World} {base g cap k : Nat} {M : NL} (h : RC w base g cap k M) : RowL w g k M := by
  obtain ⟨cur, hg, hk, _, hs, hc⟩ := h.row
  exact ⟨cur, hg, by omega, hc⟩

theorem RC.set {w : World} {base g cap k : Nat} {M : NL} (h : RC w base g cap k M) (i : Nat) (x y : Int) : RC ((w.setCell ⟨g, i * 2, none⟩ (.int .i64 x)).setCell ⟨g, i * 2 + 1, none⟩ (.int .i64 y)) base g cap k (M.put i (x, y)) := by
  obtain ⟨cur, hg, hk, hm, hs, hc⟩ := h.row
  obtain ⟨c2, hg2, hs2, hc2⟩ := h.rowl.set i x y
  have e := heap_set (o := i * 2 + 1) (v := .int .i64 y) (heap_set (o := i * 2) (v := .int .i64 x) hg)
  rw [e] at hg2
  simp only [Option.some.injEq, Obj.cells.injEq] at hg2
  obtain ⟨rfl, _⟩ := hg2
  exact ⟨h.base, _, e, hk, hm, by simpa using hs, hc2⟩

theorem RC.block {w w' : World} {base g cap k : Nat} {M : NL} (h : RC w base g cap k M) (hb : w'.heap[g]? = w.heap[g]?) : RC w' base g cap k M := by
  obtain ⟨cur, hg, hr⟩ := h.row
  exact ⟨h.base, cur, hb.trans hg, hr⟩

theorem RC.below {w w' : World} {base g cap k : Nat} {M : NL} (h : RC w base g cap k M) (hb : Below w.heap.size w w') : RC w' base g cap k M := h.block (hb.block g h.rowl.lt)

theorem RC.drew {w : World} {base g cap k : Nat} {M : NL} (h : RC w base g cap k M) : RC w.drew base g cap k M := h.block rfl

theorem RC.owns {w : World} {base g cap k : Nat} {M : NL} (h : RC w base g cap k M) : w.ownsRow base 49 2 (.slice (some ⟨g, 0, none⟩) k cap) k (nlv M k) := by
  obtain ⟨cur, hg, hk, hm, hs, hc⟩ := h.row
  refine ⟨nlv_len M k, .inr ⟨g, cap, cur, rfl, h.base, hg, hk, hm, hs, ?_⟩⟩
  apply List.ext_getElem?
  intro j
  by_cases hj : j < k * 2
  · rw [List.getElem?_take_of_lt hj, Array.getElem?_toList]
    rcases (show j % 2 = 0 ∨ j % 2 = 1 by omega) with h2 | h2
    · have q := hc (j / 2) (by omega)
      have q2 := nlv_at M (k := k) (i := j / 2) (by omega)
      rw [show j / 2 * 2 = j by omega] at q q2
      rw [q.1, q2.1]
    · have q := hc (j / 2) (by omega)
      have q2 := nlv_at M (k := k) (i := j / 2) (by omega)
      rw [show j / 2 * 2 + 1 = j by omega] at q q2
      rw [q.2, q2.2]
  · rw [List.getElem?_eq_none (by simp; omega), List.getElem?_eq_none (by rw [nlv_len]; omega)]

theorem RC.grown {w : World} {base g cap k : Nat} {M : NL} {x y : Int} (h : w.ownsRow base 49 2 (.slice (some ⟨g, 0, none⟩) (k + 1) cap) (k + 1) (nlv M k ++ [.int .i64 x, .int .i64 y])) : RC w base g cap (k + 1) (M.put k (x, y)) := by
  rcases h.2 with ⟨h0, _⟩ | ⟨g', cap', cur, hv, hb, hg, hcap, hm, hsz, htake⟩
  · cases h0
  · simp only [Value.slice.injEq, Option.some.injEq, Addr.mk.injEq] at hv
    obtain ⟨⟨rfl, _⟩, _, rfl⟩ := hv
    have hat : ∀ j, j < (k + 1) * 2 → cur[j]? = (nlv M k ++ [.int .i64 x, .int .i64 y])[j]? := by
      intro j hj
      rw [← htake, List.getElem?_take_of_lt hj, Array.getElem?_toList]
    refine ⟨hb, cur, hg, hcap, hm, hsz, fun i hi => ?_⟩
    rw [hat (i * 2) (by omega), hat (i * 2 + 1) (by omega)]
    by_cases e : i = k
    · subst e
      rw [put_at, List.getElem?_append_right (by rw [nlv_len]; omega), List.getElem?_append_right (by rw [nlv_len]; omega), nlv_len]
      simp [show i * 2 + 1 - i * 2 = 1 by omega]
    · rw [put_off _ _ e, List.getElem?_append_left (by rw [nlv_len]; omega), List.getElem?_append_left (by rw [nlv_len]; omega)]
      exact nlv_at M (by omega)

theorem nearInfo2 : ∃ i : TypeInfo, Try.prog.info? 49 = some i ∧ i.zero = some (.agg #[.int .i64 0, .int .i64 0]) ∧ i.size = 2 ∧ i.bytes = 16 := by
  obtain ⟨i, hi, hzz⟩ := Option.map_eq_some_iff.1 Try.infoNear
  simp only [Prod.mk.injEq] at hzz
  exact ⟨i, hi, hzz.1, hzz.2.1, hzz.2.2⟩

theorem two_new2 (w : World) (x y : Value) (t : TypeId) : ∀ (j : Nat) (u : Value), [x, y][j]? = some u → (w.alloc (.cells #[x, y] t)).cell? ((⟨w.heap.size, 0, none⟩ : Addr).add j) = some u := by
  intro j u hj
  match j, hj with
  | 0, hj => simp at hj; subst hj; simp [Addr.add]
  | 1, hj => simp at hj; subst hj; simp [Addr.add]
  | j + 2, hj => simp at hj

/-- Two pairs of cells of two blocks that are read. -/
structure Qe (w : World) (b o b' o' : Nat) (x y : Int × Int) : Prop where
  lt : b < w.heap.size
  lt' : b' < w.heap.size
  c0 : w.cell? ⟨b, o, none⟩ = some (.int .i64 x.1)
  c1 : w.cell? ⟨b, o + 1, none⟩ = some (.int .i64 x.2)
  d0 : w.cell? ⟨b', o', none⟩ = some (.int .i64 y.1)
  d1 : w.cell? ⟨b', o' + 1, none⟩ = some (.int .i64 y.2)

theorem Qe.below {w w' : World} {b o b' o' : Nat} {x y : Int × Int} (h : Qe w b o b' o' x y) (B : Below w.heap.size w w') : Qe w' b o b' o' x y :=
  ⟨Nat.lt_of_lt_of_le h.lt B.size, Nat.lt_of_lt_of_le h.lt' B.size, (B.cell (p := ⟨b, o, none⟩) h.lt).trans h.c0, (B.cell (p := ⟨b, o + 1, none⟩) h.lt).trans h.c1, (B.cell (p := ⟨b', o', none⟩) h.lt').trans h.d0, (B.cell (p := ⟨b', o' + 1, none⟩) h.lt').trans h.d1⟩

theorem Qe.drew {w : World} {b o b' o' : Nat} {x y : Int × Int} (h : Qe w b o b' o' x y) : Qe w.drew b o b' o' x y := ⟨h.lt, h.lt', h.c0, h.c1, h.d0, h.d1⟩

def SSorted (w : World) (n : Nat) (L : NL) (e : Ending) (w' : World) : Prop :=
  ∃ g cap M, e = .returned (.slice (some ⟨g, 0, none⟩) n cap) ∧ RC w' w.heap.size g cap n M ∧ (∀ i, i < n → M i = isortL n L i) ∧ Below w.heap.size w w'

set_option maxHeartbeats 8000000 in
set_option maxRecDepth 4000 in
theorem l6Sorted_some (b off n cap : Nat) (f g : Nat → Int) (w : World) (hn20 : n ≤ 60) (hb : b < w.heap.size) (hc : ∀ i, i < n → w.cell? ⟨b, off + i * 2, none⟩ = some (.int .i64 (f i)) ∧ w.cell? ⟨b, off + i * 2 + 1, none⟩ = some (.int .i64 (g i))) :
    Calls Try.prog 29 #[.slice (some ⟨b, off, none⟩) n cap] w fun e w' => SSorted w n (listL n f g) e w' := by
  obtain ⟨i0, hi, hz0, hz1, hz2⟩ := nearInfo2
  have HI := hide hi
  have HC := hide hc
  clear hi hc
  go_enter Try.func29, Try.ntmps29
  go_wp2_with fail
  go_loopw [3, 4] (fun s i wr => ∃ (k : Nat) (M : NL), k ≤ n ∧ i = .int .i64 k ∧ (∃ g5 c5, s = .slice (some ⟨g5, 0, none⟩) k c5 ∧ RC wr w.heap.size g5 c5 k M) ∧ (∀ j, j < k → M j = isortL k (listL n f g) j) ∧ Below w.heap.size w wr) (fun _ i _ => n - (intOf i).toNat)
  case atStart =>
    refine ⟨0, fun _ => (0, 0), Nat.zero_le _, rfl, ⟨w.heap.size, 0, rfl, Nat.le_refl _, #[], ?_, Nat.le_refl _, Nat.zero_le _, rfl, fun i hi => absurd hi (by omega)⟩, fun j hj => absurd hj (by omega), (by repeat' first | with_reducible exact Below.refl _ _ | with_reducible assumption | with_reducible refine below_drewN ?_ _ | with_reducible refine balloc ?_ _ | with_reducible refine Below.drew ?_ | with_reducible refine Below.setCell ?_ (by first | (simp; done) | (simp; omega) | omega) _ | with_reducible refine bstep ?_ (by assumption))⟩
    exact Go.Deep.blk_alloc_new _ _
  case round =>
    obtain ⟨k, M, hk, rfl, ⟨g4, c4, rfl, hrc⟩, hag, hbel⟩ := hrel
    have HRC := hide hrc
    have HA := hide hag
    have HB := hide hbel
    have sz := hbel.size
    clear hrc hag hbel
    by_cases hlt : k < n
    · have z1 : wr.cell? ⟨b, off + k * 2, none⟩ = some (.int .i64 (f k)) := (HB.out.cell (p := ⟨b, off + k * 2, none⟩) hb).trans (HC.out k hlt).1
      have z2 : wr.cell? ⟨b, off + k * 2 + 1, none⟩ = some (.int .i64 (g k)) := (HB.out.cell (p := ⟨b, off + k * 2 + 1, none⟩) hb).trans (HC.out k hlt).2
      have hkn : (k : Int) < (n : Int) := by omega
      have hown := hide (HRC.out.owns)
      generalize hNV : nlv M k = NV at hown
      have HNV := hide hNV
      clear hNV
      go_wp2_with (at_builtin; refine wpList_append_lies _ rfl _ _ 28 rfl w.heap.size 49 i0 _ 2 16 Try.underlying28 HI.out hz0 hz1 hz2 rfl (by decide) _ _ _ rfl (hown.out.alloc _) ⟨_, 0, none⟩ 1 1 [.int .i64 (f k), .int .i64 (g k)] rfl rfl (two_new2 _ _ _ _) (by intro u hu; simp at hu; rcases hu with rfl | rfl <;> rfl) (by omega) (by unfold maxLen; omega) (by omega) (by simp; omega) _ rfl ?_)
      intro g5 c5 w5 hown5 hgrow hat5 hglt
      have R5 : RC w5 w.heap.size g5 c5 (k + 1) (M.put k (f k, g k)) := RC.grown (by rw [HNV.out]; exact hown5)
      have B5 : Below w.heap.size w w5 := (balloc HB.out (.cells #[.int .i64 (f k), .int .i64 (g k)] 49)).grown hgrow (by simp; omega) fun k' hk' => (hown.out.lt k' hk').1
      have HR5 := hide R5
      have HB5 := hide B5
      clear R5 B5 hown5 hgrow hat5 hown HB HRC z1 z2
      go_wp2_with fail
      go_loopw [5] (fun s wv => ∃ (p : Nat) (N : NL), s = .int .i64 p ∧ p ≤ k ∧ RC wv w.heap.size g5 c5 (k + 1) N ∧ (∀ i, i ≤ k → insL p N (f k, g k) i = insL k M (f k, g k) i) ∧ Below w.heap.size w wv) (fun s _ => (intOf s).toNat)
      case atStart => exact ⟨k, _, rfl, Nat.le_refl _, HR5.out, fun i hi => insL_ext k _ _ _ (fun j hj => put_off _ _ (by omega)) i hi, HB5.out⟩
      case round =>
        obtain ⟨p, N, rfl, hat, hrc, hins, hbel⟩ := hrel
        have HRC := hide hrc
        have HU := hide hins
        have HB := hide hbel
        clear hrc hins hbel HR5 HB5
        by_cases hp0 : p = 0
        · have hd : decide (0 < p) = false := by simp [hp0]
          have hz : insL p N (f k, g k) = N.put p (f k, g k) := by subst hp0; rfl
          clear hp0
          go_upto_region 7 with fail
          refine wp_region_held_drew (S := fun wx => True) (by kernel_rfl) (trivial) (fun hH0 => ?_)
          refine wpAnyH_take (i := 0) (oi := { dst := some 22, op := _, type := _, pos := _, after := _, guard := _ }) (v := ?_) rfl (by kernel_rfl) (by kernel_rfl) (by kernel_rfl) (fun _ _ _ h => h) (Or.inl ⟨by rfl, ?_⟩) (hH0) ?_
          rotate_left
          · (intro wx hSw; obtain _ := hSw; go_simp <;> with_reducible rfl)
          simp only [Act.put, List.setIfInBounds_toArray, List.set_cons_zero, List.set_cons_succ]
          refine wpAnyH_take (i := 1) (oi := { dst := some 23, op := _, type := _, pos := _, after := _, guard := _ }) (v := ?_) rfl (by kernel_rfl) (by kernel_rfl) (by kernel_rfl) (fun _ _ _ h => h) (Or.inl ⟨by rfl, ?_⟩) (hH0) ?_
          rotate_left
          · (intro wx hSw; obtain _ := hSw; go_simp <;> with_reducible rfl)
          simp only [Act.put, List.setIfInBounds_toArray, List.set_cons_zero, List.set_cons_succ]
          refine wpAnyH_take (i := 2) (oi := { dst := some 24, op := _, type := _, pos := _, after := _, guard := _ }) (v := ?_) rfl (by kernel_rfl) (by kernel_rfl) (by kernel_rfl) (fun _ _ _ h => h) (Or.inl ⟨by rfl, ?_⟩) (hH0) ?_
          rotate_left
          · (intro wx hSw; obtain _ := hSw; go_simp <;> with_reducible rfl)
          simp only [Act.put, List.setIfInBounds_toArray, List.set_cons_zero, List.set_cons_succ]
          refine wpAnyH_take (i := 3) (oi := { dst := some 25, op := _, type := _, pos := _, after := _, guard := _ }) (v := _) rfl (by kernel_rfl) (by kernel_rfl) (by kernel_rfl) (fun _ _ _ h => h) (Or.inr ⟨by rfl, rfl⟩) (hH0) ?_
          simp only [Act.put, List.setIfInBounds_toArray, List.set_cons_zero, List.set_cons_succ]
          refine wpAnyH_take (i := 4) (oi := { dst := some 26, op := _, type := _, pos := _, after := _, guard := _ }) (v := _) rfl (by kernel_rfl) (by kernel_rfl) (by kernel_rfl) (fun _ _ _ h => h) (Or.inr ⟨by rfl, rfl⟩) (hH0) ?_
          simp only [Act.put, List.setIfInBounds_toArray, List.set_cons_zero, List.set_cons_succ]
          refine wpAnyH_take (i := 5) (oi := { dst := some 27, op := _, type := _, pos := _, after := _, guard := _ }) (v := _) rfl (by kernel_rfl) (by kernel_rfl) (by kernel_rfl) (fun _ _ _ h => h) (Or.inr ⟨by rfl, rfl⟩) (hH0) ?_
          simp only [Act.put, List.setIfInBounds_toArray, List.set_cons_zero, List.set_cons_succ]
          refine wpAnyH_take (i := 6) (oi := { dst := some 28, op := _, type := _, pos := _, after := _, guard := _ }) (v := _) rfl (by kernel_rfl) (by kernel_rfl) (by kernel_rfl) (fun _ _ _ h => h) (Or.inr ⟨by rfl, rfl⟩) (hH0) ?_
          simp only [Act.put, List.setIfInBounds_toArray, List.set_cons_zero, List.set_cons_succ]
          refine wpAnyH_take (i := 7) (oi := { dst := some 29, op := _, type := _, pos := _, after := _, guard := _ }) (v := _) rfl (by kernel_rfl) (by kernel_rfl) (by kernel_rfl) (fun _ _ _ h => h) (Or.inr ⟨by rfl, rfl⟩) (hH0) ?_
          simp only [Act.put, List.setIfInBounds_toArray, List.set_cons_zero, List.set_cons_succ]
          refine wpAnyH_take (i := 8) (oi := { dst := some 30, op := _, type := _, pos := _, after := _, guard := _ }) (v := _) rfl (by kernel_rfl) (by kernel_rfl) (by kernel_rfl) (fun _ _ _ h => h) (Or.inr ⟨by rfl, rfl⟩) (hH0) ?_
          simp only [Act.put, List.setIfInBounds_toArray, List.set_cons_zero, List.set_cons_succ]
          refine wpAnyH_take (i := 9) (oi := { dst := some 31, op := _, type := _, pos := _, after := _, guard := _ }) (v := _) rfl (by kernel_rfl) (by kernel_rfl) (by kernel_rfl) (fun _ _ _ h => h) (Or.inr ⟨by rfl, rfl⟩) (hH0) ?_
          simp only [Act.put, List.setIfInBounds_toArray, List.set_cons_zero, List.set_cons_succ]
          refine wpAnyH_take (i := 10) (oi := { dst := some 32, op := _, type := _, pos := _, after := _, guard := _ }) (v := _) rfl (by kernel_rfl) (by kernel_rfl) (by kernel_rfl) (fun _ _ _ h => h) (Or.inr ⟨by rfl, rfl⟩) (hH0) ?_
          simp only [Act.put, List.setIfInBounds_toArray, List.set_cons_zero, List.set_cons_succ]
          refine wpAnyH_take (i := 11) (oi := { dst := some 33, op := _, type := _, pos := _, after := _, guard := _ }) (v := _) rfl (by kernel_rfl) (by kernel_rfl) (by kernel_rfl) (fun _ _ _ h => h) (Or.inr ⟨by rfl, rfl⟩) (hH0) ?_
          simp only [Act.put, List.setIfInBounds_toArray, List.set_cons_zero, List.set_cons_succ]
          refine wpAnyH_take (i := 12) (oi := { dst := some 34, op := _, type := _, pos := _, after := _, guard := _ }) (v := _) rfl (by kernel_rfl) (by kernel_rfl) (by kernel_rfl) (fun _ _ _ h => h) (Or.inr ⟨by rfl, rfl⟩) (hH0) ?_
          simp only [Act.put, List.setIfInBounds_toArray, List.set_cons_zero, List.set_cons_succ]
          refine wpAnyH_take (i := 13) (oi := { dst := some 35, op := _, type := _, pos := _, after := _, guard := _ }) (v := ?_) rfl (by kernel_rfl) (by kernel_rfl) (by kernel_rfl) (fun _ _ _ h => h) (Or.inl ⟨by rfl, ?_⟩) (hH0) ?_
          rotate_left
          · (intro wx hSw; obtain _ := hSw; go_simp <;> with_reducible rfl)
          simp only [Act.put, List.setIfInBounds_toArray, List.set_cons_zero, List.set_cons_succ]
          refine wpAnyH_done (by kernel_rfl) ?_ _
          -- behind it: go_wp2_with fail, then go_meet (a cut) or go_ret; the condition at the end: hH0
          obtain ⟨wd, hwd⟩ : ∃ wd, wr.drew = wd := ⟨_, rfl⟩
          have HRC := hide HRC.out.drew
          have HB := hide HB.out.drew
          rw [hwd] at HRC HB ⊢
          clear hH0 hwd
          have e0 := HRC.out.rowl.c0 (i := p) (by omega)
          have e1 := HRC.out.rowl.c1 (i := p) (by omega)
          have e2 := HRC.out.rowl.froz (p * 2)
          have e3 := HRC.out.rowl.froz (p * 2 + 1)
          have e4 : wd.cell? ⟨b, off + k * 2, none⟩ = some (.int .i64 (f k)) := (HB.out.cell (p := ⟨b, off + k * 2, none⟩) hb).trans (HC.out k hlt).1
          have e5 : wd.cell? ⟨b, off + k * 2 + 1, none⟩ = some (.int .i64 (g k)) := (HB.out.cell (p := ⟨b, off + k * 2 + 1, none⟩) hb).trans (HC.out k hlt).2
          have hat' : (p : Int) < ((k + 1 : Nat) : Int) := by omega
          have hgb : w.heap.size ≤ g5 := HRC.out.base
          go_wp2_with fail
          go_roundw
          case rel =>
            refine ⟨k + 1, N.put p (f k, g k), by omega, by go_num, ⟨g5, c5, rfl, HRC.out.set p (f k) (g k)⟩, fun i hi => ?_, ?_⟩
            · have q := HU.out i (by omega)
              rw [hz] at q
              rw [q, insL_ext k _ _ _ (fun j hj => HA.out j hj) i (by omega)]
              show _ = insL k (isortL k (listL n f g)) (listL n f g k) i
              rw [show listL n f g k = (f k, g k) from by unfold listL; rw [if_pos hlt]]
            · exact (HB.out.setCell hgb _).setCell hgb _
          case measure => simp [intOf]; omega
        · have hd : decide (0 < p) = true := by simp; omega
          obtain ⟨r, hr⟩ : ∃ r, p - 1 = r := ⟨_, rfl⟩
          have hpr : p = r + 1 := by omega
          have HPR := hide hpr
          clear hpr
          have hq : (p : Int) - 1 = (r : Int) := by have := HPR.out; omega
          clear hr
          have hwr : IntKind.i64.wrap (r : Int) = (r : Int) := wrapIn _ (by omega) (by omega)
          have hrk : (r : Int) < (k : Int) + 1 := by omega
          have sv := HB.out.size
          have Q := hide (show Qe wr b (off + k * 2) g5 (r * 2) (f k, g k) (N r) from ⟨by omega, HRC.out.rowl.lt, (HB.out.cell (p := ⟨b, off + k * 2, none⟩) hb).trans (HC.out k hlt).1, (HB.out.cell (p := ⟨b, off + k * 2 + 1, none⟩) hb).trans (HC.out k hlt).2, HRC.out.rowl.c0 (by omega), HRC.out.rowl.c1 (by omega)⟩)
          have LE := hide (l6Less_any (f k) (g k) (N r).1 (N r).2)
          obtain ⟨u, hu⟩ : ∃ u, lt2 (f k, g k) (N r) = u := ⟨_, rfl⟩
          rw [show lessB (f k) (g k) (N r).1 (N r).2 = u from hu] at LE
          have HU2 := hide hu
          clear hu
          go_upto_region 7 with fail
          refine wp_region_held_drew (S := fun wx => Qe wx b (off + k * 2) g5 (r * 2) (f k, g k) (N r)) (by kernel_rfl) (Q.out.drew) (fun hH0 => ?_)
          refine wpAnyH_take (i := 0) (oi := { dst := some 22, op := _, type := _, pos := _, after := _, guard := _ }) (v := ?_) rfl (by kernel_rfl) (by kernel_rfl) (by kernel_rfl) (fun _ _ _ h => h) (Or.inl ⟨by rfl, ?_⟩) (hH0) ?_
          rotate_left
          · (intro wx hSw; obtain ⟨l0, l1, q0, q1, q2, q3⟩ := hSw; go_simp <;> with_reducible rfl)
          simp only [Act.put, List.setIfInBounds_toArray, List.set_cons_zero, List.set_cons_succ]
          refine wpAnyH_take (i := 1) (oi := { dst := some 23, op := _, type := _, pos := _, after := _, guard := _ }) (v := ?_) rfl (by kernel_rfl) (by kernel_rfl) (by kernel_rfl) (fun _ _ _ h => h) (Or.inl ⟨by rfl, ?_⟩) (hH0) ?_
          rotate_left
          · (intro wx hSw; obtain ⟨l0, l1, q0, q1, q2, q3⟩ := hSw; go_simp <;> with_reducible rfl)
          simp only [Act.put, List.setIfInBounds_toArray, List.set_cons_zero, List.set_cons_succ]
          refine wpAnyH_take (i := 2) (oi := { dst := some 24, op := _, type := _, pos := _, after := _, guard := _ }) (v := ?_) rfl (by kernel_rfl) (by kernel_rfl) (by kernel_rfl) (fun _ _ _ h => h) (Or.inl ⟨by rfl, ?_⟩) (hH0) ?_
          rotate_left
          · (intro wx hSw; obtain ⟨l0, l1, q0, q1, q2, q3⟩ := hSw; go_simp <;> with_reducible rfl)
          simp only [Act.put, List.setIfInBounds_toArray, List.set_cons_zero, List.set_cons_succ]
          refine wpAnyH_take (i := 3) (oi := { dst := some 25, op := _, type := _, pos := _, after := _, guard := _ }) (v := ?_) rfl (by kernel_rfl) (by kernel_rfl) (by kernel_rfl) (fun _ _ _ h => h) (Or.inl ⟨by rfl, ?_⟩) (hH0) ?_
          rotate_left
          · (intro wx hSw; obtain ⟨l0, l1, q0, q1, q2, q3⟩ := hSw; go_simp <;> with_reducible rfl)
          simp only [Act.put, List.setIfInBounds_toArray, List.set_cons_zero, List.set_cons_succ]
          refine wpAnyH_take (i := 4) (oi := { dst := some 26, op := _, type := _, pos := _, after := _, guard := _ }) (v := ?_) rfl (by kernel_rfl) (by kernel_rfl) (by kernel_rfl) (fun _ _ _ h => h) (Or.inl ⟨by rfl, ?_⟩) (hH0) ?_
          rotate_left
          · (intro wx hSw; obtain ⟨l0, l1, q0, q1, q2, q3⟩ := hSw; go_simp <;> with_reducible rfl)
          simp only [Act.put, List.setIfInBounds_toArray, List.set_cons_zero, List.set_cons_succ]
          refine wpAnyH_take (i := 5) (oi := { dst := some 27, op := _, type := _, pos := _, after := _, guard := _ }) (v := ?_) rfl (by kernel_rfl) (by kernel_rfl) (by kernel_rfl) (fun _ _ _ h => h) (Or.inl ⟨by rfl, ?_⟩) (hH0) ?_
          rotate_left
          · (intro wx hSw; obtain ⟨l0, l1, q0, q1, q2, q3⟩ := hSw; go_simp <;> with_reducible rfl)
          simp only [Act.put, List.setIfInBounds_toArray, List.set_cons_zero, List.set_cons_succ]
          refine wpAnyH_take (i := 6) (oi := { dst := some 28, op := _, type := _, pos := _, after := _, guard := _ }) (v := ?_) rfl (by kernel_rfl) (by kernel_rfl) (by kernel_rfl) (fun _ _ _ h => h) (Or.inl ⟨by rfl, ?_⟩) (hH0) ?_
          rotate_left
          · (intro wx hSw; obtain ⟨l0, l1, q0, q1, q2, q3⟩ := hSw; go_simp <;> with_reducible rfl)
          simp only [Act.put, List.setIfInBounds_toArray, List.set_cons_zero, List.set_cons_succ]
          refine wpAnyH_take (i := 7) (oi := { dst := some 29, op := _, type := _, pos := _, after := _, guard := _ }) (v := ?_) rfl (by kernel_rfl) (by kernel_rfl) (by kernel_rfl) (fun _ _ _ h => h) (Or.inl ⟨by rfl, ?_⟩) (hH0) ?_
          rotate_left
          · (intro wx hSw; obtain ⟨l0, l1, q0, q1, q2, q3⟩ := hSw; go_simp <;> with_reducible rfl)
          simp only [Act.put, List.setIfInBounds_toArray, List.set_cons_zero, List.set_cons_succ]
          refine wpAnyH_take (i := 8) (oi := { dst := some 30, op := _, type := _, pos := _, after := _, guard := _ }) (v := ?_) rfl (by kernel_rfl) (by kernel_rfl) (by kernel_rfl) (fun _ _ _ h => h) (Or.inl ⟨by rfl, ?_⟩) (hH0) ?_
          rotate_left
          · (intro wx hSw; obtain ⟨l0, l1, q0, q1, q2, q3⟩ := hSw; go_simp <;> with_reducible rfl)
          simp only [Act.put, List.setIfInBounds_toArray, List.set_cons_zero, List.set_cons_succ]
          refine wpAnyH_take (i := 9) (oi := { dst := some 31, op := _, type := _, pos := _, after := _, guard := _ }) (v := ?_) rfl (by kernel_rfl) (by kernel_rfl) (by kernel_rfl) (fun _ _ _ h => h) (Or.inl ⟨by rfl, ?_⟩) (hH0) ?_
          rotate_left
          · (intro wx hSw; obtain ⟨l0, l1, q0, q1, q2, q3⟩ := hSw; go_simp <;> with_reducible rfl)
          simp only [Act.put, List.setIfInBounds_toArray, List.set_cons_zero, List.set_cons_succ]
          refine wpAnyH_take (i := 10) (oi := { dst := some 32, op := _, type := _, pos := _, after := _, guard := _ }) (v := ?_) rfl (by kernel_rfl) (by kernel_rfl) (by kernel_rfl) (fun _ _ _ h => h) (Or.inl ⟨by rfl, ?_⟩) (hH0) ?_
          rotate_left
          · (intro wx hSw; obtain ⟨l0, l1, q0, q1, q2, q3⟩ := hSw; go_simp <;> with_reducible rfl)
          simp only [Act.put, List.setIfInBounds_toArray, List.set_cons_zero, List.set_cons_succ]
          refine wpAnyH_take (i := 11) (oi := { dst := some 33, op := _, type := _, pos := _, after := _, guard := _ }) (v := ?_) rfl (by kernel_rfl) (by kernel_rfl) (by kernel_rfl) (fun _ _ _ h => h) (Or.inl ⟨by rfl, ?_⟩) (hH0) ?_
          rotate_left
          · (intro wx hSw; obtain ⟨l0, l1, q0, q1, q2, q3⟩ := hSw; go_simp <;> with_reducible rfl)
          simp only [Act.put, List.setIfInBounds_toArray, List.set_cons_zero, List.set_cons_succ]
          refine wpAnyH_ready (rs := [12]) (by kernel_rfl) (by simp) ?_
          refine AllReadyH.cons (o := { dst := some 34, op := _, type := _, pos := _, after := _, guard := _ }) rfl (fun K hK => ?_) AllReadyH.nil
          go_simp
          refine (LE.out _).mono ?_
          rintro e w_c34_1 ⟨rfl, hb_c34_1⟩
          dsimp only
          refine hK.out _ _ (Qe.below hH0 hb_c34_1) (fun hH1 => ?_)
          clear hK K
          refine wpAnyH_take (i := 13) (oi := { dst := some 35, op := _, type := _, pos := _, after := _, guard := _ }) (v := ?_) rfl (by kernel_rfl) (by kernel_rfl) (by kernel_rfl) (fun _ _ _ h => h) (Or.inl ⟨by rfl, ?_⟩) (hH1) ?_
          rotate_left
          · (intro wx hSw; obtain ⟨l0, l1, q0, q1, q2, q3⟩ := hSw; go_simp <;> with_reducible rfl)
          simp only [Act.put, List.setIfInBounds_toArray, List.set_cons_zero, List.set_cons_succ]
          refine wpAnyH_done (by kernel_rfl) ?_ _
          -- behind it: go_wp2_with fail, then go_meet (a cut) or go_ret; the condition at the end: hH1
          have HRC := hide (HRC.out.drew.below hb_c34_1)
          have HB := hide (bstep HB.out.drew hb_c34_1)
          clear hb_c34_1 hH0 hH1 Q LE
          cases u
          · have hz : insL p N (f k, g k) = N.put p (f k, g k) := by rw [HPR.out, insL_succ, HU2.out, if_neg (by decide)]
            have e0 := HRC.out.rowl.c0 (i := p) (by omega)
            have e1 := HRC.out.rowl.c1 (i := p) (by omega)
            have e2 := HRC.out.rowl.froz (p * 2)
            have e3 := HRC.out.rowl.froz (p * 2 + 1)
            have e4 : w_c34_1.cell? ⟨b, off + k * 2, none⟩ = some (.int .i64 (f k)) := (HB.out.cell (p := ⟨b, off + k * 2, none⟩) hb).trans (HC.out k hlt).1
            have e5 : w_c34_1.cell? ⟨b, off + k * 2 + 1, none⟩ = some (.int .i64 (g k)) := (HB.out.cell (p := ⟨b, off + k * 2 + 1, none⟩) hb).trans (HC.out k hlt).2
            have hat' : (p : Int) < ((k + 1 : Nat) : Int) := by omega
            have hgb : w.heap.size ≤ g5 := HRC.out.base
            go_wp2_with fail
            go_roundw
            case rel =>
              refine ⟨k + 1, N.put p (f k, g k), by omega, by go_num, ⟨g5, c5, rfl, HRC.out.set p (f k) (g k)⟩, fun i hi => ?_, ?_⟩
              · have q := HU.out i (by omega)
                rw [hz] at q
                rw [q, insL_ext k _ _ _ (fun j hj => HA.out j hj) i (by omega)]
                show _ = insL k (isortL k (listL n f g)) (listL n f g k) i
                rw [show listL n f g k = (f k, g k) from by unfold listL; rw [if_pos hlt]]
              · exact (HB.out.setCell hgb _).setCell hgb _
            case measure => simp [intOf]; omega
          · have hz : insL p N (f k, g k) = insL r (N.put p (N r)) (f k, g k) := by
              rw [HPR.out]
              show (if lt2 (f k, g k) (N r) = true then insL r (N.put (r + 1) (N r)) (f k, g k) else N.put (r + 1) (f k, g k)) = _
              rw [HU2.out, if_pos rfl]
            have HZ := hide hz
            have y0 := HRC.out.rowl.c0 (i := r) (by omega)
            have y1 := HRC.out.rowl.c1 (i := r) (by omega)
            have y2 := HRC.out.rowl.c0 (i := p) (by omega)
            have y3 := HRC.out.rowl.c1 (i := p) (by omega)
            have y4 := HRC.out.rowl.froz (p * 2)
            have y5 := HRC.out.rowl.froz (p * 2 + 1)
            have hgb : w.heap.size ≤ g5 := HRC.out.base
            have hpk : (p : Int) < (k : Int) + 1 := by omega
            clear hz
            go_wp2_with fail
            go_roundw
            case rel => exact ⟨r, N.put p (N r), rfl, by omega, HRC.out.set p (N r).1 (N r).2, fun i hi => by rw [← HZ.out]; exact HU.out i hi, (HB.out.setCell hgb _).setCell hgb _⟩
            case measure => simp [intOf]; omega
    · obtain rfl : k = n := by omega
      go_wp2_with fail
      go_ret
      exact ⟨g4, c4, M, rfl, HRC.out, HA.out, HB.out⟩
end Go.Proofs.Ytjliecggfncelaa
