/- Nears of items, plain; l8Nears of the model. -/
import Derived.Test.YtjliecggfncelaaZ17
import Derived.Test.YtjliecggfncelaaZ14
import Derived.Test.YtjliecggfncelaaZ19
import Derived.Test.YtjliecggfncelaaZ10
import Derived.Test.YtjliecggfncelaaZ11
namespace Go.Proofs.Ytjliecggfncelaa
open Go.RowKit
set_option maxRecDepth 8000
set_option linter.unusedSimpArgs false
set_option linter.unusedVariables false

/-- The Nears of the items that match. -/
def nrL (qs : List Int) (mask : Int) (L : IL) (k : Nat) : NL := fun i => nrOf qs (fil (mtB mask) L k i)

theorem nrL_yes {qs : List Int} {mask : Int} {L : IL} {k : Nat} (h : mtB mask (L k) = true) : nrL qs mask L (k + 1) = (nrL qs mask L k).put (cntP (mtB mask) L k) (nrOf qs (L k)) := by
  funext i
  unfold nrL NL.put
  rw [fil_yes h]
  unfold IL.put
  by_cases e : i = cntP (mtB mask) L k
  · simp [e]
  · simp [e]

theorem nrL_no {qs : List Int} {mask : Int} {L : IL} {k : Nat} (h : mtB mask (L k) = false) : nrL qs mask L (k + 1) = nrL qs mask L k := by
  funext i
  unfold nrL
  rw [fil_no h]

/-- What a look at an item for its distance holds. -/
structure SL (w0 : World) (b o : Nat) (x : It) (a : Option Addr) (n c : Nat) (w : World) : Prop where
  bel : Below w0.heap.size w0 w
  c0 : w.cell? ⟨b, o, none⟩ = some (.int .i64 x.id)
  c2 : w.cell? ⟨b, o + 2, none⟩ = some (.slice a n c)

theorem SL.of {w0 : World} {b o : Nat} {x : It} {a : Option Addr} {n c : Nat} {w : World} (hb : b < w0.heap.size) (h0 : w0.cell? ⟨b, o, none⟩ = some (.int .i64 x.id)) (h2 : w0.cell? ⟨b, o + 2, none⟩ = some (.slice a n c)) (bel : Below w0.heap.size w0 w) : SL w0 b o x a n c w :=
  ⟨bel, (bel.cell (p := ⟨b, o, none⟩) hb).trans h0, (bel.cell (p := ⟨b, o + 2, none⟩) hb).trans h2⟩

theorem SL.below {w0 : World} {b o : Nat} {x : It} {a : Option Addr} {n c : Nat} {w w' : World} (hb : b < w0.heap.size) (h : SL w0 b o x a n c w) (k : Below w.heap.size w w') : SL w0 b o x a n c w' := by
  have hs := h.bel.size
  exact ⟨bstep h.bel k, (k.cell (p := ⟨b, o, none⟩) (by show b < _; omega)).trans h.c0, (k.cell (p := ⟨b, o + 2, none⟩) (by show b < _; omega)).trans h.c2⟩

/-- The answer of l8Nears, and of whoever makes Nears of its own by append. -/
def NearsR (w : World) (m : Nat) (A : NL) (e : Ending) (w' : World) : Prop :=
  ∃ g cap, e = .returned (.slice (some ⟨g, 0, none⟩) m cap) ∧ RC w' w.heap.size g cap m A ∧ Below w.heap.size w w'

theorem RC.new (w : World) (A : NL) : RC (w.alloc (.cells #[] 49)) w.heap.size w.heap.size 0 0 A :=
  ⟨Nat.le_refl _, #[], Go.Deep.blk_alloc_new _ _, Nat.le_refl _, Nat.zero_le _, rfl, fun i hi => absurd hi (by omega)⟩

theorem two_one (x y : Int) : ∀ u ∈ [Value.int .i64 x, Value.int .i64 y], u.oneCell' = true := by
  intro u hu
  simp at hu
  rcases hu with rfl | rfl <;> rfl

theorem RC.congr {w : World} {base g cap k : Nat} {M N : NL} (h : RC w base g cap k M) (e : ∀ i, i < k → M i = N i) : RC w base g cap k N := by
  obtain ⟨hb, cur, h1, h2, h3, h4, h5⟩ := h
  exact ⟨hb, cur, h1, h2, h3, h4, fun i hi => e i hi ▸ h5 i hi⟩





end Go.Proofs.Ytjliecggfncelaa
/- InRadius of the model; Nears that are picked, plain. -/
namespace Go.Proofs.Ytjliecggfncelaa
open Go.RowKit
set_option maxRecDepth 8000
set_option linter.unusedSimpArgs false
set_option linter.unusedVariables false

/-- How many of the first k are such, and these. -/
def cntN (p : Int × Int → Bool) (A : NL) : Nat → Nat
  | 0 => 0
  | k + 1 => if p (A k) then cntN p A k + 1 else cntN p A k
def filN (p : Int × Int → Bool) (A : NL) : Nat → NL
  | 0 => fun _ => (0, 0)
  | k + 1 => if p (A k) then (filN p A k).put (cntN p A k) (A k) else filN p A k

theorem cntN_le (p : Int × Int → Bool) (A : NL) (k : Nat) : cntN p A k ≤ k := by
  induction k with
  | zero => exact Nat.le_refl _
  | succ k ih => simp only [cntN]; split <;> omega

theorem cntN_yes {p : Int × Int → Bool} {A : NL} {k : Nat} (h : p (A k) = true) : cntN p A (k + 1) = cntN p A k + 1 := by simp [cntN, h]

theorem cntN_no {p : Int × Int → Bool} {A : NL} {k : Nat} (h : p (A k) = false) : cntN p A (k + 1) = cntN p A k := by simp [cntN, h]

theorem filN_yes {p : Int × Int → Bool} {A : NL} {k : Nat} (h : p (A k) = true) : filN p A (k + 1) = (filN p A k).put (cntN p A k) (A k) := by simp [filN, h]

theorem filN_no {p : Int × Int → Bool} {A : NL} {k : Nat} (h : p (A k) = false) : filN p A (k + 1) = filN p A k := by simp [filN, h]

/-- Within a radius. -/
def inR (r : Int) (x : Int × Int) : Bool := decide (x.2 ≤ r)
def radM (dim : Int) (n : Nat) (L : IL) (qs : List Int) (r mask : Int) : Nat := if formB dim n L qs then cntN (inR r) (nrL qs mask L n) (cntP (mtB mask) L n) else 0
def radA (n : Nat) (L : IL) (qs : List Int) (r mask : Int) : NL := filN (inR r) (nrL qs mask L n) (cntP (mtB mask) L n)





end Go.Proofs.Ytjliecggfncelaa
/- InRadius of the program: the closure, eachNear, the query. -/
namespace Go.Proofs.Ytjliecggfncelaa
open Go.RowKit
set_option maxRecDepth 8000
set_option linter.unusedSimpArgs false
set_option linter.unusedVariables false

theorem fil_at {p : It → Bool} {L : IL} {k : Nat} (h : p (L k) = true) : ∀ n, k < n → fil p L n (cntP p L k) = L k := by
  intro n
  induction n with
  | zero => intro hk; omega
  | succ n ih =>
    intro hk
    by_cases e : k = n
    · subst e; rw [fil_yes h, IL.put_at]
    · have hlt : cntP p L k < cntP p L n := by
        have mono : ∀ j, cntP p L k + 1 ≤ cntP p L (k + 1 + j) := by
          intro j
          induction j with
          | zero => rw [Nat.add_zero, cntP_yes h]; exact Nat.le_refl _
          | succ j ihj => show _ ≤ cntP p L (k + 1 + j + 1); simp only [cntP]; split <;> omega
        have := mono (n - (k + 1))
        rw [show k + 1 + (n - (k + 1)) = n by omega] at this
        omega
      cases hn : p (L n)
      · rw [fil_no hn]; exact ih (by omega)
      · rw [fil_yes hn, IL.put_off _ _ (by omega)]; exact ih (by omega)

theorem nrL_at {qs : List Int} {mask : Int} {L : IL} {k n : Nat} (h : mtB mask (L k) = true) (hk : k < n) : nrL qs mask L n (cntP (mtB mask) L k) = nrOf qs (L k) := by
  unfold nrL
  rw [fil_at h n hk]

/-- What the closure of InRadius keeps: the radius, and the slice that it appends to. -/
structure Cap (w0 : World) (rb vb : Nat) (r : Int) (m : Nat) (M : NL) (w : World) : Prop where
  rad : w.heap[rb]? = some (.cells #[.int .i64 r] 2 (0, 0))
  ex : ∃ g c, w.heap[vb]? = some (.cells #[.slice (some ⟨g, 0, none⟩) m c] 28 (0, 0)) ∧ RC w w0.heap.size g c m M
  lo : w0.heap.size ≤ vb
  bel : Below w0.heap.size w0 w

theorem blkLt {w : World} {b : Nat} {o : Obj} (h : w.heap[b]? = some o) : b < w.heap.size := (Array.getElem?_eq_some_iff.1 h).1

theorem Cap.below {w0 : World} {rb vb : Nat} {r : Int} {m : Nat} {M : NL} {w w' : World} (h : Cap w0 rb vb r m M w) (hb : Below w.heap.size w w') : Cap w0 rb vb r m M w' := by
  obtain ⟨h1, ⟨g, c, h2, h3⟩, h4, h5⟩ := h
  exact ⟨(hb.block rb (blkLt h1)).trans h1, ⟨g, c, (hb.block vb (blkLt h2)).trans h2, h3.below hb⟩, h4, bstep h5 hb⟩

theorem one_cell {w : World} {b : Nat} {v : Value} {t : TypeId} (h : w.heap[b]? = some (.cells #[v] t (0, 0))) : w.cell? ⟨b, 0, none⟩ = some v := by simp [World.cell?, h]

theorem one_free {w : World} {b : Nat} {v : Value} {t : TypeId} (h : w.heap[b]? = some (.cells #[v] t (0, 0))) : w.frozen? ⟨b, 0, none⟩ = false := by simp [World.frozen?, h]

theorem RC.blk {w : World} {base g cap k : Nat} {M : NL} (h : RC w base g cap k M) : ∃ cur, w.heap[g]? = some (.cells cur 49 (0, 0)) := by
  obtain ⟨_, cur, h1, _⟩ := h
  exact ⟨cur, h1⟩

theorem two_newAt (w : World) (x y : Value) (t : TypeId) (b : Nat) (hb : w.heap.size = b) : ∀ (j : Nat) (u : Value), [x, y][j]? = some u → (w.alloc (.cells #[x, y] t)).cell? ((⟨b, 0, none⟩ : Addr).add j) = some u := hb ▸ two_new2 w x y t



theorem cap_step {r : Int} {A : NL} {j : Nat} {w0 : World} {rb vb : Nat} {w : World} (h : Cap w0 rb vb r (if inR r (A j) then cntN (inR r) A j + 1 else cntN (inR r) A j) (if inR r (A j) then (filN (inR r) A j).put (cntN (inR r) A j) (A j) else filN (inR r) A j) w) : Cap w0 rb vb r (cntN (inR r) A (j + 1)) (filN (inR r) A (j + 1)) w := by
  simp only [cntN, filN]
  exact h

end Go.Proofs.Ytjliecggfncelaa
/- InRadius of the program, by its parts. -/
namespace Go.Proofs.Ytjliecggfncelaa
open Go.RowKit
set_option maxRecDepth 8000
set_option linter.unusedSimpArgs false
set_option linter.unusedVariables false

/-- The answer of whoever tells Nears of its own. -/
def OutN (w : World) (m : Nat) (A : NL) (e : Ending) (w' : World) : Prop :=
  ∃ a cap, e = .returned (.slice a m cap) ∧ Wr w' a m A w.heap.size ∧ Below w.heap.size w w'

theorem NearsR.out {w : World} {m : Nat} {A : NL} {e : Ending} {w' : World} (h : NearsR w m A e w') : OutN w m A e w' := by
  obtain ⟨g, cap, he, hr, hb⟩ := h
  exact ⟨_, cap, he, .inr ⟨g, rfl, hr.base, hr.rowl⟩, hb⟩

theorem outN_nil {w w' : World} {A : NL} {e : Ending} (he : e = .returned (.slice none 0 0)) (hb : Below w.heap.size w w') : OutN w 0 A e w' := ⟨none, 0, he, .inl rfl, hb⟩

set_option maxHeartbeats 400000 in
theorem eachNear_zero (a : Option Addr) (n cap : Nat) (qv fv : Value) (mask : Int) (w : World) (hn : n < 1) :
    Calls Try.prog 33 #[.slice a n cap, qv, .int .i64 mask, fv] w fun e w' => e = .returned (.tuple #[]) ∧ w' = w := by
  go_enter Try.func33, Try.ntmps33
  go_wp2_with fail
  refine wp_loop_rounds 1 ?_
  rw [rounds_succ]
  go_wp2_with fail
  go_end0
  exact ⟨rfl, rfl⟩







end Go.Proofs.Ytjliecggfncelaa
/- Ranks, plain: a place among what is sorted is how many are less. -/
namespace Go.Proofs.Ytjliecggfncelaa
open Go.RowKit
set_option maxRecDepth 8000
set_option linter.unusedSimpArgs false
set_option linter.unusedVariables false

theorem mtB_zero (x : It) : mtB 0 x = true := by
  have h : bits .and .i64 x.tags 0 = 0 := by simp [bits]; rfl
  unfold mtB
  rw [h]
  rfl

theorem cntP_all {p : It → Bool} {L : IL} (h : ∀ x, p x = true) : ∀ k, cntP p L k = k
  | 0 => rfl
  | k + 1 => by rw [cntP_yes (h _), cntP_all h k]

theorem fil_all {p : It → Bool} {L : IL} (h : ∀ x, p x = true) {n k : Nat} (hk : k < n) : fil p L n k = L k := by
  have := fil_at (h (L k)) n hk
  rw [cntP_all h k] at this
  exact this

theorem cnt0 (L : IL) (k : Nat) : cntP (mtB 0) L k = k := cntP_all mtB_zero k

theorem nrL0 {qs : List Int} {L : IL} {n k : Nat} (hk : k < n) : nrL qs 0 L n k = nrOf qs (L k) := by unfold nrL; rw [fil_all mtB_zero hk]

theorem cntN_congr {p : Int × Int → Bool} {A B : NL} {n : Nat} (h : ∀ i, i < n → A i = B i) : cntN p A n = cntN p B n := by
  induction n with
  | zero => rfl
  | succ n ih => simp only [cntN]; rw [ih (fun i hi => h i (by omega)), h n (by omega)]

theorem cntN_succ (p : Int × Int → Bool) (A : NL) (k : Nat) : cntN p A (k + 1) = cntN p A k + if p (A k) then 1 else 0 := by simp only [cntN]; split <;> rfl

theorem cntN_ins (p : Int × Int → Bool) : ∀ (k : Nat) (M : NL) (x : Int × Int), cntN p (insL k M x) (k + 1) = cntN p M k + if p x then 1 else 0 := by
  intro k
  induction k with
  | zero =>
    intro M x
    rw [cntN_succ, show insL 0 M x 0 = x from put_at M 0 x]
    rfl
  | succ k ih =>
    intro M x
    rw [insL_succ]
    by_cases hb : lt2 x (M k) = true
    · rw [if_pos hb, cntN_succ, put_at, cntN_congr (B := insL k M x) (fun i hi => put_off _ _ (by omega)), ih, cntN_succ]
      omega
    · rw [if_neg hb, cntN_succ, put_at, cntN_congr (B := M) (fun i hi => put_off _ _ (by omega))]

theorem cntN_sort (p : Int × Int → Bool) : ∀ (n : Nat) (L : NL), cntN p (isortL n L) n = cntN p L n := by
  intro n
  induction n with
  | zero => intro L; rfl
  | succ n ih =>
    intro L
    show cntN p (insL n (isortL n L) (L n)) (n + 1) = _
    rw [cntN_ins, ih, cntN_succ]

/-- The first one of that id among the first m. -/
def rkF (B : NL) (m : Nat) (id : Int) : Int :=
  match (List.range m).find? fun i => decide ((B i).1 = id) with
  | some i => (i : Int)
  | none => -1

theorem rkF_hit {B : NL} {m k : Nat} {id : Int} (hk : k < m) (h : (B k).1 = id) (hp : ∀ j, j < k → (B j).1 ≠ id) : rkF B m id = (k : Int) := by
  have e : (List.range m).find? (fun i => decide ((B i).1 = id)) = some k := by
    rw [List.find?_range_eq_some]
    exact ⟨by simpa using h, by simpa using hk, fun j hj => by simpa using hp j hj⟩
  unfold rkF
  rw [e]

theorem rkF_miss {B : NL} {m : Nat} {id : Int} (hp : ∀ j, j < m → (B j).1 ≠ id) : rkF B m id = -1 := by
  have e : (List.range m).find? (fun i => decide ((B i).1 = id)) = none := by
    rw [List.find?_eq_none]
    intro j hj
    simpa using hp j (by simpa using hj)
  unfold rkF
  rw [e]

/-- Those that are less than one. -/
def ltO (y : Int × Int) (x : Int × Int) : Bool := lt2 x y
/-- Sorted ones: ahead of a place all are no greater, from it on none is less. -/
theorem sorted_le {n : Nat} {B : NL} (h : SortedP n B) {i j : Nat} (hij : i ≤ j) (hj : j < n) : lt2 (B j) (B i) = false := by
  have hs : SortedP (j + 1) B := fun k hk => h k (by omega)
  exact sorted_last j hs i hij

theorem cntN_at {B : NL} {y : Int × Int} {i : Nat} : ∀ n, i ≤ n → (∀ j, j < i → lt2 (B j) y = true) → (∀ j, i ≤ j → j < n → lt2 (B j) y = false) → cntN (ltO y) B n = i := by
  intro n
  induction n with
  | zero => intro h _ _; simp only [cntN]; omega
  | succ n ih =>
    intro hi h1 h2
    by_cases e : i = n + 1
    · subst e
      have : ∀ k, k ≤ n + 1 → cntN (ltO y) B k = k := by
        intro k
        induction k with
        | zero => intro _; rfl
        | succ k ihk => intro hk; rw [cntN_yes (show ltO y (B k) = true from h1 k (by omega)), ihk (by omega)]
      exact this _ (Nat.le_refl _)
    · rw [cntN_no (show ltO y (B n) = false from h2 n (by omega) (by omega))]
      exact ih (by omega) h1 fun j hj hjn => h2 j hj (by omega)

theorem mem_sort {n : Nat} {A : NL} {i : Nat} (hi : i < n) : ∃ j, j < n ∧ A j = isortL n A i := by
  refine cnt_pos n ?_
  rw [← (isortL_sorted n A).2]
  exact cnt_of hi rfl

/-- The rank: where an id is there, how many are less; else -1. -/
theorem rank_hit {n : Nat} {A : NL} {id : Int} {p : Nat} (hp : p < n) (he : (A p).1 = id) (hu : ∀ j, j < n → (A j).1 = id → j = p) : rkF (isortL n A) n id = (cntN (ltO (A p)) A n : Int) := by
  obtain ⟨hs, hc⟩ := isortL_sorted n A
  have hex : ∃ i, i < n ∧ isortL n A i = A p := by
    refine cnt_pos n ?_
    rw [hc]
    exact cnt_of hp rfl
  have hidx : ∀ i, i < n → (isortL n A i).1 = id → isortL n A i = A p := fun i hi h => by
    obtain ⟨j, hj, e⟩ := mem_sort (A := A) hi
    rw [← e] at h ⊢
    rw [hu j hj h]
  -- the first such place
  have hfirst : ∃ i, i < n ∧ isortL n A i = A p ∧ ∀ j, j < i → isortL n A j ≠ A p := by
    obtain ⟨i, hi, e⟩ := hex
    induction i using Nat.strongRecOn with
    | ind i ih =>
      by_cases h : ∃ j, j < i ∧ isortL n A j = A p
      · obtain ⟨j, hj, ej⟩ := h
        exact ih j hj (by omega) ej
      · exact ⟨i, hi, e, fun j hj ej => h ⟨j, hj, ej⟩⟩
  obtain ⟨i, hi, e, hne⟩ := hfirst
  rw [rkF_hit hi (by rw [e]; exact he) (fun j hj h => hne j hj (hidx j (by omega) h)), ← cntN_sort]
  congr 1
  symm
  refine cntN_at n (by omega) (fun j hj => ?_) (fun j hj hjn => ?_)
  · have h1 := sorted_le hs (show j ≤ i by omega) hi
    rw [e] at h1
    cases h2 : lt2 (isortL n A j) (A p)
    · exact absurd (le2_anti h1 h2) (hne j hj)
    · rfl
  · have h1 := sorted_le hs hj hjn
    rw [e] at h1
    exact h1

theorem rank_miss {n : Nat} {A : NL} {id : Int} (hu : ∀ j, j < n → (A j).1 ≠ id) : rkF (isortL n A) n id = -1 := by
  refine rkF_miss fun i hi h => ?_
  obtain ⟨j, hj, e⟩ := mem_sort (A := A) hi
  rw [← e] at h
  exact hu j hj h
end Go.Proofs.Ytjliecggfncelaa
