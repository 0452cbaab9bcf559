/- Slices of structs of two numbers in memory: each takes two cells. What a slice leads to, whatever its element type is. -/
import Derived.Test.YtjliecggfncelaaZ2
import Derived.Deep.RegionHeld3
import Derived.Deep.Slices
import Derived.Test.YtjliecggfncelaaZ1
namespace Go.Proofs.Ytjliecggfncelaa
open Go.RowKit
set_option maxRecDepth 8000
set_option linter.unusedSimpArgs false
set_option linter.unusedVariables false

/-- A slice of n ranges that begins at a leads to the ranges from f i to g i. -/
structure PRow (w : World) (a : Option Addr) (n : Nat) (f g : Nat → Int) : Prop where
  lies : n = 0 ∨ ∃ b off, a = some ⟨b, off, none⟩ ∧ b < w.heap.size ∧ ∀ i, i < n → w.cell? ⟨b, off + i * 2, none⟩ = some (.int .i64 (f i)) ∧ w.cell? ⟨b, off + i * 2 + 1, none⟩ = some (.int .i64 (g i))

theorem PRow.below {w w' : World} {a : Option Addr} {n : Nat} {f g : Nat → Int} (h : PRow w a n f g) (hb : Below w.heap.size w w') : PRow w' a n f g := by
  rcases h.lies with h0 | ⟨b, off, e, lt, hc⟩
  · exact ⟨.inl h0⟩
  · exact ⟨.inr ⟨b, off, e, Nat.lt_of_lt_of_le lt hb.size, fun i hi => ⟨(hb.cell (p := ⟨b, off + i * 2, none⟩) lt).trans (hc i hi).1, (hb.cell (p := ⟨b, off + i * 2 + 1, none⟩) lt).trans (hc i hi).2⟩⟩⟩

/-- All of the first n. -/
def allN (n : Nat) (p : Nat → Bool) : Bool := (List.range n).all p

theorem allN_yes {n : Nat} {p : Nat → Bool} (h : ∀ i, i < n → p i = true) : allN n p = true := by
  simp only [allN, List.all_eq_true, List.mem_range]; exact h

theorem allN_no {n k : Nat} {p : Nat → Bool} (hk : k < n) (h : p k = false) : allN n p = false := by
  rw [Bool.eq_false_iff]
  intro q
  simp only [allN, List.all_eq_true, List.mem_range] at q
  have := q k hk
  rw [h] at this
  cases this

theorem allN_at {n k : Nat} {p : Nat → Bool} (h : allN n p = true) (hk : k < n) : p k = true := by
  simp only [allN, List.all_eq_true, List.mem_range] at h; exact h k hk

theorem run_make_pairs {P : Program} (t e : TypeId) (x y : Value) (bytes : Nat) (ht : P.underlying t = some (.slice e)) (hinfo : (P.info? e).map (fun i => (i.zero, i.size, i.bytes)) = some (some (.agg #[x, y]), 2, bytes))
    (kl kc : IntKind) (n : Nat) (hbytes : bytes * n ≤ 281474976710656) (h63 : n ≤ 9223372036854775807) (w : World) :
    (Instr.makeSlice t (.int kl (n : Int)) (.int kc (n : Int))).run P w = .ok (.slice (some ⟨w.heap.size, 0, none⟩) n n) (w.alloc (.cells (madeCells #[x, y] (n * 2)) e)) := by
  obtain ⟨i, hi, hzz⟩ := Option.map_eq_some_iff.1 hinfo
  simp only [Prod.mk.injEq] at hzz
  obtain ⟨hz, hs, hb⟩ := hzz
  have hb' : (i.bytes : Int) * (n : Int) ≤ 281474976710656 := by
    have h : ((i.bytes * n : Nat) : Int) ≤ 281474976710656 := by rw [hb]; omega
    rwa [Int.natCast_mul] at h
  have hr := run_make (P := P) w t e i _ ht hi hz kl kc n n (by omega) (Int.le_refl _) hb' (by omega)
  simp only [Int.toNat_natCast, hs] at hr
  exact hr

def pcell (f g : Nat → Int) (j : Nat) : Value := .int .i64 (if j % 2 = 0 then f (j / 2) else g (j / 2))

theorem pcell_lo (f g : Nat → Int) (i : Nat) : pcell f g (i * 2) = .int .i64 (f i) := by simp [pcell]

theorem pcell_hi (f g : Nat → Int) (i : Nat) : pcell f g (i * 2 + 1) = .int .i64 (g i) := by
  have h1 : (i * 2 + 1) % 2 = 1 := by omega
  have h2 : (i * 2 + 1) / 2 = i := by omega
  simp [pcell, h1, h2]

def upTo (k : Nat) (f : Nat → Int) (i : Nat) : Int := if i < k then f i else 0
/-- What the frame of a law tells of a slice of ranges that came in. -/
def IsPairs (w : World) (a : Option Addr) (len : Nat) (f g : Nat → Int) : Prop := PRow w a len f g ∧ len ≤ 9223372036854775807

theorem pairs_of {w : World} {x : Addr} {len m : Nat} {V0 V1 : Nat → Value} (hlm : len ≤ m) (hcell : ∀ i, i < m → w.cell? (x.add (i * 2)) = some (V0 i) ∧ w.cell? (x.add (i * 2 + 1)) = some (V1 i))
    (hv : ∀ i, i < m → ∃ z : Int × Int, V0 i = .int .i64 z.1 ∧ V1 i = .int .i64 z.2) : ∃ f g, PRow w (some x) len f g := by
  obtain ⟨z, hz⟩ := Go.Deep.choose_lt hv
  refine ⟨fun i => (z i).1, fun i => (z i).2, ?_⟩
  by_cases h0 : len = 0
  · exact ⟨.inl h0⟩
  · obtain ⟨b, off, spot⟩ := x
    have hc := (hcell 0 (by omega)).1
    have hspot : spot = none := by simpa [Addr.add] using World.cell?_spot hc
    subst hspot
    refine ⟨.inr ⟨b, off, rfl, ?_, fun i hi => ?_⟩⟩
    · by_cases hlt : b < w.heap.size
      · exact hlt
      · simp [World.cell?, Addr.add, Array.getElem?_eq_none (Nat.le_of_not_lt hlt)] at hc
    · obtain ⟨c0, c1⟩ := hcell i (by omega)
      obtain ⟨e0, e1⟩ := hz i (by omega)
      rw [e0] at c0
      rw [e1] at c1
      refine ⟨?_, ?_⟩
      · by_cases h00 : i = 0
        · subst h00; simpa [Addr.add] using c0
        · simpa [Addr.add, show ¬ i * 2 = 0 by omega] using c0
      · simpa [Addr.add, Nat.add_assoc] using c1

def sameB (n : Nat) (f g f' g' : Nat → Int) : Bool := allN n (fun i => decide (f i = f' i) && decide (g i = g' i))

theorem sameB_self (n : Nat) (f g : Nat → Int) : sameB n f g f g = true := allN_yes fun i _ => by simp
end Go.Proofs.Ytjliecggfncelaa

/- Rows of Nears of the call's own; contracts of the laws' small functions over them: szNearS, toNearS, eqNearS. -/
namespace Go.Proofs.Ytjliecggfncelaa
open Go.RowKit
set_option maxRecDepth 8000
set_option linter.unusedSimpArgs false
set_option linter.unusedVariables false

theorem Try.infoNear : (Try.prog.info? 49).map (fun i => (i.zero, i.size, i.bytes)) = some (some (.agg #[.int .i64 0, .int .i64 0]), 2, 16) := by kernel_rfl

/-- A row of Nears of the call's own, that may be written. -/
def OwnN (w : World) (b n : Nat) (f g : Nat → Int) : Prop := w.rowIs b 49 (n * 2) (pcell f g)

theorem OwnN.lt {w : World} {b n : Nat} {f g : Nat → Int} (h : OwnN w b n f g) : b < w.heap.size := World.rowIs.lt h

theorem OwnN.c0 {w : World} {b n : Nat} {f g : Nat → Int} (h : OwnN w b n f g) {i : Nat} (hi : i < n) : w.cell? ⟨b, i * 2, none⟩ = some (.int .i64 (f i)) := by
  rw [World.rowIs.cell h (show i * 2 < n * 2 by omega), pcell_lo]

theorem OwnN.c1 {w : World} {b n : Nat} {f g : Nat → Int} (h : OwnN w b n f g) {i : Nat} (hi : i < n) : w.cell? ⟨b, i * 2 + 1, none⟩ = some (.int .i64 (g i)) := by
  rw [World.rowIs.cell h (show i * 2 + 1 < n * 2 by omega), pcell_hi]

theorem OwnN.prow {w : World} {b n : Nat} {f g : Nat → Int} (h : OwnN w b n f g) : PRow w (some ⟨b, 0, none⟩) n f g :=
  ⟨.inr ⟨b, 0, rfl, h.lt, fun i hi => by rw [Nat.zero_add]; exact ⟨h.c0 hi, h.c1 hi⟩⟩⟩

theorem OwnN.below {w w' : World} {b n : Nat} {f g : Nat → Int} (h : OwnN w b n f g) (hb : Below w.heap.size w w') : OwnN w' b n f g := World.rowIs.of_block h (hb.block b (World.rowIs.lt h))

theorem OwnN.congr {w : World} {b n : Nat} {f g f' g' : Nat → Int} (h : OwnN w b n f g) (hf : ∀ i, i < n → f i = f' i) (hg : ∀ i, i < n → g i = g' i) : OwnN w b n f' g' := by
  refine World.rowIs.congr h fun j hj => ?_
  unfold pcell
  rw [hf (j / 2) (by omega), hg (j / 2) (by omega)]

theorem OwnN.made (w : World) (n : Nat) : OwnN (w.alloc (.cells (madeCells #[.int .i64 0, .int .i64 0] (n * 2)) 49)) w.heap.size n (fun _ => 0) (fun _ => 0) := by
  refine ⟨_, Go.Deep.blk_alloc_new _ _, size_madeCells _ _, fun i hi => ?_⟩
  rcases (show i % 2 = 0 ∨ i % 2 = 1 by omega) with h | h <;> simp [madeCells, hi, h, pcell]

theorem OwnN.set {w : World} {b n : Nat} {f g : Nat → Int} (h : OwnN w b n f g) (k : Nat) (x y : Int) :
    OwnN ((w.setCell ⟨b, k * 2, none⟩ (.int .i64 x)).setCell ⟨b, k * 2 + 1, none⟩ (.int .i64 y)) b n (fun i => if i = k then x else f i) (fun i => if i = k then y else g i) := by
  refine (World.rowIs.set (World.rowIs.set h (k * 2) _) (k * 2 + 1) _).congr fun j hj => ?_
  unfold pcell
  dsimp only
  rcases (show j % 2 = 0 ∨ j % 2 = 1 by omega) with h | h
  · rw [if_neg (show ¬ j = k * 2 + 1 by omega)]
    by_cases e : j = k * 2
    · rw [if_pos e, if_pos h, if_pos (show j / 2 = k by omega)]
    · rw [if_neg e, if_pos h, if_pos h, if_neg (show ¬ j / 2 = k by omega)]
  · by_cases e : j = k * 2 + 1
    · rw [if_pos e, if_neg (by omega), if_pos (show j / 2 = k by omega)]
    · rw [if_neg e, if_neg (by omega), if_neg (by omega), if_neg (by omega), if_neg (show ¬ j / 2 = k by omega)]

theorem OwnN.step {w : World} {b n k : Nat} {f g : Nat → Int} (h : OwnN w b n (upTo k f) (upTo k g)) :
    OwnN ((w.setCell ⟨b, k * 2, none⟩ (.int .i64 (f k))).setCell ⟨b, k * 2 + 1, none⟩ (.int .i64 (g k))) b n (upTo (k + 1) f) (upTo (k + 1) g) := by
  refine (h.set k (f k) (g k)).congr (fun i _ => ?_) (fun i _ => ?_)
  all_goals
    unfold upTo
    by_cases e : i = k
    · subst e; simp
    · by_cases l : i < k
      · simp [e, l, show i < k + 1 by omega]
      · simp [e, l, show ¬ i < k + 1 by omega]



def ToNs (w : World) (n : Nat) (f g : Nat → Int) (e : Ending) (w' : World) : Prop :=
  ∃ b, e = .returned (.slice (some ⟨b, 0, none⟩) n n) ∧ w.heap.size ≤ b ∧ OwnN w' b n f g ∧ Below w.heap.size w w'





end Go.Proofs.Ytjliecggfncelaa
/- Heaps as plain functions: a list of Nears as a function of the place; how one goes up, how one goes down. A row of Nears of the call's own, as such a list. -/
namespace Go.Proofs.Ytjliecggfncelaa
open Go.RowKit
set_option maxRecDepth 8000
set_option linter.unusedSimpArgs false
set_option linter.unusedVariables false

def NL : Type := Nat → Int × Int
def lt2 (x y : Int × Int) : Bool := lessB x.1 x.2 y.1 y.2
def swp (L : NL) (i j : Nat) : NL := fun k => if k = i then L j else if k = j then L i else L k
def NL.put (L : NL) (i : Nat) (x : Int × Int) : NL := fun k => if k = i then x else L k

/-- The one at place j goes up as long as the one above it is less (t: more steps than there are). -/
def upF : Nat → Nat → NL → NL
  | 0, _, L => L
  | t + 1, j, L => if j = 0 then L else if lt2 (L ((j - 1) / 2)) (L j) = true then upF t ((j - 1) / 2) (swp L ((j - 1) / 2) j) else L
def upL (j : Nat) (L : NL) : NL := upF j j L

theorem upF_fuel : ∀ (t t' j : Nat) (L : NL), j ≤ t → j ≤ t' → upF t j L = upF t' j L := by
  intro t
  induction t with
  | zero =>
    intro t' j L h h'
    obtain rfl : j = 0 := by omega
    cases t' with
    | zero => rfl
    | succ t' => rw [upF, upF, if_pos rfl]
  | succ t ih =>
    intro t' j L h h'
    cases t' with
    | zero =>
      obtain rfl : j = 0 := by omega
      rw [upF, upF, if_pos rfl]
    | succ t' =>
      rw [upF, upF]
      by_cases h0 : j = 0
      · rw [if_pos h0, if_pos h0]
      · rw [if_neg h0, if_neg h0, ih t' _ _ (by omega) (by omega)]

/-- The greater one of the two below place i, of n. -/
def kid (n i : Nat) (L : NL) : Nat := if 2 * i + 2 < n ∧ lt2 (L (2 * i + 1)) (L (2 * i + 2)) = true then 2 * i + 2 else 2 * i + 1

theorem kid_gt (n i : Nat) (L : NL) : i < kid n i L := by unfold kid; split <;> omega

theorem kid_lt {n i : Nat} (L : NL) (h : 2 * i + 1 < n) : kid n i L < n := by unfold kid; split <;> omega

/-- The one at place i, of n, goes down as long as one below it is greater (t: more steps than there are). -/
def dnF : Nat → Nat → Nat → NL → NL
  | 0, _, _, L => L
  | t + 1, n, i, L => if 2 * i + 1 < n then if lt2 (L i) (L (kid n i L)) = true then dnF t n (kid n i L) (swp L i (kid n i L)) else L else L
def dnL (n i : Nat) (L : NL) : NL := dnF (n - i) n i L

theorem dnF_fuel (n : Nat) : ∀ (t t' i : Nat) (L : NL), n - i ≤ t → n - i ≤ t' → dnF t n i L = dnF t' n i L := by
  intro t
  induction t with
  | zero =>
    intro t' i L h h'
    cases t' with
    | zero => rfl
    | succ t' => rw [dnF, dnF, if_neg (by omega)]
  | succ t ih =>
    intro t' i L h h'
    cases t' with
    | zero => rw [dnF, dnF, if_neg (by omega)]
    | succ t' =>
      rw [dnF, dnF]
      by_cases h1 : 2 * i + 1 < n
      · have := kid_gt n i L
        rw [if_pos h1, if_pos h1, ih t' _ _ (by omega) (by omega)]
      · rw [if_neg h1, if_neg h1]

theorem upL_zero (L : NL) : upL 0 L = L := rfl

theorem upL_yes {j : Nat} {L : NL} (h0 : ¬ j = 0) (h : lt2 (L ((j - 1) / 2)) (L j) = true) : upL j L = upL ((j - 1) / 2) (swp L ((j - 1) / 2) j) := by
  obtain ⟨k, rfl⟩ : ∃ k, j = k + 1 := ⟨j - 1, by omega⟩
  unfold upL
  rw [upF, if_neg h0, if_pos h]
  exact upF_fuel _ _ _ _ (by omega) (by omega)

theorem upL_no {j : Nat} {L : NL} (h : lt2 (L ((j - 1) / 2)) (L j) = false) : upL j L = L := by
  unfold upL
  cases j with
  | zero => rfl
  | succ k => rw [upF, if_neg (by omega), if_neg (by rw [h]; decide)]

theorem dnL_out {n i : Nat} {L : NL} (h : ¬ 2 * i + 1 < n) : dnL n i L = L := by
  unfold dnL
  cases n - i with
  | zero => rfl
  | succ k => rw [dnF, if_neg h]

theorem dnL_yes {n i : Nat} {L : NL} (h : 2 * i + 1 < n) (hl : lt2 (L i) (L (kid n i L)) = true) : dnL n i L = dnL n (kid n i L) (swp L i (kid n i L)) := by
  unfold dnL
  obtain ⟨k, hk⟩ : ∃ k, n - i = k + 1 := ⟨n - i - 1, by omega⟩
  have := kid_gt n i L
  rw [hk, dnF, if_pos h, if_pos hl]
  exact dnF_fuel n _ _ _ _ (by omega) (by omega)

theorem dnL_no {n i : Nat} {L : NL} (hl : lt2 (L i) (L (kid n i L)) = false) : dnL n i L = L := by
  unfold dnL
  cases n - i with
  | zero => rfl
  | succ k =>
    rw [dnF]
    by_cases h : 2 * i + 1 < n
    · rw [if_pos h, if_neg (by rw [hl]; decide)]
    · rw [if_neg h]

/-- What lies at n and behind does not matter to one that goes down. -/
theorem dnL_congr (n : Nat) : ∀ (t i : Nat) (L M : NL), n - i ≤ t → i < n → (∀ k, k < n → L k = M k) → ∀ k, k < n → dnL n i L k = dnL n i M k := by
  intro t
  induction t with
  | zero => intro i L M ht hi; omega
  | succ t ih =>
    intro i L M ht hi h k hk
    by_cases h1 : 2 * i + 1 < n
    · have hkid : kid n i L = kid n i M := by
        unfold kid
        by_cases h2 : 2 * i + 2 < n
        · rw [h (2 * i + 1) h1, h (2 * i + 2) h2]
        · rw [if_neg (fun q => h2 q.1), if_neg (fun q => h2 q.1)]
      have hlt := kid_lt L h1
      have hgt := kid_gt n i L
      have hc : lt2 (L i) (L (kid n i L)) = lt2 (M i) (M (kid n i M)) := by rw [← hkid, h i hi, h _ hlt]
      cases hb : lt2 (L i) (L (kid n i L))
      · rw [dnL_no hb, dnL_no (hc ▸ hb)]
        exact h k hk
      · rw [dnL_yes h1 hb, dnL_yes h1 (hc ▸ hb), ← hkid]
        refine ih _ _ _ (by omega) hlt (fun j hj => ?_) k hk
        unfold swp
        rw [h _ hlt, h i hi, h j hj]
    · rw [dnL_out h1, dnL_out h1]
      exact h k hk

/-- A row of m Nears of the call's own that holds the list L. -/
def OwnL (w : World) (b m : Nat) (L : NL) : Prop := OwnN w b m (fun i => (L i).1) (fun i => (L i).2)

theorem OwnL.below {w w' : World} {b m : Nat} {L : NL} (h : OwnL w b m L) (hb : Below w.heap.size w w') : OwnL w' b m L := OwnN.below h hb

theorem OwnL.lt {w : World} {b m : Nat} {L : NL} (h : OwnL w b m L) : b < w.heap.size := OwnN.lt h

theorem OwnL.away {w : World} {b m : Nat} {L : NL} (h : OwnL w b m L) (p : Addr) (v : Value) (hp : b ≠ p.block) : OwnL (w.setCell p v) b m L := World.rowIs.of_block h (Below.heap_setCell w p v b hp)

theorem OwnL.set {w : World} {b m : Nat} {L : NL} (h : OwnL w b m L) (k : Nat) (x y : Int) :
    OwnL ((w.setCell ⟨b, k * 2, none⟩ (.int .i64 x)).setCell ⟨b, k * 2 + 1, none⟩ (.int .i64 y)) b m (L.put k (x, y)) := by
  refine (OwnN.set h k x y).congr (fun i _ => ?_) (fun i _ => ?_)
  all_goals
    unfold NL.put
    by_cases e : i = k <;> simp [e]

theorem OwnL.congr {w : World} {b m : Nat} {L M : NL} (h : OwnL w b m L) (hLM : ∀ i, i < m → L i = M i) : OwnL w b m M :=
  OwnN.congr h (fun i hi => by rw [hLM i hi]) (fun i hi => by rw [hLM i hi])

theorem OwnL.but {g : Nat} {w w' : World} {b m : Nat} {L : NL} (h : OwnL w b m L) (hb : But g w w') (hne : b ≠ g) : OwnL w' b m L := World.rowIs.of_block h (hb.block b h.lt hne)

theorem swp_put (L : NL) (i j : Nat) : (L.put i (L j)).put j (L i) = swp L i j := by
  funext k
  unfold NL.put swp
  by_cases hj : k = j
  · subst hj
    by_cases hi : k = i
    · subst hi; simp
    · simp [hi]
  · simp [hj]

theorem But.ofBelow {g : Nat} {a b : World} (h : Below a.heap.size a b) : But g a b := ⟨h.os, h.tape, h.output, h.size, fun k hk _ => h.block k hk⟩

theorem But.cellN {g : Nat} {w w' : World} (h : But g w w') {c o : Nat} (hc : c < w.heap.size) (hne : c ≠ g) : w'.cell? ⟨c, o, none⟩ = w.cell? ⟨c, o, none⟩ := World.cell?_of_block (h.block c hc hne)

theorem But.froz {g : Nat} {w w' : World} (h : But g w w') {c o : Nat} (hc : c < w.heap.size) (hne : c ≠ g) : w'.frozen? ⟨c, o, none⟩ = w.frozen? ⟨c, o, none⟩ := World.frozen?_of_block (h.block c hc hne)
end Go.Proofs.Ytjliecggfncelaa

/- A row of which the first ones are a list. -/
namespace Go.Proofs.Ytjliecggfncelaa
open Go.RowKit
set_option maxRecDepth 8000
set_option linter.unusedSimpArgs false
set_option linter.unusedVariables false

/-- The list of two rows of numbers. -/
def listL (n : Nat) (f g : Nat → Int) : NL := fun i => if i < n then (f i, g i) else (0, 0)
/-- A row of the call's own whose first m Nears are the list L, whatever lies behind them. -/
def RowL (w : World) (b m : Nat) (L : NL) : Prop :=
  ∃ c : Array Value, w.heap[b]? = some (.cells c 49 (0, 0)) ∧ m * 2 ≤ c.size ∧ ∀ i, i < m → c[i * 2]? = some (.int .i64 (L i).1) ∧ c[i * 2 + 1]? = some (.int .i64 (L i).2)

theorem OwnL.rowl {w : World} {b m : Nat} {L : NL} (h : OwnL w b m L) : RowL w b m L := by
  obtain ⟨c, hc, hs, hv⟩ := h
  refine ⟨c, hc, by omega, fun i hi => ⟨?_, ?_⟩⟩
  · rw [hv (i * 2) (by omega), pcell_lo]
  · rw [hv (i * 2 + 1) (by omega), pcell_hi]

theorem OwnN.rowl {w : World} {b m : Nat} {f g : Nat → Int} (h : OwnN w b m f g) : RowL w b m (fun i => (f i, g i)) := OwnL.rowl (L := fun i => (f i, g i)) h

theorem RowL.lt {w : World} {b m : Nat} {L : NL} (h : RowL w b m L) : b < w.heap.size := by
  obtain ⟨c, hc, _⟩ := h
  exact (Array.getElem?_eq_some_iff.1 hc).1

theorem RowL.c0 {w : World} {b m : Nat} {L : NL} (h : RowL w b m L) {i : Nat} (hi : i < m) : w.cell? ⟨b, i * 2, none⟩ = some (.int .i64 (L i).1) := by
  obtain ⟨c, hc, _, hv⟩ := h
  simp [World.cell?, hc, (hv i hi).1]

theorem RowL.c1 {w : World} {b m : Nat} {L : NL} (h : RowL w b m L) {i : Nat} (hi : i < m) : w.cell? ⟨b, i * 2 + 1, none⟩ = some (.int .i64 (L i).2) := by
  obtain ⟨c, hc, _, hv⟩ := h
  simp [World.cell?, hc, (hv i hi).2]

theorem RowL.froz {w : World} {b m : Nat} {L : NL} (h : RowL w b m L) (o : Nat) : w.frozen? ⟨b, o, none⟩ = false := by
  obtain ⟨c, hc, _⟩ := h
  simp [World.frozen?, hc]

theorem RowL.block {w w' : World} {b m : Nat} {L : NL} (h : RowL w b m L) (hb : w'.heap[b]? = w.heap[b]?) : RowL w' b m L := by
  obtain ⟨c, hc, hr⟩ := h
  exact ⟨c, hb.trans hc, hr⟩

theorem RowL.below {w w' : World} {b m : Nat} {L : NL} (h : RowL w b m L) (hb : Below w.heap.size w w') : RowL w' b m L := h.block (hb.block b h.lt)

theorem RowL.but {g : Nat} {w w' : World} {b m : Nat} {L : NL} (h : RowL w b m L) (hb : But g w w') (hne : b ≠ g) : RowL w' b m L := h.block (hb.block b h.lt hne)

theorem RowL.drew {w : World} {b m : Nat} {L : NL} (h : RowL w b m L) : RowL w.drew b m L := h

theorem RowL.away {w : World} {b m : Nat} {L : NL} (h : RowL w b m L) (p : Addr) (v : Value) (hp : b ≠ p.block) : RowL (w.setCell p v) b m L := h.block (Below.heap_setCell w p v b hp)

theorem RowL.less {w : World} {b m k : Nat} {L : NL} (h : RowL w b m L) (hk : k ≤ m) : RowL w b k L := by
  obtain ⟨c, hc, hs, hv⟩ := h
  exact ⟨c, hc, by omega, fun i hi => hv i (by omega)⟩

theorem RowL.congr {w : World} {b m : Nat} {L M : NL} (h : RowL w b m L) (hLM : ∀ i, i < m → L i = M i) : RowL w b m M := by
  obtain ⟨c, hc, hs, hv⟩ := h
  exact ⟨c, hc, hs, fun i hi => hLM i hi ▸ hv i hi⟩

theorem RowL.prow {w : World} {b m : Nat} {L : NL} (h : RowL w b m L) : PRow w (some ⟨b, 0, none⟩) m (fun i => (L i).1) (fun i => (L i).2) :=
  ⟨.inr ⟨b, 0, rfl, h.lt, fun i hi => by rw [Nat.zero_add]; exact ⟨h.c0 hi, h.c1 hi⟩⟩⟩

theorem heap_set {w : World} {b o : Nat} {c : Array Value} {t : TypeId} {v : Value} (h : w.heap[b]? = some (.cells c t (0, 0))) : (w.setCell ⟨b, o, none⟩ v).heap[b]? = some (.cells (c.setIfInBounds o v) t (0, 0)) := by
  have hlt := (Array.getElem?_eq_some_iff.1 h).1
  simp [World.setCell, h, hlt, Array.getElem_modify, (Array.getElem?_eq_some_iff.1 h).2]

theorem RowL.set {w : World} {b m : Nat} {L : NL} (h : RowL w b m L) (k : Nat) (x y : Int) :
    RowL ((w.setCell ⟨b, k * 2, none⟩ (.int .i64 x)).setCell ⟨b, k * 2 + 1, none⟩ (.int .i64 y)) b m (L.put k (x, y)) := by
  obtain ⟨c, hc, hs, hv⟩ := h
  refine ⟨_, heap_set (heap_set hc), by simpa using hs, fun i hi => ?_⟩
  have h0 := hv i hi
  unfold NL.put
  by_cases e : i = k
  · subst e
    have l0 : i * 2 < c.size := by omega
    have l1 : i * 2 + 1 < c.size := by omega
    simp [Array.getElem?_setIfInBounds, l0, l1]
  · simp [Array.getElem?_setIfInBounds, e, show ¬ k * 2 + 1 = i * 2 by omega, show ¬ k * 2 = i * 2 by omega, show ¬ k * 2 + 1 = i * 2 + 1 by omega, show ¬ k * 2 = i * 2 + 1 by omega, h0.1, h0.2]
end Go.Proofs.Ytjliecggfncelaa

/- HeapOk of the program. -/
namespace Go.Proofs.Ytjliecggfncelaa
open Go.RowKit
set_option maxRecDepth 8000
set_option linter.unusedSimpArgs false
set_option linter.unusedVariables false

theorem lessB_self (i d : Int) : lessB i d i d = false := by unfold lessB; simp

/-- A place of a heap is right: a Near, and not greater than the one above it. -/
def heapAt (f g : Nat → Int) (i : Nat) : Bool := nearB (f i) (g i) && !lessB (f ((i - 1) / 2)) (g ((i - 1) / 2)) (f i) (g i)
def heapB (K : Int) (n : Nat) (f g : Nat → Int) : Bool := inB K 1 20 && decide ((n : Int) ≤ K) && allN n (heapAt f g)

/-- The cells that a look at one place of a heap reads: the heap's box, the Near above, the Near's own box. -/
structure HV (w : World) (hb b off n cap p nb : Nat) (pi pd ki kd : Int) : Prop where
  l0 : hb < w.heap.size
  l1 : b < w.heap.size
  l2 : nb < w.heap.size
  c0 : w.cell? ⟨hb, 1, none⟩ = some (.slice (some ⟨b, off, none⟩) n cap)
  p0 : w.cell? ⟨b, off + p * 2, none⟩ = some (.int .i64 pi)
  p1 : w.cell? ⟨b, off + p * 2 + 1, none⟩ = some (.int .i64 pd)
  n0 : w.cell? ⟨nb, 0, none⟩ = some (.int .i64 ki)
  n1 : w.cell? ⟨nb, 1, none⟩ = some (.int .i64 kd)

theorem HV.below {w w' : World} {hb b off n cap p nb : Nat} {pi pd ki kd : Int} (h : HV w hb b off n cap p nb pi pd ki kd) (B : Below w.heap.size w w') : HV w' hb b off n cap p nb pi pd ki kd :=
  ⟨Nat.lt_of_lt_of_le h.l0 B.size, Nat.lt_of_lt_of_le h.l1 B.size, Nat.lt_of_lt_of_le h.l2 B.size,
    (B.cell (p := ⟨hb, 1, none⟩) h.l0).trans h.c0, (B.cell (p := ⟨b, off + p * 2, none⟩) h.l1).trans h.p0, (B.cell (p := ⟨b, off + p * 2 + 1, none⟩) h.l1).trans h.p1,
    (B.cell (p := ⟨nb, 0, none⟩) h.l2).trans h.n0, (B.cell (p := ⟨nb, 1, none⟩) h.l2).trans h.n1⟩

theorem HV.drew {w : World} {hb b off n cap p nb : Nat} {pi pd ki kd : Int} (h : HV w hb b off n cap p nb pi pd ki kd) : HV w.drew hb b off n cap p nb pi pd ki kd := ⟨h.l0, h.l1, h.l2, h.c0, h.p0, h.p1, h.n0, h.n1⟩

set_option maxHeartbeats 400000 in
theorem kOk_any (n : Int) (w : World) :
    Calls Try.prog 23 #[.int .i64 n] w fun e w' => e = .returned (.bool (inB n 1 20)) ∧ w' = w := by
  by_cases h1 : 1 ≤ n <;> by_cases h2 : n ≤ 20
  all_goals
    simp only [inB, h1, h2, and_true, and_false, decide_true, decide_false]
    go_enter Try.func23, Try.ntmps23
    go_wp2
    go_ret
    exact ⟨rfl, rfl⟩

set_option maxHeartbeats 1600000 in
set_option maxRecDepth 4000 in
theorem iHeapOk_some (K : Int) (b off n cap : Nat) (f g : Nat → Int) (w : World) (h1 : 1 ≤ K) (h2 : K ≤ 20) (hn : (n : Int) ≤ K) (hb : b < w.heap.size) (hc : ∀ i, i < n → w.cell? ⟨b, off + i * 2, none⟩ = some (.int .i64 (f i)) ∧ w.cell? ⟨b, off + i * 2 + 1, none⟩ = some (.int .i64 (g i))) :
    Calls Try.prog 60 #[.agg #[.int .i64 K, .slice (some ⟨b, off, none⟩) n cap]] w fun e w' => e = .returned (.bool (allN n (heapAt f g))) ∧ Below w.heap.size w w' := by
  have KO := hide (kOk_any K)
  rw [show inB K 1 20 = true from decide_eq_true ⟨h1, h2⟩] at KO
  go_enter Try.func60, Try.ntmps60
  go_wp2_with fail
  refine (KO.out _).mono ?_
  rintro e w' ⟨rfl, rfl⟩
  go_wp2_with fail
  generalize hw0 : w.alloc _ = w0
  have B0 : Below w.heap.size w w0 := by rw [← hw0]; exact (by repeat' first | with_reducible exact Below.refl _ _ | with_reducible assumption | with_reducible refine below_drewN ?_ _ | with_reducible refine balloc ?_ _ | with_reducible refine Below.drew ?_ | with_reducible refine Below.setCell ?_ (by first | (simp; done) | (simp; omega) | omega) _ | with_reducible refine bstep ?_ (by assumption))
  have z0 : w0.heap.size = w.heap.size + 1 := by rw [← hw0]; simp
  have c0 : w0.cell? ⟨w.heap.size, 1, none⟩ = some (.slice (some ⟨b, off, none⟩) n cap) := by rw [← hw0]; simp [go_sem]
  go_loopw [20] (fun i wr => ∃ k : Nat, k ≤ n ∧ i = .int .i64 k ∧ (∀ j, j < k → heapAt f g j = true) ∧ Below w0.heap.size w0 wr) (fun i _ => n - (intOf i).toNat)
  case atStart => exact ⟨0, Nat.zero_le _, rfl, fun j h => absurd h (by omega), (by repeat' first | with_reducible exact Below.refl _ _ | with_reducible assumption | with_reducible refine below_drewN ?_ _ | with_reducible refine balloc ?_ _ | with_reducible refine Below.drew ?_ | with_reducible refine Below.setCell ?_ (by first | (simp; done) | (simp; omega) | omega) _ | with_reducible refine bstep ?_ (by assumption))⟩
  case round =>
    obtain ⟨k, hk, rfl, hpre, hbel⟩ := hrel
    have HP := hide hpre
    have HC := hide hc
    have HB := hide hbel
    have HB0 := hide B0
    have HC0 := hide c0
    clear hw0
    by_cases hlt : k < n
    · have bs : b < w0.heap.size := by omega
      have z1 : wr.cell? ⟨b, off + k * 2, none⟩ = some (.int .i64 (f k)) := (hbel.cell (p := ⟨b, off + k * 2, none⟩) bs).trans ((B0.cell (p := ⟨b, off + k * 2, none⟩) hb).trans (hc k hlt).1)
      have z2 : wr.cell? ⟨b, off + k * 2 + 1, none⟩ = some (.int .i64 (g k)) := (hbel.cell (p := ⟨b, off + k * 2 + 1, none⟩) bs).trans ((B0.cell (p := ⟨b, off + k * 2 + 1, none⟩) hb).trans (hc k hlt).2)
      have hsz := hbel.size
      have hp : (k - 1) / 2 < n := by omega
      have NO := hide (iNearOk_any (f k) (g k))
      have LE := hide (less_any (f ((k - 1) / 2)) (g ((k - 1) / 2)) (f k) (g k))
      have y0 : wr.cell? ⟨w.heap.size, 1, none⟩ = some (.slice (some ⟨b, off, none⟩) n cap) := (hbel.cell (p := ⟨w.heap.size, 1, none⟩) (by show w.heap.size < _; omega)).trans c0
      have y1 : wr.cell? ⟨b, off + (k - 1) / 2 * 2, none⟩ = some (.int .i64 (f ((k - 1) / 2))) := (hbel.cell (p := ⟨b, off + (k - 1) / 2 * 2, none⟩) bs).trans ((B0.cell (p := ⟨b, off + (k - 1) / 2 * 2, none⟩) hb).trans (hc _ hp).1)
      have y2 : wr.cell? ⟨b, off + (k - 1) / 2 * 2 + 1, none⟩ = some (.int .i64 (g ((k - 1) / 2))) := (hbel.cell (p := ⟨b, off + (k - 1) / 2 * 2 + 1, none⟩) bs).trans ((B0.cell (p := ⟨b, off + (k - 1) / 2 * 2 + 1, none⟩) hb).trans (hc _ hp).2)
      clear hpre hbel hc B0 c0
      have Y0 := hide y0
      have Y1 := hide y1
      have Y2 := hide y2
      clear y0 y1 y2
      obtain ⟨v, hv⟩ : ∃ v, nearB (f k) (g k) = v := ⟨_, rfl⟩
      have HV1 := hide hv
      rw [hv] at NO
      clear hv
      obtain ⟨u, hu⟩ : ∃ u, lessB (f ((k - 1) / 2)) (g ((k - 1) / 2)) (f k) (g k) = u := ⟨_, rfl⟩
      have HU1 := hide hu
      rw [hu] at LE
      clear hu
      go_upto_region 6 with fail
      have HVV := hide (show HV (wr.alloc (Obj.cells #[Value.int IntKind.i64 (f k), Value.int IntKind.i64 (g k)] 49)) w.heap.size b off n cap ((k - 1) / 2) wr.heap.size (f ((k - 1) / 2)) (g ((k - 1) / 2)) (f k) (g k) from
        (HV.mk (by simp; omega) (by simp; omega) (by simp) (by rw [World.cell?_alloc_past _ _ _ (show w.heap.size < _ by omega)]; exact Y0.out) (by rw [World.cell?_alloc_past _ _ _ (show b < _ by omega)]; exact Y1.out) (by rw [World.cell?_alloc_past _ _ _ (show b < _ by omega)]; exact Y2.out) (by simp [go_sem]) (by simp [go_sem])))
      have BA : Below wr.heap.size wr (wr.alloc (Obj.cells #[Value.int IntKind.i64 (f k), Value.int IntKind.i64 (g k)] 49)) := balloc (Below.refl _ _) _
      generalize hwa : wr.alloc (Obj.cells #[Value.int IntKind.i64 (f k), Value.int IntKind.i64 (g k)] 49) = wa at HVV BA ⊢
      clear hwa z1 z2 Y0 Y1 Y2
      obtain ⟨p, hpp⟩ : ∃ p, (k - 1) / 2 = p := ⟨_, rfl⟩
      have hq : IntKind.i64.wrap (Int.tdiv (if IntKind.i64.wrap ((k : Int) - 1) < 0 then 0 else IntKind.i64.wrap ((k : Int) - 1)) 2) = (p : Int) := by
        rw [wrapIn ((k : Int) - 1) (by omega) (by omega)]
        by_cases h0 : k = 0
        · subst h0; subst hpp; rfl
        · rw [if_neg (by omega), Int.tdiv_eq_ediv_of_nonneg (by omega), wrapIn _ (by omega) (by omega)]; omega
      have hpi : (p : Int) < (n : Int) := by omega
      have hat : heapAt f g k = (v && !u) := by unfold heapAt; rw [HV1.out, HU1.out]
      rw [hpp] at HVV LE
      clear hp hpp HU1 HV1
      cases v
      · have hno : heapAt f g k = false := hat
        refine wp_region_held_drew (S := fun wx => HV wx w.heap.size b off n cap p wr.heap.size (f p) (g p) (f k) (g k)) (by kernel_rfl) (HVV.out.drew) (fun hH0 => ?_)
        refine wpAnyH_take (i := 0) (oi := { dst := some 25, op := _, type := _, pos := _, after := _, guard := _ }) (v := ?_) rfl (by kernel_rfl) (by kernel_rfl) (by kernel_rfl) (fun _ _ _ h => h) (Or.inl ⟨by rfl, ?_⟩) (hH0) ?_
        rotate_left
        · (intro wx hSw; obtain ⟨l0, l1, l2, q0, q1, q2, q3, q4⟩ := hSw; go_simp <;> with_reducible rfl)
        simp only [Act.put, List.setIfInBounds_toArray, List.set_cons_zero, List.set_cons_succ]
        refine wpAnyH_ready (rs := [1]) (by kernel_rfl) (by simp) ?_
        refine AllReadyH.cons (o := { dst := some 26, op := _, type := _, pos := _, after := _, guard := _ }) rfl (fun K hK => ?_) AllReadyH.nil
        go_simp
        refine (NO.out _).mono ?_
        rintro e w_c30_1 ⟨rfl, hb_c30_1⟩
        dsimp only
        refine hK.out _ _ (HV.below hH0 hb_c30_1) (fun hH1 => ?_)
        clear hK K
        refine wpAnyH_take (i := 2) (oi := { dst := some 27, op := _, type := _, pos := _, after := _, guard := _ }) (v := ?_) rfl (by kernel_rfl) (by kernel_rfl) (by kernel_rfl) (fun _ _ _ h => h) (Or.inl ⟨by rfl, ?_⟩) (hH1) ?_
        rotate_left
        · (intro wx hSw; obtain ⟨l0, l1, l2, q0, q1, q2, q3, q4⟩ := hSw; go_simp <;> with_reducible rfl)
        simp only [Act.put, List.setIfInBounds_toArray, List.set_cons_zero, List.set_cons_succ]
        refine wpAnyH_take (i := 3) (oi := { dst := some 28, op := _, type := _, pos := _, after := _, guard := _ }) (v := ?_) rfl (by kernel_rfl) (by kernel_rfl) (by kernel_rfl) (fun _ _ _ h => h) (Or.inl ⟨by rfl, ?_⟩) (hH1) ?_
        rotate_left
        · (intro wx hSw; obtain ⟨l0, l1, l2, q0, q1, q2, q3, q4⟩ := hSw; go_simp <;> with_reducible rfl)
        simp only [Act.put, List.setIfInBounds_toArray, List.set_cons_zero, List.set_cons_succ]
        refine wpAnyH_take (i := 4) (oi := { dst := some 29, op := _, type := _, pos := _, after := _, guard := _ }) (v := _) rfl (by kernel_rfl) (by kernel_rfl) (by kernel_rfl) (fun _ _ _ h => h) (Or.inr ⟨by rfl, rfl⟩) (hH1) ?_
        simp only [Act.put, List.setIfInBounds_toArray, List.set_cons_zero, List.set_cons_succ]
        refine wpAnyH_take (i := 5) (oi := { dst := some 30, op := _, type := _, pos := _, after := _, guard := _ }) (v := _) rfl (by kernel_rfl) (by kernel_rfl) (by kernel_rfl) (fun _ _ _ h => h) (Or.inr ⟨by rfl, rfl⟩) (hH1) ?_
        simp only [Act.put, List.setIfInBounds_toArray, List.set_cons_zero, List.set_cons_succ]
        refine wpAnyH_take (i := 6) (oi := { dst := some 31, op := _, type := _, pos := _, after := _, guard := _ }) (v := _) rfl (by kernel_rfl) (by kernel_rfl) (by kernel_rfl) (fun _ _ _ h => h) (Or.inr ⟨by rfl, rfl⟩) (hH1) ?_
        simp only [Act.put, List.setIfInBounds_toArray, List.set_cons_zero, List.set_cons_succ]
        refine wpAnyH_take (i := 7) (oi := { dst := some 32, op := _, type := _, pos := _, after := _, guard := _ }) (v := _) rfl (by kernel_rfl) (by kernel_rfl) (by kernel_rfl) (fun _ _ _ h => h) (Or.inr ⟨by rfl, rfl⟩) (hH1) ?_
        simp only [Act.put, List.setIfInBounds_toArray, List.set_cons_zero, List.set_cons_succ]
        refine wpAnyH_take (i := 8) (oi := { dst := some 33, op := _, type := _, pos := _, after := _, guard := _ }) (v := _) rfl (by kernel_rfl) (by kernel_rfl) (by kernel_rfl) (fun _ _ _ h => h) (Or.inr ⟨by rfl, rfl⟩) (hH1) ?_
        simp only [Act.put, List.setIfInBounds_toArray, List.set_cons_zero, List.set_cons_succ]
        refine wpAnyH_take (i := 9) (oi := { dst := some 34, op := _, type := _, pos := _, after := _, guard := _ }) (v := _) rfl (by kernel_rfl) (by kernel_rfl) (by kernel_rfl) (fun _ _ _ h => h) (Or.inr ⟨by rfl, rfl⟩) (hH1) ?_
        simp only [Act.put, List.setIfInBounds_toArray, List.set_cons_zero, List.set_cons_succ]
        refine wpAnyH_take (i := 10) (oi := { dst := some 35, op := _, type := _, pos := _, after := _, guard := _ }) (v := _) rfl (by kernel_rfl) (by kernel_rfl) (by kernel_rfl) (fun _ _ _ h => h) (Or.inr ⟨by rfl, rfl⟩) (hH1) ?_
        simp only [Act.put, List.setIfInBounds_toArray, List.set_cons_zero, List.set_cons_succ]
        refine wpAnyH_take (i := 11) (oi := { dst := some 36, op := _, type := _, pos := _, after := _, guard := _ }) (v := _) rfl (by kernel_rfl) (by kernel_rfl) (by kernel_rfl) (fun _ _ _ h => h) (Or.inr ⟨by rfl, rfl⟩) (hH1) ?_
        simp only [Act.put, List.setIfInBounds_toArray, List.set_cons_zero, List.set_cons_succ]
        refine wpAnyH_take (i := 12) (oi := { dst := some 37, op := _, type := _, pos := _, after := _, guard := _ }) (v := _) rfl (by kernel_rfl) (by kernel_rfl) (by kernel_rfl) (fun _ _ _ h => h) (Or.inr ⟨by rfl, rfl⟩) (hH1) ?_
        simp only [Act.put, List.setIfInBounds_toArray, List.set_cons_zero, List.set_cons_succ]
        refine wpAnyH_take (i := 13) (oi := { dst := some 38, op := _, type := _, pos := _, after := _, guard := _ }) (v := _) rfl (by kernel_rfl) (by kernel_rfl) (by kernel_rfl) (fun _ _ _ h => h) (Or.inr ⟨by rfl, rfl⟩) (hH1) ?_
        simp only [Act.put, List.setIfInBounds_toArray, List.set_cons_zero, List.set_cons_succ]
        refine wpAnyH_take (i := 14) (oi := { dst := some 39, op := _, type := _, pos := _, after := _, guard := _ }) (v := ?_) rfl (by kernel_rfl) (by kernel_rfl) (by kernel_rfl) (fun _ _ _ h => h) (Or.inl ⟨by rfl, ?_⟩) (hH1) ?_
        rotate_left
        · (intro wx hSw; obtain ⟨l0, l1, l2, q0, q1, q2, q3, q4⟩ := hSw; go_simp <;> with_reducible rfl)
        simp only [Act.put, List.setIfInBounds_toArray, List.set_cons_zero, List.set_cons_succ]
        refine wpAnyH_done (by kernel_rfl) ?_ _
        -- behind it: go_wp2_with fail, then go_meet (a cut) or go_ret; the condition at the end: hH1
        go_wp2_with fail
        go_ret
        refine ⟨by rw [allN_no hlt hno]; rfl, ?_⟩
        have x1 := HB0.out
        have x2 := HB.out
        exact (by repeat' first | with_reducible exact Below.refl _ _ | with_reducible assumption | with_reducible refine below_drewN ?_ _ | with_reducible refine balloc ?_ _ | with_reducible refine Below.drew ?_ | with_reducible refine Below.setCell ?_ (by first | (simp; done) | (simp; omega) | omega) _ | with_reducible refine bstep ?_ (by assumption))
      · replace hat : heapAt f g k = !u := hat
        refine wp_region_held_drew (S := fun wx => HV wx w.heap.size b off n cap p wr.heap.size (f p) (g p) (f k) (g k)) (by kernel_rfl) (HVV.out.drew) (fun hH0 => ?_)
        refine wpAnyH_take (i := 0) (oi := { dst := some 25, op := _, type := _, pos := _, after := _, guard := _ }) (v := ?_) rfl (by kernel_rfl) (by kernel_rfl) (by kernel_rfl) (fun _ _ _ h => h) (Or.inl ⟨by rfl, ?_⟩) (hH0) ?_
        rotate_left
        · (intro wx hSw; obtain ⟨l0, l1, l2, q0, q1, q2, q3, q4⟩ := hSw; go_simp <;> with_reducible rfl)
        simp only [Act.put, List.setIfInBounds_toArray, List.set_cons_zero, List.set_cons_succ]
        refine wpAnyH_ready (rs := [1]) (by kernel_rfl) (by simp) ?_
        refine AllReadyH.cons (o := { dst := some 26, op := _, type := _, pos := _, after := _, guard := _ }) rfl (fun K hK => ?_) AllReadyH.nil
        go_simp
        refine (NO.out _).mono ?_
        rintro e w_c30_1 ⟨rfl, hb_c30_1⟩
        dsimp only
        refine hK.out _ _ (HV.below hH0 hb_c30_1) (fun hH1 => ?_)
        clear hK K
        refine wpAnyH_take (i := 2) (oi := { dst := some 27, op := _, type := _, pos := _, after := _, guard := _ }) (v := ?_) rfl (by kernel_rfl) (by kernel_rfl) (by kernel_rfl) (fun _ _ _ h => h) (Or.inl ⟨by rfl, ?_⟩) (hH1) ?_
        rotate_left
        · (intro wx hSw; obtain ⟨l0, l1, l2, q0, q1, q2, q3, q4⟩ := hSw; go_simp <;> with_reducible rfl)
        simp only [Act.put, List.setIfInBounds_toArray, List.set_cons_zero, List.set_cons_succ]
        refine wpAnyH_take (i := 3) (oi := { dst := some 28, op := _, type := _, pos := _, after := _, guard := _ }) (v := ?_) rfl (by kernel_rfl) (by kernel_rfl) (by kernel_rfl) (fun _ _ _ h => h) (Or.inl ⟨by rfl, ?_⟩) (hH1) ?_
        rotate_left
        · (intro wx hSw; obtain ⟨l0, l1, l2, q0, q1, q2, q3, q4⟩ := hSw; go_simp <;> with_reducible rfl)
        simp only [Act.put, List.setIfInBounds_toArray, List.set_cons_zero, List.set_cons_succ]
        refine wpAnyH_take (i := 4) (oi := { dst := some 29, op := _, type := _, pos := _, after := _, guard := _ }) (v := ?_) rfl (by kernel_rfl) (by kernel_rfl) (by kernel_rfl) (fun _ _ _ h => h) (Or.inl ⟨by rfl, ?_⟩) (hH1) ?_
        rotate_left
        · (intro wx hSw; obtain ⟨l0, l1, l2, q0, q1, q2, q3, q4⟩ := hSw; go_simp <;> with_reducible rfl)
        simp only [Act.put, List.setIfInBounds_toArray, List.set_cons_zero, List.set_cons_succ]
        refine wpAnyH_take (i := 5) (oi := { dst := some 30, op := _, type := _, pos := _, after := _, guard := _ }) (v := ?_) rfl (by kernel_rfl) (by kernel_rfl) (by kernel_rfl) (fun _ _ _ h => h) (Or.inl ⟨by rfl, ?_⟩) (hH1) ?_
        rotate_left
        · (intro wx hSw; obtain ⟨l0, l1, l2, q0, q1, q2, q3, q4⟩ := hSw; go_simp <;> with_reducible rfl)
        simp only [Act.put, List.setIfInBounds_toArray, List.set_cons_zero, List.set_cons_succ]
        refine wpAnyH_take (i := 6) (oi := { dst := some 31, op := _, type := _, pos := _, after := _, guard := _ }) (v := ?_) rfl (by kernel_rfl) (by kernel_rfl) (by kernel_rfl) (fun _ _ _ h => h) (Or.inl ⟨by rfl, ?_⟩) (hH1) ?_
        rotate_left
        · (intro wx hSw; obtain ⟨l0, l1, l2, q0, q1, q2, q3, q4⟩ := hSw; go_simp <;> with_reducible rfl)
        simp only [Act.put, List.setIfInBounds_toArray, List.set_cons_zero, List.set_cons_succ]
        refine wpAnyH_take (i := 7) (oi := { dst := some 32, op := _, type := _, pos := _, after := _, guard := _ }) (v := ?_) rfl (by kernel_rfl) (by kernel_rfl) (by kernel_rfl) (fun _ _ _ h => h) (Or.inl ⟨by rfl, ?_⟩) (hH1) ?_
        rotate_left
        · (intro wx hSw; obtain ⟨l0, l1, l2, q0, q1, q2, q3, q4⟩ := hSw; go_simp <;> with_reducible rfl)
        simp only [Act.put, List.setIfInBounds_toArray, List.set_cons_zero, List.set_cons_succ]
        refine wpAnyH_take (i := 8) (oi := { dst := some 33, op := _, type := _, pos := _, after := _, guard := _ }) (v := ?_) rfl (by kernel_rfl) (by kernel_rfl) (by kernel_rfl) (fun _ _ _ h => h) (Or.inl ⟨by rfl, ?_⟩) (hH1) ?_
        rotate_left
        · (intro wx hSw; obtain ⟨l0, l1, l2, q0, q1, q2, q3, q4⟩ := hSw; go_simp <;> with_reducible rfl)
        simp only [Act.put, List.setIfInBounds_toArray, List.set_cons_zero, List.set_cons_succ]
        refine wpAnyH_take (i := 9) (oi := { dst := some 34, op := _, type := _, pos := _, after := _, guard := _ }) (v := ?_) rfl (by kernel_rfl) (by kernel_rfl) (by kernel_rfl) (fun _ _ _ h => h) (Or.inl ⟨by rfl, ?_⟩) (hH1) ?_
        rotate_left
        · (intro wx hSw; obtain ⟨l0, l1, l2, q0, q1, q2, q3, q4⟩ := hSw; go_simp <;> with_reducible rfl)
        simp only [Act.put, List.setIfInBounds_toArray, List.set_cons_zero, List.set_cons_succ]
        refine wpAnyH_take (i := 10) (oi := { dst := some 35, op := _, type := _, pos := _, after := _, guard := _ }) (v := ?_) rfl (by kernel_rfl) (by kernel_rfl) (by kernel_rfl) (fun _ _ _ h => h) (Or.inl ⟨by rfl, ?_⟩) (hH1) ?_
        rotate_left
        · (intro wx hSw; obtain ⟨l0, l1, l2, q0, q1, q2, q3, q4⟩ := hSw; go_simp <;> with_reducible rfl)
        simp only [Act.put, List.setIfInBounds_toArray, List.set_cons_zero, List.set_cons_succ]
        refine wpAnyH_take (i := 11) (oi := { dst := some 36, op := _, type := _, pos := _, after := _, guard := _ }) (v := ?_) rfl (by kernel_rfl) (by kernel_rfl) (by kernel_rfl) (fun _ _ _ h => h) (Or.inl ⟨by rfl, ?_⟩) (hH1) ?_
        rotate_left
        · (intro wx hSw; obtain ⟨l0, l1, l2, q0, q1, q2, q3, q4⟩ := hSw; go_simp <;> with_reducible rfl)
        simp only [Act.put, List.setIfInBounds_toArray, List.set_cons_zero, List.set_cons_succ]
        refine wpAnyH_take (i := 12) (oi := { dst := some 37, op := _, type := _, pos := _, after := _, guard := _ }) (v := ?_) rfl (by kernel_rfl) (by kernel_rfl) (by kernel_rfl) (fun _ _ _ h => h) (Or.inl ⟨by rfl, ?_⟩) (hH1) ?_
        rotate_left
        · (intro wx hSw; obtain ⟨l0, l1, l2, q0, q1, q2, q3, q4⟩ := hSw; go_simp <;> with_reducible rfl)
        simp only [Act.put, List.setIfInBounds_toArray, List.set_cons_zero, List.set_cons_succ]
        refine wpAnyH_ready (rs := [13]) (by kernel_rfl) (by simp) ?_
        refine AllReadyH.cons (o := { dst := some 38, op := _, type := _, pos := _, after := _, guard := _ }) rfl (fun K hK => ?_) AllReadyH.nil
        go_simp
        refine (LE.out _).mono ?_
        rintro e w_c42_2 ⟨rfl, hb_c42_2⟩
        dsimp only
        refine hK.out _ _ (HV.below hH1 hb_c42_2) (fun hH2 => ?_)
        clear hK K
        refine wpAnyH_take (i := 14) (oi := { dst := some 39, op := _, type := _, pos := _, after := _, guard := _ }) (v := ?_) rfl (by kernel_rfl) (by kernel_rfl) (by kernel_rfl) (fun _ _ _ h => h) (Or.inl ⟨by rfl, ?_⟩) (hH2) ?_
        rotate_left
        · (intro wx hSw; obtain ⟨l0, l1, l2, q0, q1, q2, q3, q4⟩ := hSw; go_simp <;> with_reducible rfl)
        simp only [Act.put, List.setIfInBounds_toArray, List.set_cons_zero, List.set_cons_succ]
        refine wpAnyH_done (by kernel_rfl) ?_ _
        -- behind it: go_wp2_with fail, then go_meet (a cut) or go_ret; the condition at the end: hH2
        cases u
        · go_wp2_with fail
          go_roundw
          case rel =>
            have hbel := HB.out
            exact ⟨k + 1, by omega, by go_num, fun j hj => (by rcases Nat.lt_succ_iff_lt_or_eq.1 hj with h | h; exact HP.out j h; rw [h]; exact (hat : heapAt f g k = true)), (by repeat' first | with_reducible exact Below.refl _ _ | with_reducible assumption | with_reducible refine below_drewN ?_ _ | with_reducible refine balloc ?_ _ | with_reducible refine Below.drew ?_ | with_reducible refine Below.setCell ?_ (by first | (simp; done) | (simp; omega) | omega) _ | with_reducible refine bstep ?_ (by assumption))⟩
          case measure => simp [intOf]; omega
        · go_wp2_with fail
          all_goals
            go_ret
            refine ⟨by rw [allN_no hlt (hat : heapAt f g k = false)]; rfl, ?_⟩
            have x1 := HB0.out
            have x2 := HB.out
            exact (by repeat' first | with_reducible exact Below.refl _ _ | with_reducible assumption | with_reducible refine below_drewN ?_ _ | with_reducible refine balloc ?_ _ | with_reducible refine Below.drew ?_ | with_reducible refine Below.setCell ?_ (by first | (simp; done) | (simp; omega) | omega) _ | with_reducible refine bstep ?_ (by assumption))
    · clear hpre hbel hc
      go_wp2_with fail
      go_ret
      refine ⟨by rw [allN_yes (fun j hj => HP.out j (by omega))]; rfl, ?_⟩
      have h1 := HB0.out
      have h2 := HB.out
      exact (by repeat' first | with_reducible exact Below.refl _ _ | with_reducible assumption | with_reducible refine below_drewN ?_ _ | with_reducible refine balloc ?_ _ | with_reducible refine Below.drew ?_ | with_reducible refine Below.setCell ?_ (by first | (simp; done) | (simp; omega) | omega) _ | with_reducible refine bstep ?_ (by assumption))

set_option maxHeartbeats 400000 in
theorem iHeapOk_few (K : Int) (a : Option Addr) (n cap : Nat) (w : World) (h : ¬ ((1 ≤ K ∧ K ≤ 20) ∧ (n : Int) ≤ K)) :
    Calls Try.prog 60 #[.agg #[.int .i64 K, .slice a n cap]] w fun e w' => e = .returned (.bool false) ∧ Below w.heap.size w w' := by
  rcases (show K < 1 ∨ (1 ≤ K ∧ 20 < K) ∨ ((1 ≤ K ∧ K ≤ 20) ∧ K < (n : Int)) by omega) with h1 | ⟨h1, h2⟩ | ⟨⟨h1, h2⟩, h3⟩
  · have KO := hide (kOk_any K)
    rw [show inB K 1 20 = false from decide_eq_false (by omega)] at KO
    clear h
    go_enter Try.func60, Try.ntmps60
    go_wp2_with fail
    refine (KO.out _).mono ?_
    rintro e w' ⟨rfl, rfl⟩
    go_wp2_with fail
    go_ret
    exact ⟨rfl, (by repeat' first | with_reducible exact Below.refl _ _ | with_reducible assumption | with_reducible refine below_drewN ?_ _ | with_reducible refine balloc ?_ _ | with_reducible refine Below.drew ?_ | with_reducible refine Below.setCell ?_ (by first | (simp; done) | (simp; omega) | omega) _ | with_reducible refine bstep ?_ (by assumption))⟩
  · have KO := hide (kOk_any K)
    rw [show inB K 1 20 = false from decide_eq_false (by omega)] at KO
    clear h
    go_enter Try.func60, Try.ntmps60
    go_wp2_with fail
    refine (KO.out _).mono ?_
    rintro e w' ⟨rfl, rfl⟩
    go_wp2_with fail
    go_ret
    exact ⟨rfl, (by repeat' first | with_reducible exact Below.refl _ _ | with_reducible assumption | with_reducible refine below_drewN ?_ _ | with_reducible refine balloc ?_ _ | with_reducible refine Below.drew ?_ | with_reducible refine Below.setCell ?_ (by first | (simp; done) | (simp; omega) | omega) _ | with_reducible refine bstep ?_ (by assumption))⟩
  · have KO := hide (kOk_any K)
    rw [show inB K 1 20 = true from decide_eq_true ⟨h1, h2⟩] at KO
    clear h
    go_enter Try.func60, Try.ntmps60
    go_wp2_with fail
    refine (KO.out _).mono ?_
    rintro e w' ⟨rfl, rfl⟩
    go_wp2_with fail
    go_ret
    exact ⟨rfl, (by repeat' first | with_reducible exact Below.refl _ _ | with_reducible assumption | with_reducible refine below_drewN ?_ _ | with_reducible refine balloc ?_ _ | with_reducible refine Below.drew ?_ | with_reducible refine Below.setCell ?_ (by first | (simp; done) | (simp; omega) | omega) _ | with_reducible refine bstep ?_ (by assumption))⟩

set_option maxHeartbeats 400000 in
theorem iHeapOk_none (K : Int) (a : Option Addr) (n cap : Nat) (w : World) (h1 : 1 ≤ K) (h2 : K ≤ 20) (hn : n < 1) :
    Calls Try.prog 60 #[.agg #[.int .i64 K, .slice a n cap]] w fun e w' => e = .returned (.bool true) ∧ Below w.heap.size w w' := by
  have h3 : (n : Int) ≤ K := by omega
  have KO := hide (kOk_any K)
  rw [show inB K 1 20 = true from decide_eq_true ⟨h1, h2⟩] at KO
  go_enter Try.func60, Try.ntmps60
  go_wp2_with fail
  refine (KO.out _).mono ?_
  rintro e w' ⟨rfl, rfl⟩
  go_wp2_with fail
  refine wp_loop_rounds 1 ?_
  rw [rounds_succ]
  go_wp2_with fail
  go_ret
  exact ⟨rfl, (by repeat' first | with_reducible exact Below.refl _ _ | with_reducible assumption | with_reducible refine below_drewN ?_ _ | with_reducible refine balloc ?_ _ | with_reducible refine Below.drew ?_ | with_reducible refine Below.setCell ?_ (by first | (simp; done) | (simp; omega) | omega) _ | with_reducible refine bstep ?_ (by assumption))⟩

theorem heapB_few {K : Int} {n : Nat} {f g : Nat → Int} (h : ¬ ((1 ≤ K ∧ K ≤ 20) ∧ (n : Int) ≤ K)) : heapB K n f g = false := by
  unfold heapB inB
  rw [show (decide (1 ≤ K ∧ K ≤ 20) && decide ((n : Int) ≤ K)) = false from by rw [← Bool.decide_and]; exact decide_eq_false h, Bool.false_and]

theorem heapB_some {K : Int} {n : Nat} {f g : Nat → Int} (h : (1 ≤ K ∧ K ≤ 20) ∧ (n : Int) ≤ K) : heapB K n f g = allN n (heapAt f g) := by
  unfold heapB inB
  rw [decide_eq_true h.1, decide_eq_true h.2]; rfl

theorem iHeapOk_any (K : Int) (a : Option Addr) (n cap : Nat) (f g : Nat → Int) (w : World) (h : PRow w a n f g) :
    Calls Try.prog 60 #[.agg #[.int .i64 K, .slice a n cap]] w fun e w' => e = .returned (.bool (heapB K n f g)) ∧ Below w.heap.size w w' := by
  by_cases hk : (1 ≤ K ∧ K ≤ 20) ∧ (n : Int) ≤ K
  · rw [heapB_some hk]
    rcases h.lies with h0 | ⟨b, off, rfl, lt, hc⟩
    · rw [show allN n (heapAt f g) = true from allN_yes fun i hi => absurd hi (by omega)]
      exact iHeapOk_none K a n cap w hk.1.1 hk.1.2 (by omega)
    · exact iHeapOk_some K b off n cap f g w hk.1.1 hk.1.2 hk.2 lt hc
  · rw [heapB_few hk]
    exact iHeapOk_few K a n cap w hk
end Go.Proofs.Ytjliecggfncelaa

/- Sorting as plain functions: what a heap gives one by one from behind is what an insertion sort makes. -/
namespace Go.Proofs.Ytjliecggfncelaa
open Go.RowKit
set_option maxRecDepth 8000
set_option linter.unusedSimpArgs false
set_option linter.unusedVariables false

/-- How often x is among the first n. -/
def cnt (L : NL) : Nat → Int × Int → Nat
  | 0, _ => 0
  | n + 1, x => cnt L n x + if L n = x then 1 else 0

theorem cnt_congr {L M : NL} (n : Nat) (x : Int × Int) (h : ∀ i, i < n → L i = M i) : cnt L n x = cnt M n x := by
  induction n with
  | zero => rfl
  | succ n ih => simp only [cnt]; rw [ih (fun i hi => h i (by omega)), h n (by omega)]

theorem cnt_put {L : NL} {i : Nat} (y x : Int × Int) : ∀ n, i < n → cnt (L.put i y) n x + (if L i = x then 1 else 0) = cnt L n x + (if y = x then 1 else 0) := by
  intro n
  induction n with
  | zero => intro h; omega
  | succ n ih =>
    intro h
    simp only [cnt]
    by_cases e : i = n
    · subst e
      rw [cnt_congr (L := L.put i y) (M := L) i x (fun j hj => by unfold NL.put; rw [if_neg (by omega)])]
      have : L.put i y i = y := by unfold NL.put; rw [if_pos rfl]
      rw [this]; omega
    · have := ih (by omega)
      have e2 : L.put i y n = L n := by unfold NL.put; rw [if_neg (by omega)]
      rw [e2]; omega

theorem cnt_swp (L : NL) {i j n : Nat} (x : Int × Int) (hi : i < n) (hj : j < n) : cnt (swp L i j) n x = cnt L n x := by
  rw [← swp_put]
  have h1 := cnt_put (L := L) (i := i) (L j) x n hi
  have h2 := cnt_put (L := L.put i (L j)) (i := j) (L i) x n hj
  have e : L.put i (L j) j = L j := by
    unfold NL.put
    by_cases e : j = i
    · rw [if_pos e]
    · rw [if_neg e]
  rw [e] at h2
  omega

theorem cnt_pos {L : NL} {x : Int × Int} : ∀ n, 0 < cnt L n x → ∃ i, i < n ∧ L i = x := by
  intro n
  induction n with
  | zero => intro h; simp [cnt] at h
  | succ n ih =>
    intro h
    simp only [cnt] at h
    by_cases e : L n = x
    · exact ⟨n, by omega, e⟩
    · rw [if_neg e] at h
      obtain ⟨i, hi, hx⟩ := ih (by omega)
      exact ⟨i, by omega, hx⟩

theorem cnt_of {L : NL} {x : Int × Int} {n i : Nat} (hi : i < n) (hx : L i = x) : 0 < cnt L n x := by
  induction n with
  | zero => omega
  | succ n ih =>
    simp only [cnt]
    by_cases e : i = n
    · subst e; rw [if_pos hx]; omega
    · have := ih (by omega); omega

theorem cnt_upL (n : Nat) (x : Int × Int) : ∀ (t j : Nat) (L : NL), j ≤ t → j < n → cnt (upL j L) n x = cnt L n x := by
  intro t
  induction t with
  | zero =>
    intro j L ht hj
    obtain rfl : j = 0 := by omega
    rw [upL_zero]
  | succ t ih =>
    intro j L ht hj
    by_cases h0 : j = 0
    · subst h0; rw [upL_zero]
    · cases hb : lt2 (L ((j - 1) / 2)) (L j)
      · rw [upL_no hb]
      · rw [upL_yes h0 hb, ih _ _ (by omega) (by omega), cnt_swp L x (by omega) hj]

theorem cnt_dnL (n N : Nat) (x : Int × Int) (hN : n ≤ N) : ∀ (t i : Nat) (L : NL), n - i ≤ t → cnt (dnL n i L) N x = cnt L N x := by
  intro t
  induction t with
  | zero => intro i L ht; rw [dnL_out (by omega)]
  | succ t ih =>
    intro i L ht
    by_cases h : 2 * i + 1 < n
    · have hk := kid_lt L h
      have hg := kid_gt n i L
      cases hb : lt2 (L i) (L (kid n i L))
      · rw [dnL_no hb]
      · rw [dnL_yes h hb, ih _ _ (by omega), cnt_swp L x (by omega) (by omega)]
    · rw [dnL_out h]

theorem lt2_irrefl (x : Int × Int) : lt2 x x = false := by unfold lt2 lessB; simp

theorem lt2_asymm {x y : Int × Int} (h : lt2 x y = true) : lt2 y x = false := by
  unfold lt2 lessB at *
  simp only [decide_eq_true_eq, decide_eq_false_iff_not] at *
  omega

theorem le2_trans {a b c : Int × Int} (h1 : lt2 b a = false) (h2 : lt2 c b = false) : lt2 c a = false := by
  unfold lt2 lessB at *
  simp only [decide_eq_false_iff_not] at *
  omega

theorem le2_anti {a b : Int × Int} (h1 : lt2 b a = false) (h2 : lt2 a b = false) : a = b := by
  unfold lt2 lessB at *
  simp only [decide_eq_false_iff_not] at *
  exact Prod.ext (by omega) (by omega)

def HeapP (n : Nat) (L : NL) : Prop := ∀ j, 0 < j → j < n → lt2 (L ((j - 1) / 2)) (L j) = false

theorem HeapP.top {n : Nat} {L : NL} (h : HeapP n L) : ∀ (t j : Nat), j ≤ t → j < n → lt2 (L 0) (L j) = false := by
  intro t
  induction t with
  | zero =>
    intro j ht hj
    obtain rfl : j = 0 := by omega
    exact lt2_irrefl _
  | succ t ih =>
    intro j ht hj
    by_cases h0 : j = 0
    · subst h0; exact lt2_irrefl _
    · exact le2_trans (h j (by omega) hj) (ih ((j - 1) / 2) (by omega) (by omega))

def DnInv (n i : Nat) (L : NL) : Prop :=
  (∀ j, 0 < j → j < n → (j - 1) / 2 ≠ i → lt2 (L ((j - 1) / 2)) (L j) = false) ∧ (0 < i → ∀ j, 0 < j → j < n → (j - 1) / 2 = i → lt2 (L ((i - 1) / 2)) (L j) = false)

theorem kid_top {n i : Nat} {L : NL} {j : Nat} (h0 : 0 < j) (hj : j < n) (hp : (j - 1) / 2 = i) : lt2 (L (kid n i L)) (L j) = false := by
  unfold kid
  by_cases h : 2 * i + 2 < n ∧ lt2 (L (2 * i + 1)) (L (2 * i + 2)) = true
  · rw [if_pos h]
    rcases (show j = 2 * i + 1 ∨ j = 2 * i + 2 by omega) with rfl | rfl
    · exact lt2_asymm h.2
    · exact lt2_irrefl _
  · rw [if_neg h]
    rcases (show j = 2 * i + 1 ∨ j = 2 * i + 2 by omega) with rfl | rfl
    · exact lt2_irrefl _
    · cases hb : lt2 (L (2 * i + 1)) (L (2 * i + 2))
      · rfl
      · exact absurd ⟨hj, hb⟩ h

theorem dn_heap (n : Nat) : ∀ (t i : Nat) (L : NL), n - i ≤ t → DnInv n i L → HeapP n (dnL n i L) := by
  intro t
  induction t with
  | zero =>
    intro i L ht h
    rw [dnL_out (by omega)]
    exact fun j h0 hj => h.1 j h0 hj (by omega)
  | succ t ih =>
    intro i L ht h
    by_cases h1 : 2 * i + 1 < n
    · have hk := kid_lt L h1
      have hg := kid_gt n i L
      have hkp : (kid n i L - 1) / 2 = i := by unfold kid; split <;> omega
      cases hb : lt2 (L i) (L (kid n i L))
      · rw [dnL_no hb]
        intro j h0 hj
        by_cases hp : (j - 1) / 2 = i
        · rw [hp]; exact le2_trans (kid_top h0 hj hp) hb
        · exact h.1 j h0 hj hp
      · rw [dnL_yes h1 hb]
        generalize hkk : kid n i L = k at *
        refine ih k _ (by omega) ⟨?_, ?_⟩
        · intro j h0 hj hp
          by_cases ejk : j = k
          · subst ejk
            rw [hkp]
            unfold swp
            rw [if_pos rfl, if_neg (by omega), if_pos rfl]
            exact lt2_asymm hb
          · by_cases ep : (j - 1) / 2 = i
            · rw [ep]
              unfold swp
              rw [if_pos rfl, if_neg (by omega), if_neg ejk, ← hkk]
              exact kid_top h0 hj ep
            · by_cases ej : j = i
              · subst ej
                unfold swp
                rw [if_neg (by omega), if_neg hp, if_pos rfl]
                exact h.2 (by omega) k (by omega) hk hkp
              · unfold swp
                rw [if_neg ep, if_neg hp, if_neg ej, if_neg ejk]
                exact h.1 j h0 hj ep
        · intro hk0 j h0 hj hp
          rw [hkp]
          unfold swp
          rw [if_pos rfl, if_neg (by omega), if_neg (by omega)]
          have := h.1 j h0 hj (by omega)
          rwa [hp] at this
    · rw [dnL_out h1]
      exact fun j h0 hj => h.1 j h0 hj (by omega)

def SortedP (n : Nat) (A : NL) : Prop := ∀ i, i + 1 < n → lt2 (A (i + 1)) (A i) = false

theorem sorted_last {A : NL} : ∀ n, SortedP (n + 1) A → ∀ i, i ≤ n → lt2 (A n) (A i) = false := by
  intro n
  induction n with
  | zero =>
    intro _ i hi
    obtain rfl : i = 0 := by omega
    exact lt2_irrefl _
  | succ n ih =>
    intro h i hi
    by_cases e : i = n + 1
    · subst e; exact lt2_irrefl _
    · exact le2_trans (ih (fun j hj => h j (by omega)) i (by omega)) (h n (by omega))

theorem sorted_unique : ∀ (n : Nat) (A B : NL), SortedP n A → SortedP n B → (∀ x, cnt A n x = cnt B n x) → ∀ i, i < n → A i = B i := by
  intro n
  induction n with
  | zero => intro A B _ _ _ i hi; omega
  | succ n ih =>
    intro A B hA hB hc i hi
    have hl : A n = B n := by
      have h1 : 0 < cnt B (n + 1) (A n) := by rw [← hc]; exact cnt_of (by omega : n < n + 1) rfl
      have h2 : 0 < cnt A (n + 1) (B n) := by rw [hc]; exact cnt_of (by omega : n < n + 1) rfl
      obtain ⟨j, hj, ej⟩ := cnt_pos _ h1
      obtain ⟨k, hk, ek⟩ := cnt_pos _ h2
      have q1 := sorted_last n hB j (by omega)
      have q2 := sorted_last n hA k (by omega)
      rw [ej] at q1
      rw [ek] at q2
      exact le2_anti q1 q2
    by_cases e : i = n
    · subst e; exact hl
    · refine ih A B (fun j hj => hA j (by omega)) (fun j hj => hB j (by omega)) (fun x => ?_) i (by omega)
      have := hc x
      simp only [cnt] at this
      rw [hl] at this
      omega

/-- What a heap of n gives, one by one from behind. -/
def hsL : Nat → NL → NL
  | 0, _ => fun _ => (0, 0)
  | k + 1, L => (hsL k (dnL k 0 (swp L 0 k))).put k (L 0)

theorem pop_inv {k : Nat} {L : NL} (h : HeapP (k + 1) L) : DnInv k 0 (swp L 0 k) := by
  refine ⟨fun j h0 hj hp => ?_, fun q => absurd q (by omega)⟩
  unfold swp
  rw [if_neg hp, if_neg (by omega), if_neg (by omega), if_neg (by omega)]
  exact h j h0 (by omega)

theorem hsL_sorted : ∀ (n : Nat) (L : NL), HeapP n L → SortedP n (hsL n L) ∧ ∀ x, cnt (hsL n L) n x = cnt L n x := by
  intro n
  induction n with
  | zero => intro L _; exact ⟨fun i hi => by omega, fun x => rfl⟩
  | succ k ih =>
    intro L h
    obtain ⟨hs, hc⟩ := ih _ (dn_heap k k 0 _ (by omega) (pop_inv h))
    have hcut : ∀ x, cnt (hsL k (dnL k 0 (swp L 0 k))) k x = cnt (swp L 0 k) k x := fun x => by rw [hc, cnt_dnL k k x (Nat.le_refl _) k 0 _ (by omega)]
    have hput : ∀ i, i < k → (hsL k (dnL k 0 (swp L 0 k))).put k (L 0) i = hsL k (dnL k 0 (swp L 0 k)) i := fun i hi => by unfold NL.put; rw [if_neg (by omega)]
    have hat : (hsL k (dnL k 0 (swp L 0 k))).put k (L 0) k = L 0 := by unfold NL.put; rw [if_pos rfl]
    have hlast : swp L 0 k k = L 0 := by
      unfold swp
      by_cases e : k = 0
      · rw [if_pos e, e]
      · rw [if_neg e, if_pos rfl]
    refine ⟨fun i hi => ?_, fun x => ?_⟩
    · show lt2 ((hsL k (dnL k 0 (swp L 0 k))).put k (L 0) (i + 1)) ((hsL k (dnL k 0 (swp L 0 k))).put k (L 0) i) = false
      by_cases e : i + 1 = k
      · rw [e, hat, hput i (by omega)]
        have h1 := cnt_of (L := hsL k (dnL k 0 (swp L 0 k))) (n := k) (i := i) (by omega) rfl
        rw [hcut] at h1
        have h2 : 0 < cnt L (k + 1) (hsL k (dnL k 0 (swp L 0 k)) i) := by
          rw [← cnt_swp L _ (i := 0) (j := k) (by omega) (by omega)]
          simp only [cnt]
          omega
        obtain ⟨j, hj, ej⟩ := cnt_pos _ h2
        rw [← ej]
        exact h.top j j (Nat.le_refl _) hj
      · rw [hput (i + 1) (by omega), hput i (by omega)]
        exact hs i (by omega)
    · show cnt ((hsL k (dnL k 0 (swp L 0 k))).put k (L 0)) k x + (if (hsL k (dnL k 0 (swp L 0 k))).put k (L 0) k = x then 1 else 0) = _
      rw [hat, cnt_congr k x hput, hcut, ← cnt_swp L x (i := 0) (j := k) (n := k + 1) (by omega) (by omega)]
      simp only [cnt]
      rw [hlast]

/-- x is put among the first k, which are sorted: place by place from behind. -/
def insL : Nat → NL → Int × Int → NL
  | 0, M, x => M.put 0 x
  | k + 1, M, x => if lt2 x (M k) = true then insL k (M.put (k + 1) (M k)) x else M.put (k + 1) x

theorem insL_put : ∀ (k : Nat) (M : NL) (x y : Int × Int) (j : Nat), k < j → insL k (M.put j y) x = (insL k M x).put j y := by
  intro k
  induction k with
  | zero =>
    intro M x y j hj
    funext i
    simp only [insL, NL.put]
    by_cases e : i = 0
    · rw [if_pos e, if_neg (by omega), if_pos e]
    · rw [if_neg e, if_neg e]
  | succ k ih =>
    intro M x y j hj
    have e : M.put j y k = M k := by unfold NL.put; rw [if_neg (by omega)]
    simp only [insL, e]
    by_cases hb : lt2 x (M k) = true
    · rw [if_pos hb, if_pos hb]
      have sw : (M.put j y).put (k + 1) (M k) = (M.put (k + 1) (M k)).put j y := by
        funext i
        unfold NL.put
        by_cases e1 : i = k + 1
        · rw [if_pos e1, if_neg (by omega), if_pos e1]
        · rw [if_neg e1, if_neg e1]
      rw [sw, ih _ _ _ _ (by omega)]
    · rw [if_neg hb, if_neg hb]
      funext i
      unfold NL.put
      by_cases e1 : i = k + 1
      · rw [if_pos e1, if_neg (by omega), if_pos e1]
      · rw [if_neg e1, if_neg e1]

theorem insL_succ (k : Nat) (M : NL) (x : Int × Int) : insL (k + 1) M x = if lt2 x (M k) = true then (insL k M x).put (k + 1) (M k) else M.put (k + 1) x := by
  simp only [insL]
  rw [insL_put k M x (M k) (k + 1) (by omega)]

theorem put_at (L : NL) (k : Nat) (y : Int × Int) : L.put k y k = y := by unfold NL.put; rw [if_pos rfl]

theorem put_off (L : NL) {k i : Nat} (y : Int × Int) (h : i ≠ k) : L.put k y i = L i := by unfold NL.put; rw [if_neg h]

theorem insL_sorted : ∀ (k : Nat) (M : NL) (x : Int × Int), SortedP k M → SortedP (k + 1) (insL k M x) ∧ (∀ y, (∀ i, i < k → lt2 y (M i) = false) → lt2 y x = false → ∀ i, i ≤ k → lt2 y (insL k M x i) = false) ∧ ∀ z, cnt (insL k M x) (k + 1) z = cnt M k z + if x = z then 1 else 0 := by
  intro k
  induction k with
  | zero =>
    intro M x _
    refine ⟨fun i hi => by omega, fun y _ hx i hi => ?_, fun z => ?_⟩
    · obtain rfl : i = 0 := by omega
      simp only [insL, put_at]; exact hx
    · simp only [insL, cnt, put_at]
  | succ k ih =>
    intro M x hM
    obtain ⟨s1, s2, s3⟩ := ih M x (fun i hi => hM i (by omega))
    have hl := sorted_last k hM
    rw [insL_succ]
    cases hb : lt2 x (M k)
    · rw [if_neg (by decide)]
      refine ⟨fun i hi => ?_, fun y hy hx i hi => ?_, fun z => ?_⟩
      · by_cases e : i + 1 = k + 1
        · obtain rfl : i = k := by omega
          rw [put_at, put_off _ _ (by omega)]; exact hb
        · rw [put_off _ _ (by omega), put_off _ _ (by omega)]; exact hM i (by omega)
      · by_cases e : i = k + 1
        · subst e; rw [put_at]; exact hx
        · rw [put_off _ _ e]; exact hy i (by omega)
      · show cnt (M.put (k + 1) x) (k + 1) z + (if M.put (k + 1) x (k + 1) = z then 1 else 0) = _
        rw [put_at, cnt_congr (k + 1) z (M := M) (fun i hi => put_off _ _ (by omega))]
    · rw [if_pos rfl]
      refine ⟨fun i hi => ?_, fun y hy hx i hi => ?_, fun z => ?_⟩
      · by_cases e : i + 1 = k + 1
        · obtain rfl : i = k := by omega
          rw [put_at, put_off _ _ (by omega)]
          exact s2 (M i) (fun j hj => hl j (by omega)) (lt2_asymm hb) i (Nat.le_refl _)
        · rw [put_off _ _ (by omega), put_off _ _ (by omega)]; exact s1 i (by omega)
      · by_cases e : i = k + 1
        · subst e; rw [put_at]; exact hy k (by omega)
        · rw [put_off _ _ e]; exact s2 y (fun j hj => hy j (by omega)) hx i (by omega)
      · show cnt ((insL k M x).put (k + 1) (M k)) (k + 1) z + (if (insL k M x).put (k + 1) (M k) (k + 1) = z then 1 else 0) = _
        rw [put_at, cnt_congr (k + 1) z (M := insL k M x) (fun i hi => put_off _ _ (by omega)), s3]
        simp only [cnt]
        omega
def isortL : Nat → NL → NL
  | 0, _ => fun _ => (0, 0)
  | k + 1, L => insL k (isortL k L) (L k)

theorem isortL_sorted : ∀ (n : Nat) (L : NL), SortedP n (isortL n L) ∧ ∀ x, cnt (isortL n L) n x = cnt L n x := by
  intro n
  induction n with
  | zero => intro L; exact ⟨fun i hi => by omega, fun x => rfl⟩
  | succ k ih =>
    intro L
    obtain ⟨s, c⟩ := ih L
    obtain ⟨s1, _, s3⟩ := insL_sorted k (isortL k L) (L k) s
    exact ⟨s1, fun x => by show cnt (insL k (isortL k L) (L k)) (k + 1) x = _; rw [s3, c]; rfl⟩
/-- Both make the same. -/
theorem sorts_alike (n : Nat) (L : NL) (h : HeapP n L) : ∀ i, i < n → hsL n L i = isortL n L i :=
  sorted_unique n _ _ (hsL_sorted n L h).1 (isortL_sorted n L).1 fun x => by rw [(hsL_sorted n L h).2, (isortL_sorted n L).2]
end Go.Proofs.Ytjliecggfncelaa
