/- Heaps as plain functions: a list of Nears as a function of the place; how one goes up, how one goes down. A row of Nears of the call's own, as such a list. -/
import Derived.Test.YtmbncafbbpcmbaaZ5
import Derived.Test.YtmbncafbbpcmbaaZ2
import Derived.Laws.StructEq
import Derived.OpenShut
import Derived.BigRegion
import Derived.Deep.RegionLaw
import Derived.Laws.CopyOwn
import Derived.Lib.SlBuf
namespace Go.Proofs.Ytmbncafbbpcmbaa
open Go.RowKit
set_option maxRecDepth 8000
set_option linter.unusedSimpArgs false
set_option linter.unusedVariables false

def NL : Type := Nat → Int × Int
def lt2 (x y : Int × Int) : Bool := lessB x.1 x.2 y.1 y.2
def swp (L : NL) (i j : Nat) : NL := fun k => if k = i then L j else if k = j then L i else L k
def NL.put (L : NL) (i : Nat) (x : Int × Int) : NL := fun k => if k = i then x else L k

/-- The one at place j goes up as long as the one above it is less (t: more steps than there are). -/
def upF : Nat → Nat → NL → NL
  | 0, _, L => L
  | t + 1, j, L => if j = 0 then L else if lt2 (L ((j - 1) / 2)) (L j) = true then upF t ((j - 1) / 2) (swp L ((j - 1) / 2) j) else L
def upL (j : Nat) (L : NL) : NL := upF j j L
theorem upF_fuel : ∀ (t t' j : Nat) (L : NL), j ≤ t → j ≤ t' → upF t j L = upF t' j L := by
  intro t
  induction t with
  | zero =>
    intro t' j L h h'
    obtain rfl : j = 0 := by omega
    cases t' with
    | zero => rfl
    | succ t' => rw [upF, upF, if_pos rfl]
  | succ t ih =>
    intro t' j L h h'
    cases t' with
    | zero =>
      obtain rfl : j = 0 := by omega
      rw [upF, upF, if_pos rfl]
    | succ t' =>
      rw [upF, upF]
      by_cases h0 : j = 0
      · rw [if_pos h0, if_pos h0]
      · rw [if_neg h0, if_neg h0, ih t' _ _ (by omega) (by omega)]

/-- The greater one of the two below place i, of n. -/
def kid (n i : Nat) (L : NL) : Nat := if 2 * i + 2 < n ∧ lt2 (L (2 * i + 1)) (L (2 * i + 2)) = true then 2 * i + 2 else 2 * i + 1
theorem kid_gt (n i : Nat) (L : NL) : i < kid n i L := by unfold kid; split <;> omega
theorem kid_lt {n i : Nat} (L : NL) (h : 2 * i + 1 < n) : kid n i L < n := by unfold kid; split <;> omega

/-- The one at place i, of n, goes down as long as one below it is greater (t: more steps than there are). -/
def dnF : Nat → Nat → Nat → NL → NL
  | 0, _, _, L => L
  | t + 1, n, i, L => if 2 * i + 1 < n then if lt2 (L i) (L (kid n i L)) = true then dnF t n (kid n i L) (swp L i (kid n i L)) else L else L
def dnL (n i : Nat) (L : NL) : NL := dnF (n - i) n i L
theorem dnF_fuel (n : Nat) : ∀ (t t' i : Nat) (L : NL), n - i ≤ t → n - i ≤ t' → dnF t n i L = dnF t' n i L := by
  intro t
  induction t with
  | zero =>
    intro t' i L h h'
    cases t' with
    | zero => rfl
    | succ t' => rw [dnF, dnF, if_neg (by omega)]
  | succ t ih =>
    intro t' i L h h'
    cases t' with
    | zero => rw [dnF, dnF, if_neg (by omega)]
    | succ t' =>
      rw [dnF, dnF]
      by_cases h1 : 2 * i + 1 < n
      · have := kid_gt n i L
        rw [if_pos h1, if_pos h1, ih t' _ _ (by omega) (by omega)]
      · rw [if_neg h1, if_neg h1]

theorem upL_zero (L : NL) : upL 0 L = L := rfl
theorem upL_yes {j : Nat} {L : NL} (h0 : ¬ j = 0) (h : lt2 (L ((j - 1) / 2)) (L j) = true) : upL j L = upL ((j - 1) / 2) (swp L ((j - 1) / 2) j) := by
  obtain ⟨k, rfl⟩ : ∃ k, j = k + 1 := ⟨j - 1, by omega⟩
  unfold upL
  rw [upF, if_neg h0, if_pos h]
  exact upF_fuel _ _ _ _ (by omega) (by omega)
theorem upL_no {j : Nat} {L : NL} (h : lt2 (L ((j - 1) / 2)) (L j) = false) : upL j L = L := by
  unfold upL
  cases j with
  | zero => rfl
  | succ k => rw [upF, if_neg (by omega), if_neg (by rw [h]; decide)]
theorem dnL_out {n i : Nat} {L : NL} (h : ¬ 2 * i + 1 < n) : dnL n i L = L := by
  unfold dnL
  cases n - i with
  | zero => rfl
  | succ k => rw [dnF, if_neg h]
theorem dnL_yes {n i : Nat} {L : NL} (h : 2 * i + 1 < n) (hl : lt2 (L i) (L (kid n i L)) = true) : dnL n i L = dnL n (kid n i L) (swp L i (kid n i L)) := by
  unfold dnL
  obtain ⟨k, hk⟩ : ∃ k, n - i = k + 1 := ⟨n - i - 1, by omega⟩
  have := kid_gt n i L
  rw [hk, dnF, if_pos h, if_pos hl]
  exact dnF_fuel n _ _ _ _ (by omega) (by omega)
theorem dnL_no {n i : Nat} {L : NL} (hl : lt2 (L i) (L (kid n i L)) = false) : dnL n i L = L := by
  unfold dnL
  cases n - i with
  | zero => rfl
  | succ k =>
    rw [dnF]
    by_cases h : 2 * i + 1 < n
    · rw [if_pos h, if_neg (by rw [hl]; decide)]
    · rw [if_neg h]

/-- What lies at n and behind does not matter to one that goes down. -/
theorem dnL_congr (n : Nat) : ∀ (t i : Nat) (L M : NL), n - i ≤ t → i < n → (∀ k, k < n → L k = M k) → ∀ k, k < n → dnL n i L k = dnL n i M k := by
  intro t
  induction t with
  | zero => intro i L M ht hi; omega
  | succ t ih =>
    intro i L M ht hi h k hk
    by_cases h1 : 2 * i + 1 < n
    · have hkid : kid n i L = kid n i M := by
        unfold kid
        by_cases h2 : 2 * i + 2 < n
        · rw [h (2 * i + 1) h1, h (2 * i + 2) h2]
        · rw [if_neg (fun q => h2 q.1), if_neg (fun q => h2 q.1)]
      have hlt := kid_lt L h1
      have hgt := kid_gt n i L
      have hc : lt2 (L i) (L (kid n i L)) = lt2 (M i) (M (kid n i M)) := by rw [← hkid, h i hi, h _ hlt]
      cases hb : lt2 (L i) (L (kid n i L))
      · rw [dnL_no hb, dnL_no (hc ▸ hb)]
        exact h k hk
      · rw [dnL_yes h1 hb, dnL_yes h1 (hc ▸ hb), ← hkid]
        refine ih _ _ _ (by omega) hlt (fun j hj => ?_) k hk
        unfold swp
        rw [h _ hlt, h i hi, h j hj]
    · rw [dnL_out h1, dnL_out h1]
      exact h k hk

/-- A row of m Nears of the call's own that holds the list L. -/
def OwnL (w : World) (b m : Nat) (L : NL) : Prop := OwnN w b m (fun i => (L i).1) (fun i => (L i).2)
theorem OwnL.below {w w' : World} {b m : Nat} {L : NL} (h : OwnL w b m L) (hb : Below w.heap.size w w') : OwnL w' b m L := OwnN.below h hb
theorem OwnL.lt {w : World} {b m : Nat} {L : NL} (h : OwnL w b m L) : b < w.heap.size := OwnN.lt h
theorem OwnL.away {w : World} {b m : Nat} {L : NL} (h : OwnL w b m L) (p : Addr) (v : Value) (hp : b ≠ p.block) : OwnL (w.setCell p v) b m L := World.rowIs.of_block h (Below.heap_setCell w p v b hp)
theorem OwnL.set {w : World} {b m : Nat} {L : NL} (h : OwnL w b m L) (k : Nat) (x y : Int) :
    OwnL ((w.setCell ⟨b, k * 2, none⟩ (.int .i64 x)).setCell ⟨b, k * 2 + 1, none⟩ (.int .i64 y)) b m (L.put k (x, y)) := by
  refine (OwnN.set h k x y).congr (fun i _ => ?_) (fun i _ => ?_)
  all_goals
    unfold NL.put
    by_cases e : i = k <;> simp [e]
theorem OwnL.congr {w : World} {b m : Nat} {L M : NL} (h : OwnL w b m L) (hLM : ∀ i, i < m → L i = M i) : OwnL w b m M :=
  OwnN.congr h (fun i hi => by rw [hLM i hi]) (fun i hi => by rw [hLM i hi])
theorem OwnL.but {g : Nat} {w w' : World} {b m : Nat} {L : NL} (h : OwnL w b m L) (hb : But g w w') (hne : b ≠ g) : OwnL w' b m L := World.rowIs.of_block h (hb.block b h.lt hne)
theorem swp_put (L : NL) (i j : Nat) : (L.put i (L j)).put j (L i) = swp L i j := by
  funext k
  unfold NL.put swp
  by_cases hj : k = j
  · subst hj
    by_cases hi : k = i
    · subst hi; simp
    · simp [hi]
  · simp [hj]

theorem But.ofBelow {g : Nat} {a b : World} (h : Below a.heap.size a b) : But g a b := ⟨h.os, h.tape, h.output, h.size, fun k hk _ => h.block k hk⟩
theorem But.cellN {g : Nat} {w w' : World} (h : But g w w') {c o : Nat} (hc : c < w.heap.size) (hne : c ≠ g) : w'.cell? ⟨c, o, none⟩ = w.cell? ⟨c, o, none⟩ := World.cell?_of_block (h.block c hc hne)
theorem But.froz {g : Nat} {w w' : World} (h : But g w w') {c o : Nat} (hc : c < w.heap.size) (hne : c ≠ g) : w'.frozen? ⟨c, o, none⟩ = w.frozen? ⟨c, o, none⟩ := World.frozen?_of_block (h.block c hc hne)
end Go.Proofs.Ytmbncafbbpcmbaa

/- A row of which the first ones are a list. -/
namespace Go.Proofs.Ytmbncafbbpcmbaa
open Go.RowKit
set_option maxRecDepth 8000
set_option linter.unusedSimpArgs false
set_option linter.unusedVariables false

/-- The list of two rows of numbers. -/
def listL (n : Nat) (f g : Nat → Int) : NL := fun i => if i < n then (f i, g i) else (0, 0)
/-- A row of the call's own whose first m Nears are the list L, whatever lies behind them. -/
def RowL (w : World) (b m : Nat) (L : NL) : Prop :=
  ∃ c : Array Value, w.heap[b]? = some (.cells c 47 (0, 0)) ∧ m * 2 ≤ c.size ∧ ∀ i, i < m → c[i * 2]? = some (.int .i64 (L i).1) ∧ c[i * 2 + 1]? = some (.int .i64 (L i).2)
theorem OwnL.rowl {w : World} {b m : Nat} {L : NL} (h : OwnL w b m L) : RowL w b m L := by
  obtain ⟨c, hc, hs, hv⟩ := h
  refine ⟨c, hc, by omega, fun i hi => ⟨?_, ?_⟩⟩
  · rw [hv (i * 2) (by omega), pcell_lo]
  · rw [hv (i * 2 + 1) (by omega), pcell_hi]
theorem OwnN.rowl {w : World} {b m : Nat} {f g : Nat → Int} (h : OwnN w b m f g) : RowL w b m (fun i => (f i, g i)) := OwnL.rowl (L := fun i => (f i, g i)) h
theorem RowL.lt {w : World} {b m : Nat} {L : NL} (h : RowL w b m L) : b < w.heap.size := by
  obtain ⟨c, hc, _⟩ := h
  exact (Array.getElem?_eq_some_iff.1 hc).1
theorem RowL.c0 {w : World} {b m : Nat} {L : NL} (h : RowL w b m L) {i : Nat} (hi : i < m) : w.cell? ⟨b, i * 2, none⟩ = some (.int .i64 (L i).1) := by
  obtain ⟨c, hc, _, hv⟩ := h
  simp [World.cell?, hc, (hv i hi).1]
theorem RowL.c1 {w : World} {b m : Nat} {L : NL} (h : RowL w b m L) {i : Nat} (hi : i < m) : w.cell? ⟨b, i * 2 + 1, none⟩ = some (.int .i64 (L i).2) := by
  obtain ⟨c, hc, _, hv⟩ := h
  simp [World.cell?, hc, (hv i hi).2]
theorem RowL.froz {w : World} {b m : Nat} {L : NL} (h : RowL w b m L) (o : Nat) : w.frozen? ⟨b, o, none⟩ = false := by
  obtain ⟨c, hc, _⟩ := h
  simp [World.frozen?, hc]
theorem RowL.block {w w' : World} {b m : Nat} {L : NL} (h : RowL w b m L) (hb : w'.heap[b]? = w.heap[b]?) : RowL w' b m L := by
  obtain ⟨c, hc, hr⟩ := h
  exact ⟨c, hb.trans hc, hr⟩
theorem RowL.below {w w' : World} {b m : Nat} {L : NL} (h : RowL w b m L) (hb : Below w.heap.size w w') : RowL w' b m L := h.block (hb.block b h.lt)
theorem RowL.but {g : Nat} {w w' : World} {b m : Nat} {L : NL} (h : RowL w b m L) (hb : But g w w') (hne : b ≠ g) : RowL w' b m L := h.block (hb.block b h.lt hne)
theorem RowL.drew {w : World} {b m : Nat} {L : NL} (h : RowL w b m L) : RowL w.drew b m L := h
theorem RowL.away {w : World} {b m : Nat} {L : NL} (h : RowL w b m L) (p : Addr) (v : Value) (hp : b ≠ p.block) : RowL (w.setCell p v) b m L := h.block (Below.heap_setCell w p v b hp)
theorem RowL.less {w : World} {b m k : Nat} {L : NL} (h : RowL w b m L) (hk : k ≤ m) : RowL w b k L := by
  obtain ⟨c, hc, hs, hv⟩ := h
  exact ⟨c, hc, by omega, fun i hi => hv i (by omega)⟩
theorem RowL.congr {w : World} {b m : Nat} {L M : NL} (h : RowL w b m L) (hLM : ∀ i, i < m → L i = M i) : RowL w b m M := by
  obtain ⟨c, hc, hs, hv⟩ := h
  exact ⟨c, hc, hs, fun i hi => hLM i hi ▸ hv i hi⟩
theorem RowL.prow {w : World} {b m : Nat} {L : NL} (h : RowL w b m L) : PRow w (some ⟨b, 0, none⟩) m (fun i => (L i).1) (fun i => (L i).2) :=
  ⟨.inr ⟨b, 0, rfl, h.lt, fun i hi => by rw [Nat.zero_add]; exact ⟨h.c0 hi, h.c1 hi⟩⟩⟩
theorem heap_set {w : World} {b o : Nat} {c : Array Value} {t : TypeId} {v : Value} (h : w.heap[b]? = some (.cells c t (0, 0))) : (w.setCell ⟨b, o, none⟩ v).heap[b]? = some (.cells (c.setIfInBounds o v) t (0, 0)) := by
  have hlt := (Array.getElem?_eq_some_iff.1 h).1
  simp [World.setCell, h, hlt, Array.getElem_modify, (Array.getElem?_eq_some_iff.1 h).2]
theorem RowL.set {w : World} {b m : Nat} {L : NL} (h : RowL w b m L) (k : Nat) (x y : Int) :
    RowL ((w.setCell ⟨b, k * 2, none⟩ (.int .i64 x)).setCell ⟨b, k * 2 + 1, none⟩ (.int .i64 y)) b m (L.put k (x, y)) := by
  obtain ⟨c, hc, hs, hv⟩ := h
  refine ⟨_, heap_set (heap_set hc), by simpa using hs, fun i hi => ?_⟩
  have h0 := hv i hi
  unfold NL.put
  by_cases e : i = k
  · subst e
    have l0 : i * 2 < c.size := by omega
    have l1 : i * 2 + 1 < c.size := by omega
    simp [Array.getElem?_setIfInBounds, l0, l1]
  · simp [Array.getElem?_setIfInBounds, e, show ¬ k * 2 + 1 = i * 2 by omega, show ¬ k * 2 = i * 2 by omega, show ¬ k * 2 + 1 = i * 2 + 1 by omega, show ¬ k * 2 = i * 2 + 1 by omega, h0.1, h0.2]
end Go.Proofs.Ytmbncafbbpcmbaa

/- Marks over Nears: markNearS, heldNearS of the laws. -/
namespace Go.Proofs.Ytmbncafbbpcmbaa
open Go.RowKit
set_option maxRecDepth 8000
set_option linter.unusedSimpArgs false
set_option linter.unusedVariables false

def markL (q : Int) : NL := fun i => (q + 2 * (i : Int), q + 2 * (i : Int) + 1)
def mixL (k : Nat) (A B : NL) : NL := fun i => if i < k then A i else B i
theorem mixL_put (k : Nat) (A B : NL) : (mixL k A B).put k (A k) = mixL (k + 1) A B := by
  funext i
  unfold NL.put mixL
  by_cases e : i = k
  · subst e; simp
  · by_cases l : i < k
    · simp [e, l, show i < k + 1 by omega]
    · simp [e, l, show ¬ i < k + 1 by omega]

/-- A slice of l Nears that may be written, at or behind block B. -/
def Wr (w : World) (a : Option Addr) (l : Nat) (L : NL) (B : Nat) : Prop := l = 0 ∨ ∃ b, a = some ⟨b, 0, none⟩ ∧ B ≤ b ∧ RowL w b l L
/-- Nothing old has turned, or, of a slice with something in it, its row alone. -/
def Turn (a : Option Addr) (l B : Nat) (w w' : World) : Prop := Below w.heap.size w w' ∨ (l ≠ 0 ∧ ∃ b, a = some ⟨b, 0, none⟩ ∧ B ≤ b ∧ But b w w')
theorem Wr.below {w w' : World} {a : Option Addr} {l : Nat} {L : NL} {B : Nat} (h : Wr w a l L B) (hb : Below w.heap.size w w') : Wr w' a l L B := by
  rcases h with h0 | ⟨b, e, hB, hr⟩
  · exact .inl h0
  · exact .inr ⟨b, e, hB, hr.below hb⟩
theorem Wr.prow {w : World} {a : Option Addr} {l : Nat} {L : NL} {B : Nat} (h : Wr w a l L B) : PRow w a l (fun i => (L i).1) (fun i => (L i).2) := by
  rcases h with h0 | ⟨b, rfl, hB, hr⟩
  · exact ⟨.inl h0⟩
  · exact hr.prow
theorem Turn.low {a : Option Addr} {l B X : Nat} {w w' : World} (h : Turn a l B w w') (hX : X ≤ B) (hs : X ≤ w.heap.size) : Below X w w' := by
  rcases h with h | ⟨_, b, _, hb, hbut⟩
  · exact h.mono hs
  · exact hbut.below (by omega) hs
theorem Turn.after {a : Option Addr} {l B : Nat} {x w w' : World} (h : Turn a l B w w') (k : Below x.heap.size x w) : Turn a l B x w' := by
  rcases h with h | ⟨h0, b, e, hb, hbut⟩
  · exact .inl (bstep k h)
  · exact .inr ⟨h0, b, e, hb, (But.ofBelow k).trans hbut⟩
/-- A row that lies behind another one. -/
theorem Wr.turn {w w' : World} {c : Option Addr} {m : Nat} {M : NL} {C : Nat} {b l B : Nat} (h : Wr w c m M C) (t : Turn (some ⟨b, 0, none⟩) l B w w') (hb : b < C) : Wr w' c m M C := by
  rcases t with t | ⟨h0, b', e, hb', hbut⟩
  · exact h.below t
  · cases e
    rcases h with h1 | ⟨x, ex, hx, hr⟩
    · exact .inl h1
    · exact .inr ⟨x, ex, hx, hr.but hbut (by omega)⟩











end Go.Proofs.Ytmbncafbbpcmbaa
/- sameNears of the laws. -/
namespace Go.Proofs.Ytmbncafbbpcmbaa
open Go.RowKit
set_option maxRecDepth 8000
set_option linter.unusedSimpArgs false
set_option linter.unusedVariables false

theorem eqNr (a b c d : Int) (w : World) : (Op.equalIn 10000 47 (.agg #[.int .i64 a, .int .i64 b]) (.agg #[.int .i64 c, .int .i64 d])).run Try.prog w = .ok (a == c && b == d) w := by
  have u3 := Try.underlying2
  have k3 := Try.isAgg2
  have z3 := Try.sizeOf2
  have hS : Try.prog.underlying 47 = some (.struct (Try.prog.fieldsOf 47)) := by kernel_rfl
  rw [show (10000 : Nat) = 9999 + 1 from rfl, run_equalIn_agg w 9999 47 _ _ hS (by kernel_rfl)]
  simp only [Program.fieldsOf, Try.underlying47]
  go_simp
  by_cases h1 : a = c <;> by_cases h2 : b = d <;> simp [h1, h2]


set_option maxHeartbeats 1600000 in
theorem sameNears_some (b off n cap b' off' cap' : Nat) (f g f' g' : Nat → Int) (w : World) (hn : n ≤ 1048576) (hb : b < w.heap.size) (hb' : b' < w.heap.size)
    (hc : ∀ i, i < n → w.cell? ⟨b, off + i * 2, none⟩ = some (.int .i64 (f i)) ∧ w.cell? ⟨b, off + i * 2 + 1, none⟩ = some (.int .i64 (g i)))
    (hc' : ∀ i, i < n → w.cell? ⟨b', off' + i * 2, none⟩ = some (.int .i64 (f' i)) ∧ w.cell? ⟨b', off' + i * 2 + 1, none⟩ = some (.int .i64 (g' i))) :
    Calls Try.prog 8 #[.slice (some ⟨b, off, none⟩) n cap, .slice (some ⟨b', off', none⟩) n cap'] w fun e w' => e = .returned (.bool (sameB n f g f' g')) ∧ Below w.heap.size w w' := by
  go_enter Try.func8, Try.ntmps8
  go_wp2
  go_loopw [5] (fun i wr => ∃ k : Nat, k ≤ n ∧ i = .int .i64 k ∧ (∀ j, j < k → (decide (f j = f' j) && decide (g j = g' j)) = true) ∧ Below w.heap.size w wr) (fun i _ => n - (intOf i).toNat)
  case atStart => exact ⟨0, Nat.zero_le _, rfl, fun j h => absurd h (by omega), (by repeat' first | with_reducible exact Below.refl _ _ | with_reducible assumption | with_reducible refine below_drewN ?_ _ | with_reducible refine balloc ?_ _ | with_reducible refine Below.drew ?_ | with_reducible refine Below.setCell ?_ (by first | (simp; done) | (simp; omega) | omega) _ | with_reducible refine bstep ?_ (by assumption))⟩
  case round =>
    obtain ⟨k, hk, rfl, hpre, hbel⟩ := hrel
    have HP := hide hpre
    have HC := hide hc
    have HC' := hide hc'
    have HB := hide hbel
    by_cases hlt : k < n
    · have z1 : wr.cell? ⟨b, off + k * 2, none⟩ = some (.int .i64 (f k)) := (hbel.cell (p := ⟨b, off + k * 2, none⟩) hb).trans (hc k hlt).1
      have z2 : wr.cell? ⟨b, off + k * 2 + 1, none⟩ = some (.int .i64 (g k)) := (hbel.cell (p := ⟨b, off + k * 2 + 1, none⟩) hb).trans (hc k hlt).2
      have z3 : wr.cell? ⟨b', off' + k * 2, none⟩ = some (.int .i64 (f' k)) := (hbel.cell (p := ⟨b', off' + k * 2, none⟩) hb').trans (hc' k hlt).1
      have z4 : wr.cell? ⟨b', off' + k * 2 + 1, none⟩ = some (.int .i64 (g' k)) := (hbel.cell (p := ⟨b', off' + k * 2 + 1, none⟩) hb').trans (hc' k hlt).2
      have hlt' : (k : Int) < (n : Int) := by omega
      clear hpre hbel hc hc'
      obtain ⟨v, hv⟩ : ∃ v, (decide (f k = f' k) && decide (g k = g' k)) = v := ⟨_, rfl⟩
      have HE := hide hv
      have hEq : ∀ w, (Op.equalIn 10000 47 (.agg #[.int .i64 (f k), .int .i64 (g k)]) (.agg #[.int .i64 (f' k), .int .i64 (g' k)])).run Try.prog w = .ok v w := fun w => by
        rw [eqNr, ← hv]
        rfl
      clear hv
      go_upto_region 6 with fail
      go_region_held3 (fun w' => w'.cell? ⟨b, off + k * 2, none⟩ = some (.int .i64 (f k)) ∧ w'.cell? ⟨b, off + k * 2 + 1, none⟩ = some (.int .i64 (g k)) ∧ w'.cell? ⟨b', off' + k * 2, none⟩ = some (.int .i64 (f' k)) ∧ w'.cell? ⟨b', off' + k * 2 + 1, none⟩ = some (.int .i64 (g' k))) (refine ⟨?_, ?_, ?_, ?_⟩ <;> first | assumption | (simp [go_sem]; done)) (fail)
      all_goals
        cases v
        · go_wp2_with fail
          go_ret
          refine ⟨by rw [show sameB n f g f' g' = false from allN_no hlt HE.out]; rfl, ?_⟩
          have hbel := HB.out
          exact (by repeat' first | with_reducible exact Below.refl _ _ | with_reducible assumption | with_reducible refine below_drewN ?_ _ | with_reducible refine balloc ?_ _ | with_reducible refine Below.drew ?_ | with_reducible refine Below.setCell ?_ (by first | (simp; done) | (simp; omega) | omega) _ | with_reducible refine bstep ?_ (by assumption))
        · go_wp2_with fail
          go_roundw
          case rel =>
            have hbel := HB.out
            exact ⟨k + 1, by omega, by go_num, fun j hj => (by rcases Nat.lt_succ_iff_lt_or_eq.1 hj with h | h; exact HP.out j h; rw [h]; exact HE.out), (by repeat' first | with_reducible exact Below.refl _ _ | with_reducible assumption | with_reducible refine below_drewN ?_ _ | with_reducible refine balloc ?_ _ | with_reducible refine Below.drew ?_ | with_reducible refine Below.setCell ?_ (by first | (simp; done) | (simp; omega) | omega) _ | with_reducible refine bstep ?_ (by assumption))⟩
          case measure => simp [intOf]; omega
    · clear hpre hbel hc hc'
      go_wp2
      go_ret
      exact ⟨by rw [show sameB n f g f' g' = true from allN_yes fun j hj => HP.out j (by omega)]; rfl, HB.out⟩

set_option maxHeartbeats 400000 in
theorem sameNears_len (a a' : Option Addr) (n cap n' cap' : Nat) (w : World) (h : ¬ n = n') :
    Calls Try.prog 8 #[.slice a n cap, .slice a' n' cap'] w fun e w' => e = .returned (.bool false) ∧ Below w.heap.size w w' := by
  have hne : ((n : Int) != (n' : Int)) = true := by rw [bne_iff_ne]; omega
  go_enter Try.func8, Try.ntmps8
  go_wp2
  go_ret
  exact ⟨rfl, (by repeat' first | with_reducible exact Below.refl _ _ | with_reducible assumption | with_reducible refine below_drewN ?_ _ | with_reducible refine balloc ?_ _ | with_reducible refine Below.drew ?_ | with_reducible refine Below.setCell ?_ (by first | (simp; done) | (simp; omega) | omega) _ | with_reducible refine bstep ?_ (by assumption))⟩

set_option maxHeartbeats 400000 in
theorem sameNears_none (a a' : Option Addr) (n cap cap' : Nat) (w : World) (hn : n < 1) :
    Calls Try.prog 8 #[.slice a n cap, .slice a' n cap'] w fun e w' => e = .returned (.bool true) ∧ Below w.heap.size w w' := by
  go_enter Try.func8, Try.ntmps8
  go_wp2
  refine wp_loop_rounds 1 ?_
  rw [rounds_succ]
  go_wp2
  go_ret
  exact ⟨rfl, (by repeat' first | with_reducible exact Below.refl _ _ | with_reducible assumption | with_reducible refine below_drewN ?_ _ | with_reducible refine balloc ?_ _ | with_reducible refine Below.drew ?_ | with_reducible refine Below.setCell ?_ (by first | (simp; done) | (simp; omega) | omega) _ | with_reducible refine bstep ?_ (by assumption))⟩

theorem sameNears_any (a a' : Option Addr) (n cap n' cap' : Nat) (f g f' g' : Nat → Int) (w : World) (h : PRow w a n f g) (h' : PRow w a' n' f' g') (hn : n ≤ 1048576) :
    Calls Try.prog 8 #[.slice a n cap, .slice a' n' cap'] w fun e w' => e = .returned (.bool (decide (n = n') && sameB n f g f' g')) ∧ Below w.heap.size w w' := by
  by_cases e : n = n'
  · subst e
    rw [decide_eq_true rfl, Bool.true_and]
    by_cases h0 : n = 0
    · rw [show sameB n f g f' g' = true from allN_yes fun i hi => absurd hi (by omega)]
      exact sameNears_none a a' n cap cap' w (by omega)
    · rcases h.lies with q | ⟨b, off, rfl, lt, hc⟩
      · omega
      · rcases h'.lies with q | ⟨b', off', rfl, lt', hc'⟩
        · omega
        · exact sameNears_some b off n cap b' off' cap' f g f' g' w hn lt lt' hc hc'
  · rw [decide_eq_false e, Bool.false_and]
    exact sameNears_len a a' n cap n' cap' w e
theorem sameNears_self (a a' : Option Addr) (n cap cap' : Nat) (A : NL) (w : World) (h : PRow w a n (fun i => (A i).1) (fun i => (A i).2)) (h' : PRow w a' n (fun i => (A i).1) (fun i => (A i).2)) (hn : n ≤ 1048576) :
    Calls Try.prog 8 #[.slice a n cap, .slice a' n cap'] w fun e w' => e = .returned (.bool true) ∧ Below w.heap.size w w' := by
  have := sameNears_any a a' n cap n cap' _ _ _ _ w h h' hn
  rwa [decide_eq_true rfl, Bool.true_and, show sameB n (fun i => (A i).1) (fun i => (A i).2) (fun i => (A i).1) (fun i => (A i).2) = true from allN_yes fun i hi => by simp] at this
end Go.Proofs.Ytmbncafbbpcmbaa

/- The program's heap of the greatest: its methods. -/
namespace Go.Proofs.Ytmbncafbbpcmbaa
open Go.RowKit
set_option maxRecDepth 8000
set_option linter.unusedSimpArgs false
set_option linter.unusedVariables false

theorem meth_Len (c : Nat) (v : Value) (w : World) (h : w.cell? ⟨c, 0, none⟩ = some v) : (method 219 89 (.pointer (some ⟨c, 0, none⟩)) "Len").run Try.prog w = .ok (87, v) w := by
  have e : (method 219 89 (.pointer (some ⟨c, 0, none⟩)) "Len").run Try.prog w = (Sem.load .plain ⟨c, 0, none⟩ fun v => .pure (87, v)).run Try.prog w := by kernel_rfl
  rw [e]
  simp [Sem.run, h]
theorem meth_Less (c : Nat) (v : Value) (w : World) (h : w.cell? ⟨c, 0, none⟩ = some v) : (method 219 89 (.pointer (some ⟨c, 0, none⟩)) "Less").run Try.prog w = .ok (88, v) w := by
  have e : (method 219 89 (.pointer (some ⟨c, 0, none⟩)) "Less").run Try.prog w = (Sem.load .plain ⟨c, 0, none⟩ fun v => .pure (88, v)).run Try.prog w := by kernel_rfl
  rw [e]
  simp [Sem.run, h]
theorem meth_Swap (c : Nat) (v : Value) (w : World) (h : w.cell? ⟨c, 0, none⟩ = some v) : (method 219 89 (.pointer (some ⟨c, 0, none⟩)) "Swap").run Try.prog w = .ok (89, v) w := by
  have e : (method 219 89 (.pointer (some ⟨c, 0, none⟩)) "Swap").run Try.prog w = (Sem.load .plain ⟨c, 0, none⟩ fun v => .pure (89, v)).run Try.prog w := by kernel_rfl
  rw [e]
  simp [Sem.run, h]
theorem meth_Push (c : Nat) (w : World) : (method 219 89 (.pointer (some ⟨c, 0, none⟩)) "Push").run Try.prog w = .ok (91, .pointer (some ⟨c, 0, none⟩)) w := by kernel_rfl
theorem meth_Pop (c : Nat) (w : World) : (method 219 89 (.pointer (some ⟨c, 0, none⟩)) "Pop").run Try.prog w = .ok (90, .pointer (some ⟨c, 0, none⟩)) w := by kernel_rfl

set_option maxHeartbeats 400000 in
theorem gLen_any (a : Option Addr) (n cap : Nat) (w : World) :
    Calls Try.prog 87 #[.slice a n cap] w fun e w' => e = .returned (.int .i64 n) ∧ w' = w := by
  go_enter Try.func87, Try.ntmps87
  go_wp2
  go_ret
  exact ⟨rfl, rfl⟩

theorem OwnL.drew {w : World} {b m : Nat} {L : NL} (h : OwnL w b m L) : OwnL w.drew b m L := World.rowIs.of_block h rfl

/-- Four cells of one block that are read. -/
structure Qd (w : World) (b i j : Nat) (x y : Int × Int) : Prop where
  lt : b < w.heap.size
  c0 : w.cell? ⟨b, i * 2, none⟩ = some (.int .i64 x.1)
  c1 : w.cell? ⟨b, i * 2 + 1, none⟩ = some (.int .i64 x.2)
  d0 : w.cell? ⟨b, j * 2, none⟩ = some (.int .i64 y.1)
  d1 : w.cell? ⟨b, j * 2 + 1, none⟩ = some (.int .i64 y.2)
theorem Qd.below {w w' : World} {b i j : Nat} {x y : Int × Int} (h : Qd w b i j x y) (B : Below w.heap.size w w') : Qd w' b i j x y :=
  ⟨Nat.lt_of_lt_of_le h.lt B.size, (B.cell (p := ⟨b, i * 2, none⟩) h.lt).trans h.c0, (B.cell (p := ⟨b, i * 2 + 1, none⟩) h.lt).trans h.c1, (B.cell (p := ⟨b, j * 2, none⟩) h.lt).trans h.d0, (B.cell (p := ⟨b, j * 2 + 1, none⟩) h.lt).trans h.d1⟩
theorem Qd.drew {w : World} {b i j : Nat} {x y : Int × Int} (h : Qd w b i j x y) : Qd w.drew b i j x y := ⟨h.lt, h.c0, h.c1, h.d0, h.d1⟩
theorem OwnL.qd {w : World} {b m : Nat} {L : NL} (h : OwnL w b m L) {i j : Nat} (hi : i < m) (hj : j < m) : Qd w b i j (L i) (L j) :=
  ⟨h.lt, OwnN.c0 h hi, OwnN.c1 h hi, OwnN.c0 h hj, OwnN.c1 h hj⟩

set_option maxHeartbeats 800000 in
theorem gLess_any (b m l cap : Nat) (L : NL) (i j : Nat) (w : World) (h : OwnL w b m L) (hl : l ≤ m) (hi : i < l) (hj : j < l) :
    Calls Try.prog 88 #[.slice (some ⟨b, 0, none⟩) l cap, .int .i64 i, .int .i64 j] w fun e w' => e = .returned (.bool (lt2 (L j) (L i))) ∧ Below w.heap.size w w' := by
  have Q := hide (h.qd (i := j) (j := i) (by omega) (by omega))
  have hi' : (i : Int) < (l : Int) := by omega
  have hj' : (j : Int) < (l : Int) := by omega
  have LE := hide (less_any (L j).1 (L j).2 (L i).1 (L i).2)
  unfold lt2
  clear h
  go_enter Try.func88, Try.ntmps88
  go_upto_region 1 with fail
  refine wp_region_held_drew (S := fun wx => Qd wx b j i (L j) (L i)) (by kernel_rfl) (Q.out.drew) (fun hH0 => ?_)
  refine wpAnyH_take (i := 0) (oi := { dst := some 7, op := _, type := _, pos := _, after := _, guard := _ }) (v := ?_) rfl (by kernel_rfl) (by kernel_rfl) (by kernel_rfl) (fun _ _ _ h => h) (Or.inl ⟨by rfl, ?_⟩) (hH0) ?_
  rotate_left
  · (intro wx hSw; obtain ⟨l0, q0, q1, q2, q3⟩ := hSw; go_simp <;> with_reducible rfl)
  simp only [Act.put, List.setIfInBounds_toArray, List.set_cons_zero, List.set_cons_succ]
  refine wpAnyH_take (i := 1) (oi := { dst := some 8, op := _, type := _, pos := _, after := _, guard := _ }) (v := ?_) rfl (by kernel_rfl) (by kernel_rfl) (by kernel_rfl) (fun _ _ _ h => h) (Or.inl ⟨by rfl, ?_⟩) (hH0) ?_
  rotate_left
  · (intro wx hSw; obtain ⟨l0, q0, q1, q2, q3⟩ := hSw; go_simp <;> with_reducible rfl)
  simp only [Act.put, List.setIfInBounds_toArray, List.set_cons_zero, List.set_cons_succ]
  refine wpAnyH_take (i := 2) (oi := { dst := some 9, op := _, type := _, pos := _, after := _, guard := _ }) (v := ?_) rfl (by kernel_rfl) (by kernel_rfl) (by kernel_rfl) (fun _ _ _ h => h) (Or.inl ⟨by rfl, ?_⟩) (hH0) ?_
  rotate_left
  · (intro wx hSw; obtain ⟨l0, q0, q1, q2, q3⟩ := hSw; go_simp <;> with_reducible rfl)
  simp only [Act.put, List.setIfInBounds_toArray, List.set_cons_zero, List.set_cons_succ]
  refine wpAnyH_take (i := 3) (oi := { dst := some 10, op := _, type := _, pos := _, after := _, guard := _ }) (v := ?_) rfl (by kernel_rfl) (by kernel_rfl) (by kernel_rfl) (fun _ _ _ h => h) (Or.inl ⟨by rfl, ?_⟩) (hH0) ?_
  rotate_left
  · (intro wx hSw; obtain ⟨l0, q0, q1, q2, q3⟩ := hSw; go_simp <;> with_reducible rfl)
  simp only [Act.put, List.setIfInBounds_toArray, List.set_cons_zero, List.set_cons_succ]
  refine wpAnyH_take (i := 4) (oi := { dst := some 11, op := _, type := _, pos := _, after := _, guard := _ }) (v := ?_) rfl (by kernel_rfl) (by kernel_rfl) (by kernel_rfl) (fun _ _ _ h => h) (Or.inl ⟨by rfl, ?_⟩) (hH0) ?_
  rotate_left
  · (intro wx hSw; obtain ⟨l0, q0, q1, q2, q3⟩ := hSw; go_simp <;> with_reducible rfl)
  simp only [Act.put, List.setIfInBounds_toArray, List.set_cons_zero, List.set_cons_succ]
  refine wpAnyH_take (i := 5) (oi := { dst := some 12, op := _, type := _, pos := _, after := _, guard := _ }) (v := ?_) rfl (by kernel_rfl) (by kernel_rfl) (by kernel_rfl) (fun _ _ _ h => h) (Or.inl ⟨by rfl, ?_⟩) (hH0) ?_
  rotate_left
  · (intro wx hSw; obtain ⟨l0, q0, q1, q2, q3⟩ := hSw; go_simp <;> with_reducible rfl)
  simp only [Act.put, List.setIfInBounds_toArray, List.set_cons_zero, List.set_cons_succ]
  refine wpAnyH_take (i := 6) (oi := { dst := some 13, op := _, type := _, pos := _, after := _, guard := _ }) (v := ?_) rfl (by kernel_rfl) (by kernel_rfl) (by kernel_rfl) (fun _ _ _ h => h) (Or.inl ⟨by rfl, ?_⟩) (hH0) ?_
  rotate_left
  · (intro wx hSw; obtain ⟨l0, q0, q1, q2, q3⟩ := hSw; go_simp <;> with_reducible rfl)
  simp only [Act.put, List.setIfInBounds_toArray, List.set_cons_zero, List.set_cons_succ]
  refine wpAnyH_take (i := 7) (oi := { dst := some 14, op := _, type := _, pos := _, after := _, guard := _ }) (v := ?_) rfl (by kernel_rfl) (by kernel_rfl) (by kernel_rfl) (fun _ _ _ h => h) (Or.inl ⟨by rfl, ?_⟩) (hH0) ?_
  rotate_left
  · (intro wx hSw; obtain ⟨l0, q0, q1, q2, q3⟩ := hSw; go_simp <;> with_reducible rfl)
  simp only [Act.put, List.setIfInBounds_toArray, List.set_cons_zero, List.set_cons_succ]
  refine wpAnyH_ready (rs := [8]) (by kernel_rfl) (by simp) ?_
  refine AllReadyH.cons (o := { dst := some 15, op := _, type := _, pos := _, after := _, guard := _ }) rfl (fun K hK => ?_) AllReadyH.nil
  go_simp
  refine (LE.out _).mono ?_
  rintro e w_c15_1 ⟨rfl, hb_c15_1⟩
  dsimp only
  refine hK.out _ _ (Qd.below hH0 hb_c15_1) (fun hH1 => ?_)
  clear hK K
  refine wpAnyH_take (i := 9) (oi := { dst := some 6, op := _, type := _, pos := _, after := _, guard := _ }) (v := ?_) rfl (by kernel_rfl) (by kernel_rfl) (by kernel_rfl) (fun _ _ _ h => h) (Or.inl ⟨by rfl, ?_⟩) (hH1) ?_
  rotate_left
  · (intro wx hSw; obtain ⟨l0, q0, q1, q2, q3⟩ := hSw; go_simp <;> with_reducible rfl)
  simp only [Act.put, List.setIfInBounds_toArray, List.set_cons_zero, List.set_cons_succ]
  refine wpAnyH_done (by kernel_rfl) ?_ _
  -- behind it: go_wp2_with fail, then go_meet (a cut) or go_ret; the condition at the end: hH1
  go_wp2_with fail
  go_ret
  exact ⟨rfl, (by repeat' first | with_reducible exact Below.refl _ _ | with_reducible assumption | with_reducible refine below_drewN ?_ _ | with_reducible refine balloc ?_ _ | with_reducible refine Below.drew ?_ | with_reducible refine Below.setCell ?_ (by first | (simp; done) | (simp; omega) | omega) _ | with_reducible refine bstep ?_ (by assumption))⟩

set_option maxHeartbeats 1600000 in
theorem gSwap_any (b m l cap : Nat) (L : NL) (i j : Nat) (w : World) (h : OwnL w b m L) (hl : l ≤ m) (hi : i < l) (hj : j < l) :
    Calls Try.prog 89 #[.slice (some ⟨b, 0, none⟩) l cap, .int .i64 i, .int .i64 j] w fun e w' => e = .returned (.tuple #[]) ∧ But b w w' ∧ OwnL w' b m (swp L i j) := by
  have q := h.qd (i := i) (j := j) (by omega) (by omega)
  obtain ⟨l0, c0, c1, d0, d1⟩ := q
  have hi' : (i : Int) < (l : Int) := by omega
  have hj' : (j : Int) < (l : Int) := by omega
  have f0 := World.rowIs.frozen h (i * 2)
  have f1 := World.rowIs.frozen h (i * 2 + 1)
  have f2 := World.rowIs.frozen h (j * 2)
  have f3 := World.rowIs.frozen h (j * 2 + 1)
  have H := hide h
  clear h
  by_cases e : i = j
  · subst e
    go_enter Try.func89, Try.ntmps89
    go_wp2_with fail
    go_big_region
    go_wp2_with fail
    go_end0
    exact ⟨rfl, (((((But.refl b w).setCell _ _).setCell _ _).setCell _ _).setCell _ _).drew, (swp_put L i i ▸ ((H.out.set i (L i).1 (L i).2).set i (L i).1 (L i).2)).drew⟩
  · have e1 : ¬ j * 2 = i * 2 := by omega
    have e2 : ¬ j * 2 = i * 2 + 1 := by omega
    have e3 : ¬ j * 2 + 1 = i * 2 := by omega
    have e4 : ¬ j * 2 + 1 = i * 2 + 1 := by omega
    go_enter Try.func89, Try.ntmps89
    go_wp2_with fail
    go_big_region
    go_wp2_with fail
    go_end0
    exact ⟨rfl, (((((But.refl b w).setCell _ _).setCell _ _).setCell _ _).setCell _ _).drew, (swp_put L i j ▸ ((H.out.set i (L j).1 (L j).2).set j (L i).1 (L i).2)).drew⟩
end Go.Proofs.Ytmbncafbbpcmbaa

/- The library's heap over the program's: up, down, Push, Pop. -/
namespace Go.Proofs.Ytmbncafbbpcmbaa
open Go.RowKit
set_option maxRecDepth 8000
set_option linter.unusedSimpArgs false
set_option linter.unusedVariables false

set_option maxHeartbeats 1600000 in
theorem hUp_any (c b m l cap : Nat) (L : NL) (j : Nat) (w : World) (hc : c < w.heap.size) (hcb : c ≠ b) (hv : w.cell? ⟨c, 0, none⟩ = some (.slice (some ⟨b, 0, none⟩) l cap)) (h : OwnL w b m L) (hl : l ≤ m) (hj : j < l) (hm : m ≤ 1048576) :
    Calls Try.prog 68 #[.iface 89 (.pointer (some ⟨c, 0, none⟩)), .int .i64 j] w fun e w' => e = .returned (.tuple #[]) ∧ But b w w' ∧ OwnL w' b m (upL j L) := by
  have HV := hide hv
  have H := hide h
  clear hv h
  go_enter Try.func68, Try.ntmps68
  go_wp2_with fail
  go_loopw [1] (fun i wr => ∃ (k : Nat) (M : NL), i = .int .i64 k ∧ k < l ∧ But b w wr ∧ OwnL wr b m M ∧ upL k M = upL j L) (fun i _ => (intOf i).toNat)
  case atStart => exact ⟨j, L, rfl, hj, But.refl b w, H.out, rfl⟩
  case round =>
    obtain ⟨k, M, rfl, hk, hb, hM, hup⟩ := hrel
    have HB := hide hb
    have HM := hide hM
    have HU := hide hup
    have hv : wr.cell? ⟨c, 0, none⟩ = some (.slice (some ⟨b, 0, none⟩) l cap) := (hb.cellN hc hcb).trans HV.out
    have hcr : c < wr.heap.size := Nat.lt_of_lt_of_le hc hb.size
    clear hb hM hup
    by_cases h0 : k = 0
    · subst h0
      have hq : Int.tdiv (-1) 2 = 0 := by decide
      go_wp2_with fail
      go_end0
      exact ⟨rfl, HB.out, by rw [← HU.out, upL_zero]; exact HM.out⟩
    · obtain ⟨p, hp⟩ : ∃ p, (k - 1) / 2 = p := ⟨_, rfl⟩
      have hq : Int.tdiv ((k : Int) - 1) 2 = (p : Int) := by rw [Int.tdiv_eq_ediv_of_nonneg (by omega)]; omega
      have hpk : ((p : Int) == (k : Int)) = false := by simp; omega
      have ML := meth_Less c _ wr hv
      have LE := hide (gLess_any b m l cap M k p wr HM.out hl hk (by omega))
      obtain ⟨v, hv2⟩ : ∃ v, lt2 (M p) (M k) = v := ⟨_, rfl⟩
      rw [hv2] at LE
      have HV2 := hide hv2
      clear hv2
      go_wp2_with fail
      refine LE.out.mono ?_
      rintro e w1 ⟨rfl, hb1⟩
      have hv1 : w1.cell? ⟨c, 0, none⟩ = some (.slice (some ⟨b, 0, none⟩) l cap) := (hb1.cell (p := ⟨c, 0, none⟩) hcr).trans hv
      have HM1 := hide (HM.out.below hb1)
      have HB1 := hide (HB.out.trans (But.ofBelow hb1))
      have hc1 : c < w1.heap.size := Nat.lt_of_lt_of_le hcr hb1.size
      clear hv ML LE HB HM hb1
      cases v
      · go_wp2_with fail
        go_end0
        exact ⟨rfl, HB1.out, by rw [← HU.out, upL_no (by rw [hp]; exact HV2.out)]; exact HM1.out⟩
      · have MS := meth_Swap c _ w1 hv1
        have SW := hide (gSwap_any b m l cap M p k w1 HM1.out hl (by omega) hk)
        go_wp2_with fail
        refine SW.out.mono ?_
        rintro e w2 ⟨rfl, hb2, hM2⟩
        have HM2 := hide hM2
        have HB2 := hide (HB1.out.trans hb2)
        clear hM2 hb2 SW MS hv1
        go_wp2_with fail
        go_roundw
        case rel => exact ⟨p, swp M p k, rfl, by omega, HB2.out, HM2.out, by rw [← HU.out, upL_yes h0 (by rw [hp]; exact HV2.out), hp]⟩
        case measure => simp [intOf]; omega

set_option maxHeartbeats 3200000 in
theorem hDown_any (c b m l cap : Nat) (L : NL) (n : Nat) (w : World) (hc : c < w.heap.size) (hcb : c ≠ b) (hv : w.cell? ⟨c, 0, none⟩ = some (.slice (some ⟨b, 0, none⟩) l cap)) (h : OwnL w b m L) (hl : l ≤ m) (hn : n ≤ l) (hm : m ≤ 1048576) :
    Calls Try.prog 69 #[.iface 89 (.pointer (some ⟨c, 0, none⟩)), .int .i64 0, .int .i64 n] w fun e w' => ∃ v, e = .returned (.bool v) ∧ But b w w' ∧ OwnL w' b m (dnL n 0 L) := by
  have HV := hide hv
  have H := hide h
  clear hv h
  go_enter Try.func69, Try.ntmps69
  go_wp2_with fail
  go_loopw [7] (fun i wr => ∃ (k : Nat) (M : NL), i = .int .i64 k ∧ (k < n ∨ k = 0) ∧ But b w wr ∧ OwnL wr b m M ∧ dnL n k M = dnL n 0 L) (fun i _ => n - (intOf i).toNat)
  case atStart => exact ⟨0, L, rfl, .inr rfl, But.refl b w, H.out, rfl⟩
  case round =>
    obtain ⟨k, M, rfl, hk, hb, hM, hup⟩ := hrel
    have HB := hide hb
    have HM := hide hM
    have HU := hide hup
    have hv : wr.cell? ⟨c, 0, none⟩ = some (.slice (some ⟨b, 0, none⟩) l cap) := (hb.cellN hc hcb).trans HV.out
    have hcr : c < wr.heap.size := Nat.lt_of_lt_of_le hc hb.size
    clear hb hM hup
    by_cases h1 : 2 * k + 1 < n
    · have h1' : 2 * (k : Int) + 1 < (n : Int) := by omega
      by_cases h2 : 2 * k + 2 < n
      · have h2' : 2 * (k : Int) + 1 + 1 < (n : Int) := by omega
        have ML := meth_Less c _ wr hv
        have LE := hide (gLess_any b m l cap M (2 * k + 2) (2 * k + 1) wr HM.out hl (by omega) (by omega))
        obtain ⟨v, hv2⟩ : ∃ v, lt2 (M (2 * k + 1)) (M (2 * k + 2)) = v := ⟨_, rfl⟩
        rw [hv2, show ((2 * k + 1 : Nat) : Int) = 2 * (k : Int) + 1 by omega, show ((2 * k + 2 : Nat) : Int) = 2 * (k : Int) + 1 + 1 by omega] at LE
        have HV2 := hide hv2
        clear hv2
        go_wp2_with fail
        refine LE.out.mono ?_
        rintro e w1 ⟨rfl, hb1⟩
        have hv1 : w1.cell? ⟨c, 0, none⟩ = some (.slice (some ⟨b, 0, none⟩) l cap) := (hb1.cell (p := ⟨c, 0, none⟩) hcr).trans hv
        have HM1 := hide (HM.out.below hb1)
        have HB1 := hide (HB.out.trans (But.ofBelow hb1))
        have hc1 : c < w1.heap.size := Nat.lt_of_lt_of_le hcr hb1.size
        clear hv ML LE HB HM hb1
        cases v
        · have hkid : kid n k M = 2 * k + 1 := by unfold kid; rw [if_neg (fun q => by rw [HV2.out] at q; exact Bool.noConfusion q.2)]
          have hQ : ((2 * k + 1 : Nat) : Int) = 2 * (k : Int) + 1 := by omega
          have ML2 := meth_Less c _ w1 hv1
          have LE2 := hide (gLess_any b m l cap M (2 * k + 1) k w1 HM1.out hl (by omega) (by omega))
          obtain ⟨u, hu⟩ : ∃ u, lt2 (M k) (M (2 * k + 1)) = u := ⟨_, rfl⟩
          rw [hu, hQ] at LE2
          have HU2 := hide hu
          clear hu
          go_wp2_with fail
          refine LE2.out.mono ?_
          rintro e w2 ⟨rfl, hb2⟩
          have hv3 : w2.cell? ⟨c, 0, none⟩ = some (.slice (some ⟨b, 0, none⟩) l cap) := (hb2.cell (p := ⟨c, 0, none⟩) hc1).trans hv1
          have HM2 := hide (HM1.out.below hb2)
          have HB2 := hide (HB1.out.trans (But.ofBelow hb2))
          clear hv1 ML2 LE2 hb2
          cases u
          · go_wp2_with fail
            go_ret
            exact ⟨_, rfl, HB2.out, by rw [← HU.out, dnL_no (by rw [hkid]; exact HU2.out)]; exact HM2.out⟩
          · have MS := meth_Swap c _ w2 hv3
            have SW := hide (gSwap_any b m l cap M k (2 * k + 1) w2 HM2.out hl (by omega) (by omega))
            rw [hQ] at SW
            go_wp2_with fail
            refine SW.out.mono ?_
            rintro e w3 ⟨rfl, hb3, hM3⟩
            have HM3 := hide hM3
            have HB3 := hide (HB2.out.trans hb3)
            clear hM3 hb3 SW MS hv3
            go_wp2_with fail
            go_roundw
            case rel => exact ⟨2 * k + 1, swp M k (2 * k + 1), by rw [hQ], .inl (by omega), HB3.out, HM3.out, by rw [← HU.out, dnL_yes h1 (by rw [hkid]; exact HU2.out), hkid]⟩
            case measure => simp [intOf]; omega
        · have hkid : kid n k M = 2 * k + 2 := by unfold kid; rw [if_pos ⟨h2, HV2.out⟩]
          have hQ : ((2 * k + 2 : Nat) : Int) = 2 * (k : Int) + 1 + 1 := by omega
          have ML2 := meth_Less c _ w1 hv1
          have LE2 := hide (gLess_any b m l cap M (2 * k + 2) k w1 HM1.out hl (by omega) (by omega))
          obtain ⟨u, hu⟩ : ∃ u, lt2 (M k) (M (2 * k + 2)) = u := ⟨_, rfl⟩
          rw [hu, hQ] at LE2
          have HU2 := hide hu
          clear hu
          go_wp2_with fail
          refine LE2.out.mono ?_
          rintro e w2 ⟨rfl, hb2⟩
          have hv3 : w2.cell? ⟨c, 0, none⟩ = some (.slice (some ⟨b, 0, none⟩) l cap) := (hb2.cell (p := ⟨c, 0, none⟩) hc1).trans hv1
          have HM2 := hide (HM1.out.below hb2)
          have HB2 := hide (HB1.out.trans (But.ofBelow hb2))
          clear hv1 ML2 LE2 hb2
          cases u
          · go_wp2_with fail
            go_ret
            exact ⟨_, rfl, HB2.out, by rw [← HU.out, dnL_no (by rw [hkid]; exact HU2.out)]; exact HM2.out⟩
          · have MS := meth_Swap c _ w2 hv3
            have SW := hide (gSwap_any b m l cap M k (2 * k + 2) w2 HM2.out hl (by omega) (by omega))
            rw [hQ] at SW
            go_wp2_with fail
            refine SW.out.mono ?_
            rintro e w3 ⟨rfl, hb3, hM3⟩
            have HM3 := hide hM3
            have HB3 := hide (HB2.out.trans hb3)
            clear hM3 hb3 SW MS hv3
            go_wp2_with fail
            go_roundw
            case rel => exact ⟨2 * k + 2, swp M k (2 * k + 2), by rw [hQ], .inl (by omega), HB3.out, HM3.out, by rw [← HU.out, dnL_yes h1 (by rw [hkid]; exact HU2.out), hkid]⟩
            case measure => simp [intOf]; omega
      · have h2' : (n : Int) ≤ 2 * (k : Int) + 1 + 1 := by omega
        have hkid : kid n k M = 2 * k + 1 := by unfold kid; rw [if_neg (fun q => h2 q.1)]
        have hQ : ((2 * k + 1 : Nat) : Int) = 2 * (k : Int) + 1 := by omega
        have ML2 := meth_Less c _ wr hv
        have LE2 := hide (gLess_any b m l cap M (2 * k + 1) k wr HM.out hl (by omega) (by omega))
        obtain ⟨u, hu⟩ : ∃ u, lt2 (M k) (M (2 * k + 1)) = u := ⟨_, rfl⟩
        rw [hu, hQ] at LE2
        have HU2 := hide hu
        clear hu
        go_wp2_with fail
        refine LE2.out.mono ?_
        rintro e w2 ⟨rfl, hb2⟩
        have hv3 : w2.cell? ⟨c, 0, none⟩ = some (.slice (some ⟨b, 0, none⟩) l cap) := (hb2.cell (p := ⟨c, 0, none⟩) hcr).trans hv
        have HM2 := hide (HM.out.below hb2)
        have HB2 := hide (HB.out.trans (But.ofBelow hb2))
        clear hv ML2 LE2 hb2
        cases u
        · go_wp2_with fail
          go_ret
          exact ⟨_, rfl, HB2.out, by rw [← HU.out, dnL_no (by rw [hkid]; exact HU2.out)]; exact HM2.out⟩
        · have MS := meth_Swap c _ w2 hv3
          have SW := hide (gSwap_any b m l cap M k (2 * k + 1) w2 HM2.out hl (by omega) (by omega))
          rw [hQ] at SW
          go_wp2_with fail
          refine SW.out.mono ?_
          rintro e w3 ⟨rfl, hb3, hM3⟩
          have HM3 := hide hM3
          have HB3 := hide (HB2.out.trans hb3)
          clear hM3 hb3 SW MS hv3
          go_wp2_with fail
          go_roundw
          case rel => exact ⟨2 * k + 1, swp M k (2 * k + 1), by rw [hQ], .inl (by omega), HB3.out, HM3.out, by rw [← HU.out, dnL_yes h1 (by rw [hkid]; exact HU2.out), hkid]⟩
          case measure => simp [intOf]; omega
    · have h1' : (n : Int) ≤ 2 * (k : Int) + 1 := by omega
      go_wp2_with fail
      go_ret
      exact ⟨_, rfl, HB.out, by rw [← HU.out, dnL_out h1]; exact HM.out⟩
end Go.Proofs.Ytmbncafbbpcmbaa

/- The program's heap of the greatest: Push and Pop, and the library's. -/
namespace Go.Proofs.Ytmbncafbbpcmbaa
open Go.RowKit
set_option maxRecDepth 8000
set_option linter.unusedSimpArgs false
set_option linter.unusedVariables false

/-- A variable c of the call's own that leads to the row b of the list L, of which it has l. -/
structure GV (w : World) (c b m l cap : Nat) (L : NL) : Prop where
  lt : c < w.heap.size
  ne : c ≠ b
  cell : w.cell? ⟨c, 0, none⟩ = some (.slice (some ⟨b, 0, none⟩) l cap)
  froz : w.frozen? ⟨c, 0, none⟩ = false
  own : OwnL w b m L
  le : l ≤ m
  small : m ≤ 1048576
theorem GV.below {w w' : World} {c b m l cap : Nat} {L : NL} (h : GV w c b m l cap L) (B : Below w.heap.size w w') : GV w' c b m l cap L :=
  ⟨Nat.lt_of_lt_of_le h.lt B.size, h.ne, (B.cell (p := ⟨c, 0, none⟩) h.lt).trans h.cell, (B.frozen (p := ⟨c, 0, none⟩) h.lt).trans h.froz, h.own.below B, h.le, h.small⟩
theorem GV.but {w w' : World} {c b m l cap : Nat} {L M : NL} (h : GV w c b m l cap L) (B : But b w w') (o : OwnL w' b m M) : GV w' c b m l cap M :=
  ⟨Nat.lt_of_lt_of_le h.lt B.size, h.ne, (B.cellN h.lt h.ne).trans h.cell, (B.froz h.lt h.ne).trans h.froz, o, h.le, h.small⟩

theorem Try.infoNr : ∃ i, Try.prog.info? 47 = some i ∧ i.size = 2 := by
  obtain ⟨i, hi, hz⟩ := Option.map_eq_some_iff.1 Try.infoNear
  simp only [Prod.mk.injEq] at hz
  exact ⟨i, hi, hz.2.1⟩

set_option maxHeartbeats 800000 in
theorem gPush_any (B c b m l cap : Nat) (L : NL) (i d : Int) (w : World) (h : GV w c b m l cap L) (hr : l < cap) (hcm : cap ≤ m) (hBc : B ≤ c) (hBb : B ≤ b) :
    Calls Try.prog 91 #[.pointer (some ⟨c, 0, none⟩), .iface 47 (.agg #[.int .i64 i, .int .i64 d])] w fun e w' => e = .returned (.tuple #[]) ∧ Below B w w' ∧ GV w' c b m (l + 1) cap (L.put l (i, d)) := by
  obtain ⟨h1, h2, h3, h4, h5, h6, h7⟩ := h
  obtain ⟨inf, hi1, hi2⟩ := Try.infoNr
  have HI1 := hide hi1
  have HI2 := hide hi2
  have H5 := hide h5
  clear hi1 hi2
  have hta : ∀ W : World, (Instr.typeAssert (.iface 47 (.agg #[.int .i64 i, .int .i64 d])) 20 47 false).run Try.prog W = .ok (.agg #[.int .i64 i, .int .i64 d]) W := fun _ => by kernel_rfl
  have hr' : l + 1 ≤ cap := hr
  have hlt := h5.lt
  have b1 := OwnN.c0 h5 (show l < m by omega)
  have b2 := OwnN.c1 h5 (show l < m by omega)
  have b3 := World.rowIs.frozen h5 (l * 2)
  have b4 := World.rowIs.frozen h5 (l * 2 + 1)
  have a1 : (w.alloc (Obj.cells #[Value.int IntKind.i64 i, Value.int IntKind.i64 d] 47)).cell? ⟨b, l * 2, none⟩ = _ := (World.cell?_alloc_past _ _ _ hlt).trans b1
  have a3 : (w.alloc (Obj.cells #[Value.int IntKind.i64 i, Value.int IntKind.i64 d] 47)).frozen? ⟨b, l * 2, none⟩ = _ := (World.frozen?_alloc_past _ _ _ hlt).trans b3
  clear h5
  go_enter Try.func91, Try.ntmps91
  go_wp2_with fail
  go_region_law (fail)
  all_goals
    go_end0
    refine ⟨rfl, ?_, ?_, h2, ?_, ?_, ?_, by omega, h7⟩
    · repeat' first | exact Below.refl _ _ | refine Below.drew ?_ | refine Below.alloc ?_ (by simp; omega) _ | refine Below.setCell ?_ (by simp; omega) _
    · simp; omega
    · first | (simp [go_sem, h1, h3]; done) | (rw [World.cell?_drew, World.cell?_alloc_past _ _ _ (by simp; omega)]; simp [go_sem, h1, h3]; done)
    · simp [go_sem, h1, h4, h3]
    · exact (((H5.out.set l i d).away _ _ (Ne.symm h2)).below (balloc (Below.refl _ _) _)).drew

theorem GV.drew {w : World} {c b m l cap : Nat} {L : NL} (h : GV w c b m l cap L) : GV w.drew c b m l cap L := ⟨h.lt, h.ne, h.cell, h.froz, h.own.drew, h.le, h.small⟩
theorem But.low {B g : Nat} {w w' : World} (h : But g w w') (hg : B ≤ g) (hB : B ≤ w.heap.size) : Below B w w' := h.below hg hB

set_option maxHeartbeats 800000 in
theorem gPop_any (B c b m k cap : Nat) (L : NL) (w : World) (h : GV w c b m (k + 1) cap L) (hkc : k + 1 ≤ cap) (hBc : B ≤ c) :
    Calls Try.prog 90 #[.pointer (some ⟨c, 0, none⟩)] w fun e w' => (∃ v, e = .returned v) ∧ Below B w w' ∧ GV w' c b m k cap L := by
  obtain ⟨h1, h2, h3, h4, h5, h6, h7⟩ := h
  have b1 := OwnN.c0 h5 (show k < m by omega)
  have b2 := OwnN.c1 h5 (show k < m by omega)
  have H5 := hide h5
  have hlt := h5.lt
  have hk1 : (((k + 1 : Nat) : Int) - 1) = (k : Int) := by omega
  clear h5
  go_enter Try.func90, Try.ntmps90
  go_wp2_with fail
  go_ret
  refine ⟨⟨_, rfl⟩, ?_, ?_, h2, ?_, ?_, ?_, by omega, h7⟩
  · exact ((Below.refl B w).setCell (by simp; omega) _).alloc (by simp; omega) _
  · simp; omega
  · simp [go_sem, h1, h3]
  · simp [go_sem, h1, h4, h3]
  · exact (H5.out.away _ _ (Ne.symm h2)).below (balloc (Below.refl _ _) _)

set_option maxHeartbeats 800000 in
theorem hPush_any (B c b m l cap : Nat) (L : NL) (i d : Int) (w : World) (h : GV w c b m l cap L) (hr : l < cap) (hcm : cap ≤ m) (hBc : B ≤ c) (hBb : B ≤ b) :
    Calls Try.prog 59 #[.iface 89 (.pointer (some ⟨c, 0, none⟩)), .iface 47 (.agg #[.int .i64 i, .int .i64 d])] w fun e w' => e = .returned (.tuple #[]) ∧ Below B w w' ∧ GV w' c b m (l + 1) cap (upL l (L.put l (i, d))) := by
  have MP := meth_Push c w
  have PU := hide (gPush_any B c b m l cap L i d w h hr hcm hBc hBb)
  have hcw := h.lt
  have hlm : l ≤ 1048576 := Nat.le_trans h.le h.small
  clear h
  go_enter Try.func59, Try.ntmps59
  go_wp2_with fail
  refine PU.out.mono ?_
  rintro e w1 ⟨rfl, hb1, h1⟩
  have ML := meth_Len c _ w1 h1.cell
  have GL := hide (gLen_any (some ⟨b, 0, none⟩) (l + 1) cap w1)
  have hl1 : (((l + 1 : Nat) : Int) - 1) = (l : Int) := by omega
  have H1 := hide h1
  have UP := hide (hUp_any c b m (l + 1) cap (L.put l (i, d)) l w1 h1.lt h1.ne h1.cell h1.own h1.le (by omega) h1.small)
  clear h1 MP PU
  go_wp2_with fail
  refine GL.out.mono ?_
  rintro e w2 ⟨rfl, hw2⟩
  obtain rfl := hw2.symm
  go_wp2_with fail
  refine UP.out.mono ?_
  rintro e w3 ⟨rfl, hb3, o3⟩
  go_wp2_with fail
  go_end0
  exact ⟨rfl, hb1.trans (hb3.low hBb (by have := hb1.size; omega)), H1.out.but hb3 o3⟩

set_option maxHeartbeats 800000 in
theorem hPop_any (B c b m k cap : Nat) (L : NL) (w : World) (h : GV w c b m (k + 1) cap L) (hkc : k + 1 ≤ cap) (hBc : B ≤ c) (hBb : B ≤ b) :
    Calls Try.prog 60 #[.iface 89 (.pointer (some ⟨c, 0, none⟩))] w fun e w' => (∃ v, e = .returned v) ∧ Below B w w' ∧ GV w' c b m k cap (dnL k 0 (swp L 0 k)) := by
  have hcw := h.lt
  have hkm : k + 1 ≤ 1048576 := Nat.le_trans h.le h.small
  have ML := meth_Len c _ w h.cell
  have MS := meth_Swap c _ w h.cell
  have GL := hide (gLen_any (some ⟨b, 0, none⟩) (k + 1) cap w)
  have SW := hide (gSwap_any b m (k + 1) cap L 0 k w h.own h.le (by omega) (by omega))
  have H := hide h
  clear h
  go_enter Try.func60, Try.ntmps60
  go_wp2_with fail
  refine GL.out.mono ?_
  rintro e w2 ⟨rfl, hw2⟩
  obtain rfl := hw2.symm
  go_wp2_with fail
  refine SW.out.mono ?_
  rintro e w1 ⟨rfl, hb1, o1⟩
  have h1 := H.out.but hb1 o1
  have hs1 := hb1.size
  have DN := hide (hDown_any c b m (k + 1) cap (swp L 0 k) k w1 h1.lt h1.ne h1.cell h1.own h1.le (by omega) h1.small)
  have B1 : Below B w w1 := hb1.low hBb (by omega)
  have H1 := hide h1
  clear h1 o1 hb1 ML MS GL SW
  go_wp2_with fail
  refine DN.out.mono ?_
  rintro e w3 ⟨v3, rfl, hb3, o3⟩
  have h3 := H1.out.but hb3 o3
  have hs3 := hb3.size
  have B3 : Below B w w3 := B1.trans (hb3.low hBb (by omega))
  have MP := meth_Pop c w3
  have PO := hide (gPop_any B c b m k cap (dnL k 0 (swp L 0 k)) w3 h3 hkc hBc)
  clear h3 o3 hb3 DN
  go_wp2_with fail
  refine PO.out.mono ?_
  rintro e w4 ⟨⟨v4, rfl⟩, hb4, h4⟩
  go_wp2_with fail
  go_ret
  exact ⟨⟨_, rfl⟩, B3.trans hb4, h4⟩
end Go.Proofs.Ytmbncafbbpcmbaa

/- greatestOf: a copy of a heap's list with room for one more. -/
namespace Go.Proofs.Ytmbncafbbpcmbaa
open Go.RowKit
set_option maxRecDepth 8000
set_option linter.unusedSimpArgs false
set_option linter.unusedVariables false

theorem run_make_pairs2 {P : Program} (t e : TypeId) (x y : Value) (bytes : Nat) (ht : P.underlying t = some (.slice e)) (hinfo : (P.info? e).map (fun i => (i.zero, i.size, i.bytes)) = some (some (.agg #[x, y]), 2, bytes))
    (kl kc : IntKind) (n c : Nat) (hnc : n ≤ c) (hbytes : bytes * c ≤ 281474976710656) (h63 : c ≤ 9223372036854775807) (w : World) :
    (Instr.makeSlice t (.int kl (n : Int)) (.int kc (c : Int))).run P w = .ok (.slice (some ⟨w.heap.size, 0, none⟩) n c) (w.alloc (.cells (madeCells #[x, y] (c * 2)) e)) := by
  obtain ⟨i, hi, hzz⟩ := Option.map_eq_some_iff.1 hinfo
  simp only [Prod.mk.injEq] at hzz
  obtain ⟨hz, hs, hb⟩ := hzz
  have hb' : (i.bytes : Int) * (c : Int) ≤ 281474976710656 := by
    have h : ((i.bytes * c : Nat) : Int) ≤ 281474976710656 := by rw [hb]; omega
    rwa [Int.natCast_mul] at h
  have hr := run_make (P := P) w t e i _ ht hi hz kl kc n c (by omega) (by omega) hb' (by omega)
  simp only [Int.toNat_natCast, hs] at hr
  exact hr

theorem run_copy_pairs {P : Program} (w : World) (dT sT ty elem : TypeId) (g dCap : Nat) (a : Addr) (n sCap : Nat) (cur : Array Value) (t : TypeId) (cs : List Value)
    (hu : P.underlying dT = some (.slice elem)) (hs : (P.info? elem).map (·.size) = some 2) (hg : w.heap[g]? = some (.cells cur t (0, 0))) (hn : cs.length = n * 2)
    (hsrc : ∀ j v, cs[j]? = some v → w.cell? (a.add j) = some v) (hfit : cs.length ≤ cur.size) (h1 : ∀ v ∈ cs, v.oneCell' = true) :
    (Builtin.copy_ #[dT, sT] ty #[.slice (some ⟨g, 0, none⟩) n dCap, .slice (some a) n sCap]).run P w = .ok (goInt n) (w.setRow g (cs ++ cur.toList.drop cs.length).toArray) := by
  have hl := run_loadCells_list (P := P) w a cs hsrc
  have hst := run_storeCells_at P g 0 t cs 0 cur w hg (by simpa using hfit) h1
  cases hq : P.info? elem with
  | none => simp [hq] at hs
  | some i =>
    have hi : i.size = 2 := by simpa [hq] using hs
    simp [Builtin.copy_, run_underlying hu, Builtin.lenOf, Builtin.firstCells, sizeOf, typeInfo, hq, hi, ← hn, hl, hst]

theorem run_copy_pairs_none {P : Program} (w : World) (dT sT ty elem : TypeId) (d a : Option Addr) (dCap sCap : Nat) (hu : P.underlying dT = some (.slice elem)) (hs : (P.info? elem).map (·.size) = some 2) :
    (Builtin.copy_ #[dT, sT] ty #[.slice d 0 dCap, .slice a 0 sCap]).run P w = .ok (goInt 0) w := by
  cases hq : P.info? elem with
  | none => simp [hq] at hs
  | some i =>
    have hl : ∀ (x : Addr), (loadCells x 0).run P w = .ok #[] w := fun x => by simpa using run_loadCells_list (P := P) w x [] (by simp)
    cases d <;> cases a <;> simp [Builtin.copy_, run_underlying hu, Builtin.lenOf, Builtin.firstCells, sizeOf, typeInfo, hq, storeCells, hl]

def pcells (n : Nat) (f g : Nat → Int) : List Value := (List.range (n * 2)).map (pcell f g)
theorem pcells_len (n : Nat) (f g : Nat → Int) : (pcells n f g).length = n * 2 := by simp [pcells]
theorem pcells_one (n : Nat) (f g : Nat → Int) : ∀ v ∈ pcells n f g, v.oneCell' = true := by
  intro v hv
  simp only [pcells, List.mem_map] at hv
  obtain ⟨j, _, rfl⟩ := hv
  rfl
theorem pcells_src {w : World} {b off n : Nat} {f g : Nat → Int} (hc : ∀ i, i < n → w.cell? ⟨b, off + i * 2, none⟩ = some (.int .i64 (f i)) ∧ w.cell? ⟨b, off + i * 2 + 1, none⟩ = some (.int .i64 (g i))) :
    ∀ j v, (pcells n f g)[j]? = some v → w.cell? ((⟨b, off, none⟩ : Addr).add j) = some v := by
  intro j v hj
  have hlt : j < n * 2 := by
    have := (List.getElem?_eq_some_iff.1 hj).1
    rwa [pcells_len] at this
  have hv : v = pcell f g j := by simpa [pcells, hlt] using hj.symm
  subst hv
  have hadd : (⟨b, off, none⟩ : Addr).add j = ⟨b, off + j, none⟩ := by unfold Addr.add; split <;> simp_all
  rw [hadd]
  rcases (show j % 2 = 0 ∨ j % 2 = 1 by omega) with h | h
  · have := (hc (j / 2) (by omega)).1
    rw [show off + j / 2 * 2 = off + j by omega] at this
    rw [this]; simp [pcell, h]
  · have := (hc (j / 2) (by omega)).2
    rw [show off + j / 2 * 2 + 1 = off + j by omega] at this
    rw [this]; simp [pcell, h]

theorem own_copied {w : World} {g n : Nat} {f g' : Nat → Int} (h : w.heap[g]? = some (.cells (pcells n f g' ++ (madeCells #[Value.int .i64 0, Value.int .i64 0] ((n + 1) * 2)).toList.drop (pcells n f g').length).toArray 47 (0, 0))) :
    OwnL w g (n + 1) (listL n f g') := by
  refine ⟨_, h, ?_, fun i hi => ?_⟩
  · simp [pcells_len, size_madeCells]; omega
  · by_cases hl : i < n * 2
    · rw [show ((pcells n f g' ++ (madeCells #[Value.int .i64 0, Value.int .i64 0] ((n + 1) * 2)).toList.drop (pcells n f g').length).toArray)[i]? = (pcells n f g')[i]? from by simp [List.getElem?_append_left, pcells_len, hl]]
      simp only [pcells, List.getElem?_map, List.getElem?_range hl, Option.map_some, pcell, listL]
      rw [if_pos (show i / 2 < n by omega)]
    · have e : ((pcells n f g' ++ (madeCells #[Value.int .i64 0, Value.int .i64 0] ((n + 1) * 2)).toList.drop (pcells n f g').length).toArray)[i]? = some (.int .i64 0) := by
        rcases (show i = n * 2 ∨ i = n * 2 + 1 by omega) with rfl | rfl
        · simp [pcells_len, madeCells, List.getElem?_append_right]
        · rw [List.getElem?_toArray, List.getElem?_append_right (by rw [pcells_len]; omega), pcells_len, List.getElem?_drop, show n * 2 + (n * 2 + 1 - n * 2) = n * 2 + 1 by omega]
          simp [madeCells, show n * 2 + 1 < (n + 1) * 2 by omega, show (n * 2 + 1) % 2 = 1 by omega]
      rw [e]
      simp only [pcell, listL]
      rw [if_neg (show ¬ i / 2 < n by omega)]
      simp

def ToG (w : World) (n : Nat) (f g : Nat → Int) (e : Ending) (w' : World) : Prop :=
  ∃ b, e = .returned (.slice (some ⟨b, 0, none⟩) n (n + 1)) ∧ w.heap.size ≤ b ∧ OwnL w' b (n + 1) (listL n f g) ∧ Below w.heap.size w w'

theorem Try.sizeNear : (Try.prog.info? 47).map (·.size) = some 2 := by kernel_rfl

set_option maxHeartbeats 800000 in
theorem greatestOf_some (K : Int) (b off n cap : Nat) (f g : Nat → Int) (w : World) (hn : n ≤ 20) (hb : b < w.heap.size) (hc : ∀ i, i < n → w.cell? ⟨b, off + i * 2, none⟩ = some (.int .i64 (f i)) ∧ w.cell? ⟨b, off + i * 2 + 1, none⟩ = some (.int .i64 (g i))) :
    Calls Try.prog 58 #[.agg #[.int .i64 K, .slice (some ⟨b, off, none⟩) n cap]] w fun e w' => ToG w n f g e w' := by
  have hmk := run_make_pairs2 (P := Try.prog) 86 47 (.int .i64 0) (.int .i64 0) 16 Try.underlying86 Try.infoNear .i64 .i64 n (n + 1) (by omega) (by omega) (by omega)
  rw [show ((n + 1 : Nat) : Int) = (n : Int) + 1 by omega] at hmk
  generalize hA : Obj.cells #[Value.int IntKind.i64 K, Value.slice (some ⟨b, off, none⟩) n cap] 70 = OA
  generalize hB : Obj.cells (madeCells #[Value.int IntKind.i64 0, Value.int IntKind.i64 0] ((n + 1) * 2)) 47 = OB
  obtain ⟨w2, hcp, h2o, h2b⟩ : ∃ w2, (Builtin.copy_ #[86, 28] 3 #[.slice (some ⟨w.heap.size + 1, 0, none⟩) n (n + 1), .slice (some ⟨b, off, none⟩) n cap]).run Try.prog ((w.alloc OA).alloc OB) = .ok (.int .i64 n) w2 ∧ OwnL w2 (w.heap.size + 1) (n + 1) (listL n f g) ∧ Below w.heap.size w w2 := by
    have hbl : Below w.heap.size w ((w.alloc OA).alloc OB) := (by repeat' first | with_reducible exact Below.refl _ _ | with_reducible assumption | with_reducible refine below_drewN ?_ _ | with_reducible refine balloc ?_ _ | with_reducible refine Below.drew ?_ | with_reducible refine Below.setCell ?_ (by first | (simp; done) | (simp; omega) | omega) _ | with_reducible refine bstep ?_ (by assumption))
    have hg : ((w.alloc OA).alloc OB).heap[w.heap.size + 1]? = some (.cells (madeCells #[Value.int IntKind.i64 0, Value.int IntKind.i64 0] ((n + 1) * 2)) 47 (0, 0)) := by
      rw [← hB]
      have := Go.Deep.blk_alloc_new (w.alloc OA) (Obj.cells (madeCells #[Value.int IntKind.i64 0, Value.int IntKind.i64 0] ((n + 1) * 2)) 47)
      simpa using this
    refine ⟨_, run_copy_pairs _ _ _ _ 47 _ _ ⟨b, off, none⟩ n cap _ _ (pcells n f g) Try.underlying86 Try.sizeNear hg (pcells_len n f g) (pcells_src fun i hi => ⟨(hbl.cell (p := ⟨b, off + i * 2, none⟩) hb).trans (hc i hi).1, (hbl.cell (p := ⟨b, off + i * 2 + 1, none⟩) hb).trans (hc i hi).2⟩) (by rw [pcells_len, size_madeCells]; omega) (pcells_one n f g), ?_, ?_⟩
    · exact own_copied (setRow_heap _ _ _ _ _ _ hg)
    · exact below_setRow hbl (by omega) _
  subst hA hB
  have H2O := hide h2o
  have H2B := hide h2b
  clear hc h2o h2b
  go_enter Try.func58, Try.ntmps58
  go_wp2_with fail
  go_ret
  exact ⟨_, rfl, by omega, H2O.out, H2B.out⟩

set_option maxHeartbeats 800000 in
theorem greatestOf_none (K : Int) (a : Option Addr) (cap : Nat) (f g : Nat → Int) (w : World) :
    Calls Try.prog 58 #[.agg #[.int .i64 K, .slice a 0 cap]] w fun e w' => ToG w 0 f g e w' := by
  have hmk : ∀ w : World, (Instr.makeSlice 86 (.int .i64 0) (.int .i64 1)).run Try.prog w = .ok (.slice (some ⟨w.heap.size, 0, none⟩) 0 1) (w.alloc (.cells (madeCells #[.int .i64 0, .int .i64 0] (1 * 2)) 47)) :=
    run_make_pairs2 (P := Try.prog) 86 47 (.int .i64 0) (.int .i64 0) 16 Try.underlying86 Try.infoNear .i64 .i64 0 1 (by omega) (by omega) (by omega)
  have hcp := fun w d => run_copy_pairs_none (P := Try.prog) w 86 28 3 47 d a 1 cap Try.underlying86 Try.sizeNear
  go_enter Try.func58, Try.ntmps58
  go_wp2_with fail
  go_ret
  refine ⟨_, rfl, by omega, ?_, (by repeat' first | with_reducible exact Below.refl _ _ | with_reducible assumption | with_reducible refine below_drewN ?_ _ | with_reducible refine balloc ?_ _ | with_reducible refine Below.drew ?_ | with_reducible refine Below.setCell ?_ (by first | (simp; done) | (simp; omega) | omega) _ | with_reducible refine bstep ?_ (by assumption))⟩
  have hm := OwnN.made (w.alloc (Obj.cells #[Value.int IntKind.i64 K, Value.slice a 0 cap] 70)) 1
  rw [World.size_alloc] at hm
  exact OwnN.congr hm (f' := fun i => (listL 0 f g i).1) (g' := fun i => (listL 0 f g i).2) (fun i _ => by simp [listL]) (fun i _ => by simp [listL])

theorem greatestOf_any (K : Int) (a : Option Addr) (n cap : Nat) (f g : Nat → Int) (w : World) (h : PRow w a n f g) (hn : n ≤ 20) :
    Calls Try.prog 58 #[.agg #[.int .i64 K, .slice a n cap]] w fun e w' => ToG w n f g e w' := by
  rcases h.lies with h0 | ⟨b, off, rfl, lt, hc⟩
  · subst h0
    exact greatestOf_none K a cap f g w
  · exact greatestOf_some K b off n cap f g w hn lt hc
end Go.Proofs.Ytmbncafbbpcmbaa
