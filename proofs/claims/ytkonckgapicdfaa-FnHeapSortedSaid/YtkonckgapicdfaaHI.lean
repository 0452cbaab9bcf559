/- Heaps as plain functions: a list of Nears as a function of the place; how one goes up, how one goes down. A row of Nears of the call's own, as such a list. -/
import Derived.Test.YtkonckgapicdfaaHC
namespace Go.Proofs.Ytkonckgapicdfaa
open Go.RowKit
set_option maxRecDepth 8000
set_option linter.unusedSimpArgs false
set_option linter.unusedVariables false

def NL : Type := Nat → Int × Int
def lt2 (x y : Int × Int) : Bool := lessB x.1 x.2 y.1 y.2
def swp (L : NL) (i j : Nat) : NL := fun k => if k = i then L j else if k = j then L i else L k
def NL.put (L : NL) (i : Nat) (x : Int × Int) : NL := fun k => if k = i then x else L k

/-- The one at place j goes up as long as the one above it is less (t: more steps than there are). -/
def upF : Nat → Nat → NL → NL
  | 0, _, L => L
  | t + 1, j, L => if j = 0 then L else if lt2 (L ((j - 1) / 2)) (L j) = true then upF t ((j - 1) / 2) (swp L ((j - 1) / 2) j) else L
def upL (j : Nat) (L : NL) : NL := upF j j L

theorem upF_fuel : ∀ (t t' j : Nat) (L : NL), j ≤ t → j ≤ t' → upF t j L = upF t' j L := by
  intro t
  induction t with
  | zero =>
    intro t' j L h h'
    obtain rfl : j = 0 := by omega
    cases t' with
    | zero => rfl
    | succ t' => rw [upF, upF, if_pos rfl]
  | succ t ih =>
    intro t' j L h h'
    cases t' with
    | zero =>
      obtain rfl : j = 0 := by omega
      rw [upF, upF, if_pos rfl]
    | succ t' =>
      rw [upF, upF]
      by_cases h0 : j = 0
      · rw [if_pos h0, if_pos h0]
      · rw [if_neg h0, if_neg h0, ih t' _ _ (by omega) (by omega)]

/-- The greater one of the two below place i, of n. -/
def kid (n i : Nat) (L : NL) : Nat := if 2 * i + 2 < n ∧ lt2 (L (2 * i + 1)) (L (2 * i + 2)) = true then 2 * i + 2 else 2 * i + 1

theorem kid_gt (n i : Nat) (L : NL) : i < kid n i L := by unfold kid; split <;> omega

theorem kid_lt {n i : Nat} (L : NL) (h : 2 * i + 1 < n) : kid n i L < n := by unfold kid; split <;> omega

/-- The one at place i, of n, goes down as long as one below it is greater (t: more steps than there are). -/
def dnF : Nat → Nat → Nat → NL → NL
  | 0, _, _, L => L
  | t + 1, n, i, L => if 2 * i + 1 < n then if lt2 (L i) (L (kid n i L)) = true then dnF t n (kid n i L) (swp L i (kid n i L)) else L else L
def dnL (n i : Nat) (L : NL) : NL := dnF (n - i) n i L

theorem dnF_fuel (n : Nat) : ∀ (t t' i : Nat) (L : NL), n - i ≤ t → n - i ≤ t' → dnF t n i L = dnF t' n i L := by
  intro t
  induction t with
  | zero =>
    intro t' i L h h'
    cases t' with
    | zero => rfl
    | succ t' => rw [dnF, dnF, if_neg (by omega)]
  | succ t ih =>
    intro t' i L h h'
    cases t' with
    | zero => rw [dnF, dnF, if_neg (by omega)]
    | succ t' =>
      rw [dnF, dnF]
      by_cases h1 : 2 * i + 1 < n
      · have := kid_gt n i L
        rw [if_pos h1, if_pos h1, ih t' _ _ (by omega) (by omega)]
      · rw [if_neg h1, if_neg h1]

theorem upL_zero (L : NL) : upL 0 L = L := rfl

theorem upL_yes {j : Nat} {L : NL} (h0 : ¬ j = 0) (h : lt2 (L ((j - 1) / 2)) (L j) = true) : upL j L = upL ((j - 1) / 2) (swp L ((j - 1) / 2) j) := by
  obtain ⟨k, rfl⟩ : ∃ k, j = k + 1 := ⟨j - 1, by omega⟩
  unfold upL
  rw [upF, if_neg h0, if_pos h]
  exact upF_fuel _ _ _ _ (by omega) (by omega)

theorem upL_no {j : Nat} {L : NL} (h : lt2 (L ((j - 1) / 2)) (L j) = false) : upL j L = L := by
  unfold upL
  cases j with
  | zero => rfl
  | succ k => rw [upF, if_neg (by omega), if_neg (by rw [h]; decide)]

theorem dnL_out {n i : Nat} {L : NL} (h : ¬ 2 * i + 1 < n) : dnL n i L = L := by
  unfold dnL
  cases n - i with
  | zero => rfl
  | succ k => rw [dnF, if_neg h]

theorem dnL_yes {n i : Nat} {L : NL} (h : 2 * i + 1 < n) (hl : lt2 (L i) (L (kid n i L)) = true) : dnL n i L = dnL n (kid n i L) (swp L i (kid n i L)) := by
  unfold dnL
  obtain ⟨k, hk⟩ : ∃ k, n - i = k + 1 := ⟨n - i - 1, by omega⟩
  have := kid_gt n i L
  rw [hk, dnF, if_pos h, if_pos hl]
  exact dnF_fuel n _ _ _ _ (by omega) (by omega)

theorem dnL_no {n i : Nat} {L : NL} (hl : lt2 (L i) (L (kid n i L)) = false) : dnL n i L = L := by
  unfold dnL
  cases n - i with
  | zero => rfl
  | succ k =>
    rw [dnF]
    by_cases h : 2 * i + 1 < n
    · rw [if_pos h, if_neg (by rw [hl]; decide)]
    · rw [if_neg h]

/-- What lies at n and behind does not matter to one that goes down. -/
theorem dnL_congr (n : Nat) : ∀ (t i : Nat) (L M : NL), n - i ≤ t → i < n → (∀ k, k < n → L k = M k) → ∀ k, k < n → dnL n i L k = dnL n i M k := by
  intro t
  induction t with
  | zero => intro i L M ht hi; omega
  | succ t ih =>
    intro i L M ht hi h k hk
    by_cases h1 : 2 * i + 1 < n
    · have hkid : kid n i L = kid n i M := by
        unfold kid
        by_cases h2 : 2 * i + 2 < n
        · rw [h (2 * i + 1) h1, h (2 * i + 2) h2]
        · rw [if_neg (fun q => h2 q.1), if_neg (fun q => h2 q.1)]
      have hlt := kid_lt L h1
      have hgt := kid_gt n i L
      have hc : lt2 (L i) (L (kid n i L)) = lt2 (M i) (M (kid n i M)) := by rw [← hkid, h i hi, h _ hlt]
      cases hb : lt2 (L i) (L (kid n i L))
      · rw [dnL_no hb, dnL_no (hc ▸ hb)]
        exact h k hk
      · rw [dnL_yes h1 hb, dnL_yes h1 (hc ▸ hb), ← hkid]
        refine ih _ _ _ (by omega) hlt (fun j hj => ?_) k hk
        unfold swp
        rw [h _ hlt, h i hi, h j hj]
    · rw [dnL_out h1, dnL_out h1]
      exact h k hk

/-- A row of m Nears of the call's own that holds the list L. -/
def OwnL (w : World) (b m : Nat) (L : NL) : Prop := OwnN w b m (fun i => (L i).1) (fun i => (L i).2)

theorem OwnL.below {w w' : World} {b m : Nat} {L : NL} (h : OwnL w b m L) (hb : Below w.heap.size w w') : OwnL w' b m L := OwnN.below h hb

theorem OwnL.lt {w : World} {b m : Nat} {L : NL} (h : OwnL w b m L) : b < w.heap.size := OwnN.lt h

theorem OwnL.away {w : World} {b m : Nat} {L : NL} (h : OwnL w b m L) (p : Addr) (v : Value) (hp : b ≠ p.block) : OwnL (w.setCell p v) b m L := World.rowIs.of_block h (Below.heap_setCell w p v b hp)

theorem OwnL.set {w : World} {b m : Nat} {L : NL} (h : OwnL w b m L) (k : Nat) (x y : Int) :
    OwnL ((w.setCell ⟨b, k * 2, none⟩ (.int .i64 x)).setCell ⟨b, k * 2 + 1, none⟩ (.int .i64 y)) b m (L.put k (x, y)) := by
  refine (OwnN.set h k x y).congr (fun i _ => ?_) (fun i _ => ?_)
  all_goals
    unfold NL.put
    by_cases e : i = k <;> simp [e]

theorem OwnL.congr {w : World} {b m : Nat} {L M : NL} (h : OwnL w b m L) (hLM : ∀ i, i < m → L i = M i) : OwnL w b m M :=
  OwnN.congr h (fun i hi => by rw [hLM i hi]) (fun i hi => by rw [hLM i hi])

theorem OwnL.but {g : Nat} {w w' : World} {b m : Nat} {L : NL} (h : OwnL w b m L) (hb : But g w w') (hne : b ≠ g) : OwnL w' b m L := World.rowIs.of_block h (hb.block b h.lt hne)

theorem swp_put (L : NL) (i j : Nat) : (L.put i (L j)).put j (L i) = swp L i j := by
  funext k
  unfold NL.put swp
  by_cases hj : k = j
  · subst hj
    by_cases hi : k = i
    · subst hi; simp
    · simp [hi]
  · simp [hj]

theorem But.ofBelow {g : Nat} {a b : World} (h : Below a.heap.size a b) : But g a b := ⟨h.os, h.tape, h.output, h.size, fun k hk _ => h.block k hk⟩

theorem But.cellN {g : Nat} {w w' : World} (h : But g w w') {c o : Nat} (hc : c < w.heap.size) (hne : c ≠ g) : w'.cell? ⟨c, o, none⟩ = w.cell? ⟨c, o, none⟩ := World.cell?_of_block (h.block c hc hne)

theorem But.froz {g : Nat} {w w' : World} (h : But g w w') {c o : Nat} (hc : c < w.heap.size) (hne : c ≠ g) : w'.frozen? ⟨c, o, none⟩ = w.frozen? ⟨c, o, none⟩ := World.frozen?_of_block (h.block c hc hne)
end Go.Proofs.Ytkonckgapicdfaa
