/- Numbers in decimal, plain: what is read, and what is written; no model in this text. -/
import Derived.Lib.ItoaNum
import Derived.Lib.ParseIntB
import Derived.Lib.Join
import Derived.Lib.Split
namespace Go.Proofs.YtggjcccdeaadbaaGreatDoor
open Go.Lib
set_option linter.unusedSimpArgs false
set_option linter.unusedVariables false

theorem lt_or_geI (a b : Int) : a < b ∨ b ≤ a := by omega

theorem head_app {l r : List UInt8} (h : l ≠ []) : (l ++ r).head? = l.head? := by
  cases l with
  | nil => exact absurd rfl h
  | cons c l => rfl
/-- What digits come to, behind acc. -/
def digsN (acc : Nat) : List UInt8 → Option Nat
  | [] => some acc
  | c :: r => if 48 ≤ c.toNat ∧ c.toNat ≤ 57 then digsN (acc * 10 + (c.toNat - 48)) r else none

theorem digs_snoc (c : UInt8) : ∀ (l : List UInt8) (acc : Nat), digsN acc (l ++ [c]) = (digsN acc l).bind fun v => if 48 ≤ c.toNat ∧ c.toNat ≤ 57 then some (v * 10 + (c.toNat - 48)) else none
  | [], acc => rfl
  | x :: l, acc => by
    show (if _ then digsN _ (l ++ [c]) else none) = (if _ then digsN _ l else none).bind _
    split
    · exact digs_snoc c l _
    · rfl

theorem byte_of {c : UInt8} (h : 48 ≤ c.toNat ∧ c.toNat ≤ 57) : UInt8.ofNat (48 + (c.toNat - 48)) = c := by
  rw [show 48 + (c.toNat - 48) = c.toNat by omega]; simp

theorem toNat_dig {d : Nat} (h : d < 10) : (UInt8.ofNat (48 + d)).toNat = 48 + d := by
  rw [UInt8.toNat_ofNat']; omega

theorem dec_small {u : Nat} (h : u < 10) : decDigits u = [UInt8.ofNat (48 + u)] := decDigits_one h

theorem dec_big {u : Nat} (h : ¬ u < 10) : decDigits u = decDigits (u / 10) ++ [UInt8.ofNat (48 + u % 10)] := by
  rw [decDigits, dif_neg h]

theorem digs_dec : ∀ (f u : Nat), u < f → digsN 0 (decDigits u) = some u
  | 0, u, h => absurd h (by omega)
  | f + 1, u, h => by
    by_cases h1 : u < 10
    · rw [dec_small h1]
      show (if _ then _ else _) = _
      rw [toNat_dig h1, if_pos (by omega)]
      show some _ = some _
      congr 1
      omega
    · rw [dec_big h1, digs_snoc, digs_dec f (u / 10) (by omega)]
      show (if _ then _ else _) = _
      rw [toNat_dig (Nat.mod_lt _ (by omega)), if_pos (by omega)]
      congr 1
      omega

theorem dec_inj {a b : Nat} (h : decDigits a = decDigits b) : a = b := by
  have p := digs_dec (a + 1) a (by omega)
  rw [h, digs_dec (b + 1) b (by omega)] at p
  exact (Option.some.inj p).symm

theorem dec_ne (u : Nat) : decDigits u ≠ [] := by
  intro h
  have := decDigits_length u
  rw [h] at this
  have := nDigits_pos u
  simp at *
  omega
/-- The first digit of what is not 0 is not 0. -/
theorem dec_head : ∀ (f u : Nat), u < f → (decDigits u).head? = some 48 → u = 0
  | 0, u, h, _ => absurd h (by omega)
  | f + 1, u, h, e => by
    by_cases h1 : u < 10
    · rw [dec_small h1] at e
      have e' := Option.some.inj e
      have := toNat_dig h1
      rw [e'] at this
      have h48 : (48 : UInt8).toNat = 48 := rfl
      omega
    · rw [dec_big h1, head_app (dec_ne _)] at e
      have := dec_head f (u / 10) (by omega) e
      omega

theorem dec_dig : ∀ (f u : Nat), u < f → ∀ c ∈ decDigits u, 48 ≤ c.toNat ∧ c.toNat ≤ 57
  | 0, u, h => absurd h (by omega)
  | f + 1, u, h => fun c hc => by
    by_cases h1 : u < 10
    · rw [dec_small h1] at hc
      obtain rfl := List.mem_singleton.1 hc
      rw [toNat_dig h1]; omega
    · rw [dec_big h1] at hc
      rcases List.mem_append.1 hc with hc | hc
      · exact dec_dig f (u / 10) (by omega) c hc
      · obtain rfl := List.mem_singleton.1 hc
        rw [toNat_dig (Nat.mod_lt _ (by omega))]; omega
/-- What is read of digits without a 0 ahead, written again, is these digits. -/
theorem dec_digs : ∀ (k : Nat) (l : List UInt8) (n : Nat), l.length = k + 1 → (l.head? = some 48 → k = 0) → digsN 0 l = some n → decDigits n = l
  | 0, l, n, hl, _, h => by
    match l, hl with
    | [c], _ =>
      have h' : (if 48 ≤ c.toNat ∧ c.toNat ≤ 57 then some (0 * 10 + (c.toNat - 48)) else none) = some n := h
      by_cases hc : 48 ≤ c.toNat ∧ c.toNat ≤ 57
      · rw [if_pos hc] at h'
        obtain rfl := Option.some.inj h'
        rw [show 0 * 10 + (c.toNat - 48) = c.toNat - 48 by omega, dec_small (by omega), byte_of hc]
      · rw [if_neg hc] at h'; cases h'
  | k + 1, l, n, hl, hh, h => by
    rcases List.eq_nil_or_concat l with rfl | ⟨l', c, rfl⟩
    · simp at hl
    · rw [List.concat_eq_append] at h hl hh ⊢
      have hl' : l'.length = k + 1 := by simpa using hl
      have hne : l' ≠ [] := by intro e; rw [e] at hl'; simp at hl'
      rw [digs_snoc] at h
      obtain ⟨v, hv, hc⟩ := Option.bind_eq_some_iff.1 h
      by_cases hd : 48 ≤ c.toNat ∧ c.toNat ≤ 57
      · rw [if_pos hd] at hc
        obtain rfl := Option.some.inj hc
        have hh' : l'.head? ≠ some 48 := fun e => by
          have := hh (by rw [head_app hne]; exact e)
          omega
        have ih := dec_digs k l' v hl' (fun e => absurd e hh') hv
        have hv0 : v ≠ 0 := fun e => by
          rw [e] at ih
          rw [← ih] at hh'
          exact hh' (by rw [dec_small (by omega)]; rfl)
        rw [dec_big (by omega), show (v * 10 + (c.toNat - 48)) / 10 = v by omega, show (v * 10 + (c.toNat - 48)) % 10 = c.toNat - 48 by omega, ih, byte_of hd]
      · rw [if_neg hd] at hc; cases hc
/-- What is read of digits, 16 at most. -/
def natL (l : List UInt8) : Option Nat := if l.length < 1 ∨ 16 < l.length ∨ (l.head? = some 48 ∧ 1 < l.length) then none else digsN 0 l

theorem natL_iff (l : List UInt8) (n : Nat) : natL l = some n ↔ decDigits n = l ∧ l.length ≤ 16 := by
  unfold natL
  constructor
  · intro h
    split at h
    · cases h
    · rename_i hn
      exact ⟨dec_digs (l.length - 1) l n (by omega) (fun e => by rcases Nat.lt_or_ge 1 l.length with q | q; exact absurd (.inr (.inr ⟨e, q⟩)) hn; omega) h, by omega⟩
  · rintro ⟨rfl, h⟩
    have h0 : 1 ≤ (decDigits n).length := by rw [decDigits_length]; exact nDigits_pos n
    rw [if_neg, digs_dec (n + 1) n (by omega)]
    rintro (q | q | ⟨q, q'⟩)
    · omega
    · omega
    · have := dec_head (n + 1) n (by omega) q
      subst this
      rw [dec_small (by omega)] at q'
      simp at q'
/-- The sign ahead is a - and no more. -/
def minusL (l : List UInt8) : Bool := decide (l.head? = some 45)
def magL (l : List UInt8) : List UInt8 := if minusL l then l.tail else l
/-- What is read in decimal. -/
def numL (l : List UInt8) : Option Int :=
  if minusL l then (if l.tail.head? = some 48 then none else (natL l.tail).map fun (n : Nat) => -(n : Int)) else (natL l).map fun (n : Nat) => (n : Int)

theorem itoa_pos {x : Int} (h : 0 ≤ x) : itoa x = decDigits x.toNat := by unfold itoa; rw [if_neg (by omega)]

theorem itoa_min {x : Int} (h : x < 0) : itoa x = 45 :: decDigits x.natAbs := by unfold itoa; rw [if_pos h]

theorem numL_iff (l : List UInt8) (x : Int) : numL l = some x ↔ itoa x = l ∧ (magL l).length ≤ 16 := by
  unfold numL magL
  cases hm : minusL l
  · have hne : l.head? ≠ some 45 := of_decide_eq_false hm
    rw [if_neg (by decide), if_neg (by decide), Option.map_eq_some_iff]
    constructor
    · rintro ⟨n, hn, rfl⟩
      obtain ⟨a, b⟩ := (natL_iff l n).1 hn
      exact ⟨by rw [itoa_pos (by omega)]; exact a, b⟩
    · rintro ⟨e, hl⟩
      have h0 : 0 ≤ x := by
        rcases lt_or_geI x 0 with q | q
        · rw [itoa_min q] at e
          rw [← e] at hne
          exact absurd rfl hne
        · exact q
      rw [itoa_pos h0] at e
      exact ⟨x.toNat, (natL_iff l _).2 ⟨e, hl⟩, by omega⟩
  · have he : l.head? = some 45 := of_decide_eq_true hm
    obtain ⟨r, rfl⟩ : ∃ r, l = 45 :: r := by
      cases l with
      | nil => cases he
      | cons c r => exact ⟨r, by rw [Option.some.inj he]⟩
    rw [if_pos rfl, if_pos rfl, List.tail_cons]
    constructor
    · intro h
      split at h
      · cases h
      · rename_i h48
        obtain ⟨n, hn, rfl⟩ := Option.map_eq_some_iff.1 h
        obtain ⟨a, b⟩ := (natL_iff r n).1 hn
        have hn0 : n ≠ 0 := fun e => by
          subst e
          rw [← a] at h48
          exact h48 (by rw [dec_small (by omega)]; rfl)
        refine ⟨?_, b⟩
        rw [itoa_min (by omega), show (-(n : Int)).natAbs = n by omega, a]
    · rintro ⟨e, hl⟩
      rcases lt_or_geI x 0 with q | q
      · rw [itoa_min q] at e
        have e' : decDigits x.natAbs = r := (List.cons.inj e).2
        have h48 : r.head? ≠ some 48 := fun q' => by
          rw [← e'] at q'
          have := dec_head (x.natAbs + 1) x.natAbs (by omega) q'
          omega
        rw [if_neg h48, (natL_iff r x.natAbs).2 ⟨e', hl⟩]
        show some (-((x.natAbs : Nat) : Int)) = some _
        congr 1
        omega
      · rw [itoa_pos q] at e
        have := dec_dig (x.toNat + 1) x.toNat (by omega) 45 (by rw [e]; simp)
        have h45 : (45 : UInt8).toNat = 45 := rfl
        omega

theorem itoa_inj {x y : Int} (h : itoa x = itoa y) : x = y := by
  have hd : ∀ (a b : Nat), decDigits a ≠ 45 :: decDigits b := fun a b e => by
    have := dec_dig (a + 1) a (by omega) 45 (by rw [e]; simp)
    have h45 : (45 : UInt8).toNat = 45 := rfl
    omega
  rcases lt_or_geI x 0 with p | p <;> rcases lt_or_geI y 0 with q | q
  · rw [itoa_min p, itoa_min q] at h
    have := dec_inj (List.cons.inj h).2
    omega
  · rw [itoa_min p, itoa_pos q] at h
    exact absurd h.symm (hd _ _)
  · rw [itoa_pos p, itoa_min q] at h
    exact absurd h (hd _ _)
  · rw [itoa_pos p, itoa_pos q] at h
    have := dec_inj h
    omega

theorem digs_acc : ∀ (l : List UInt8) (acc v : Nat), digsN acc l = some v → acc ≤ v
  | [], acc, v, h => by cases h; exact Nat.le_refl _
  | c :: l, acc, v, h => by
    unfold digsN at h
    split at h
    · have := digs_acc l _ v h; omega
    · cases h

theorem parse_digs (M : Nat) : ∀ (l : List UInt8) (acc v : Nat), digsN acc l = some v → v ≤ M → v < 1844674407370955162 → parseUintM M acc l = .ok v
  | [], acc, v, h, _, _ => by cases h; rfl
  | c :: l, acc, v, h, hM, hv => by
    unfold digsN at h
    unfold parseUintM
    split at h
    · rename_i hc
      have := digs_acc l _ v h
      rw [if_pos hc, if_neg (by omega), if_neg (by omega)]
      exact parse_digs M l _ v h hM hv
    · cases h

theorem dec_lt16 {n : Nat} (h : (decDigits n).length ≤ 16) : n < 10000000000000000 := by
  rw [decDigits_length] at h
  have a := lt_pow_nDigits n
  have b : 10 ^ nDigits n ≤ 10 ^ 16 := Nat.pow_le_pow_right (by omega) h
  have c : (10 : Nat) ^ 16 = 10000000000000000 := by decide
  omega
/-- What is written in 16 digits at most is read. -/
theorem parse_itoa {l : List UInt8} {x : Int} (h : numL l = some x) : parseIntB 64 l = .ok x := by
  obtain ⟨e, hl⟩ := (numL_iff l x).1 h
  unfold magL at hl
  have hM : ∀ n : Nat, n < 10000000000000000 → parseUintB 64 (decDigits n) = .ok n := fun n hn => by
    unfold parseUintB
    rw [if_neg (dec_ne n)]
    exact parse_digs _ _ 0 n (digs_dec (n + 1) n (by omega)) (by omega) (by omega)
  rcases lt_or_geI x 0 with q | q
  · rw [itoa_min q] at e
    subst e
    have hm : minusL (45 :: decDigits x.natAbs) = true := rfl
    rw [hm, if_pos rfl, List.tail_cons] at hl
    have hn := dec_lt16 hl
    have h45 : (45 : UInt8).toNat = 45 := rfl
    show (match parseUintB 64 (if (45 : UInt8).toNat = 43 ∨ (45 : UInt8).toNat = 45 then decDigits x.natAbs else _) with | .syntax => _ | .range => _ | .ok u => _) = _
    rw [if_pos (.inr h45), hM _ hn]
    show (if ¬ (45 : UInt8).toNat = 45 ∧ _ then _ else if (45 : UInt8).toNat = 45 ∧ _ then _ else NumEnd.ok (if (45 : UInt8).toNat = 45 then _ else _)) = _
    rw [if_neg (by rw [h45]; omega), if_neg (by rw [h45]; omega), if_pos h45]
    congr 1
    omega
  · rw [itoa_pos q] at e
    subst e
    have hd := dec_dig (x.toNat + 1) x.toNat (by omega)
    obtain ⟨c, r, hcr⟩ : ∃ c r, decDigits x.toNat = c :: r := by
      cases hh : decDigits x.toNat with
      | nil => exact absurd hh (dec_ne _)
      | cons c r => exact ⟨c, r, rfl⟩
    have hc := hd c (by rw [hcr]; simp)
    have hm : minusL (decDigits x.toNat) = false := by
      unfold minusL
      rw [hcr]
      refine decide_eq_false fun e => ?_
      rw [Option.some.inj e] at hc
      have h45 : (45 : UInt8).toNat = 45 := rfl
      omega
    rw [hm, if_neg (by decide)] at hl
    have hn := dec_lt16 hl
    have hP := hM _ hn
    rw [hcr] at hP ⊢
    show (match parseUintB 64 (if c.toNat = 43 ∨ c.toNat = 45 then r else c :: r) with | .syntax => _ | .range => _ | .ok u => _) = _
    rw [if_neg (by omega), hP]
    show (if ¬ c.toNat = 45 ∧ _ then _ else if c.toNat = 45 ∧ _ then _ else NumEnd.ok (if c.toNat = 45 then _ else _)) = _
    rw [if_neg (by omega), if_neg (by omega), if_neg (by omega)]
    congr 1
    omega

theorem numL_bounds {l : List UInt8} {x : Int} (h : numL l = some x) : -9999999999999999 ≤ x ∧ x ≤ 9999999999999999 := by
  obtain ⟨e, hl⟩ := (numL_iff l x).1 h
  unfold magL at hl
  rcases lt_or_geI x 0 with q | q
  · rw [itoa_min q] at e
    subst e
    rw [show minusL (45 :: decDigits x.natAbs) = true from rfl, if_pos rfl, List.tail_cons] at hl
    have := dec_lt16 hl
    omega
  · rw [itoa_pos q] at e
    have hl' : (decDigits x.toNat).length ≤ 17 := by
      rw [e]
      split at hl
      · rw [List.length_tail] at hl; omega
      · omega
    have a := lt_pow_nDigits x.toNat
    cases hm : minusL l
    · rw [hm, if_neg (by decide), ← e] at hl
      have := dec_lt16 hl
      omega
    · have he : l.head? = some 45 := of_decide_eq_true hm
      have := dec_dig (x.toNat + 1) x.toNat (by omega) 45 (by rw [e]; exact List.mem_of_mem_head? he)
      have h45 : (45 : UInt8).toNat = 45 := rfl
      omega
/-- A number of at most 16 digits comes back from its text. -/
theorem numL_itoa {x : Int} (h0 : -9999999999999999 ≤ x) (h1 : x ≤ 9999999999999999) : numL (itoa x) = some x := by
  have hs : ∀ n : Nat, n ≤ 9999999999999999 → (decDigits n).length ≤ 16 := fun n hn => by
    rw [decDigits_length]
    rcases Nat.lt_or_ge 16 (nDigits n) with q | q
    · exfalso
      have : ∀ (k n : Nat), k + 1 < nDigits n → 10 ^ (k + 1) ≤ n := by
        intro k
        induction k with
        | zero =>
          intro n h
          rcases Nat.lt_or_ge n 10 with p | p
          · rw [nDigits_small p] at h; omega
          · simpa using p
        | succ k ih =>
          intro n h
          rcases Nat.lt_or_ge n 10 with p | p
          · rw [nDigits_small p] at h; omega
          · rw [nDigits_big (by omega)] at h
            have := ih (n / 10) (by omega)
            rw [Nat.pow_succ]
            omega
      have := this 15 n (by omega)
      have c : (10 : Nat) ^ (15 + 1) = 10000000000000000 := by decide
      omega
    · exact q
  refine (numL_iff _ _).2 ⟨rfl, ?_⟩
  unfold magL
  rcases lt_or_geI x 0 with q | q
  · rw [itoa_min q]
    rw [show minusL (45 :: decDigits x.natAbs) = true from rfl, if_pos rfl, List.tail_cons]
    exact hs _ (by omega)
  · rw [itoa_pos q]
    split
    · rw [List.length_tail]; have := hs x.toNat (by omega); omega
    · exact hs _ (by omega)
end Go.Proofs.YtggjcccdeaadbaaGreatDoor

/- Texts that are cut at a byte, joined, and read as lists of numbers; plain: no model in this text. -/
namespace Go.Proofs.YtggjcccdeaadbaaGreatDoor
open Go.Lib
set_option linter.unusedSimpArgs false
set_option linter.unusedVariables false

def bs (l : List UInt8) : ByteArray := ⟨l.toArray⟩

theorem bs_list (l : List UInt8) : (bs l).data.toList = l := by simp [bs]

theorem bs_of (s : ByteArray) : bs s.data.toList = s := by cases s; simp [bs]

theorem bs_size (l : List UInt8) : (bs l).size = l.length := by simp [bs, ByteArray.size]

theorem bs_inj {a b : List UInt8} (h : bs a = bs b) : a = b := by rw [← bs_list a, h, bs_list]

theorem size_list (s : ByteArray) : s.size = s.data.toList.length := by
  cases s with | mk d => exact (Array.length_toList (xs := d)).symm

/-- What is ahead of the first such byte, what is behind it, and whether there is one. -/
def cutL (c : UInt8) : List UInt8 → List UInt8 × List UInt8 × Bool
  | [] => ([], [], false)
  | x :: r => if x = c then ([], r, true) else (x :: (cutL c r).1, (cutL c r).2)

theorem cut_hit (c : UInt8) : ∀ (k : Nat) (l : List UInt8), (∀ j, j < k → l[j]? ≠ some c) → l[k]? = some c → cutL c l = (l.take k, l.drop (k + 1), true)
  | _, [], _, h => by simp at h
  | 0, x :: r, _, h => by
    have : x = c := by simpa using h
    simp [cutL, this]
  | k + 1, x :: r, hn, h => by
    have hx : x ≠ c := fun e => hn 0 (by omega) (by simp [e])
    have ih := cut_hit c k r (fun j hj => by have := hn (j + 1) (by omega); simpa using this) (by simpa using h)
    simp [cutL, hx, ih]

theorem cut_miss (c : UInt8) : ∀ (l : List UInt8), (∀ j, j < l.length → l[j]? ≠ some c) → cutL c l = (l, [], false)
  | [], _ => rfl
  | x :: r, hn => by
    have hx : x ≠ c := fun e => hn 0 (by simp) (by simp [e])
    have ih := cut_miss c r (fun j hj => by have := hn (j + 1) (by simp; omega); simpa using this)
    simp [cutL, hx, ih]

theorem cut_not (c : UInt8) : ∀ (l : List UInt8), c ∉ l → cutL c l = (l, [], false) := fun l h =>
  cut_miss c l fun j hj e => h (List.mem_of_getElem? e)

theorem cut_app (c : UInt8) : ∀ (a b : List UInt8), c ∉ a → cutL c (a ++ c :: b) = (a, b, true)
  | [], b, _ => by simp [cutL]
  | x :: a, b, h => by
    have hx : x ≠ c := fun e => h (by simp [e])
    have ih := cut_app c a b (fun q => h (by simp [q]))
    simp [cutL, hx, ih]

theorem cut_back (c : UInt8) : ∀ (l : List UInt8), c ∉ (cutL c l).1 ∧ l = (cutL c l).1 ++ (if (cutL c l).2.2 then c :: (cutL c l).2.1 else [])
  | [] => by simp [cutL]
  | x :: r => by
    by_cases hx : x = c
    · simp [cutL, hx]
    · obtain ⟨h1, h2⟩ := cut_back c r
      simp only [cutL, hx, if_false]
      refine ⟨fun q => ?_, ?_⟩
      · rcases List.mem_cons.1 q with q | q
        · exact hx q.symm
        · exact h1 q
      · rw [List.cons_append, ← h2]

theorem cut_len (c : UInt8) (l : List UInt8) : (cutL c l).2.1.length + (if (cutL c l).2.2 then 1 else 0) ≤ l.length := by
  have := congrArg List.length (cut_back c l).2
  rw [List.length_append] at this
  cases h : (cutL c l).2.2
  · rw [h] at this
    have : (cutL c l).2.1 = [] := by
      have : ∀ l : List UInt8, (cutL c l).2.2 = false → (cutL c l).2.1 = [] := by
        intro l
        induction l with
        | nil => intro _; rfl
        | cons x r ih =>
          intro h
          by_cases hx : x = c
          · simp [cutL, hx] at h
          · simp only [cutL, hx, if_false] at h ⊢
            exact ih h
      exact this l h
    rw [this]; simp
  · rw [h] at this
    simp at this ⊢
    omega
/-- All parts. -/
def splitF (c : UInt8) : Nat → List UInt8 → List (List UInt8)
  | 0, l => [l]
  | f + 1, l => if (cutL c l).2.2 then (cutL c l).1 :: splitF c f (cutL c l).2.1 else [l]
def splitC (c : UInt8) (l : List UInt8) : List (List UInt8) := splitF c (l.length + 1) l

theorem splitF_fuel (c : UInt8) : ∀ (f g : Nat) (l : List UInt8), l.length < f → l.length < g → splitF c f l = splitF c g l
  | 0, _, l, h, _ => absurd h (by omega)
  | _, 0, l, _, h => absurd h (by omega)
  | f + 1, g + 1, l, hf, hg => by
    unfold splitF
    cases h : (cutL c l).2.2
    · rfl
    · have := cut_len c l
      rw [h] at this
      simp only [if_true] at this ⊢
      rw [splitF_fuel c f g _ (by omega) (by omega)]

theorem split_hit {c : UInt8} {l : List UInt8} (h : (cutL c l).2.2 = true) : splitC c l = (cutL c l).1 :: splitC c (cutL c l).2.1 := by
  have := cut_len c l
  rw [h, if_pos rfl] at this
  show (if (cutL c l).2.2 then _ else _) = _
  rw [if_pos h, splitF_fuel c l.length ((cutL c l).2.1.length + 1) _ (by omega) (by omega)]
  rfl

theorem split_miss {c : UInt8} {l : List UInt8} (h : (cutL c l).2.2 = false) : splitC c l = [l] := by
  show (if (cutL c l).2.2 then _ else _) = _
  rw [h, if_neg (by decide)]

theorem join_two (c : UInt8) (x : List UInt8) (y : List UInt8) (r : List (List UInt8)) : join (x :: y :: r) [c] = x ++ c :: join (y :: r) [c] := by
  rw [join_cons, join_cons]
  simp [joinTail]
/-- What is parted, joined, is what it was. -/
theorem join_split (c : UInt8) : ∀ (f : Nat) (l : List UInt8), l.length < f → join (splitC c l) [c] = l ∧ splitC c l ≠ []
  | 0, l, h => absurd h (by omega)
  | f + 1, l, h => by
    cases hc : (cutL c l).2.2
    · rw [split_miss hc]
      exact ⟨join_one _ _, by simp⟩
    · have hl := cut_len c l
      rw [hc, if_pos rfl] at hl
      obtain ⟨e, ne⟩ := join_split c f (cutL c l).2.1 (by omega)
      rw [split_hit hc]
      refine ⟨?_, by simp⟩
      obtain ⟨y, r, hr⟩ : ∃ y r, splitC c (cutL c l).2.1 = y :: r := by
        cases hh : splitC c (cutL c l).2.1 with
        | nil => exact absurd hh ne
        | cons y r => exact ⟨y, r, rfl⟩
      rw [hr] at e ⊢
      rw [join_two, e]
      have := (cut_back c l).2
      rw [hc, if_pos rfl] at this
      exact this.symm
/-- What is joined of parts without that byte, parted, is these parts. -/
theorem split_join (c : UInt8) : ∀ (p : List (List UInt8)), p ≠ [] → (∀ x ∈ p, c ∉ x) → splitC c (join p [c]) = p
  | [], h, _ => absurd rfl h
  | [x], _, hx => by
    rw [join_one, split_miss (by rw [cut_not c x (hx x (by simp))])]
  | x :: y :: r, _, hx => by
    have e := cut_app c x (join (y :: r) [c]) (hx x (by simp))
    rw [join_two, split_hit (by rw [e]), e, split_join c (y :: r) (by simp) (fun z hz => hx z (by simp [hz]))]

theorem split_parts (c : UInt8) : ∀ (f : Nat) (l : List UInt8), l.length < f → ∀ x ∈ splitC c l, c ∉ x
  | 0, l, h => absurd h (by omega)
  | f + 1, l, h => by
    cases hc : (cutL c l).2.2
    · rw [split_miss hc]
      intro x hx
      obtain rfl := List.mem_singleton.1 hx
      have := (cut_back c x)
      rw [hc, if_neg (by decide), List.append_nil] at this
      rw [this.2]
      exact this.1
    · have hl := cut_len c l
      rw [hc, if_pos rfl] at hl
      rw [split_hit hc]
      intro x hx
      rcases List.mem_cons.1 hx with rfl | hx
      · exact (cut_back c l).1
      · exact split_parts c f _ (by omega) x hx
/-- At most so many cuts. -/
def splitK (c : UInt8) : Nat → List UInt8 → List (List UInt8)
  | 0, l => [l]
  | k + 1, l => if (cutL c l).2.2 then (cutL c l).1 :: splitK c k (cutL c l).2.1 else [l]

theorem splitK_all (c : UInt8) : ∀ (k : Nat) (l : List UInt8), (splitC c l).length ≤ k + 1 → splitK c k l = splitC c l
  | 0, l, h => by
    cases hc : (cutL c l).2.2
    · rw [split_miss hc]; rfl
    · rw [split_hit hc] at h
      have := (join_split c _ (cutL c l).2.1 (Nat.lt_succ_self _)).2
      have := List.length_pos_iff.2 this
      rw [List.length_cons] at h
      omega
  | k + 1, l, h => by
    show (if _ then _ else _) = _
    cases hc : (cutL c l).2.2
    · rw [split_miss hc]; rfl
    · rw [split_hit hc] at h ⊢
      rw [if_pos rfl, splitK_all c k _ (by simpa using h)]

theorem splitK_more (c : UInt8) : ∀ (k : Nat) (l : List UInt8), k + 1 < (splitC c l).length → (splitK c k l).length = k + 1 ∧ ∃ x ∈ splitK c k l, c ∈ x
  | 0, l, h => by
    refine ⟨rfl, l, by simp [splitK], ?_⟩
    cases hc : (cutL c l).2.2
    · rw [split_miss hc] at h; simp at h
    · have := (cut_back c l).2
      rw [hc, if_pos rfl] at this
      rw [this]; simp
  | k + 1, l, h => by
    cases hc : (cutL c l).2.2
    · rw [split_miss hc] at h; simp at h
    · rw [split_hit hc] at h
      obtain ⟨h1, x, h2, h3⟩ := splitK_more c k (cutL c l).2.1 (by simpa using h)
      have e : splitK c (k + 1) l = (cutL c l).1 :: splitK c k (cutL c l).2.1 := by
        show (if _ then _ else _) = _
        rw [if_pos hc]
      rw [e]
      exact ⟨by simp [h1], x, by simp [h2], h3⟩

theorem itoa_no {c : UInt8} (x : Int) (h : c.toNat < 45 ∨ (45 < c.toNat ∧ c.toNat < 48) ∨ 57 < c.toNat) : c ∉ itoa x := by
  intro q
  rcases lt_or_geI x 0 with p | p
  · rw [itoa_min p] at q
    rcases List.mem_cons.1 q with q | q
    · rw [q] at h
      have h45 : (45 : UInt8).toNat = 45 := rfl
      omega
    · have := dec_dig _ _ (Nat.lt_succ_self _) c q
      omega
  · rw [itoa_pos p] at q
    have := dec_dig _ _ (Nat.lt_succ_self _) c q
    omega

theorem numL_no {c : UInt8} {l : List UInt8} (h : c.toNat < 45 ∨ (45 < c.toNat ∧ c.toNat < 48) ∨ 57 < c.toNat) (hc : c ∈ l) : numL l = none := by
  cases e : numL l with
  | none => rfl
  | some x =>
    have := ((numL_iff l x).1 e).1
    rw [← this] at hc
    exact absurd hc (itoa_no x h)
def numV (l : List UInt8) : Int := (numL l).getD 0
/-- The text of numbers, a comma between two. -/
def vecT (xs : List Int) : List UInt8 := join (xs.map itoa) [44]

theorem vecT_split {xs : List Int} (h : xs ≠ []) : splitC 44 (vecT xs) = xs.map itoa :=
  split_join 44 _ (by simpa using h) (fun x hx => by
    obtain ⟨y, _, rfl⟩ := List.mem_map.1 hx
    exact itoa_no y (.inl (by decide)))

theorem vecT_inj {xs ys : List Int} (hx : xs ≠ []) (hy : ys ≠ []) (h : vecT xs = vecT ys) : xs = ys := by
  have := vecT_split hx
  rw [h, vecT_split hy] at this
  have inj : ∀ a b : List Int, b.map itoa = a.map itoa → b = a := by
    intro a
    induction a with
    | nil => intro b h; simpa using h
    | cons x a ih =>
      intro b h
      cases b with
      | nil => simp at h
      | cons y b =>
        simp only [List.map_cons, List.cons.injEq] at h
        rw [itoa_inj h.1, ih b h.2]
  exact (inj _ _ this).symm
/-- All parts are read. -/
def allNum (p : List (List UInt8)) : Bool := p.all fun x => (numL x).isSome

theorem all_map : ∀ {p : List (List UInt8)}, allNum p = true → (p.map numV).map itoa = p
  | [], _ => rfl
  | x :: p, h => by
    unfold allNum at h
    rw [List.all_cons, Bool.and_eq_true] at h
    obtain ⟨y, hy⟩ := Option.isSome_iff_exists.1 h.1
    have e : numV x = y := by unfold numV; rw [hy]; rfl
    rw [List.map_cons, List.map_cons, e, ((numL_iff x y).1 hy).1, all_map (p := p) h.2]

theorem all_itoa : ∀ {xs : List Int}, (∀ x ∈ xs, -9999999999999999 ≤ x ∧ x ≤ 9999999999999999) → allNum (xs.map itoa) = true ∧ (xs.map itoa).map numV = xs
  | [], _ => ⟨rfl, rfl⟩
  | x :: xs, h => by
    obtain ⟨a, b⟩ := all_itoa (xs := xs) fun y hy => h y (by simp [hy])
    have hx := h x (by simp)
    have hn := numL_itoa hx.1 hx.2
    refine ⟨?_, ?_⟩
    · unfold allNum at a ⊢
      rw [List.map_cons, List.all_cons, hn, a]; rfl
    · rw [List.map_cons, List.map_cons, b]
      unfold numV
      rw [hn]; rfl
end Go.Proofs.YtggjcccdeaadbaaGreatDoor
