/- Numbers in decimal, plain: what is read, and what is written; no model in this text. -/
import Derived.Lib.ItoaNum
import Derived.Lib.ParseIntB
import Derived.Lib.Join
import Derived.Lib.Split
namespace Go.Proofs.YtpnppabpogedeaaDoor
open Go.Lib
set_option linter.unusedSimpArgs false
set_option linter.unusedVariables false

theorem lt_or_geI (a b : Int) : a < b ∨ b ≤ a := by omega

theorem head_app {l r : List UInt8} (h : l ≠ []) : (l ++ r).head? = l.head? := by
  cases l with
  | nil => exact absurd rfl h
  | cons c l => rfl
/-- What digits come to, behind acc. -/
def digsN (acc : Nat) : List UInt8 → Option Nat
  | [] => some acc
  | c :: r => if 48 ≤ c.toNat ∧ c.toNat ≤ 57 then digsN (acc * 10 + (c.toNat - 48)) r else none

theorem digs_snoc (c : UInt8) : ∀ (l : List UInt8) (acc : Nat), digsN acc (l ++ [c]) = (digsN acc l).bind fun v => if 48 ≤ c.toNat ∧ c.toNat ≤ 57 then some (v * 10 + (c.toNat - 48)) else none
  | [], acc => rfl
  | x :: l, acc => by
    show (if _ then digsN _ (l ++ [c]) else none) = (if _ then digsN _ l else none).bind _
    split
    · exact digs_snoc c l _
    · rfl

theorem byte_of {c : UInt8} (h : 48 ≤ c.toNat ∧ c.toNat ≤ 57) : UInt8.ofNat (48 + (c.toNat - 48)) = c := by
  rw [show 48 + (c.toNat - 48) = c.toNat by omega]; simp

theorem toNat_dig {d : Nat} (h : d < 10) : (UInt8.ofNat (48 + d)).toNat = 48 + d := by
  rw [UInt8.toNat_ofNat']; omega

theorem dec_small {u : Nat} (h : u < 10) : decDigits u = [UInt8.ofNat (48 + u)] := decDigits_one h

theorem dec_big {u : Nat} (h : ¬ u < 10) : decDigits u = decDigits (u / 10) ++ [UInt8.ofNat (48 + u % 10)] := by
  rw [decDigits, dif_neg h]

theorem digs_dec : ∀ (f u : Nat), u < f → digsN 0 (decDigits u) = some u
  | 0, u, h => absurd h (by omega)
  | f + 1, u, h => by
    by_cases h1 : u < 10
    · rw [dec_small h1]
      show (if _ then _ else _) = _
      rw [toNat_dig h1, if_pos (by omega)]
      show some _ = some _
      congr 1
      omega
    · rw [dec_big h1, digs_snoc, digs_dec f (u / 10) (by omega)]
      show (if _ then _ else _) = _
      rw [toNat_dig (Nat.mod_lt _ (by omega)), if_pos (by omega)]
      congr 1
      omega

theorem dec_inj {a b : Nat} (h : decDigits a = decDigits b) : a = b := by
  have p := digs_dec (a + 1) a (by omega)
  rw [h, digs_dec (b + 1) b (by omega)] at p
  exact (Option.some.inj p).symm

theorem dec_ne (u : Nat) : decDigits u ≠ [] := by
  intro h
  have := decDigits_length u
  rw [h] at this
  have := nDigits_pos u
  simp at *
  omega
/-- The first digit of what is not 0 is not 0. -/
theorem dec_head : ∀ (f u : Nat), u < f → (decDigits u).head? = some 48 → u = 0
  | 0, u, h, _ => absurd h (by omega)
  | f + 1, u, h, e => by
    by_cases h1 : u < 10
    · rw [dec_small h1] at e
      have e' := Option.some.inj e
      have := toNat_dig h1
      rw [e'] at this
      have h48 : (48 : UInt8).toNat = 48 := rfl
      omega
    · rw [dec_big h1, head_app (dec_ne _)] at e
      have := dec_head f (u / 10) (by omega) e
      omega

theorem dec_dig : ∀ (f u : Nat), u < f → ∀ c ∈ decDigits u, 48 ≤ c.toNat ∧ c.toNat ≤ 57
  | 0, u, h => absurd h (by omega)
  | f + 1, u, h => fun c hc => by
    by_cases h1 : u < 10
    · rw [dec_small h1] at hc
      obtain rfl := List.mem_singleton.1 hc
      rw [toNat_dig h1]; omega
    · rw [dec_big h1] at hc
      rcases List.mem_append.1 hc with hc | hc
      · exact dec_dig f (u / 10) (by omega) c hc
      · obtain rfl := List.mem_singleton.1 hc
        rw [toNat_dig (Nat.mod_lt _ (by omega))]; omega
/-- What is read of digits without a 0 ahead, written again, is these digits. -/
theorem dec_digs : ∀ (k : Nat) (l : List UInt8) (n : Nat), l.length = k + 1 → (l.head? = some 48 → k = 0) → digsN 0 l = some n → decDigits n = l
  | 0, l, n, hl, _, h => by
    match l, hl with
    | [c], _ =>
      have h' : (if 48 ≤ c.toNat ∧ c.toNat ≤ 57 then some (0 * 10 + (c.toNat - 48)) else none) = some n := h
      by_cases hc : 48 ≤ c.toNat ∧ c.toNat ≤ 57
      · rw [if_pos hc] at h'
        obtain rfl := Option.some.inj h'
        rw [show 0 * 10 + (c.toNat - 48) = c.toNat - 48 by omega, dec_small (by omega), byte_of hc]
      · rw [if_neg hc] at h'; cases h'
  | k + 1, l, n, hl, hh, h => by
    rcases List.eq_nil_or_concat l with rfl | ⟨l', c, rfl⟩
    · simp at hl
    · rw [List.concat_eq_append] at h hl hh ⊢
      have hl' : l'.length = k + 1 := by simpa using hl
      have hne : l' ≠ [] := by intro e; rw [e] at hl'; simp at hl'
      rw [digs_snoc] at h
      obtain ⟨v, hv, hc⟩ := Option.bind_eq_some_iff.1 h
      by_cases hd : 48 ≤ c.toNat ∧ c.toNat ≤ 57
      · rw [if_pos hd] at hc
        obtain rfl := Option.some.inj hc
        have hh' : l'.head? ≠ some 48 := fun e => by
          have := hh (by rw [head_app hne]; exact e)
          omega
        have ih := dec_digs k l' v hl' (fun e => absurd e hh') hv
        have hv0 : v ≠ 0 := fun e => by
          rw [e] at ih
          rw [← ih] at hh'
          exact hh' (by rw [dec_small (by omega)]; rfl)
        rw [dec_big (by omega), show (v * 10 + (c.toNat - 48)) / 10 = v by omega, show (v * 10 + (c.toNat - 48)) % 10 = c.toNat - 48 by omega, ih, byte_of hd]
      · rw [if_neg hd] at hc; cases hc
/-- What is read of digits, 16 at most. -/
def natL (l : List UInt8) : Option Nat := if l.length < 1 ∨ 16 < l.length ∨ (l.head? = some 48 ∧ 1 < l.length) then none else digsN 0 l

theorem natL_iff (l : List UInt8) (n : Nat) : natL l = some n ↔ decDigits n = l ∧ l.length ≤ 16 := by
  unfold natL
  constructor
  · intro h
    split at h
    · cases h
    · rename_i hn
      exact ⟨dec_digs (l.length - 1) l n (by omega) (fun e => by rcases Nat.lt_or_ge 1 l.length with q | q; exact absurd (.inr (.inr ⟨e, q⟩)) hn; omega) h, by omega⟩
  · rintro ⟨rfl, h⟩
    have h0 : 1 ≤ (decDigits n).length := by rw [decDigits_length]; exact nDigits_pos n
    rw [if_neg, digs_dec (n + 1) n (by omega)]
    rintro (q | q | ⟨q, q'⟩)
    · omega
    · omega
    · have := dec_head (n + 1) n (by omega) q
      subst this
      rw [dec_small (by omega)] at q'
      simp at q'
/-- The sign ahead is a - and no more. -/
def minusL (l : List UInt8) : Bool := decide (l.head? = some 45)
def magL (l : List UInt8) : List UInt8 := if minusL l then l.tail else l
/-- What is read in decimal. -/
def numL (l : List UInt8) : Option Int :=
  if minusL l then (if l.tail.head? = some 48 then none else (natL l.tail).map fun (n : Nat) => -(n : Int)) else (natL l).map fun (n : Nat) => (n : Int)

theorem itoa_pos {x : Int} (h : 0 ≤ x) : itoa x = decDigits x.toNat := by unfold itoa; rw [if_neg (by omega)]

theorem itoa_min {x : Int} (h : x < 0) : itoa x = 45 :: decDigits x.natAbs := by unfold itoa; rw [if_pos h]

theorem numL_iff (l : List UInt8) (x : Int) : numL l = some x ↔ itoa x = l ∧ (magL l).length ≤ 16 := by
  unfold numL magL
  cases hm : minusL l
  · have hne : l.head? ≠ some 45 := of_decide_eq_false hm
    rw [if_neg (by decide), if_neg (by decide), Option.map_eq_some_iff]
    constructor
    · rintro ⟨n, hn, rfl⟩
      obtain ⟨a, b⟩ := (natL_iff l n).1 hn
      exact ⟨by rw [itoa_pos (by omega)]; exact a, b⟩
    · rintro ⟨e, hl⟩
      have h0 : 0 ≤ x := by
        rcases lt_or_geI x 0 with q | q
        · rw [itoa_min q] at e
          rw [← e] at hne
          exact absurd rfl hne
        · exact q
      rw [itoa_pos h0] at e
      exact ⟨x.toNat, (natL_iff l _).2 ⟨e, hl⟩, by omega⟩
  · have he : l.head? = some 45 := of_decide_eq_true hm
    obtain ⟨r, rfl⟩ : ∃ r, l = 45 :: r := by
      cases l with
      | nil => cases he
      | cons c r => exact ⟨r, by rw [Option.some.inj he]⟩
    rw [if_pos rfl, if_pos rfl, List.tail_cons]
    constructor
    · intro h
      split at h
      · cases h
      · rename_i h48
        obtain ⟨n, hn, rfl⟩ := Option.map_eq_some_iff.1 h
        obtain ⟨a, b⟩ := (natL_iff r n).1 hn
        have hn0 : n ≠ 0 := fun e => by
          subst e
          rw [← a] at h48
          exact h48 (by rw [dec_small (by omega)]; rfl)
        refine ⟨?_, b⟩
        rw [itoa_min (by omega), show (-(n : Int)).natAbs = n by omega, a]
    · rintro ⟨e, hl⟩
      rcases lt_or_geI x 0 with q | q
      · rw [itoa_min q] at e
        have e' : decDigits x.natAbs = r := (List.cons.inj e).2
        have h48 : r.head? ≠ some 48 := fun q' => by
          rw [← e'] at q'
          have := dec_head (x.natAbs + 1) x.natAbs (by omega) q'
          omega
        rw [if_neg h48, (natL_iff r x.natAbs).2 ⟨e', hl⟩]
        show some (-((x.natAbs : Nat) : Int)) = some _
        congr 1
        omega
      · rw [itoa_pos q] at e
        have := dec_dig (x.toNat + 1) x.toNat (by omega) 45 (by rw [e]; simp)
        have h45 : (45 : UInt8).toNat = 45 := rfl
        omega

theorem itoa_inj {x y : Int} (h : itoa x = itoa y) : x = y := by
  have hd : ∀ (a b : Nat), decDigits a ≠ 45 :: decDigits b := fun a b e => by
    have := dec_dig (a + 1) a (by omega) 45 (by rw [e]; simp)
    have h45 : (45 : UInt8).toNat = 45 := rfl
    omega
  rcases lt_or_geI x 0 with p | p <;> rcases lt_or_geI y 0 with q | q
  · rw [itoa_min p, itoa_min q] at h
    have := dec_inj (List.cons.inj h).2
    omega
  · rw [itoa_min p, itoa_pos q] at h
    exact absurd h.symm (hd _ _)
  · rw [itoa_pos p, itoa_min q] at h
    exact absurd h (hd _ _)
  · rw [itoa_pos p, itoa_pos q] at h
    have := dec_inj h
    omega

theorem digs_acc : ∀ (l : List UInt8) (acc v : Nat), digsN acc l = some v → acc ≤ v
  | [], acc, v, h => by cases h; exact Nat.le_refl _
  | c :: l, acc, v, h => by
    unfold digsN at h
    split at h
    · have := digs_acc l _ v h; omega
    · cases h

theorem parse_digs (M : Nat) : ∀ (l : List UInt8) (acc v : Nat), digsN acc l = some v → v ≤ M → v < 1844674407370955162 → parseUintM M acc l = .ok v
  | [], acc, v, h, _, _ => by cases h; rfl
  | c :: l, acc, v, h, hM, hv => by
    unfold digsN at h
    unfold parseUintM
    split at h
    · rename_i hc
      have := digs_acc l _ v h
      rw [if_pos hc, if_neg (by omega), if_neg (by omega)]
      exact parse_digs M l _ v h hM hv
    · cases h

theorem dec_lt16 {n : Nat} (h : (decDigits n).length ≤ 16) : n < 10000000000000000 := by
  rw [decDigits_length] at h
  have a := lt_pow_nDigits n
  have b : 10 ^ nDigits n ≤ 10 ^ 16 := Nat.pow_le_pow_right (by omega) h
  have c : (10 : Nat) ^ 16 = 10000000000000000 := by decide
  omega
/-- What is written in 16 digits at most is read. -/
theorem parse_itoa {l : List UInt8} {x : Int} (h : numL l = some x) : parseIntB 64 l = .ok x := by
  obtain ⟨e, hl⟩ := (numL_iff l x).1 h
  unfold magL at hl
  have hM : ∀ n : Nat, n < 10000000000000000 → parseUintB 64 (decDigits n) = .ok n := fun n hn => by
    unfold parseUintB
    rw [if_neg (dec_ne n)]
    exact parse_digs _ _ 0 n (digs_dec (n + 1) n (by omega)) (by omega) (by omega)
  rcases lt_or_geI x 0 with q | q
  · rw [itoa_min q] at e
    subst e
    have hm : minusL (45 :: decDigits x.natAbs) = true := rfl
    rw [hm, if_pos rfl, List.tail_cons] at hl
    have hn := dec_lt16 hl
    have h45 : (45 : UInt8).toNat = 45 := rfl
    show (match parseUintB 64 (if (45 : UInt8).toNat = 43 ∨ (45 : UInt8).toNat = 45 then decDigits x.natAbs else _) with | .syntax => _ | .range => _ | .ok u => _) = _
    rw [if_pos (.inr h45), hM _ hn]
    show (if ¬ (45 : UInt8).toNat = 45 ∧ _ then _ else if (45 : UInt8).toNat = 45 ∧ _ then _ else NumEnd.ok (if (45 : UInt8).toNat = 45 then _ else _)) = _
    rw [if_neg (by rw [h45]; omega), if_neg (by rw [h45]; omega), if_pos h45]
    congr 1
    omega
  · rw [itoa_pos q] at e
    subst e
    have hd := dec_dig (x.toNat + 1) x.toNat (by omega)
    obtain ⟨c, r, hcr⟩ : ∃ c r, decDigits x.toNat = c :: r := by
      cases hh : decDigits x.toNat with
      | nil => exact absurd hh (dec_ne _)
      | cons c r => exact ⟨c, r, rfl⟩
    have hc := hd c (by rw [hcr]; simp)
    have hm : minusL (decDigits x.toNat) = false := by
      unfold minusL
      rw [hcr]
      refine decide_eq_false fun e => ?_
      rw [Option.some.inj e] at hc
      have h45 : (45 : UInt8).toNat = 45 := rfl
      omega
    rw [hm, if_neg (by decide)] at hl
    have hn := dec_lt16 hl
    have hP := hM _ hn
    rw [hcr] at hP ⊢
    show (match parseUintB 64 (if c.toNat = 43 ∨ c.toNat = 45 then r else c :: r) with | .syntax => _ | .range => _ | .ok u => _) = _
    rw [if_neg (by omega), hP]
    show (if ¬ c.toNat = 45 ∧ _ then _ else if c.toNat = 45 ∧ _ then _ else NumEnd.ok (if c.toNat = 45 then _ else _)) = _
    rw [if_neg (by omega), if_neg (by omega), if_neg (by omega)]
    congr 1
    omega

theorem numL_bounds {l : List UInt8} {x : Int} (h : numL l = some x) : -9999999999999999 ≤ x ∧ x ≤ 9999999999999999 := by
  obtain ⟨e, hl⟩ := (numL_iff l x).1 h
  unfold magL at hl
  rcases lt_or_geI x 0 with q | q
  · rw [itoa_min q] at e
    subst e
    rw [show minusL (45 :: decDigits x.natAbs) = true from rfl, if_pos rfl, List.tail_cons] at hl
    have := dec_lt16 hl
    omega
  · rw [itoa_pos q] at e
    have hl' : (decDigits x.toNat).length ≤ 17 := by
      rw [e]
      split at hl
      · rw [List.length_tail] at hl; omega
      · omega
    have a := lt_pow_nDigits x.toNat
    cases hm : minusL l
    · rw [hm, if_neg (by decide), ← e] at hl
      have := dec_lt16 hl
      omega
    · have he : l.head? = some 45 := of_decide_eq_true hm
      have := dec_dig (x.toNat + 1) x.toNat (by omega) 45 (by rw [e]; exact List.mem_of_mem_head? he)
      have h45 : (45 : UInt8).toNat = 45 := rfl
      omega
/-- A number of at most 16 digits comes back from its text. -/
theorem numL_itoa {x : Int} (h0 : -9999999999999999 ≤ x) (h1 : x ≤ 9999999999999999) : numL (itoa x) = some x := by
  have hs : ∀ n : Nat, n ≤ 9999999999999999 → (decDigits n).length ≤ 16 := fun n hn => by
    rw [decDigits_length]
    rcases Nat.lt_or_ge 16 (nDigits n) with q | q
    · exfalso
      have : ∀ (k n : Nat), k + 1 < nDigits n → 10 ^ (k + 1) ≤ n := by
        intro k
        induction k with
        | zero =>
          intro n h
          rcases Nat.lt_or_ge n 10 with p | p
          · rw [nDigits_small p] at h; omega
          · simpa using p
        | succ k ih =>
          intro n h
          rcases Nat.lt_or_ge n 10 with p | p
          · rw [nDigits_small p] at h; omega
          · rw [nDigits_big (by omega)] at h
            have := ih (n / 10) (by omega)
            rw [Nat.pow_succ]
            omega
      have := this 15 n (by omega)
      have c : (10 : Nat) ^ (15 + 1) = 10000000000000000 := by decide
      omega
    · exact q
  refine (numL_iff _ _).2 ⟨rfl, ?_⟩
  unfold magL
  rcases lt_or_geI x 0 with q | q
  · rw [itoa_min q]
    rw [show minusL (45 :: decDigits x.natAbs) = true from rfl, if_pos rfl, List.tail_cons]
    exact hs _ (by omega)
  · rw [itoa_pos q]
    split
    · rw [List.length_tail]; have := hs x.toNat (by omega); omega
    · exact hs _ (by omega)
end Go.Proofs.YtpnppabpogedeaaDoor
