/- Texts that are cut at a byte, joined, and read as lists of numbers; plain: no model in this text. -/
import Derived.Test.YtpnppabpogedeaaDoorSA0
namespace Go.Proofs.YtpnppabpogedeaaDoor
open Go.Lib
set_option linter.unusedSimpArgs false
set_option linter.unusedVariables false

def bs (l : List UInt8) : ByteArray := ⟨l.toArray⟩

theorem bs_list (l : List UInt8) : (bs l).data.toList = l := by simp [bs]

theorem bs_of (s : ByteArray) : bs s.data.toList = s := by cases s; simp [bs]

theorem bs_size (l : List UInt8) : (bs l).size = l.length := by simp [bs, ByteArray.size]

theorem bs_inj {a b : List UInt8} (h : bs a = bs b) : a = b := by rw [← bs_list a, h, bs_list]

theorem size_list (s : ByteArray) : s.size = s.data.toList.length := by
  cases s with | mk d => exact (Array.length_toList (xs := d)).symm

/-- What is ahead of the first such byte, what is behind it, and whether there is one. -/
def cutL (c : UInt8) : List UInt8 → List UInt8 × List UInt8 × Bool
  | [] => ([], [], false)
  | x :: r => if x = c then ([], r, true) else (x :: (cutL c r).1, (cutL c r).2)

theorem cut_hit (c : UInt8) : ∀ (k : Nat) (l : List UInt8), (∀ j, j < k → l[j]? ≠ some c) → l[k]? = some c → cutL c l = (l.take k, l.drop (k + 1), true)
  | _, [], _, h => by simp at h
  | 0, x :: r, _, h => by
    have : x = c := by simpa using h
    simp [cutL, this]
  | k + 1, x :: r, hn, h => by
    have hx : x ≠ c := fun e => hn 0 (by omega) (by simp [e])
    have ih := cut_hit c k r (fun j hj => by have := hn (j + 1) (by omega); simpa using this) (by simpa using h)
    simp [cutL, hx, ih]

theorem cut_miss (c : UInt8) : ∀ (l : List UInt8), (∀ j, j < l.length → l[j]? ≠ some c) → cutL c l = (l, [], false)
  | [], _ => rfl
  | x :: r, hn => by
    have hx : x ≠ c := fun e => hn 0 (by simp) (by simp [e])
    have ih := cut_miss c r (fun j hj => by have := hn (j + 1) (by simp; omega); simpa using this)
    simp [cutL, hx, ih]

theorem cut_not (c : UInt8) : ∀ (l : List UInt8), c ∉ l → cutL c l = (l, [], false) := fun l h =>
  cut_miss c l fun j hj e => h (List.mem_of_getElem? e)

theorem cut_app (c : UInt8) : ∀ (a b : List UInt8), c ∉ a → cutL c (a ++ c :: b) = (a, b, true)
  | [], b, _ => by simp [cutL]
  | x :: a, b, h => by
    have hx : x ≠ c := fun e => h (by simp [e])
    have ih := cut_app c a b (fun q => h (by simp [q]))
    simp [cutL, hx, ih]

theorem cut_back (c : UInt8) : ∀ (l : List UInt8), c ∉ (cutL c l).1 ∧ l = (cutL c l).1 ++ (if (cutL c l).2.2 then c :: (cutL c l).2.1 else [])
  | [] => by simp [cutL]
  | x :: r => by
    by_cases hx : x = c
    · simp [cutL, hx]
    · obtain ⟨h1, h2⟩ := cut_back c r
      simp only [cutL, hx, if_false]
      refine ⟨fun q => ?_, ?_⟩
      · rcases List.mem_cons.1 q with q | q
        · exact hx q.symm
        · exact h1 q
      · rw [List.cons_append, ← h2]

theorem cut_len (c : UInt8) (l : List UInt8) : (cutL c l).2.1.length + (if (cutL c l).2.2 then 1 else 0) ≤ l.length := by
  have := congrArg List.length (cut_back c l).2
  rw [List.length_append] at this
  cases h : (cutL c l).2.2
  · rw [h] at this
    have : (cutL c l).2.1 = [] := by
      have : ∀ l : List UInt8, (cutL c l).2.2 = false → (cutL c l).2.1 = [] := by
        intro l
        induction l with
        | nil => intro _; rfl
        | cons x r ih =>
          intro h
          by_cases hx : x = c
          · simp [cutL, hx] at h
          · simp only [cutL, hx, if_false] at h ⊢
            exact ih h
      exact this l h
    rw [this]; simp
  · rw [h] at this
    simp at this ⊢
    omega
/-- All parts. -/
def splitF (c : UInt8) : Nat → List UInt8 → List (List UInt8)
  | 0, l => [l]
  | f + 1, l => if (cutL c l).2.2 then (cutL c l).1 :: splitF c f (cutL c l).2.1 else [l]
def splitC (c : UInt8) (l : List UInt8) : List (List UInt8) := splitF c (l.length + 1) l

theorem splitF_fuel (c : UInt8) : ∀ (f g : Nat) (l : List UInt8), l.length < f → l.length < g → splitF c f l = splitF c g l
  | 0, _, l, h, _ => absurd h (by omega)
  | _, 0, l, _, h => absurd h (by omega)
  | f + 1, g + 1, l, hf, hg => by
    unfold splitF
    cases h : (cutL c l).2.2
    · rfl
    · have := cut_len c l
      rw [h] at this
      simp only [if_true] at this ⊢
      rw [splitF_fuel c f g _ (by omega) (by omega)]

theorem split_hit {c : UInt8} {l : List UInt8} (h : (cutL c l).2.2 = true) : splitC c l = (cutL c l).1 :: splitC c (cutL c l).2.1 := by
  have := cut_len c l
  rw [h, if_pos rfl] at this
  show (if (cutL c l).2.2 then _ else _) = _
  rw [if_pos h, splitF_fuel c l.length ((cutL c l).2.1.length + 1) _ (by omega) (by omega)]
  rfl

theorem split_miss {c : UInt8} {l : List UInt8} (h : (cutL c l).2.2 = false) : splitC c l = [l] := by
  show (if (cutL c l).2.2 then _ else _) = _
  rw [h, if_neg (by decide)]

theorem join_two (c : UInt8) (x : List UInt8) (y : List UInt8) (r : List (List UInt8)) : join (x :: y :: r) [c] = x ++ c :: join (y :: r) [c] := by
  rw [join_cons, join_cons]
  simp [joinTail]
/-- What is parted, joined, is what it was. -/
theorem join_split (c : UInt8) : ∀ (f : Nat) (l : List UInt8), l.length < f → join (splitC c l) [c] = l ∧ splitC c l ≠ []
  | 0, l, h => absurd h (by omega)
  | f + 1, l, h => by
    cases hc : (cutL c l).2.2
    · rw [split_miss hc]
      exact ⟨join_one _ _, by simp⟩
    · have hl := cut_len c l
      rw [hc, if_pos rfl] at hl
      obtain ⟨e, ne⟩ := join_split c f (cutL c l).2.1 (by omega)
      rw [split_hit hc]
      refine ⟨?_, by simp⟩
      obtain ⟨y, r, hr⟩ : ∃ y r, splitC c (cutL c l).2.1 = y :: r := by
        cases hh : splitC c (cutL c l).2.1 with
        | nil => exact absurd hh ne
        | cons y r => exact ⟨y, r, rfl⟩
      rw [hr] at e ⊢
      rw [join_two, e]
      have := (cut_back c l).2
      rw [hc, if_pos rfl] at this
      exact this.symm
/-- What is joined of parts without that byte, parted, is these parts. -/
theorem split_join (c : UInt8) : ∀ (p : List (List UInt8)), p ≠ [] → (∀ x ∈ p, c ∉ x) → splitC c (join p [c]) = p
  | [], h, _ => absurd rfl h
  | [x], _, hx => by
    rw [join_one, split_miss (by rw [cut_not c x (hx x (by simp))])]
  | x :: y :: r, _, hx => by
    have e := cut_app c x (join (y :: r) [c]) (hx x (by simp))
    rw [join_two, split_hit (by rw [e]), e, split_join c (y :: r) (by simp) (fun z hz => hx z (by simp [hz]))]

theorem split_parts (c : UInt8) : ∀ (f : Nat) (l : List UInt8), l.length < f → ∀ x ∈ splitC c l, c ∉ x
  | 0, l, h => absurd h (by omega)
  | f + 1, l, h => by
    cases hc : (cutL c l).2.2
    · rw [split_miss hc]
      intro x hx
      obtain rfl := List.mem_singleton.1 hx
      have := (cut_back c x)
      rw [hc, if_neg (by decide), List.append_nil] at this
      rw [this.2]
      exact this.1
    · have hl := cut_len c l
      rw [hc, if_pos rfl] at hl
      rw [split_hit hc]
      intro x hx
      rcases List.mem_cons.1 hx with rfl | hx
      · exact (cut_back c l).1
      · exact split_parts c f _ (by omega) x hx
/-- At most so many cuts. -/
def splitK (c : UInt8) : Nat → List UInt8 → List (List UInt8)
  | 0, l => [l]
  | k + 1, l => if (cutL c l).2.2 then (cutL c l).1 :: splitK c k (cutL c l).2.1 else [l]

theorem splitK_all (c : UInt8) : ∀ (k : Nat) (l : List UInt8), (splitC c l).length ≤ k + 1 → splitK c k l = splitC c l
  | 0, l, h => by
    cases hc : (cutL c l).2.2
    · rw [split_miss hc]; rfl
    · rw [split_hit hc] at h
      have := (join_split c _ (cutL c l).2.1 (Nat.lt_succ_self _)).2
      have := List.length_pos_iff.2 this
      rw [List.length_cons] at h
      omega
  | k + 1, l, h => by
    show (if _ then _ else _) = _
    cases hc : (cutL c l).2.2
    · rw [split_miss hc]; rfl
    · rw [split_hit hc] at h ⊢
      rw [if_pos rfl, splitK_all c k _ (by simpa using h)]

theorem splitK_more (c : UInt8) : ∀ (k : Nat) (l : List UInt8), k + 1 < (splitC c l).length → (splitK c k l).length = k + 1 ∧ ∃ x ∈ splitK c k l, c ∈ x
  | 0, l, h => by
    refine ⟨rfl, l, by simp [splitK], ?_⟩
    cases hc : (cutL c l).2.2
    · rw [split_miss hc] at h; simp at h
    · have := (cut_back c l).2
      rw [hc, if_pos rfl] at this
      rw [this]; simp
  | k + 1, l, h => by
    cases hc : (cutL c l).2.2
    · rw [split_miss hc] at h; simp at h
    · rw [split_hit hc] at h
      obtain ⟨h1, x, h2, h3⟩ := splitK_more c k (cutL c l).2.1 (by simpa using h)
      have e : splitK c (k + 1) l = (cutL c l).1 :: splitK c k (cutL c l).2.1 := by
        show (if _ then _ else _) = _
        rw [if_pos hc]
      rw [e]
      exact ⟨by simp [h1], x, by simp [h2], h3⟩

theorem itoa_no {c : UInt8} (x : Int) (h : c.toNat < 45 ∨ (45 < c.toNat ∧ c.toNat < 48) ∨ 57 < c.toNat) : c ∉ itoa x := by
  intro q
  rcases lt_or_geI x 0 with p | p
  · rw [itoa_min p] at q
    rcases List.mem_cons.1 q with q | q
    · rw [q] at h
      have h45 : (45 : UInt8).toNat = 45 := rfl
      omega
    · have := dec_dig _ _ (Nat.lt_succ_self _) c q
      omega
  · rw [itoa_pos p] at q
    have := dec_dig _ _ (Nat.lt_succ_self _) c q
    omega

theorem numL_no {c : UInt8} {l : List UInt8} (h : c.toNat < 45 ∨ (45 < c.toNat ∧ c.toNat < 48) ∨ 57 < c.toNat) (hc : c ∈ l) : numL l = none := by
  cases e : numL l with
  | none => rfl
  | some x =>
    have := ((numL_iff l x).1 e).1
    rw [← this] at hc
    exact absurd hc (itoa_no x h)
def numV (l : List UInt8) : Int := (numL l).getD 0
/-- The text of numbers, a comma between two. -/
def vecT (xs : List Int) : List UInt8 := join (xs.map itoa) [44]

theorem vecT_split {xs : List Int} (h : xs ≠ []) : splitC 44 (vecT xs) = xs.map itoa :=
  split_join 44 _ (by simpa using h) (fun x hx => by
    obtain ⟨y, _, rfl⟩ := List.mem_map.1 hx
    exact itoa_no y (.inl (by decide)))

theorem vecT_inj {xs ys : List Int} (hx : xs ≠ []) (hy : ys ≠ []) (h : vecT xs = vecT ys) : xs = ys := by
  have := vecT_split hx
  rw [h, vecT_split hy] at this
  have inj : ∀ a b : List Int, b.map itoa = a.map itoa → b = a := by
    intro a
    induction a with
    | nil => intro b h; simpa using h
    | cons x a ih =>
      intro b h
      cases b with
      | nil => simp at h
      | cons y b =>
        simp only [List.map_cons, List.cons.injEq] at h
        rw [itoa_inj h.1, ih b h.2]
  exact (inj _ _ this).symm
/-- All parts are read. -/
def allNum (p : List (List UInt8)) : Bool := p.all fun x => (numL x).isSome

theorem all_map : ∀ {p : List (List UInt8)}, allNum p = true → (p.map numV).map itoa = p
  | [], _ => rfl
  | x :: p, h => by
    unfold allNum at h
    rw [List.all_cons, Bool.and_eq_true] at h
    obtain ⟨y, hy⟩ := Option.isSome_iff_exists.1 h.1
    have e : numV x = y := by unfold numV; rw [hy]; rfl
    rw [List.map_cons, List.map_cons, e, ((numL_iff x y).1 hy).1, all_map (p := p) h.2]

theorem all_itoa : ∀ {xs : List Int}, (∀ x ∈ xs, -9999999999999999 ≤ x ∧ x ≤ 9999999999999999) → allNum (xs.map itoa) = true ∧ (xs.map itoa).map numV = xs
  | [], _ => ⟨rfl, rfl⟩
  | x :: xs, h => by
    obtain ⟨a, b⟩ := all_itoa (xs := xs) fun y hy => h y (by simp [hy])
    have hx := h x (by simp)
    have hn := numL_itoa hx.1 hx.2
    refine ⟨?_, ?_⟩
    · unfold allNum at a ⊢
      rw [List.map_cons, List.all_cons, hn, a]; rfl
    · rw [List.map_cons, List.map_cons, b]
      unfold numV
      rw [hn]; rfl
end Go.Proofs.YtpnppabpogedeaaDoor
