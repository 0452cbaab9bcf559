/- A command that is read out of a text; plain. -/
import Derived.Test.YtggjcccdeaadbaaGreatDoorZ23
import Derived.Test.YtggjcccdeaadbaaGreatDoorZ22
import Derived.Test.YtggjcccdeaadbaaGreatDoorZ29
import Derived.Test.YtggjcccdeaadbaaGreatDoorZ28
import Derived.Test.YtggjcccdeaadbaaGreatDoorZ19
import Derived.BigQuiet
namespace Go.Proofs.YtggjcccdeaadbaaGreatDoor
open Go.RowKit
set_option maxRecDepth 8000
open Go.Lib
set_option linter.unusedSimpArgs false
set_option linter.unusedVariables false

structure Cm where
  k : Int
  a : Int
  b : Int
  c : Int
  xs : List Int
def cmT (x : Cm) : List UInt8 := cmdT x.k x.a x.b x.c x.xs.length x.xs
def nmW (k : Int) : List UInt8 := if k = 1 then [100, 105, 109] else if k = 2 then [112, 117, 116] else if k = 3 then [100, 114, 111, 112] else if k = 4 then [98, 117, 105, 108, 100] else if k = 5 then [116, 105, 99, 107] else if k = 6 then [110, 101, 97, 114] else if k = 7 then [119, 105, 116, 104, 105, 110] else []
def cmN (k : Int) : Nat := if k = 1 then 1 else if k = 2 then 2 else if k = 3 then 1 else if k = 4 then 0 else if k = 5 then 1 else if k = 6 then 3 else if k = 7 then 3 else 0
def vcK (k : Int) : Bool := decide (k = 2) || (decide (k = 6) || decide (k = 7))
def nameK (w : List UInt8) : Int := if w = [100, 105, 109] then 1 else if w = [112, 117, 116] then 2 else if w = [100, 114, 111, 112] then 3 else if w = [98, 117, 105, 108, 100] then 4 else if w = [116, 105, 99, 107] then 5 else if w = [110, 101, 97, 114] then 6 else if w = [119, 105, 116, 104, 105, 110] then 7 else 0
def numAt (W : List (List UInt8)) (n j : Nat) : Int := if j < n ∧ j + 1 < W.length then numV (W.getD (j + 1) []) else 0
/-- The command that the model reads, before it is held against its text. -/
def rdW (W : List (List UInt8)) : Cm := ⟨nameK (W.headD []), numAt W (cmN (nameK (W.headD []))) 0, numAt W (cmN (nameK (W.headD []))) 1, numAt W (cmN (nameK (W.headD []))) 2, if vcK (nameK (W.headD [])) then readVL (W.getLastD []) else []⟩
def rdC (l : List UInt8) : Cm := rdW (splitC 32 l)
def rdCB (l : List UInt8) : Bool := decide (l.length ≤ 200) && (decide ((rdC l).k ≠ 0) && decide (cmT (rdC l) = l))
def readC (l : List UInt8) : Cm := if rdCB l then rdC l else ⟨0, 0, 0, 0, []⟩

theorem kind_cases {k : Int} (h : kindB k = true) : k = 1 ∨ k = 2 ∨ k = 3 ∨ k = 4 ∨ k = 5 ∨ k = 6 ∨ k = 7 := by
  have h' : 1 ≤ k ∧ k ≤ 7 := of_decide_eq_true h
  omega

theorem nameK_nmW {k : Int} (h : kindB k = true) : nameK (nmW k) = k := by
  rcases kind_cases h with rfl | rfl | rfl | rfl | rfl | rfl | rfl <;> decide

theorem nmW_facts {k : Int} (h : kindB k = true) : (nmW k).length ≤ 6 ∧ (32 : UInt8) ∉ nmW k ∧ cmN k ≤ 3 := by
  rcases kind_cases h with rfl | rfl | rfl | rfl | rfl | rfl | rfl <;> decide

theorem nameK_kind {w : List UInt8} (h : nameK w ≠ 0) : kindB (nameK w) = true ∧ nmW (nameK w) = w := by
  by_cases h1 : w = [100, 105, 109]
  · subst h1; exact ⟨by decide, by decide⟩
  by_cases h2 : w = [112, 117, 116]
  · subst h2; exact ⟨by decide, by decide⟩
  by_cases h3 : w = [100, 114, 111, 112]
  · subst h3; exact ⟨by decide, by decide⟩
  by_cases h4 : w = [98, 117, 105, 108, 100]
  · subst h4; exact ⟨by decide, by decide⟩
  by_cases h5 : w = [116, 105, 99, 107]
  · subst h5; exact ⟨by decide, by decide⟩
  by_cases h6 : w = [110, 101, 97, 114]
  · subst h6; exact ⟨by decide, by decide⟩
  by_cases h7 : w = [119, 105, 116, 104, 105, 110]
  · subst h7; exact ⟨by decide, by decide⟩
  exact absurd (by unfold nameK; rw [if_neg h1, if_neg h2, if_neg h3, if_neg h4, if_neg h5, if_neg h6, if_neg h7]) h

theorem cmdW_eq {k : Int} (h : kindB k = true) (a b c : Int) (xs : List Int) : cmdW k a b c xs = nmW k :: (([a, b, c].take (cmN k)).map itoa ++ (if vcK k then [vecTB xs] else [])) := by
  rcases kind_cases h with rfl | rfl | rfl | rfl | rfl | rfl | rfl <;> rfl

theorem cmdB_facts {k a b c : Int} {n : Nat} {xs : List Int} (h : cmdB k a b c n xs = true) : kindB k = true ∧ (0 ≤ a ∧ a ≤ 1125899906842624) ∧ (0 ≤ b ∧ b ≤ 255) ∧ (0 ≤ c ∧ c ≤ 1000) ∧ (vcK k = true → vecOkB xs = true) := by
  have hk : kindB k = true := by
    cases q : kindB k
    · rw [cmdB_no q] at h; cases h
    · rfl
  refine ⟨hk, ?_⟩
  rcases kind_cases hk with rfl | rfl | rfl | rfl | rfl | rfl | rfl
  · obtain ⟨p0, p1, p2, p3⟩ := fits_facts (show fitsB 1 8 0 0 0 0 false a b c n xs = true from h)
    exact ⟨by omega, by omega, by omega, fun q => absurd q (by decide)⟩
  · obtain ⟨p0, p1, p2, p3⟩ := fits_facts (show fitsB 1 9999 0 255 0 0 true a b c n xs = true from h)
    exact ⟨by omega, by omega, by omega, fun _ => p3 rfl⟩
  · obtain ⟨p0, p1, p2, p3⟩ := fits_facts (show fitsB 1 9999 0 0 0 0 false a b c n xs = true from h)
    exact ⟨by omega, by omega, by omega, fun q => absurd q (by decide)⟩
  · obtain ⟨p0, p1, p2, p3⟩ := fits_facts (show fitsB 0 0 0 0 0 0 false a b c n xs = true from h)
    exact ⟨by omega, by omega, by omega, fun q => absurd q (by decide)⟩
  · obtain ⟨p0, p1, p2, p3⟩ := fits_facts (show fitsB 1 60 0 0 0 0 false a b c n xs = true from h)
    exact ⟨by omega, by omega, by omega, fun q => absurd q (by decide)⟩
  · obtain ⟨p0, p1, p2, p3⟩ := fits_facts (show fitsB 1 20 0 255 0 1000 true a b c n xs = true from h)
    exact ⟨by omega, by omega, by omega, fun _ => p3 rfl⟩
  · obtain ⟨p0, p1, p2, p3⟩ := fits_facts (show fitsB 0 1125899906842624 0 255 0 1000 true a b c n xs = true from h)
    exact ⟨by omega, by omega, by omega, fun _ => p3 rfl⟩

theorem cmdT_yes {k a b c : Int} {n : Nat} {xs : List Int} (h : cmdB k a b c n xs = true) : cmdT k a b c n xs = join (cmdW k a b c xs) [32] := by unfold cmdT; rw [h, if_pos rfl]

theorem take3_mem {a b c : Int} {n : Nat} {x : Int} (h : x ∈ [a, b, c].take n) : x = a ∨ x = b ∨ x = c := by
  have := List.mem_of_mem_take h
  simpa using this

theorem take3 {L : List Int} {n : Nat} (hn : n ≤ 3) (hl : L.length = n) : [nth L 0, nth L 1, nth L 2].take n = L := by
  subst hl
  match L, hn with
  | [], _ => rfl
  | [a], _ => rfl
  | [a, b], _ => rfl
  | [a, b, c], _ => rfl
  | a :: b :: c :: d :: r, h => simp at h

theorem not_in_join {c s : UInt8} (hs : c ≠ s) : ∀ (p : List (List UInt8)), (∀ x ∈ p, c ∉ x) → c ∉ join p [s]
  | [], _ => by simp [join_nil]
  | [x], h => by rw [join_one]; exact h x (by simp)
  | x :: y :: r, h => by
    rw [join_two]
    intro q
    rcases List.mem_append.1 q with q | q
    · exact h x (by simp) q
    · rcases List.mem_cons.1 q with q | q
      · exact hs q
      · exact not_in_join hs (y :: r) (fun z hz => h z (by simp [hz])) q

theorem join_sum : ∀ (p : List (List UInt8)), (join p [32]).length ≤ (p.map List.length).sum + p.length
  | [] => by simp [join_nil]
  | [x] => by rw [join_one]; simp
  | x :: y :: r => by
    have := join_sum (y :: r)
    rw [join_two]
    simp only [List.map_cons, List.sum_cons, List.length_append, List.length_cons] at this ⊢
    omega

theorem sum_le (M : Nat) : ∀ (p : List (List UInt8)), (∀ x ∈ p, x.length ≤ M) → (p.map List.length).sum ≤ M * p.length
  | [], _ => by simp
  | x :: r, h => by
    have := sum_le M r (fun y hy => h y (by simp [hy]))
    have := h x (by simp)
    simp only [List.map_cons, List.sum_cons, List.length_cons, Nat.mul_add, Nat.mul_one]
    omega
/-- The words of a right command: short, and no space in them. -/
theorem cmdW_words {k a b c : Int} {n : Nat} {xs : List Int} (h : cmdB k a b c n xs = true) : (∀ x ∈ cmdW k a b c xs, (32 : UInt8) ∉ x) ∧ (cmdW k a b c xs).length = 1 + cmN k + (if vcK k then 1 else 0) ∧ cmdW k a b c xs ≠ [] := by
  obtain ⟨hk, ha, hb, hc, hv⟩ := cmdB_facts h
  obtain ⟨n6, n32, n3⟩ := nmW_facts hk
  rw [cmdW_eq hk]
  refine ⟨fun x hx => ?_, ?_, by simp⟩
  · simp only [List.mem_cons, List.mem_append, List.mem_map] at hx
    rcases hx with rfl | ⟨y, hy, rfl⟩ | hx
    · exact n32
    · exact itoa_no y (by decide)
    · cases q : vcK k
      · rw [q] at hx; simp at hx
      · rw [q] at hx
        simp at hx
        subst hx
        unfold vecTB
        rw [hv q, if_pos rfl]
        refine not_in_join (by decide) _ fun z hz => ?_
        obtain ⟨u, _, rfl⟩ := List.mem_map.1 hz
        exact itoa_no u (by decide)
  · cases q : vcK k <;> simp <;> omega

theorem numAt_cons {w : List UInt8} {R : List (List UInt8)} {n j : Nat} (hn : n ≤ R.length) : numAt (w :: R) n j = nth ((R.take n).map numV) j := by
  unfold numAt nth
  by_cases hj : j < n
  · rw [if_pos ⟨hj, by simp; omega⟩, List.getD_cons_succ, List.getD_eq_getElem?_getD, List.getD_eq_getElem?_getD, List.getElem?_map, List.getElem?_take_of_lt hj, List.getElem?_eq_getElem (by omega)]
    rfl
  · rw [if_neg (fun q => hj q.1), List.getD_eq_getElem?_getD, List.getElem?_eq_none (by simp; omega)]
    rfl

theorem cmdT_len {k a b c : Int} {n : Nat} {xs : List Int} (h : cmdB k a b c n xs = true) : (cmdT k a b c n xs).length ≤ 200 := by
  obtain ⟨hk, ha, hb, hc, hv⟩ := cmdB_facts h
  obtain ⟨n6, n32, n3⟩ := nmW_facts hk
  have w2 := (cmdW_words h).2.1
  rw [cmdT_yes h]
  have js := join_sum (cmdW k a b c xs)
  have s1 := sum_le 17 (([a, b, c].take (cmN k)).map itoa) (fun x hx => by
    obtain ⟨y, hy, rfl⟩ := List.mem_map.1 hx
    rcases take3_mem hy with rfl | rfl | rfl <;> exact itoa17 (by omega) (by omega))
  rw [cmdW_eq hk] at js w2 ⊢
  cases q : vcK k
  · rw [q] at js w2
    simp only [List.map_cons, List.map_append, List.sum_cons, List.sum_append, List.length_cons, List.length_append, List.length_map, List.length_take, if_neg (show ¬ false = true by decide), List.map_nil, List.sum_nil, List.length_nil] at js w2 s1 ⊢
    omega
  · rw [q] at js w2
    have vl : (vecTB xs).length ≤ 72 := by
      unfold vecTB
      rw [hv q, if_pos rfl]
      obtain ⟨⟨n1, n8⟩, hm⟩ := vecOk_mem (hv q)
      have := vecT_len9 _ xs rfl hm
      omega
    simp only [List.map_cons, List.map_append, List.sum_cons, List.sum_append, List.length_cons, List.length_append, List.length_map, List.length_take, if_pos, List.map_nil, List.sum_nil, List.length_nil] at js w2 s1 ⊢
    omega

theorem rdW_cons {k : Int} {R : List (List UInt8)} (hk : kindB k = true) (hl : R.length = cmN k + (if vcK k then 1 else 0)) :
    rdW (nmW k :: R) = ⟨k, nth ((R.take (cmN k)).map numV) 0, nth ((R.take (cmN k)).map numV) 1, nth ((R.take (cmN k)).map numV) 2, if vcK k then readVL (R.getD (cmN k) []) else []⟩ := by
  unfold rdW
  rw [List.headD_cons, nameK_nmW hk, numAt_cons (by omega), numAt_cons (by omega), numAt_cons (by omega)]
  cases q : vcK k
  · rfl
  · rw [q, if_pos rfl] at hl
    have : (nmW k :: R).getLastD [] = R.getD (cmN k) [] := by
      rw [List.getLastD_cons, List.getD_eq_getElem?_getD]
      cases R with
      | nil => simp at hl
      | cons y r =>
        rw [List.getLastD_cons, List.getLastD_eq_getLast?]
        have hl' : r.length = cmN k := by simpa using hl
        rw [← hl']
        cases r <;> simp [List.getLast?_eq_getElem?]
    rw [this]

theorem split5 {l : List UInt8} {n : List UInt8} {R : List (List UInt8)} (h : splitK 32 5 l = n :: R) (hl : R.length ≤ 4) : splitC 32 l = n :: R := by
  by_cases q : (splitC 32 l).length ≤ 6
  · rw [← splitK_all 32 5 l q, h]
  · have := (splitK_more 32 5 l (by omega)).1
    rw [h, List.length_cons] at this
    omega
/-- What the program reads is what the model reads. -/
theorem rd_fwd {l : List UInt8} {k : Int} {R : List (List UInt8)} {xs : List Int} (hk : kindB k = true) (hw : splitK 32 5 l = nmW k :: R) (hl : R.length = cmN k + (if vcK k then 1 else 0)) (hn : allNum (R.take (cmN k)) = true) (hx : xs = if vcK k then readVL (R.getD (cmN k) []) else [])
    (hb : cmdB k (nth ((R.take (cmN k)).map numV) 0) (nth ((R.take (cmN k)).map numV) 1) (nth ((R.take (cmN k)).map numV) 2) xs.length xs = true) :
    rdCB l = true ∧ rdC l = ⟨k, nth ((R.take (cmN k)).map numV) 0, nth ((R.take (cmN k)).map numV) 1, nth ((R.take (cmN k)).map numV) 2, xs⟩ := by
  obtain ⟨n6, n32, n3⟩ := nmW_facts hk
  have hW := split5 hw (by rw [hl]; split <;> omega)
  have eC : rdC l = ⟨k, nth ((R.take (cmN k)).map numV) 0, nth ((R.take (cmN k)).map numV) 1, nth ((R.take (cmN k)).map numV) 2, xs⟩ := by unfold rdC; rw [hW, rdW_cons hk hl, hx]
  have eR : R.take (cmN k) ++ (if vcK k then [vecTB xs] else []) = R := by
    obtain ⟨_, _, _, _, hv⟩ := cmdB_facts hb
    cases q : vcK k
    · rw [q] at hl
      simp at hl ⊢
      exact List.take_of_length_le (by omega)
    · rw [q] at hl hx
      simp at hl hx
      have hlt : cmN k < R.length := by omega
      have e1 : R.take (cmN k) ++ [R.getD (cmN k) []] = R := by
        rw [List.getD_eq_getElem?_getD, List.getElem?_eq_getElem hlt, Option.getD_some, ← List.take_succ_eq_append_getElem hlt]
        exact List.take_of_length_le (by omega)
      have e2 : vecTB xs = R.getD (cmN k) [] := by
        obtain ⟨y, hy⟩ : ∃ y, R.getD (cmN k) [] = y := ⟨_, rfl⟩
        have hv' := hv q
        rw [List.getD_eq_getElem?_getD] at hy
        rw [hy] at hx
        rw [List.getD_eq_getElem?_getD, hy]
        cases r : readVB y
        · have : xs = [] := by rw [hx]; unfold readVL; rw [r]; rfl
          rw [this] at hv'
          exact absurd hv' (by decide)
        · have e3 : xs = valV y := by rw [hx]; unfold readVL; rw [r]; rfl
          unfold readVB at r
          simp only [Bool.and_eq_true, decide_eq_true_eq] at r
          rw [e3]; exact r.2.2
      rw [if_pos rfl, e2]
      exact e1
  have eT : cmdT k (nth ((R.take (cmN k)).map numV) 0) (nth ((R.take (cmN k)).map numV) 1) (nth ((R.take (cmN k)).map numV) 2) xs.length xs = l := by
    rw [cmdT_yes hb, cmdW_eq hk, take3 n3 (by simp; rw [hl]; split <;> omega), all_map hn, eR, ← hW]
    exact (join_split 32 _ l (Nat.lt_succ_self _)).1
  refine ⟨?_, eC⟩
  unfold rdCB
  rw [eC]
  have := cmdT_len hb
  rw [eT] at this
  have k0 : k ≠ 0 := by have h' : 1 ≤ k ∧ k ≤ 7 := of_decide_eq_true hk; omega
  simp only [Bool.and_eq_true, decide_eq_true_eq]
  exact ⟨this, k0, eT⟩
/-- And what the model reads, the program reads. -/
theorem rd_bwd {l : List UInt8} (h : rdCB l = true) : kindB (rdC l).k = true ∧ cmdB (rdC l).k (rdC l).a (rdC l).b (rdC l).c (rdC l).xs.length (rdC l).xs = true ∧
    ∃ R, splitK 32 5 l = nmW (rdC l).k :: R ∧ R.length = cmN (rdC l).k + (if vcK (rdC l).k then 1 else 0) ∧ allNum (R.take (cmN (rdC l).k)) = true ∧ rdC l = ⟨(rdC l).k, nth ((R.take (cmN (rdC l).k)).map numV) 0, nth ((R.take (cmN (rdC l).k)).map numV) 1, nth ((R.take (cmN (rdC l).k)).map numV) 2, if vcK (rdC l).k then readVL (R.getD (cmN (rdC l).k) []) else []⟩ := by
  unfold rdCB at h
  simp only [Bool.and_eq_true, decide_eq_true_eq] at h
  obtain ⟨h1, h2, h3⟩ := h
  have hk : kindB (rdC l).k = true := (nameK_kind h2).1
  have hb : cmdB (rdC l).k (rdC l).a (rdC l).b (rdC l).c (rdC l).xs.length (rdC l).xs = true := by
    cases q : cmdB (rdC l).k (rdC l).a (rdC l).b (rdC l).c (rdC l).xs.length (rdC l).xs
    · unfold cmT cmdT at h3
      rw [q, if_neg (by decide)] at h3
      subst h3
      exact absurd rfl h2
    · rfl
  refine ⟨hk, hb, ?_⟩
  obtain ⟨w1, w2, w3⟩ := cmdW_words hb
  obtain ⟨n6, n32, n3⟩ := nmW_facts hk
  have e : join (cmdW (rdC l).k (rdC l).a (rdC l).b (rdC l).c (rdC l).xs) [32] = l := by rw [← cmdT_yes hb]; exact h3
  have hW : splitC 32 l = cmdW (rdC l).k (rdC l).a (rdC l).b (rdC l).c (rdC l).xs := by
    have := split_join 32 _ w3 w1
    rwa [e] at this
  have hK : splitK 32 5 l = cmdW (rdC l).k (rdC l).a (rdC l).b (rdC l).c (rdC l).xs := by
    rw [splitK_all 32 5 l (by rw [hW, w2]; split <;> omega), hW]
  obtain ⟨_, ha, hb', hc, hv⟩ := cmdB_facts hb
  have AI := all_itoa (xs := [(rdC l).a, (rdC l).b, (rdC l).c].take (cmN (rdC l).k)) (fun x hx => by
    rcases take3_mem hx with rfl | rfl | rfl <;> omega)
  have ln : (([(rdC l).a, (rdC l).b, (rdC l).c].take (cmN (rdC l).k)).map itoa).length = cmN (rdC l).k := by simp; omega
  rw [cmdW_eq hk] at hK hW w2
  refine ⟨_, hK, ?_, ?_, ?_⟩
  · rw [List.length_cons] at w2; omega
  · rw [List.take_left' ln]; exact AI.1
  · have := rdW_cons (R := ([(rdC l).a, (rdC l).b, (rdC l).c].take (cmN (rdC l).k)).map itoa ++ (if vcK (rdC l).k then [vecTB (rdC l).xs] else [])) hk (by rw [List.length_cons] at w2; omega)
    rw [← hW] at this
    exact this
end Go.Proofs.YtggjcccdeaadbaaGreatDoor

/- SplitN at spaces, and too few words for readNumbers; of the program. -/
namespace Go.Proofs.YtggjcccdeaadbaaGreatDoor
open Go.RowKit
set_option maxRecDepth 8000
set_option linter.unusedSimpArgs false
set_option linter.unusedVariables false

theorem parts_minW (s : ByteArray) : (Lib.splitB ⟨#[32]⟩ 0 (min 6 (s.size + 1) - 1) s).map (·.data.toList) = splitK 32 5 s.data.toList := by
  rw [Lib.splitB_data, show (⟨#[32]⟩ : ByteArray).data.toList = [32] from rfl, libSplit]
  by_cases h : 5 ≤ s.size
  · rw [show min 6 (s.size + 1) - 1 = 5 by omega]
  · rw [splitK_len 32 (min 6 (s.size + 1) - 1) s.data.toList (by rw [← size_list]; omega), splitK_len 32 5 s.data.toList (by rw [← size_list]; omega)]

theorem splitNW_any (s : ByteArray) (w : World) (hs : s.size ≤ 1048576) (M : Mlen w) :
    Calls Tryz.prog 23 #[.string s, .string ⟨#[32]⟩, .int .i64 6] w fun e w' => ∃ n c, e = .returned (.slice (some ⟨w.heap.size, 0, none⟩) n c) ∧ n ≤ 6 ∧ n ≤ c ∧ Strs w' w.heap.size n (splitK 32 5 s.data.toList) ∧ Below w.heap.size w w' := by
  obtain ⟨_, m, hm⟩ := M
  refine (Tryz.strings_SplitN s ⟨#[32]⟩ 6 m w (by omega) hm (by decide) (by omega) (by omega)).mono fun e w' ⟨he, hw⟩ => ?_
  obtain ⟨L, hL⟩ : ∃ L, Lib.splitB ⟨#[32]⟩ 0 (min 6 (s.size + 1) - 1) s = L := ⟨_, rfl⟩
  have hp := parts_minW s
  have hn := Lib.splitB_length_le ⟨#[32]⟩ 0 (min 6 (s.size + 1) - 1) s
  rw [hL] at he hw hp hn
  have hpl : (splitK 32 5 s.data.toList).length = L.length := by rw [← hp, List.length_map]
  refine ⟨L.length, _, he, by omega, by omega, ⟨by rw [hw]; simp, hpl, fun j hj => ?_⟩, by rw [hw]; exact balloc (Below.refl _ _) _⟩
  refine ⟨L[j].data.toList, by rw [← hp, List.getElem?_map, List.getElem?_eq_getElem hj]; rfl, ?_⟩
  rw [hw, bs_of]
  have : (L.map Value.string ++ List.replicate (min 6 (s.size + 1) - L.length) (Value.string ByteArray.empty))[j]? = some (Value.string L[j]) := by
    rw [List.getElem?_append_left (by simpa using hj), List.getElem?_map, List.getElem?_eq_getElem hj]; rfl
  simp [Lib.cellsOf, this]

set_option maxHeartbeats 1000000 in
theorem readNumbers_few (a : Option Addr) (n c m : Nat) (w : World) (h : n < m) (hm : m ≤ 3) :
    Calls Tryz.prog 52 #[.slice a n c, .int .i64 m] w fun e w' => e = .returned (.tuple #[.agg #[.int .i64 0, .int .i64 0, .int .i64 0], .bool false]) ∧ Below w.heap.size w w' := by
  go_enter Tryz.func52, Tryz.ntmps52
  go_wp2_with fail
  refine bodyPost_ret (v := .tuple #[.agg #[.int .i64 0, .int .i64 0, .int .i64 0], .bool false]) (by simp [results, Tryz.results52, go_sem]) rfl ⟨rfl, (by repeat' first | with_reducible exact Below.refl _ _ | with_reducible assumption | with_reducible refine below_drewN ?_ _ | with_reducible refine balloc ?_ _ | with_reducible refine Below.drew ?_ | with_reducible refine Below.setCell ?_ (by first | (simp; done) | (simp; omega) | omega) _ | with_reducible refine bstep ?_ (by assumption))⟩
end Go.Proofs.YtggjcccdeaadbaaGreatDoor

/- readNumbers of the program, of the first words of a slice that begins anywhere. -/
namespace Go.Proofs.YtggjcccdeaadbaaGreatDoor
open Go.RowKit
set_option maxRecDepth 8000
set_option linter.unusedSimpArgs false
set_option linter.unusedVariables false

/-- A slice of texts that is read, from a place on. -/
structure StrsO (w : World) (g off n : Nat) (P : List (List UInt8)) : Prop where
  lt : g < w.heap.size
  len : P.length = n
  cell : ∀ j, j < n → ∃ x, P[j]? = some x ∧ w.cell? ⟨g, off + j, none⟩ = some (.string (bs x))

theorem StrsO.below {w w' : World} {g off n : Nat} {P : List (List UInt8)} (h : StrsO w g off n P) (hb : Below w.heap.size w w') : StrsO w' g off n P :=
  ⟨Nat.lt_of_lt_of_le h.lt hb.size, h.len, fun j hj => by obtain ⟨x, a, b⟩ := h.cell j hj; exact ⟨x, a, (hb.cell (p := ⟨g, off + j, none⟩) h.lt).trans b⟩⟩

theorem StrsO.take {w : World} {g off n : Nat} {P : List (List UInt8)} (h : StrsO w g off n P) (m : Nat) (hm : m ≤ n) : StrsO w g off m (P.take m) :=
  ⟨h.lt, by rw [List.length_take, h.len]; omega, fun j hj => by
    obtain ⟨x, a, b⟩ := h.cell j (by omega)
    exact ⟨x, by rw [List.getElem?_take_of_lt hj]; exact a, b⟩⟩

theorem Strs.tail {w : World} {g n : Nat} {x : List UInt8} {P : List (List UInt8)} (h : Strs w g (n + 1) (x :: P)) : StrsO w g 1 n P :=
  ⟨h.lt, by have := h.len; simpa using this, fun j hj => by
    obtain ⟨y, a, b⟩ := h.cell (j + 1) (by omega)
    exact ⟨y, by simpa using a, by rw [Nat.add_comm 1 j]; exact b⟩⟩

set_option maxHeartbeats 4000000 in
theorem iReadNumbers_off (g off N n c : Nat) (P : List (List UInt8)) (w : World) (hn : n ≤ 3) (hN : n ≤ N) (hc : N ≤ c) (S : StrsO w g off n P) (hsz : ∀ x ∈ P, x.length ≤ 1048576) (V : Vars w) :
    Calls Tryz.prog 52 #[.slice (some ⟨g, off, none⟩) N c, .int .i64 n] w fun e w' => INums w P e w' := by
  have HSZ := hide hsz
  have HS := hide S
  have HV := hide V
  clear S V hsz
  have R0 : Hid (((w.alloc (.cells #[.int .i64 0, .int .i64 0, .int .i64 0] 66)).alloc (.cells #[.int .i64 0, .int .i64 0, .int .i64 0] 66)).rowIs (w.heap.size + 1) 66 3 (fun j => .int .i64 (if j < 0 then nth (P.map numV) j else 0))) := hide (by
    have := World.rowIs_alloc (w.alloc (.cells #[.int .i64 0, .int .i64 0, .int .i64 0] 66)) #[.int .i64 0, .int .i64 0, .int .i64 0] 66 (fun j => .int .i64 (if j < 0 then nth (P.map numV) j else 0)) (by intro i hi; rcases (show i = 0 ∨ i = 1 ∨ i = 2 from by simp at hi; omega) with rfl | rfl | rfl <;> rfl)
    simpa using this)
  have Z0 : Hid (((w.alloc (.cells #[.int .i64 0, .int .i64 0, .int .i64 0] 66)).alloc (.cells #[.int .i64 0, .int .i64 0, .int .i64 0] 66)).rowIs w.heap.size 66 3 (fun _ => .int .i64 0)) := hide (World.rowIs.alloc (World.rowIs_alloc w #[.int .i64 0, .int .i64 0, .int .i64 0] 66 (fun _ => .int .i64 0) (by intro i hi; rcases (show i = 0 ∨ i = 1 ∨ i = 2 from by simp at hi; omega) with rfl | rfl | rfl <;> rfl)) _)
  have hNn : ¬ N < n := by omega
  go_enter Tryz.func52, Tryz.ntmps52
  go_wp2_with fail
  go_loopw [21] (fun i wr => ∃ (k : Nat), k ≤ n ∧ i = .int .i64 k ∧ Hid (allNum (P.take k) = true) ∧ Hid (wr.rowIs (w.heap.size + 1) 66 3 (fun j => .int .i64 (if j < k then nth (P.map numV) j else 0))) ∧ Hid (wr.rowIs w.heap.size 66 3 (fun _ => .int .i64 0)) ∧ Hid (Below w.heap.size w wr)) (fun i _ => n - (intOf i).toNat)
  case atStart => exact ⟨0, Nat.zero_le _, rfl, hide rfl, R0, Z0, hide (by repeat' first | with_reducible exact Below.refl _ _ | with_reducible assumption | with_reducible refine below_drewN ?_ _ | with_reducible refine balloc ?_ _ | with_reducible refine Below.drew ?_ | with_reducible refine Below.setCell ?_ (by first | (simp; done) | (simp; omega) | omega) _ | with_reducible refine bstep ?_ (by assumption))⟩
  case round =>
    clear R0 Z0
    obtain ⟨k, hk, rfl, HA, HR, HZ, HB⟩ := hrel
    by_cases hlt : k < n
    · obtain ⟨x, hx, hcx⟩ := (HS.out.below HB.out).cell k hlt
      have RN := hide (readNumber_any (bs x) wr (by rw [bs_size]; exact HSZ.out x (List.mem_of_getElem? hx)) (HV.out.below HB.out))
      rw [bs_list] at RN
      have HX := hide (nth_map P k x hx)
      have HT : Hid (P.take (k + 1) = P.take k ++ [x]) := hide (by
        have hl : k < P.length := (List.getElem?_eq_some_iff.1 hx).1
        rw [List.take_succ_eq_append_getElem hl, (List.getElem?_eq_some_iff.1 hx).2])
      have HM := hide (List.mem_of_getElem? hx)
      have lw := World.rowIs.lt HR.out
      have lz := World.rowIs.lt HZ.out
      clear hx
      cases hs : (numL x).isSome
      · rw [hs] at RN
        have NB := hide (show allNum P = false from by
          cases q : allNum P
          · rfl
          · have := List.all_eq_true.1 q x HM.out
            rw [hs] at this; cases this)
        clear hs
        go_wp2_with fail
        refine RN.out.mono ?_
        rintro e w3 ⟨rfl, hb3⟩
        have R3 := hide (HR.out.of_block (hb3.block _ lw))
        have Z3 := hide (HZ.out.of_block (hb3.block _ lz))
        have B3 := hide (bstep HB.out hb3)
        have r0 := World.rowIs.cell R3.out (show 0 < 3 by omega)
        have r1 := World.rowIs.cell R3.out (show 1 < 3 by omega)
        have r2 := World.rowIs.cell R3.out (show 2 < 3 by omega)
        have z0 := World.rowIs.cell Z3.out (show 0 < 3 by omega)
        have z1 := World.rowIs.cell Z3.out (show 1 < 3 by omega)
        have z2 := World.rowIs.cell Z3.out (show 2 < 3 by omega)
        have f0 := World.rowIs.frozen Z3.out 0
        have f1 := World.rowIs.frozen Z3.out 1
        have f2 := World.rowIs.frozen Z3.out 2
        clear hcx hb3 HR HZ
        generalize (if 0 < k then nth (P.map numV) 0 else 0) = y0 at r0
        generalize (if 1 < k then nth (P.map numV) 1 else 0) = y1 at r1
        generalize (if 2 < k then nth (P.map numV) 2 else 0) = y2 at r2
        go_wp2_with fail
        obtain ⟨e0, e1, e2⟩ := three_set Z3.out (.int .i64 y0) (.int .i64 y1) (.int .i64 y2)
        refine bodyPost_ret (v := .tuple #[.agg #[.int .i64 y0, .int .i64 y1, .int .i64 y2], .bool false]) (by simp [results, Tryz.results52, go_sem, e0, e1, e2]) rfl ⟨y0, y1, y2, by rw [NB.out], fun h => absurd (NB.out.symm.trans h) (by decide), ?_⟩
        exact ((B3.out.setCell (Nat.le_refl _) _).setCell (Nat.le_refl _) _).setCell (Nat.le_refl _) _
      · rw [hs] at RN
        have HA2 : Hid (allNum (P.take (k + 1)) = true) := hide (by
          have ha := HA.out
          unfold allNum at ha ⊢
          rw [HT.out, List.all_append, ha, List.all_cons, hs]; rfl)
        clear hs
        go_wp2_with fail
        refine RN.out.mono ?_
        rintro e w3 ⟨rfl, hb3⟩
        have R3 := hide (HR.out.of_block (hb3.block _ lw))
        have Z3 := hide (HZ.out.of_block (hb3.block _ lz))
        have Z4 := hide (World.rowIs.setOther Z3.out (a := ⟨w.heap.size + 1, k, none⟩) (by simp) (.int .i64 (nth (P.map numV) k)))
        have B3 := hide (bstep HB.out hb3)
        have h2 := World.rowIs.cell R3.out (show k < 3 by omega)
        have h3 := World.rowIs.frozen R3.out k
        have hk3 : (k : Int) < 3 := by omega
        have RS := hide (copy_stepT R3.out)
        rw [HX.out] at RS Z4
        clear hcx hb3 HR HZ
        go_wp2_with fail
        go_roundw
        case rel => exact ⟨k + 1, by omega, by go_num, HA2, RS, Z4, hide (B3.out.setCell (by simp) _)⟩
        case measure => simp [intOf]; omega
    · obtain rfl : k = n := by omega
      have hl := hide HS.out.len
      have AL := hide (show allNum P = true from by
        have := HA.out
        rw [List.take_of_length_le (by have := hl.out; omega)] at this
        exact this)
      have VA : Hid (∀ j, (if j < k then nth (P.map numV) j else 0) = nth (P.map numV) j) := hide (fun j => by
        by_cases e : j < k
        · rw [if_pos e]
        · rw [if_neg e]; symm
          unfold nth
          rw [List.getD_eq_getElem?_getD, List.getElem?_eq_none (by rw [List.length_map]; have := hl.out; omega)]; rfl)
      have r0 := World.rowIs.cell HR.out (show 0 < 3 by omega)
      have r1 := World.rowIs.cell HR.out (show 1 < 3 by omega)
      have r2 := World.rowIs.cell HR.out (show 2 < 3 by omega)
      have z0 := World.rowIs.cell HZ.out (show 0 < 3 by omega)
      have z1 := World.rowIs.cell HZ.out (show 1 < 3 by omega)
      have z2 := World.rowIs.cell HZ.out (show 2 < 3 by omega)
      have f0 := World.rowIs.frozen HZ.out 0
      have f1 := World.rowIs.frozen HZ.out 1
      have f2 := World.rowIs.frozen HZ.out 2
      rw [VA.out] at r0 r1 r2
      obtain ⟨y0, hy0⟩ : ∃ y, nth (P.map numV) 0 = y := ⟨_, rfl⟩
      obtain ⟨y1, hy1⟩ : ∃ y, nth (P.map numV) 1 = y := ⟨_, rfl⟩
      obtain ⟨y2, hy2⟩ : ∃ y, nth (P.map numV) 2 = y := ⟨_, rfl⟩
      rw [hy0] at r0
      rw [hy1] at r1
      rw [hy2] at r2
      have HY := hide (show y0 = nth (P.map numV) 0 ∧ y1 = nth (P.map numV) 1 ∧ y2 = nth (P.map numV) 2 from ⟨hy0.symm, hy1.symm, hy2.symm⟩)
      clear hy0 hy1 hy2 HR
      go_wp2_with fail
      obtain ⟨e0, e1, e2⟩ := three_set HZ.out (.int .i64 y0) (.int .i64 y1) (.int .i64 y2)
      refine bodyPost_ret (v := .tuple #[.agg #[.int .i64 y0, .int .i64 y1, .int .i64 y2], .bool true]) (by simp [results, Tryz.results52, go_sem, e0, e1, e2]) rfl ⟨y0, y1, y2, by rw [AL.out], fun _ => HY.out, ?_⟩
      exact ((HB.out.setCell (Nat.le_refl _) _).setCell (Nat.le_refl _) _).setCell (Nat.le_refl _) _
end Go.Proofs.YtggjcccdeaadbaaGreatDoor

/- l1Split of the model. -/
namespace Go.Proofs.YtggjcccdeaadbaaGreatDoor
open Go.RowKit
set_option maxRecDepth 8000
set_option linter.unusedSimpArgs false
set_option linter.unusedVariables false

theorem cut_space (s : ByteArray) (w : World) (hs : s.size ≤ 9223372036854775807) :
    Calls Tryz.prog 53 #[.string s, .int .u8 32] w fun e w' => e = .returned (.tuple #[.string (bs (cutL 32 s.data.toList).1), .string (bs (cutL 32 s.data.toList).2.1), .bool (cutL 32 s.data.toList).2.2]) ∧ Below w.heap.size w w' := l1Cut_any s 32 w hs
def mesS (more rest : Value) : Nat := match more, rest with
  | .bool true, .string s => s.size + 1
  | _, _ => 0

theorem cut_fst_miss {c : UInt8} {l : List UInt8} (h : (cutL c l).2.2 = false) : (cutL c l).1 = l := by
  have := (cut_back c l).2
  rw [h, if_neg (by decide), List.append_nil] at this
  exact this.symm

set_option maxHeartbeats 4000000 in
theorem l1Split_any (s : ByteArray) (w : World) (hs : s.size ≤ 200) :
    Calls Tryz.prog 25 #[.string s] w fun e w' => ∃ v, e = .returned v ∧ w'.ownsRow w.heap.size 9 1 v (splitC 32 s.data.toList).length (strsV (splitC 32 s.data.toList)) ∧ Below w.heap.size w w' := by
  obtain ⟨i0, hi, hz0, hz1, hz2⟩ := info_parts Tryz.infoStr
  obtain ⟨P, hP⟩ : ∃ P, splitC 32 s.data.toList = P := ⟨_, rfl⟩
  have hPl : P.length ≤ 201 := by
    have := split_len 32 _ s.data.toList (Nat.lt_succ_self _)
    rw [hP, ← size_list] at this
    omega
  have HP := hide hP
  rw [hP]
  clear hP
  go_enter Tryz.func25, Tryz.ntmps25
  go_wp2_with fail
  go_loopw [0, 3, 4, 5] (fun rest v more _ wr => ∃ (p : List (List UInt8)) (R : ByteArray) (m : Bool), rest = .string R ∧ more = .bool m ∧ R.size ≤ 200 ∧ p.length ≤ P.length ∧ Hid (if m then p ++ splitC 32 R.data.toList = P else p = P) ∧ Hid (wr.ownsRow w.heap.size 9 1 v p.length (strsV p)) ∧ Hid (Below w.heap.size w wr)) (fun rest _ more _ _ => mesS more rest)
  case atStart => exact ⟨[], s, true, rfl, rfl, hs, Nat.zero_le _, hide (by rw [if_pos rfl, HP.out]; rfl), hide (World.ownsRow_made w #[] 0 (Nat.le_refl _) (Nat.zero_le _) rfl), hide (by repeat' first | with_reducible exact Below.refl _ _ | with_reducible assumption | with_reducible refine below_drewN ?_ _ | with_reducible refine balloc ?_ _ | with_reducible refine Below.drew ?_ | with_reducible refine Below.setCell ?_ (by first | (simp; done) | (simp; omega) | omega) _ | with_reducible refine bstep ?_ (by assumption))⟩
  case round =>
    obtain ⟨p, R, m, rfl, rfl, hR, hp, HR, HO, HB⟩ := hrel
    cases m
    · obtain rfl : p = P := by have := HR.out; simpa using this
      go_wp2_with fail
      go_ret
      exact ⟨_, rfl, HO.out, HB.out⟩
    · have hr : p ++ splitC 32 R.data.toList = P := by have := HR.out; rwa [if_pos rfl] at this
      have DE := hide (fun wx => cut_space R wx (by omega))
      have c1 := cut_snd 32 R.data.toList
      have c2 := cut_len 32 R.data.toList
      obtain ⟨l, hl⟩ : ∃ l, R.data.toList = l := ⟨_, rfl⟩
      have rs : R.size = l.length := by rw [← hl, size_list]
      rw [hl] at DE hr c1 c2
      have SM := hide (fun (h : (cutL 32 l).2.2 = false) => (show splitC 32 l = [(cutL 32 l).1] by rw [split_miss h, cut_fst_miss h]))
      have SH := hide (fun (h : (cutL 32 l).2.2 = true) => split_hit h)
      obtain ⟨A, hA⟩ : ∃ A, (cutL 32 l).1 = A := ⟨_, rfl⟩
      obtain ⟨B, hB⟩ : ∃ B, (cutL 32 l).2.1 = B := ⟨_, rfl⟩
      obtain ⟨m, hm⟩ : ∃ m, (cutL 32 l).2.2 = m := ⟨_, rfl⟩
      rw [hA, hB, hm] at DE
      rw [hA, hm] at SM
      rw [hA, hB, hm] at SH
      rw [hB] at c1 c2
      rw [hm] at c2
      obtain ⟨E, hE⟩ : ∃ E, bs A = E := ⟨_, rfl⟩
      have EV := hide hE
      rw [hE] at DE
      have HR2 := hide hr
      clear hr HR hl hA hB hm hE
      go_wp2_with fail
      refine (DE.out _).mono ?_
      rintro e w3 ⟨rfl, hb3⟩
      have B3 := hide (bstep HB.out hb3)
      have O3 := hide (owns_belowF HO.out hb3)
      clear hb3 DE HO HB
      go_wp2_with (at_builtin; refine wpList_append_own _ rfl _ _ 42 rfl w.heap.size 9 i0 (.string ⟨#[]⟩) 1 16 Tryz.underlying42 hi hz0 hz1 hz2 rfl (by decide) _ _ _ rfl (O3.out.alloc _) ⟨_, 0, none⟩ 1 1 [.string E] rfl rfl ?c1 ?c2 ?c3 ?c4 ?c5 ?_)
      case c1 => exact one_newF _ _ _
      case c2 => intro u hu; simp at hu; subst hu; rfl
      case c3 => unfold maxLen; omega
      case c4 => omega
      case c5 => have := B3.out.size; simp; omega
      intro v' w4 hown2 hgrow _
      have B4 : Hid (Below w.heap.size w w4) := hide ((balloc B3.out (.cells #[.string E] 9)).grown hgrow (balloc B3.out (.cells #[.string E] 9)).size fun k' hk' => by have := ((O3.out.alloc (.cells #[.string E] 9)).lt k' hk').1; omega)
      have O4 := hide hown2
      clear hgrow hown2 O3 B3
      go_wp2_with fail
      go_roundw
      case rel =>
        have hr := HR2.out
        have e1 : p.length + (splitC 32 l).length = P.length := by rw [← hr, List.length_append]
        refine ⟨p ++ [A], bs B, m, rfl, rfl, by rw [bs_size]; omega, ?_, hide ?_, hide (by rw [strsV_snoc, EV.out, List.length_append]; exact O4.out), B4⟩
        · cases m
          · rw [SM.out rfl] at e1; simpa using Nat.le_of_eq e1
          · rw [SH.out rfl] at e1; simp at e1 ⊢; omega
        · cases m
          · rw [if_neg (by decide), ← hr, SM.out rfl]
          · rw [if_pos rfl, ← hr, SH.out rfl, bs_list]; simp
      case measure =>
        cases m
        · simp [mesS]
        · rw [if_pos rfl] at c2
          simp only [mesS, bs_size, rs]
          omega
end Go.Proofs.YtggjcccdeaadbaaGreatDoor
