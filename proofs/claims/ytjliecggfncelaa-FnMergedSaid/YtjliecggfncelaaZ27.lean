/- Heaps that keep the K least, plain. -/
import Derived.Test.YtjliecggfncelaaZ25
import Derived.Test.YtjliecggfncelaaZ14
import Derived.Test.YtjliecggfncelaaZ10
namespace Go.Proofs.Ytjliecggfncelaa
open Go.RowKit
set_option maxRecDepth 8000
set_option linter.unusedSimpArgs false
set_option linter.unusedVariables false

def UpInv (n j : Nat) (L : NL) : Prop :=
  (∀ k, 0 < k → k < n → k ≠ j → lt2 (L ((k - 1) / 2)) (L k) = false) ∧ (0 < j → ∀ k, 0 < k → k < n → (k - 1) / 2 = j → lt2 (L ((j - 1) / 2)) (L k) = false)

theorem swp_l (L : NL) (i j : Nat) : swp L i j i = L j := by unfold swp; rw [if_pos rfl]

theorem swp_r (L : NL) {i j : Nat} (h : j ≠ i) : swp L i j j = L i := by unfold swp; rw [if_neg h, if_pos rfl]

theorem swp_o (L : NL) {i j k : Nat} (h1 : k ≠ i) (h2 : k ≠ j) : swp L i j k = L k := by unfold swp; rw [if_neg h1, if_neg h2]

theorem up_heap (n : Nat) : ∀ (t j : Nat) (L : NL), j ≤ t → j < n → UpInv n j L → HeapP n (upL j L) := by
  intro t
  induction t with
  | zero =>
    intro j L ht hj h
    obtain rfl : j = 0 := by omega
    rw [upL_zero]
    exact fun k h0 hk => h.1 k h0 hk (by omega)
  | succ t ih =>
    intro j L ht hj h
    by_cases h0 : j = 0
    · subst h0
      rw [upL_zero]
      exact fun k h0 hk => h.1 k h0 hk (by omega)
    · cases hb : lt2 (L ((j - 1) / 2)) (L j)
      · rw [upL_no hb]
        intro k hk0 hk
        by_cases e : k = j
        · subst e; exact hb
        · exact h.1 k hk0 hk e
      · rw [upL_yes h0 hb]
        obtain ⟨p, hp⟩ : ∃ p, (j - 1) / 2 = p := ⟨_, rfl⟩
        have hpj : p < j := by omega
        rw [hp] at hb ⊢
        have hba := lt2_asymm hb
        refine ih p _ (by omega) (by omega) ⟨fun k hk0 hk hkp => ?_, fun hp0 k hk0 hk hkp => ?_⟩
        · by_cases ekj : k = j
          · subst ekj
            rw [hp, swp_l, swp_r _ (by omega)]
            exact hba
          · rw [swp_o (k := k) _ hkp ekj]
            by_cases eq1 : (k - 1) / 2 = p
            · rw [eq1, swp_l]
              have h1 := h.1 k hk0 hk ekj
              rw [eq1] at h1
              exact le2_trans h1 hba
            · by_cases eq2 : (k - 1) / 2 = j
              · rw [eq2, swp_r _ (by omega)]
                have h2 := h.2 (by omega) k hk0 hk eq2
                rw [hp] at h2
                exact h2
              · rw [swp_o _ eq1 eq2]
                exact h.1 k hk0 hk ekj
        · have g1 := h.1 p hp0 (by omega) (by omega)
          rw [swp_o (k := (p - 1) / 2) _ (by omega) (by omega)]
          by_cases ekj : k = j
          · subst ekj
            rw [swp_r _ (by omega)]
            exact g1
          · rw [swp_o (k := k) _ (by omega) ekj]
            have h1 := h.1 k hk0 hk ekj
            rw [hkp] at h1
            exact le2_trans h1 g1

theorem push_inv {n : Nat} {L : NL} (h : HeapP n L) (x : Int × Int) : UpInv (n + 1) n (L.put n x) := by
  refine ⟨fun k h0 hk hkn => ?_, fun h0 k hk0 hk hkp => ?_⟩
  · rw [put_off _ _ (show (k - 1) / 2 ≠ n by omega), put_off _ _ hkn]
    exact h k h0 (by omega)
  · omega

theorem push_heap {n : Nat} {L : NL} (h : HeapP n L) (x : Int × Int) : HeapP (n + 1) (upL n (L.put n x)) := up_heap (n + 1) n n _ (Nat.le_refl _) (by omega) (push_inv h x)

theorem cnt_push {n : Nat} {L : NL} (x z : Int × Int) : cnt (upL n (L.put n x)) (n + 1) z = cnt L n z + if x = z then 1 else 0 := by
  rw [cnt_upL (n + 1) z n n _ (Nat.le_refl _) (by omega)]
  show cnt (L.put n x) n z + (if L.put n x n = z then 1 else 0) = _
  rw [put_at, cnt_congr n z (M := L) (fun i hi => put_off _ _ (by omega))]

/-- Of sorted ones: to put one among all of them, or among the first few, is the same for these. -/
theorem insL_cut {P : NL} {x : Int × Int} {n : Nat} : ∀ j, n ≤ j → SortedP j P → ∀ i, i < n → insL j P x i = insL n P x i := by
  intro j
  induction j with
  | zero => intro hn _ i hi; omega
  | succ j ih =>
    intro hn hs i hi
    by_cases e : n = j + 1
    · subst e; rfl
    · have hs' : SortedP j P := fun k hk => hs k (by omega)
      rw [← ih (by omega) hs' i hi, insL_succ]
      by_cases hb : lt2 x (P j) = true
      · rw [if_pos hb, put_off _ _ (by omega)]
      · rw [if_neg hb, put_off _ _ (by omega)]
        have hx : lt2 x (P j) = false := by simpa using hb
        cases j with
        | zero => omega
        | succ j =>
          have h1 : lt2 x (P j) = false := le2_trans (hs j (by omega)) hx
          rw [insL_succ, h1, if_neg (by decide), put_off _ _ (by omega)]

theorem isort_last {n : Nat} {H : NL} (h : HeapP (n + 1) H) : isortL (n + 1) H n = H 0 := by
  obtain ⟨hs, hc⟩ := isortL_sorted (n + 1) H
  have h1 : ∃ i, i < n + 1 ∧ isortL (n + 1) H i = H 0 := cnt_pos _ (by rw [hc]; exact cnt_of (i := 0) (by omega) rfl)
  have h2 : ∃ i, i < n + 1 ∧ H i = isortL (n + 1) H n := cnt_pos _ (by rw [← hc]; exact cnt_of (i := n) (by omega) rfl)
  obtain ⟨i1, hi1, e1⟩ := h1
  obtain ⟨i2, hi2, e2⟩ := h2
  have g1 := sorted_last n hs i1 (by omega)
  rw [e1] at g1
  have g2 := h.top n i2 (by omega) hi2
  rw [e2] at g2
  exact le2_anti g2 g1

/-- A heap that keeps the K least of what came: the step. -/
theorem keep_step {K n j : Nat} {H A : NL} {x : Int × Int} (hx : A j = x) (hn : n = min j K) (hh : HeapP n H) (hs : ∀ i, i < n → isortL n H i = isortL j A i) :
    (n < K → HeapP (n + 1) (upL n (H.put n x)) ∧ ∀ i, i < n + 1 → isortL (n + 1) (upL n (H.put n x)) i = isortL (j + 1) A i) ∧
    (¬ n < K → HeapP n (dnL n 0 (swp (upL n (H.put n x)) 0 n)) ∧ ∀ i, i < n → isortL n (dnL n 0 (swp (upL n (H.put n x)) 0 n)) i = isortL (j + 1) A i) := by
  have hp := push_heap hh x
  have hcnt := fun z => cnt_push (n := n) (L := H) x z
  generalize upL n (H.put n x) = H1 at *
  have ha : ∀ i, i < n + 1 → isortL (n + 1) H1 i = insL n (isortL n H) x i := by
    obtain ⟨s1, c1⟩ := isortL_sorted (n + 1) H1
    obtain ⟨s2, c2⟩ := isortL_sorted n H
    obtain ⟨s3, _, c3⟩ := insL_sorted n (isortL n H) x s2
    exact sorted_unique (n + 1) _ _ s1 s3 fun z => by rw [c1, c3, c2, hcnt]
  have hb : ∀ i, i < n + 1 → insL n (isortL n H) x i = insL n (isortL j A) x i := fun i hi => insL_ext n _ _ x (fun k hk => hs k hk) i (by omega)
  have hj : isortL (j + 1) A = insL j (isortL j A) x := by rw [← hx]; rfl
  refine ⟨fun hlt => ⟨hp, fun i hi => ?_⟩, fun hge => ?_⟩
  · obtain rfl : n = j := by omega
    rw [ha i hi, hb i hi, hj]
  · have hd : HeapP n (dnL n 0 (swp H1 0 n)) := dn_heap n n 0 _ (by omega) (pop_inv hp)
    refine ⟨hd, fun i hi => ?_⟩
    have h2 : isortL n (dnL n 0 (swp H1 0 n)) i = isortL (n + 1) H1 i := by
      obtain ⟨s1, c1⟩ := isortL_sorted n (dnL n 0 (swp H1 0 n))
      obtain ⟨s2, c2⟩ := isortL_sorted (n + 1) H1
      refine sorted_unique n _ _ s1 (fun k hk => s2 k (by omega)) (fun z => ?_) i hi
      rw [c1, cnt_dnL n n z (Nat.le_refl _) n 0 _ (by omega)]
      have e1 : cnt (swp H1 0 n) (n + 1) z = cnt H1 (n + 1) z := cnt_swp H1 z (by omega) (by omega)
      have e2 : cnt (swp H1 0 n) (n + 1) z = cnt (swp H1 0 n) n z + if swp H1 0 n n = z then 1 else 0 := rfl
      have e3 : cnt (isortL (n + 1) H1) (n + 1) z = cnt (isortL (n + 1) H1) n z + if isortL (n + 1) H1 n = z then 1 else 0 := rfl
      have e4 : swp H1 0 n n = H1 0 := by
        by_cases h0 : n = 0
        · subst h0; exact swp_l _ _ _
        · exact swp_r _ h0
      rw [e4] at e2
      rw [isort_last hp] at e3
      have := c2 z
      omega
    rw [h2, ha i (by omega), hb i (by omega), hj]
    exact (insL_cut j (by omega) (isortL_sorted j A).1 i hi).symm
end Go.Proofs.Ytjliecggfncelaa

/- leastOf of the program. -/
namespace Go.Proofs.Ytjliecggfncelaa
open Go.RowKit
set_option maxRecDepth 8000
set_option linter.unusedSimpArgs false
set_option linter.unusedVariables false

theorem isortL_ext {A B : NL} : ∀ n, (∀ i, i < n → A i = B i) → ∀ i, i < n → isortL n A i = isortL n B i := by
  intro n
  induction n with
  | zero => intro _ i hi; omega
  | succ n ih =>
    intro h i hi
    show insL n (isortL n A) (A n) i = insL n (isortL n B) (B n) i
    rw [h n (by omega)]
    exact insL_ext n _ _ _ (fun j hj => ih (fun k hk => h k (by omega)) j hj) i (by omega)

theorem HeapP.congr {n : Nat} {A B : NL} (h : HeapP n A) (e : ∀ i, i < n → A i = B i) : HeapP n B := fun j h0 hj => by rw [← e _ (by omega), ← e j hj]; exact h j h0 hj

theorem listL_at {n : Nat} {L : NL} {i : Nat} (h : i < n) : listL n (fun i => (L i).1) (fun i => (L i).2) i = L i := by
  unfold listL
  rw [if_pos h]

/-- A heap that keeps the K least of the first j of A. -/
structure Keep (K : Nat) (A : NL) (j n : Nat) (P : NL) : Prop where
  num : n = min j K
  heap : HeapP n P
  same : ∀ i, i < n → isortL n P i = isortL j A i

theorem Keep.zero (K : Nat) (A P : NL) : Keep K A 0 0 P := ⟨by omega, fun j h0 hj => by omega, fun i hi => by omega⟩

theorem Keep.step {K : Nat} {A : NL} {j n : Nat} {P : NL} (h : Keep K A j n P) : Keep K A (j + 1) (putN K n) (putL K n (fun i => (P i).1) (fun i => (P i).2) (A j).1 (A j).2) := by
  have hn := h.num
  have hs := keep_step (K := K) (n := n) (j := j) (H := listL n (fun i => (P i).1) (fun i => (P i).2)) (A := A) (x := A j) rfl hn (h.heap.congr fun i hi => (listL_at hi).symm) (fun i hi => (isortL_ext n (fun i hi => listL_at hi) i hi).trans (h.same i hi))
  unfold putN putL putL1
  by_cases hlt : n < K
  · obtain ⟨h1, h2⟩ := hs.1 hlt
    rw [if_neg (by omega), if_neg (by omega)]
    exact ⟨by omega, h1, h2⟩
  · obtain ⟨h1, h2⟩ := hs.2 hlt
    rw [if_pos (by omega), if_pos (by omega)]
    exact ⟨by omega, h1, h2⟩

theorem mem_isort {n : Nat} {A : NL} {i : Nat} (hi : i < n) : ∃ j, j < n ∧ A j = isortL n A i := by
  refine cnt_pos n ?_
  rw [← (isortL_sorted n A).2]
  exact cnt_of hi rfl

theorem isort_mem {n : Nat} {A : NL} {i : Nat} (hi : i < n) : ∃ j, j < n ∧ isortL n A j = A i := by
  refine cnt_pos n ?_
  rw [(isortL_sorted n A).2]
  exact cnt_of hi rfl

theorem Keep.near {K : Nat} {A : NL} {j n : Nat} {P : NL} (h : Keep K A j n P) (hA : ∀ t, t < j → nearB (A t).1 (A t).2 = true) : ∀ i, i < n → nearB (P i).1 (P i).2 = true := by
  intro i hi
  obtain ⟨t, ht, e⟩ := isort_mem (A := P) hi
  have hn := h.num
  rw [← e, h.same t ht]
  obtain ⟨u, hu, e2⟩ := mem_isort (n := j) (A := A) (i := t) (by omega)
  rw [← e2]
  exact hA u hu

theorem Keep.ok {K : Nat} {A : NL} {j n : Nat} {P : NL} (h : Keep K A j n P) (hA : ∀ t, t < j → nearB (A t).1 (A t).2 = true) (h1 : 1 ≤ K) (h20 : K ≤ 20) : heapB K n (fun i => (P i).1) (fun i => (P i).2) = true := by
  have hn := h.num
  rw [heapB_some ⟨⟨by omega, by omega⟩, by omega⟩]
  refine allN_yes fun i hi => ?_
  unfold heapAt
  rw [h.near hA i hi]
  by_cases h0 : i = 0
  · subst h0
    simp only [Bool.true_and, Bool.not_eq_true']
    exact lessB_self _ _
  · simp only [Bool.true_and, Bool.not_eq_true']
    exact h.heap i (by omega) hi

/-- What leastOf keeps: its heap's box, and the row that it leads to. -/
structure HK1 (w0 : World) (K : Nat) (A : NL) (j : Nat) (w : World) : Prop where
  ex : ∃ a c n P, w.heap[w0.heap.size]? = some (.cells #[.int .i64 K, .slice a n c] 76 (0, 0)) ∧ Wr w a n P (w0.heap.size + 1) ∧ Keep K A j n P
  bel : Below w0.heap.size w0 w

theorem HK1.below {w0 : World} {K : Nat} {A : NL} {j : Nat} {w w' : World} (h : HK1 w0 K A j w) (hb : Below w.heap.size w w') : HK1 w0 K A j w' := by
  obtain ⟨⟨a, c, n, P, h1, h2, h3⟩, h4⟩ := h
  exact ⟨⟨a, c, n, P, (hb.block _ (Array.getElem?_eq_some_iff.1 h1).1).trans h1, h2.below hb, h3⟩, bstep h4 hb⟩

theorem two_c0 {w : World} {b : Nat} {u v : Value} {t : TypeId} (h : w.heap[b]? = some (.cells #[u, v] t (0, 0))) : w.cell? ⟨b, 0, none⟩ = some u := by simp [World.cell?, h]

theorem two_c1 {w : World} {b : Nat} {u v : Value} {t : TypeId} (h : w.heap[b]? = some (.cells #[u, v] t (0, 0))) : w.cell? ⟨b, 1, none⟩ = some v := by simp [World.cell?, h]

theorem two_f {w : World} {b : Nat} {u v : Value} {t : TypeId} (h : w.heap[b]? = some (.cells #[u, v] t (0, 0))) (o : Nat) : w.frozen? ⟨b, o, none⟩ = false := by simp [World.frozen?, h]

theorem Wr.awayB {w : World} {a : Option Addr} {l : Nat} {L : NL} {B : Nat} (h : Wr w a l L B) (p : Addr) (v : Value) (hp : p.block < B) : Wr (w.setCell p v) a l L B := by
  rcases h with h0 | ⟨b, e, hB, hr⟩
  · exact .inl h0
  · exact .inr ⟨b, e, hB, hr.away p v (by omega)⟩

/-- The answer of leastOf: the least min K N of A, sorted. -/
def LeastR (w : World) (K N : Nat) (A : NL) (e : Ending) (w' : World) : Prop :=
  ∃ a cap, e = .returned (.slice a (min K N) cap) ∧ Wr w' a (min K N) (isortL N A) w.heap.size ∧ Below w.heap.size w w'

/-- The same, and where it lies, without room behind. -/
def LeastC (w : World) (K N : Nat) (A : NL) (e : Ending) (w' : World) : Prop :=
  ∃ b, e = .returned (.slice (some ⟨b, 0, none⟩) (min K N) (min K N)) ∧ w.heap.size ≤ b ∧ RowL w' b (min K N) (isortL N A) ∧ Below w.heap.size w w'

theorem LeastC.r {w : World} {K N : Nat} {A : NL} {e : Ending} {w' : World} (h : LeastC w K N A e w') : LeastR w K N A e w' := by
  obtain ⟨b, he, hb, hr, hl⟩ := h
  exact ⟨_, _, he, .inr ⟨b, rfl, hb, hr⟩, hl⟩

set_option maxHeartbeats 8000000 in
set_option maxRecDepth 4000 in
theorem leastOf_someC (b off N cap K : Nat) (A : NL) (w : World) (h1 : 1 ≤ K) (h20 : K ≤ 20) (hN : N ≤ 60) (hA : ∀ t, t < N → nearB (A t).1 (A t).2 = true) (hb : b < w.heap.size) (hc : ∀ i, i < N → w.cell? ⟨b, off + i * 2, none⟩ = some (.int .i64 (A i).1) ∧ w.cell? ⟨b, off + i * 2 + 1, none⟩ = some (.int .i64 (A i).2)) :
    Calls Try.prog 26 #[.slice (some ⟨b, off, none⟩) N cap, .int .i64 K] w fun e w' => LeastC w K N A e w' := by
  have HC := hide hc
  have HA := hide hA
  clear hc hA
  go_enter Try.func26, Try.ntmps26
  go_wp2_with fail
  go_loopw [12] (fun i wr => ∃ j : Nat, j ≤ N ∧ i = .int .i64 j ∧ HK1 w K A j wr) (fun i _ => N - (intOf i).toNat)
  case atStart => exact ⟨0, Nat.zero_le _, rfl, ⟨none, 0, 0, fun _ => (0, 0), Go.Deep.blk_alloc_new _ _, .inl rfl, Keep.zero _ _ _⟩, (by repeat' first | with_reducible exact Below.refl _ _ | with_reducible assumption | with_reducible refine below_drewN ?_ _ | with_reducible refine balloc ?_ _ | with_reducible refine Below.drew ?_ | with_reducible refine Below.setCell ?_ (by first | (simp; done) | (simp; omega) | omega) _ | with_reducible refine bstep ?_ (by assumption))⟩
  case round =>
    obtain ⟨j, hj, rfl, hk⟩ := hrel
    have HK := hide hk
    obtain ⟨⟨a, c, n, P, hbx, hwr, hkeep⟩, hbel⟩ := hk
    have q0 := two_c0 hbx
    have q1 := two_c1 hbx
    have lbx := (Array.getElem?_eq_some_iff.1 hbx).1
    have hn := hkeep.num
    by_cases hlt : j < N
    · have hlt' : (j : Int) < (N : Int) := by omega
      have c0 : wr.cell? ⟨b, off + j * 2, none⟩ = some (.int .i64 (A j).1) := (hbel.cell (p := ⟨b, off + j * 2, none⟩) hb).trans (HC.out j hlt).1
      have c1 : wr.cell? ⟨b, off + j * 2 + 1, none⟩ = some (.int .i64 (A j).2) := (hbel.cell (p := ⟨b, off + j * 2 + 1, none⟩) hb).trans (HC.out j hlt).2
      have hok := hkeep.ok (fun t ht => HA.out t (by omega)) h1 h20
      have hpb : putB K n (fun i => (P i).1) (fun i => (P i).2) (A j).1 (A j).2 = true := by unfold putB; rw [hok, HA.out j hlt]; rfl
      have PU := hide (fun w1 (hb1 : Below wr.heap.size wr w1) => iHeapPut_any K a n c (fun i => (P i).1) (fun i => (P i).2) (A j).1 (A j).2 w1 (hwr.prow.below hb1))
      have HPB := hide hpb
      have HST := hide hkeep.step
      have HBX := hide hbx
      have HBEL := hide hbel
      clear hbx hwr hkeep hbel hok hpb hn
      go_wp2_with fail
      refine (PU.out _ (by repeat' first | with_reducible exact Below.refl _ _ | with_reducible assumption | with_reducible refine below_drewN ?_ _ | with_reducible refine balloc ?_ _ | with_reducible refine Below.drew ?_ | with_reducible refine Below.setCell ?_ (by first | (simp; done) | (simp; omega) | omega) _ | with_reducible refine bstep ?_ (by assumption))).mono ?_
      rintro e w1 ⟨hb1, hq⟩
      obtain ⟨b2, c2, m2, rfl, hle2, hlm2, _, hown2⟩ : ∃ b2 c2 m2, e = .returned (.tuple #[.agg #[.int .i64 K, .slice (some ⟨b2, 0, none⟩) (putN K n) c2], .bool true]) ∧ (wr.alloc (.cells #[.int .i64 (A j).1, .int .i64 (A j).2] 49)).heap.size ≤ b2 ∧ putN K n ≤ m2 ∧ m2 ≤ 22 ∧ OwnL w1 b2 m2 (putL K n (fun i => (P i).1) (fun i => (P i).2) (A j).1 (A j).2) := by
        rcases hq with ⟨h0, _⟩ | ⟨_, b2, c2, m2, h⟩
        · rw [HPB.out] at h0; cases h0
        · exact ⟨b2, c2, m2, h⟩
      have bw1 : Below wr.heap.size wr w1 := (by repeat' first | with_reducible exact Below.refl _ _ | with_reducible assumption | with_reducible refine below_drewN ?_ _ | with_reducible refine balloc ?_ _ | with_reducible refine Below.drew ?_ | with_reducible refine Below.setCell ?_ (by first | (simp; done) | (simp; omega) | omega) _ | with_reducible refine bstep ?_ (by assumption))
      have hbx1 := (bw1.block _ lbx).trans HBX.out
      have d0 := two_c0 hbx1
      have d1 := two_c1 hbx1
      have d2 := two_f hbx1 0
      have d3 := two_f hbx1 1
      have hs0 := HBEL.out.size
      simp only [World.size_alloc] at hle2
      have HEND : Hid (HK1 w K A (j + 1) ((w1.setCell ⟨w.heap.size, 0, none⟩ (.int .i64 K)).setCell ⟨w.heap.size, 1, none⟩ (.slice (some ⟨b2, 0, none⟩) (putN K n) c2))) := hide (by
        refine ⟨⟨some ⟨b2, 0, none⟩, c2, putN K n, _, ?_, ?_, HST.out⟩, ?_⟩
        · rw [heap_set (heap_set hbx1)]
          simp
        · exact .inr ⟨b2, rfl, by omega, ((hown2.rowl.less hlm2).away _ _ (by simp; omega)).away _ _ (by simp; omega)⟩
        · exact ((bstep HBEL.out bw1).setCell (by simp) _).setCell (by simp) _)
      clear q0 q1 c0 c1 hq hown2 hbx1 hb1 bw1
      go_wp2_with fail
      go_roundw
      case rel => exact ⟨j + 1, by omega, by go_num, HEND.out⟩
      case measure => simp [intOf]; omega
    · obtain rfl : j = N := by omega
      have hok := hkeep.ok (fun t ht => HA.out t (by omega)) h1 h20
      have SO := hide (iHeapSorted_yes K a n c (fun i => (P i).1) (fun i => (P i).2) wr hwr.prow hok (by omega))
      have HS := hide (fun i (hi : i < n) => (sorts_alike n _ (listL_heap hok) i hi).trans ((isortL_ext n (fun i hi => listL_at hi) i hi).trans (hkeep.same i hi)))
      have HBEL := hide hbel
      have HN := hide (show n = min K j by omega)
      clear hbx hwr hkeep hbel hok hn
      go_wp2_with fail
      refine SO.out.mono ?_
      rintro e w1 ⟨b2, rfl, hle2, hown2, hb1⟩
      have HO2 := hide hown2
      clear hown2
      go_wp2_with fail
      go_ret
      refine ⟨b2, ?_, Nat.le_trans HBEL.out.size hle2, ?_, bstep HBEL.out hb1⟩
      · rw [← HN.out]; rfl
      · rw [← HN.out]
        exact (HO2.out.congr (fun i hi => HS.out i hi)).rowl

theorem leastOf_some (b off N cap K : Nat) (A : NL) (w : World) (h1 : 1 ≤ K) (h20 : K ≤ 20) (hN : N ≤ 60) (hA : ∀ t, t < N → nearB (A t).1 (A t).2 = true) (hb : b < w.heap.size) (hc : ∀ i, i < N → w.cell? ⟨b, off + i * 2, none⟩ = some (.int .i64 (A i).1) ∧ w.cell? ⟨b, off + i * 2 + 1, none⟩ = some (.int .i64 (A i).2)) :
    Calls Try.prog 26 #[.slice (some ⟨b, off, none⟩) N cap, .int .i64 K] w fun e w' => LeastR w K N A e w' :=
  (leastOf_someC b off N cap K A w h1 h20 hN hA hb hc).mono fun _ _ h => h.r
end Go.Proofs.Ytjliecggfncelaa
