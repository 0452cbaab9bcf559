/- Ranges of vectors, plain; RangesOf of program and model as one contract. -/
import Derived.Test.YtpbehhanccodeaaMD
import Derived.Test.YtpbehhanccodeaaMF
import Derived.OpenShut
namespace Go.Proofs.Ytpbehhanccodeaa
open Go.RowKit
set_option maxRecDepth 8000
set_option linter.unusedSimpArgs false
set_option linter.unusedVariables false

theorem loF_le (xss : List (List Int)) (p : Nat) : ∀ m k, k < m → loF xss p m ≤ nth (row xss k) p
  | 0, k, h => by omega
  | m + 1, k, h => by
    have e : loF xss p (m + 1) = min (loF xss p m) (nth (row xss m) p) := rfl
    rcases Nat.lt_succ_iff_lt_or_eq.1 h with g | g
    · have := loF_le xss p m k g; omega
    · subst g; omega

theorem hiF_ge (xss : List (List Int)) (p : Nat) : ∀ m k, k < m → nth (row xss k) p ≤ hiF xss p m
  | 0, k, h => by omega
  | m + 1, k, h => by
    have e : hiF xss p (m + 1) = max (hiF xss p m) (nth (row xss m) p) := rfl
    rcases Nat.lt_succ_iff_lt_or_eq.1 h with g | g
    · have := hiF_ge xss p m k g; omega
    · subst g; omega

theorem loF_mem (xss : List (List Int)) (p : Nat) : ∀ m, 1 ≤ m → ∃ k, k < m ∧ nth (row xss k) p = loF xss p m
  | 0, h => by omega
  | m + 1, _ => by
    have e : loF xss p (m + 1) = min (loF xss p m) (nth (row xss m) p) := rfl
    by_cases g : nth (row xss m) p ≤ loF xss p m
    · exact ⟨m, by omega, by omega⟩
    · by_cases h0 : m = 0
      · subst h0; exact ⟨0, by omega, by have : loF xss p 0 = nth (row xss 0) p := rfl; omega⟩
      · obtain ⟨k, hk, hv⟩ := loF_mem xss p m (by omega)
        exact ⟨k, by omega, by omega⟩

theorem hiF_mem (xss : List (List Int)) (p : Nat) : ∀ m, 1 ≤ m → ∃ k, k < m ∧ nth (row xss k) p = hiF xss p m
  | 0, h => by omega
  | m + 1, _ => by
    have e : hiF xss p (m + 1) = max (hiF xss p m) (nth (row xss m) p) := rfl
    by_cases g : hiF xss p m ≤ nth (row xss m) p
    · exact ⟨m, by omega, by omega⟩
    · by_cases h0 : m = 0
      · subst h0; exact ⟨0, by omega, by have : hiF xss p 0 = nth (row xss 0) p := rfl; omega⟩
      · obtain ⟨k, hk, hv⟩ := hiF_mem xss p m (by omega)
        exact ⟨k, by omega, by omega⟩

theorem vecOk_comp {xs : List Int} (h : vecOkB xs = true) {j : Nat} (hj : j < xs.length) : compB (nth xs j) = true := by
  unfold vecOkB at h
  rw [Bool.and_eq_true, List.all_eq_true] at h
  refine h.2 _ ?_
  unfold nth
  rw [List.getD_eq_getElem?_getD, List.getElem?_eq_getElem hj]
  exact List.getElem_mem hj
/-- Ranges of right vectors are right, and each number is in its own. -/
theorem rng_right {xss : List (List Int)} (ha : alikeB xss = true) {p : Nat} (hp : p < (row xss 0).length) (h1 : 1 ≤ xss.length) :
    rightB (loF xss p xss.length) (hiF xss p xss.length) = true := by
  obtain ⟨k, hk, e⟩ := loF_mem xss p _ h1
  obtain ⟨k', hk', e'⟩ := hiF_mem xss p _ h1
  have a := alike_at ha hk
  have a' := alike_at ha hk'
  have q := hiF_ge xss p _ k hk
  unfold rightB
  rw [← e, ← e', vecOk_comp a.1 (by omega), vecOk_comp a'.1 (by omega), decide_eq_true (by omega)]
  rfl

theorem rng_has {xss : List (List Int)} (ha : alikeB xss = true) {p : Nat} (hp : p < (row xss 0).length) {k : Nat} (hk : k < xss.length) :
    hasB (loF xss p xss.length) (hiF xss p xss.length) (nth (row xss k) p) = true := by
  unfold hasB inB
  rw [rng_right ha hp (by omega), decide_eq_true ⟨loF_le xss p _ k hk, hiF_ge xss p _ k hk⟩]
  rfl
def rngN (xss : List (List Int)) : Nat := if rngB xss then (row xss 0).length else 0

theorem rng_parts {xss : List (List Int)} (h : rngB xss = true) : 1 ≤ xss.length ∧ xss.length ≤ 60 ∧ alikeB xss = true := by
  unfold rngB at h
  simp only [Bool.and_eq_true, decide_eq_true_eq] at h
  exact ⟨h.1.1, h.1.2, h.2⟩

theorem rngN_8 (xss : List (List Int)) : rngN xss ≤ 8 := by
  unfold rngN
  cases h : rngB xss
  · exact Nat.zero_le _
  · obtain ⟨h1, _, ha⟩ := rng_parts h
    exact (vecOk_len (alike_at ha (k := 0) (by omega)).1).2
/-- What RangesOf tells, of the program and of the model. -/
def RngP (w : World) (xss : List (List Int)) (e : Ending) (w' : World) : Prop :=
  ∃ a c, e = .returned (.tuple #[.slice a (rngN xss) c, .bool (rngB xss)]) ∧ PRow w' a (rngN xss) (fun p => loF xss p xss.length) (fun p => hiF xss p xss.length) ∧ (∀ b off, a = some ⟨b, off, none⟩ → w.heap.size ≤ b) ∧ Below w.heap.size w w'

theorem iRangesP (a : Option Addr) (m cap : Nat) (xss : List (List Int)) (w : World) (h : Mat w a m xss) (hm : m ≤ 1048576) :
    Calls Try.prog 7 #[.slice a m cap] w fun e w' => RngP w xss e w' := by
  refine (iRangesOf_any a m cap xss w h hm).mono fun e w' q => ?_
  rcases q with ⟨h0, he, hb⟩ | ⟨h0, b, he, hlo, ho, hb⟩
  · refine ⟨none, 0, ?_, ⟨.inl ?_⟩, (fun b off e => by cases e), hb⟩
    · rw [he]; unfold rngN; rw [h0]; rfl
    · unfold rngN; rw [h0]; rfl
  · have e : rngN xss = (row xss 0).length := by unfold rngN; rw [h0]; rfl
    exact ⟨_, _, by rw [he, e, h0], by rw [e]; exact ho.prow, fun b' off e => by cases e; exact hlo, hb⟩

set_option maxHeartbeats 1600000 in
theorem sRangesOf_out (a : Option Addr) (m cap : Nat) (w : World) (hm : ¬ (1 ≤ m ∧ m ≤ 60)) :
    Calls Try.prog 8 #[.slice a m cap] w fun e w' => e = .returned (.tuple #[.slice none 0 0, .bool false]) ∧ Below w.heap.size w w' := by
  have IN := hide (fun w1 => l1In_any (m : Int) 1 60 w1)
  rw [show inB (m : Int) 1 60 = false from by unfold inB; simp; omega] at IN
  go_enter Try.func8, Try.ntmps8
  go_wp2_with fail
  refine (IN.out _).mono ?_
  rintro e w1 ⟨rfl, hb1⟩
  obtain rfl := hb1.symm
  clear hb1 IN
  go_wp2_with fail
  refine bodyPost_ret (v := .tuple #[.slice none 0 0, .bool false]) ?_ rfl ⟨rfl, (by repeat' first | with_reducible exact Below.refl _ _ | with_reducible assumption | with_reducible refine below_drewN ?_ _ | with_reducible refine balloc ?_ _ | with_reducible refine Below.drew ?_ | with_reducible refine Below.setCell ?_ (by first | (simp; done) | (simp; omega) | omega) _ | with_reducible refine bstep ?_ (by assumption))⟩
  simp [results, Try.results8, go_sem]

theorem RngP.no {w w' : World} {xss : List (List Int)} {e : Ending} (h0 : rngB xss = false) (he : e = .returned (.tuple #[.slice none 0 0, .bool false])) (hb : Below w.heap.size w w') : RngP w xss e w' := by
  refine ⟨none, 0, ?_, ⟨.inl ?_⟩, (fun b off e => by cases e), hb⟩
  · rw [he]; unfold rngN; rw [h0]; rfl
  · unfold rngN; rw [h0]; rfl

theorem sRangesP (a : Option Addr) (m cap : Nat) (xss : List (List Int)) (w : World) (h : Mat w a m xss) :
    Calls Try.prog 8 #[.slice a m cap] w fun e w' => RngP w xss e w' := by
  by_cases hm : 1 ≤ m ∧ m ≤ 60
  · rcases h.lies with h0 | ⟨b, off, rfl, hb, hc⟩
    · omega
    · cases ha : alikeB xss
      · exact (sRangesOf_no b off m cap xss w h.len hm.1 hm.2 hb hc ha).mono fun e w' q => .no (by rw [rng_of (by rw [h.len]; exact hm.1) (by rw [h.len]; exact hm.2), ha]) q.1 q.2
      · refine (sRangesOf_yes b off m cap xss w h.len hm.1 hm.2 hb hc ha).mono fun e w' q => ?_
        obtain ⟨v, he, ho, hb'⟩ := q
        obtain ⟨a', c', rfl, hp, hlo⟩ := prow_of_owns ho
        have h0 : rngB xss = true := by rw [rng_of (by rw [h.len]; exact hm.1) (by rw [h.len]; exact hm.2), ha]
        have e1 : rngN xss = (row xss 0).length := by unfold rngN; rw [h0]; rfl
        exact ⟨a', c', by rw [he, e1, h0], by rw [e1]; exact hp, hlo, hb'⟩
  · have h0 : rngB xss = false := by
      have := h.len
      by_cases h1 : 1 ≤ xss.length
      · exact rng_many (by omega)
      · exact rng_few h1
    exact (sRangesOf_out a m cap w hm).mono fun e w' q => .no h0 q.1 q.2
def anyLo (xss : List (List Int)) (p : Nat) (x : Int) : Nat → Bool
  | 0 => false
  | k + 1 => anyLo xss p x k || (nth (row xss k) p == x)

theorem anyLo_at {xss : List (List Int)} {p : Nat} {x : Int} : ∀ m k, k < m → nth (row xss k) p = x → anyLo xss p x m = true
  | 0, k, h, _ => by omega
  | m + 1, k, h, e => by
    unfold anyLo
    rcases Nat.lt_succ_iff_lt_or_eq.1 h with g | g
    · rw [anyLo_at m k g e]; rfl
    · subst g; rw [e]; simp
end Go.Proofs.Ytpbehhanccodeaa
