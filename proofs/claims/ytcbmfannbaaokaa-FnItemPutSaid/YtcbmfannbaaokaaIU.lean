/- placeOf of the program: sort.Search over items that rise. -/
import Derived.Test.YtcbmfannbaaokaaIC
import Derived.BigQuiet
import Derived.Deep.QuietTactic
namespace Go.Proofs.Ytcbmfannbaaokaa
open Go.RowKit
set_option linter.unusedSimpArgs false
set_option linter.unusedVariables false

set_option maxHeartbeats 800000 in
theorem placeOf1_any (bl bi b off n cap k : Nat) (x id : Int) (w : World) (h1 : w.cell? ⟨bl, 0, none⟩ = some (.slice (some ⟨b, off, none⟩) n cap)) (h2 : w.cell? ⟨bi, 0, none⟩ = some (.int .i64 id)) (hk : k < n) (hc : w.cell? ⟨b, off + k * 3, none⟩ = some (.int .i64 x)) :
    Calls Try.prog 42 #[.int .i64 k, .pointer (some ⟨bl, 0, none⟩), .pointer (some ⟨bi, 0, none⟩)] w fun e w' => e = .returned (.bool (decide (id ≤ x))) ∧ Below w.heap.size w w' := by
  have hk' : (k : Int) < (n : Int) := by omega
  go_enter Try.func42, Try.ntmps42
  go_wp2_with fail
  go_quiet (fail)
  go_wp2_with fail
  go_ret
  exact ⟨rfl, (by repeat' first | with_reducible exact Below.refl _ _ | with_reducible assumption | with_reducible refine below_drewN ?_ _ | with_reducible refine balloc ?_ _ | with_reducible refine Below.drew ?_ | with_reducible refine Below.setCell ?_ (by first | (simp; done) | (simp; omega) | omega) _ | with_reducible refine bstep ?_ (by assumption))⟩

/-- Where the item of an id is, or would be. -/
structure IsPlace (n : Nat) (L : IL) (id : Int) (p : Nat) : Prop where
  le : p ≤ n
  lo : ∀ i, i < p → (L i).id < id
  hi : ∀ i, p ≤ i → i < n → id ≤ (L i).id

set_option maxHeartbeats 1600000 in
theorem search_any (bl bi b off n cap : Nat) (L : IL) (id : Int) (w : World) (hn : n ≤ 60) (hl : bl < w.heap.size) (hi : bi < w.heap.size) (hb : b < w.heap.size) (h1 : w.cell? ⟨bl, 0, none⟩ = some (.slice (some ⟨b, off, none⟩) n cap)) (h2 : w.cell? ⟨bi, 0, none⟩ = some (.int .i64 id))
    (hc : ∀ i, i < n → w.cell? ⟨b, off + i * 3, none⟩ = some (.int .i64 (L i).id)) (hr : ∀ i j, i ≤ j → j < n → (L i).id ≤ (L j).id) :
    Calls Try.prog 41 #[.int .i64 n, .func (.func 42) #[] #[.pointer (some ⟨bl, 0, none⟩), .pointer (some ⟨bi, 0, none⟩)]] w fun e w' => ∃ p : Nat, e = .returned (.int .i64 p) ∧ IsPlace n L id p ∧ Below w.heap.size w w' := by
  have HC := hide hc
  have HR := hide hr
  clear hc hr
  go_enter Try.func41, Try.ntmps41
  go_wp2_with fail
  go_loopw [5, 6] (fun i j wr => ∃ p q : Nat, p ≤ q ∧ q ≤ n ∧ i = .int .i64 p ∧ j = .int .i64 q ∧ (∀ k, k < p → (L k).id < id) ∧ (∀ k, q ≤ k → k < n → id ≤ (L k).id) ∧ Below w.heap.size w wr) (fun i j _ => (intOf j).toNat - (intOf i).toNat)
  case atStart => exact ⟨0, n, Nat.zero_le _, Nat.le_refl _, rfl, rfl, fun k hk => absurd hk (by omega), fun k h1 h2 => absurd h2 (by omega), (by repeat' first | with_reducible exact Below.refl _ _ | with_reducible assumption | with_reducible refine below_drewN ?_ _ | with_reducible refine balloc ?_ _ | with_reducible refine Below.drew ?_ | with_reducible refine Below.setCell ?_ (by first | (simp; done) | (simp; omega) | omega) _ | with_reducible refine bstep ?_ (by assumption))⟩
  case round =>
    obtain ⟨p, q, hpq, hqn, rfl, rfl, hlo, hhi, hbel⟩ := hrel
    have HL := hide hlo
    have HH := hide hhi
    have HB := hide hbel
    by_cases hlt : p < q
    · obtain ⟨m, hm⟩ : ∃ m : Nat, (p + q) / 2 = m := ⟨_, rfl⟩
      have hmi : ((p : Int) + (q : Int)) / 2 = (m : Int) := by omega
      have hm1 : p ≤ m := by omega
      have hm2 : m < q := by omega
      clear hm
      obtain ⟨r, hr⟩ : ∃ r, decide (id ≤ (L m).id) = r := ⟨_, rfl⟩
      have C := hide (placeOf1_any bl bi b off n cap m (L m).id id wr ((hbel.cell (p := ⟨bl, 0, none⟩) hl).trans h1) ((hbel.cell (p := ⟨bi, 0, none⟩) hi).trans h2) (by omega) ((hbel.cell (p := ⟨b, off + m * 3, none⟩) hb).trans (HC.out m (by omega))))
      rw [hr] at C
      have HRR := hide hr
      clear hlo hhi hbel hr h1 h2
      go_wp2_with fail
      refine C.out.mono ?_
      rintro e w1 ⟨rfl, hb1⟩
      cases r
      · have hd := of_decide_eq_false HRR.out
        have HD := hide hd
        clear hd
        go_wp2_with fail
        go_roundw
        case rel => exact ⟨m + 1, q, by omega, hqn, by go_num, rfl, fun k hk => by have := HR.out k m (by omega) (by omega); have := HD.out; omega, HH.out, bstep HB.out hb1⟩
        case measure => simp [intOf]; omega
      · have hd := of_decide_eq_true HRR.out
        have HD := hide hd
        clear hd
        go_wp2_with fail
        go_roundw
        case rel => exact ⟨p, m, by omega, by omega, rfl, rfl, HL.out, fun k h1 h2 => by have := HR.out m k h1 h2; have := HD.out; omega, bstep HB.out hb1⟩
        case measure => simp [intOf]; omega
    · obtain rfl : p = q := by omega
      clear hlo hhi hbel
      go_wp2_with fail
      go_ret
      exact ⟨p, rfl, ⟨hqn, HL.out, HH.out⟩, HB.out⟩

/-- The answer of placeOf. -/
def PlaceR (w : World) (n : Nat) (L : IL) (id : Int) (e : Ending) (w' : World) : Prop :=
  ∃ p : Nat, e = .returned (.tuple #[.int .i64 p, .bool (decide (p < n ∧ (L p).id = id))]) ∧ IsPlace n L id p ∧ Below w.heap.size w w'

set_option maxHeartbeats 1600000 in
set_option maxRecDepth 4000 in
theorem placeOf_some (b off n cap : Nat) (L : IL) (id : Int) (w : World) (hn : n ≤ 60) (hb : b < w.heap.size) (hc : ∀ i, i < n → w.cell? ⟨b, off + i * 3, none⟩ = some (.int .i64 (L i).id)) (hr : ∀ i j, i ≤ j → j < n → (L i).id ≤ (L j).id) :
    Calls Try.prog 22 #[.slice (some ⟨b, off, none⟩) n cap, .int .i64 id] w fun e w' => PlaceR w n L id e w' := by
  have hbx : Below w.heap.size w ((w.alloc (.cells #[.slice (some ⟨b, off, none⟩) n cap] 24)).alloc (.cells #[.int .i64 id] 2)) := balloc (balloc (Below.refl _ _) _) _
  have S := hide (search_any w.heap.size (w.heap.size + 1) b off n cap L id ((w.alloc (.cells #[.slice (some ⟨b, off, none⟩) n cap] 24)).alloc (.cells #[.int .i64 id] 2)) hn (by simp; omega) (by simp) (by simp; omega) (by simp [go_sem]) (by simp [go_sem]) (fun i hi => (hbx.cell (p := ⟨b, off + i * 3, none⟩) hb).trans (hc i hi)) hr)
  have HC := hide hc
  have HBX := hide hbx
  clear hc hr hbx
  go_enter Try.func22, Try.ntmps22
  go_wp2_with fail
  refine S.out.mono ?_
  rintro e w1 ⟨p, rfl, hp, hb1⟩
  have HP := hide hp
  have hle := hp.le
  have HB1 := hide (bstep HBX.out hb1)
  have q1 : w1.cell? ⟨w.heap.size, 0, none⟩ = some (.slice (some ⟨b, off, none⟩) n cap) := (hb1.cell (p := ⟨w.heap.size, 0, none⟩) (by simp; omega)).trans (by simp [go_sem])
  have q2 : w1.cell? ⟨w.heap.size + 1, 0, none⟩ = some (.int .i64 id) := (hb1.cell (p := ⟨w.heap.size + 1, 0, none⟩) (by simp)).trans (by simp [go_sem])
  clear hp hb1
  by_cases hlt : p < n
  · have q3 : w1.cell? ⟨b, off + p * 3, none⟩ = some (.int .i64 (L p).id) := (HB1.out.cell (p := ⟨b, off + p * 3, none⟩) hb).trans (HC.out p hlt)
    have hlt' : (p : Int) < (n : Int) := by omega
    have hd : decide ((p : Int) < (n : Int)) = true := decide_eq_true hlt'
    obtain ⟨r, hr⟩ : ∃ r, decide (p < n ∧ (L p).id = id) = r := ⟨_, rfl⟩
    have HR := hide hr
    have hq : ((L p).id == id) = r := by rw [← hr]; simp [hlt]; rfl
    clear hr
    go_wp2_with fail
    go_quiet (fail)
    go_wp2_with fail
    go_ret2
    exact ⟨p, by rw [HR.out]; rfl, HP.out, below_drewN HB1.out _⟩
  · have hd : decide ((p : Int) < (n : Int)) = false := decide_eq_false (by omega)
    have hd' : decide (p < n) = false := decide_eq_false hlt
    have HR := hide (show decide (p < n ∧ (L p).id = id) = false from decide_eq_false fun h => hlt h.1)
    go_wp2_with fail
    go_quiet (fail)
    go_wp2_with fail
    go_ret2
    exact ⟨p, by rw [HR.out]; rfl, HP.out, below_drewN HB1.out _⟩

set_option maxHeartbeats 400000 in
theorem search_zero (n : Nat) (fn : Value) (w : World) (hn : n < 1) :
    Calls Try.prog 41 #[.int .i64 n, fn] w fun e w' => e = .returned (.int .i64 0) ∧ w' = w := by
  go_enter Try.func41, Try.ntmps41
  go_wp2_with fail
  refine wp_loop_rounds 1 ?_
  rw [rounds_succ]
  go_wp2_with fail
  go_ret
  exact ⟨rfl, rfl⟩

set_option maxHeartbeats 800000 in
set_option maxRecDepth 4000 in
theorem placeOf_none (a : Option Addr) (n cap : Nat) (L : IL) (id : Int) (w : World) (hn : n < 1) :
    Calls Try.prog 22 #[.slice a n cap, .int .i64 id] w fun e w' => PlaceR w n L id e w' := by
  have S := hide (fun fn w1 => search_zero n fn w1 hn)
  have HBX := hide (show Below w.heap.size w ((w.alloc (.cells #[.slice a n cap] 24)).alloc (.cells #[.int .i64 id] 2)) from balloc (balloc (Below.refl _ _) _) _)
  go_enter Try.func22, Try.ntmps22
  go_wp2_with fail
  refine (S.out _ _).mono ?_
  rintro e w1 ⟨rfl, rfl⟩
  have hd : decide ((0 : Int) < (n : Int)) = false := decide_eq_false (by omega)
  have hd' : decide (0 < n) = false := decide_eq_false (by omega)
  have HR := hide (show decide (0 < n ∧ (L 0).id = id) = false from decide_eq_false fun h => by omega)
  go_wp2_with fail
  go_quiet (fail)
  go_wp2_with fail
  go_ret2
  exact ⟨0, by rw [HR.out]; rfl, ⟨by omega, fun i hi => absurd hi (by omega), fun i _ hi => absurd hi (by omega)⟩, below_drewN HBX.out _⟩

theorem placeOf_any (a : Option Addr) (n cap : Nat) (L : IL) (id : Int) (w : World) (h : IRow w a n L) (hn : n ≤ 60) (hr : ∀ i j, i ≤ j → j < n → (L i).id ≤ (L j).id) :
    Calls Try.prog 22 #[.slice a n cap, .int .i64 id] w fun e w' => PlaceR w n L id e w' := by
  rcases h.lies with h0 | ⟨b, off, rfl, lt, hc⟩
  · exact placeOf_none a n cap L id w (by omega)
  · exact placeOf_some b off n cap L id w hn lt (fun i hi => (hc i hi).c0) hr
end Go.Proofs.Ytcbmfannbaaokaa
