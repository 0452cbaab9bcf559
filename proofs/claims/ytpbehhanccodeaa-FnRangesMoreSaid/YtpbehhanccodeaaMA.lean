/- Lists of vectors: what they hold; vectorsAlike of the program. -/
import Derived.Test.YtpbehhanccodeaaVC
namespace Go.Proofs.Ytpbehhanccodeaa
open Go.RowKit
set_option maxRecDepth 8000
set_option linter.unusedSimpArgs false
set_option linter.unusedVariables false

def row (xss : List (List Int)) (i : Nat) : List Int := xss.getD i []
/-- A slice of m slices of numbers that begins at a leads to the lists xss. -/
structure Mat (w : World) (a : Option Addr) (m : Nat) (xss : List (List Int)) : Prop where
  len : xss.length = m
  lies : m = 0 ∨ ∃ b off, a = some ⟨b, off, none⟩ ∧ b < w.heap.size ∧ ∀ i, i < m → ∃ a' n' c', w.cell? ⟨b, off + i, none⟩ = some (.slice a' n' c') ∧ Row w a' n' (row xss i) ∧ n' ≤ 1048576

theorem Mat.below {w w' : World} {a : Option Addr} {m : Nat} {xss : List (List Int)} (h : Mat w a m xss) (hb : Below w.heap.size w w') : Mat w' a m xss := by
  refine ⟨h.len, ?_⟩
  rcases h.lies with h0 | ⟨b, off, e, lt, hc⟩
  · exact .inl h0
  · refine .inr ⟨b, off, e, Nat.lt_of_lt_of_le lt hb.size, fun i hi => ?_⟩
    obtain ⟨a', n', c', hz, hr, hn⟩ := hc i hi
    exact ⟨a', n', c', (hb.cell (p := ⟨b, off + i, none⟩) lt).trans hz, hr.below hb, hn⟩

def okAt (xss : List (List Int)) (k : Nat) : Bool := vecOkB (row xss k) && decide ((row xss k).length = (row xss 0).length)
def alikeB (xss : List (List Int)) : Bool := decide (∀ k, k < xss.length → okAt xss k = true)

theorem alike_no {xss : List (List Int)} {k : Nat} (hk : k < xss.length) (h : okAt xss k = false) : alikeB xss = false := by
  refine decide_eq_false fun g => ?_
  rw [g k hk] at h
  cases h

set_option maxHeartbeats 2000000 in
theorem vectorsAlike_any (a : Option Addr) (m cap : Nat) (xss : List (List Int)) (w : World) (h : Mat w a m xss) (hm : m ≤ 1048576) :
    Calls Try.prog 18 #[.slice a m cap] w fun e w' => e = .returned (.bool (alikeB xss)) ∧ Below w.heap.size w w' := by
  have hlen := h.len
  by_cases h0 : m = 0
  · subst h0
    have ht : alikeB xss = true := decide_eq_true fun k hk => absurd hk (by omega)
    rw [ht]
    clear h
    go_enter Try.func18, Try.ntmps18
    go_wp2
    go_loopw [7] (fun i wr => i = .int .i64 0 ∧ wr = w) (fun _ _ => 0)
    case atStart => exact ⟨rfl, rfl⟩
    case round =>
      obtain ⟨rfl, rfl⟩ := hrel
      go_wp2
      go_ret
      exact ⟨rfl, (by repeat' first | with_reducible exact Below.refl _ _ | with_reducible assumption | with_reducible refine below_drewN ?_ _ | with_reducible refine balloc ?_ _ | with_reducible refine Below.drew ?_ | with_reducible refine Below.setCell ?_ (by first | (simp; done) | (simp; omega) | omega) _ | with_reducible refine bstep ?_ (by assumption))⟩
  · rcases h.lies with hc | ⟨b, off, rfl, hb, hc⟩
    · exact absurd hc h0
    have HC := hide hc
    have HT := hide hlen
    clear hc h hlen
    go_enter Try.func18, Try.ntmps18
    go_wp2_with fail
    go_loopw [7] (fun i wr => ∃ k : Nat, k ≤ m ∧ i = .int .i64 k ∧ (∀ j, j < k → okAt xss j = true) ∧ Below w.heap.size w wr) (fun i _ => m - (intOf i).toNat)
    case atStart => exact ⟨0, Nat.zero_le _, rfl, fun j hj => absurd hj (by omega), (by repeat' first | with_reducible exact Below.refl _ _ | with_reducible assumption | with_reducible refine below_drewN ?_ _ | with_reducible refine balloc ?_ _ | with_reducible refine Below.drew ?_ | with_reducible refine Below.setCell ?_ (by first | (simp; done) | (simp; omega) | omega) _ | with_reducible refine bstep ?_ (by assumption))⟩
    case round =>
      obtain ⟨k, hk, rfl, hall, hbel⟩ := hrel
      have HA := hide hall
      have HB := hide hbel
      clear hall
      by_cases hlt : k < m
      · obtain ⟨a1, n1, c1, t1, r1, s1⟩ := HC.out k hlt
        obtain ⟨a0, n0, c0, t0, r0, s0⟩ := HC.out 0 (by omega)
        have t1 := (hbel.cell (p := ⟨b, off + k, none⟩) hb).trans t1
        have hlt' : (k : Int) < (m : Int) := by omega
        have hm0 : (0 : Int) < (m : Int) := by omega
        have e1 := r1.len
        have e0 := r0.len
        have V := hide (iVecOk_any a1 n1 c1 (row xss k) wr (r1.below hbel) s1)
        have T0 := hide t0
        clear t0 r0 r1
        cases hv : vecOkB (row xss k)
        · rw [hv] at V
          have hno : alikeB xss = false := alike_no (k := k) (by rw [HT.out]; exact hlt) (by unfold okAt; rw [hv]; rfl)
          have HN := hide hno
          clear hno
          go_wp2_with fail
          refine V.out.mono ?_
          rintro e w2 ⟨rfl, hb2⟩
          go_wp2_with fail
          go_ret
          exact ⟨by (rw [HN.out]; try rfl), (by repeat' first | with_reducible exact Below.refl _ _ | with_reducible assumption | with_reducible refine below_drewN ?_ _ | with_reducible refine balloc ?_ _ | with_reducible refine Below.drew ?_ | with_reducible refine Below.setCell ?_ (by first | (simp; done) | (simp; omega) | omega) _ | with_reducible refine bstep ?_ (by assumption))⟩
        · rw [hv] at V
          by_cases hn : n1 = n0
          · have hok : okAt xss k = true := by unfold okAt; rw [hv, e1, e0, hn, decide_eq_true rfl]; rfl
            have hne : ((n1 : Int) != (n0 : Int)) = false := by simp [hn]
            have HK := hide hok
            clear hv hok hn e1 e0
            go_wp2_with fail
            refine V.out.mono ?_
            rintro e w2 ⟨rfl, hb2⟩
            have t0 : w2.cell? ⟨b, off, none⟩ = some (.slice a0 n0 c0) := ((bstep HB.out hb2).cell (p := ⟨b, off + 0, none⟩) hb).trans T0.out
            go_wp2_with fail
            go_roundw
            case rel => exact ⟨k + 1, by omega, by go_num, fun j hj => by rcases Nat.lt_succ_iff_lt_or_eq.1 hj with g | g; exact HA.out j g; (subst g; exact HK.out), (by repeat' first | with_reducible exact Below.refl _ _ | with_reducible assumption | with_reducible refine below_drewN ?_ _ | with_reducible refine balloc ?_ _ | with_reducible refine Below.drew ?_ | with_reducible refine Below.setCell ?_ (by first | (simp; done) | (simp; omega) | omega) _ | with_reducible refine bstep ?_ (by assumption))⟩
            case measure => simp [intOf]; omega
          · have hno : alikeB xss = false := alike_no (k := k) (by rw [HT.out]; exact hlt) (by unfold okAt; rw [hv, e1, e0, decide_eq_false hn]; rfl)
            have HN := hide hno
            have hne : ((n1 : Int) != (n0 : Int)) = true := by simp; omega
            clear hv hno e1 e0
            go_wp2_with fail
            refine V.out.mono ?_
            rintro e w2 ⟨rfl, hb2⟩
            have t0 : w2.cell? ⟨b, off, none⟩ = some (.slice a0 n0 c0) := ((bstep HB.out hb2).cell (p := ⟨b, off + 0, none⟩) hb).trans T0.out
            go_wp2_with fail
            go_ret
            exact ⟨by (rw [HN.out]; try rfl), (by repeat' first | with_reducible exact Below.refl _ _ | with_reducible assumption | with_reducible refine below_drewN ?_ _ | with_reducible refine balloc ?_ _ | with_reducible refine Below.drew ?_ | with_reducible refine Below.setCell ?_ (by first | (simp; done) | (simp; omega) | omega) _ | with_reducible refine bstep ?_ (by assumption))⟩
      · have hkm : k = m := by omega
        have ht : alikeB xss = true := decide_eq_true fun j hj => HA.out j (by rw [HT.out] at hj; omega)
        have HN := hide ht
        clear ht
        go_wp2
        go_ret
        exact ⟨by (rw [HN.out]; try rfl), (by repeat' first | with_reducible exact Below.refl _ _ | with_reducible assumption | with_reducible refine below_drewN ?_ _ | with_reducible refine balloc ?_ _ | with_reducible refine Below.drew ?_ | with_reducible refine Below.setCell ?_ (by first | (simp; done) | (simp; omega) | omega) _ | with_reducible refine bstep ?_ (by assumption))⟩
end Go.Proofs.Ytpbehhanccodeaa
