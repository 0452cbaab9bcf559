/- RangesOf of the program. -/
import Derived.Test.YtpbehhanccodeaaMB
import Derived.Test.YtpbehhanccodeaaBB
import Derived.OpenShut
namespace Go.Proofs.Ytpbehhanccodeaa
open Go.RowKit
set_option maxRecDepth 8000
set_option linter.unusedSimpArgs false
set_option linter.unusedVariables false

/-- Are these vectors that have ranges? -/
def rngB (xss : List (List Int)) : Bool := decide (1 ≤ xss.length) && decide (xss.length ≤ 60) && alikeB xss

theorem rng_few {xss : List (List Int)} (h : ¬ 1 ≤ xss.length) : rngB xss = false := by unfold rngB; rw [decide_eq_false h]; rfl

theorem rng_many {xss : List (List Int)} (h : ¬ xss.length ≤ 60) : rngB xss = false := by unfold rngB; rw [decide_eq_false h, Bool.and_false]; rfl

theorem rng_of {xss : List (List Int)} (h1 : 1 ≤ xss.length) (h2 : xss.length ≤ 60) : rngB xss = alikeB xss := by unfold rngB; rw [decide_eq_true h1, decide_eq_true h2]; rfl

theorem alike_at {xss : List (List Int)} (h : alikeB xss = true) {k : Nat} (hk : k < xss.length) : vecOkB (row xss k) = true ∧ (row xss k).length = (row xss 0).length := by
  have := of_decide_eq_true h k hk
  unfold okAt at this
  simp only [Bool.and_eq_true, decide_eq_true_eq] at this
  exact this

theorem vecOk_len {xs : List Int} (h : vecOkB xs = true) : 1 ≤ xs.length ∧ xs.length ≤ 8 := by
  unfold vecOkB at h
  simp only [Bool.and_eq_true, decide_eq_true_eq] at h
  exact h.1
/-- What RangesOf tells. -/
def RngR (w : World) (xss : List (List Int)) (e : Ending) (w' : World) : Prop :=
  (rngB xss = false ∧ e = .returned (.tuple #[.slice none 0 0, .bool false]) ∧ Below w.heap.size w w') ∨
  (rngB xss = true ∧ ∃ b, e = .returned (.tuple #[.slice (some ⟨b, 0, none⟩) (row xss 0).length (row xss 0).length, .bool true]) ∧ w.heap.size ≤ b ∧ OwnP w' b (row xss 0).length (fun p => loF xss p xss.length) (fun p => hiF xss p xss.length) ∧ Below w.heap.size w w')

set_option maxRecDepth 4000 in
set_option maxHeartbeats 4000000 in
theorem iRangesOf_yes (b off m cap : Nat) (xss : List (List Int)) (w : World) (hl : xss.length = m) (h1 : 1 ≤ m) (hm : m ≤ 60) (hb : b < w.heap.size)
    (hc : ∀ i, i < m → ∃ a' n' c', w.cell? ⟨b, off + i, none⟩ = some (.slice a' n' c') ∧ Row w a' n' (row xss i) ∧ n' ≤ 1048576) (ha : alikeB xss = true) :
    Calls Try.prog 7 #[.slice (some ⟨b, off, none⟩) m cap] w fun e w' => RngR w xss e w' := by
  have hM : Mat w (some ⟨b, off, none⟩) m xss := ⟨hl, .inr ⟨b, off, rfl, hb, hc⟩⟩
  have AL := hide (vectorsAlike_any (some ⟨b, off, none⟩) m cap xss w hM (by omega))
  rw [ha] at AL
  obtain ⟨n, hn⟩ : ∃ n, (row xss 0).length = n := ⟨_, rfl⟩
  have hv0 := vecOk_len (alike_at ha (k := 0) (by omega)).1
  rw [hn] at hv0
  have RC : Hid (∀ i, i < m → ∃ b' o' c', w.cell? ⟨b, off + i, none⟩ = some (.slice (some ⟨b', o', none⟩) n c') ∧ b' < w.heap.size ∧ ∀ p, p < n → w.cell? ⟨b', o' + p, none⟩ = some (.int .i64 (nth (row xss i) p))) := hide (by
    intro i hi
    obtain ⟨a', n', c', hz, hr, _⟩ := hc i hi
    have e := (alike_at ha (k := i) (by omega)).2
    rw [hr.len, hn] at e
    subst e
    rcases hr.lies with h0 | ⟨b', o', rfl, lt, hcc⟩
    · omega
    · exact ⟨b', o', c', hz, lt, hcc⟩)
  have FIN : Hid (∀ b' w', w.heap.size ≤ b' → OwnP w' b' n (fun p => loF xss p m) (fun p => hiF xss p m) → Below w.heap.size w w' → RngR w xss (.returned (.tuple #[.slice (some ⟨b', 0, none⟩) n n, .bool true])) w') := hide fun b' w' h1' h2 h3 => .inr ⟨by rw [rng_of (by omega) (by omega), ha], b', by rw [hn], h1', by rw [hn, hl]; exact h2, h3⟩
  have RA : Hid (∀ p w1, p < n → Below w.heap.size w w1 → Calls Try.prog 19 #[.slice (some ⟨b, off, none⟩) m cap, .int .i64 p] w1 fun e w' => e = .returned (.agg #[.int .i64 (loF xss p m), .int .i64 (hiF xss p m)]) ∧ Below w1.heap.size w1 w') := hide fun p w1 hp hw => rangeAt_any b off m cap p xss w1 (Nat.lt_of_lt_of_le hb hw.size) h1 (by omega) (by omega) fun i hi => by
    obtain ⟨b', o', c', hz, lt, hcc⟩ := RC.out i hi
    exact ⟨b', o', n, c', (hw.cell (p := ⟨b, off + i, none⟩) hb).trans hz, hp, Nat.lt_of_lt_of_le lt hw.size, (hw.cell (p := ⟨b', o' + p, none⟩) lt).trans (hcc p hp)⟩
  have hmk := run_make_pairs (P := Try.prog) 26 32 (.int .i64 0) (.int .i64 0) 16 Try.underlying26 Try.infoRange .i64 .i64 n (by omega) (by omega)
  obtain ⟨b0, o0, c0, z0, lt0, _⟩ := RC.out 0 (by omega)
  have Z0 : Hid (w.cell? ⟨b, off, none⟩ = some (.slice (some ⟨b0, o0, none⟩) n c0)) := hide z0
  have hm1 : ((m : Int) < 1) = False := by simp; omega
  have hm2 : ((60 : Int) < m) = False := by simp; omega
  have hm0 : (0 : Int) < (m : Int) := by omega
  obtain ⟨F, hF⟩ : ∃ F, (fun p => loF xss p m) = F := ⟨_, rfl⟩
  obtain ⟨G, hG⟩ : ∃ G, (fun p => hiF xss p m) = G := ⟨_, rfl⟩
  have eF : ∀ p, loF xss p m = F p := fun p => by rw [← hF]
  have eG : ∀ p, hiF xss p m = G p := fun p => by rw [← hG]
  rw [hF, hG] at FIN
  simp only [eF, eG] at RA
  clear hM hc ha hn hF hG eF eG RC z0 hl
  go_enter Try.func7, Try.ntmps7
  go_wp2_with fail
  refine AL.out.mono ?_
  rintro e w1 ⟨rfl, hb1⟩
  have z1 := (hb1.cell (p := ⟨b, off, none⟩) hb).trans Z0.out
  go_wp2_with fail
  have hs1 := hb1.size
  go_loopw [26] (fun i wr => ∃ k : Nat, k ≤ n ∧ i = .int .i64 k ∧ OwnP wr w1.heap.size n (upTo k F) (upTo k G) ∧ Below w.heap.size w wr) (fun i _ => n - (intOf i).toNat)
  case atStart => exact ⟨0, Nat.zero_le _, rfl, (OwnP.made w1 n).congr (fun j _ => by simp [upTo]) (fun j _ => by simp [upTo]), (by repeat' first | with_reducible exact Below.refl _ _ | with_reducible assumption | with_reducible refine below_drewN ?_ _ | with_reducible refine balloc ?_ _ | with_reducible refine Below.drew ?_ | with_reducible refine Below.setCell ?_ (by first | (simp; done) | (simp; omega) | omega) _ | with_reducible refine bstep ?_ (by assumption))⟩
  case round =>
    obtain ⟨k, hk, rfl, hrow, hbel⟩ := hrel
    have HB := hide hbel
    have HR := hide hrow
    by_cases hlt : k < n
    · have hlt' : (k : Int) < (n : Int) := by omega
      have R := hide (RA.out k wr hlt hbel)
      clear hbel hrow z1
      go_wp2_with fail
      refine R.out.mono ?_
      rintro e w2 ⟨rfl, hb2⟩
      have HR2 := hide (HR.out.below hb2)
      have HB2 := hide (bstep HB.out hb2)
      have x0 := HR2.out.c0 hlt
      have x1 := HR2.out.c1 hlt
      have y0 := World.rowIs.frozen HR2.out (k * 2)
      have y1 := World.rowIs.frozen HR2.out (k * 2 + 1)
      have ST := hide HR2.out.step
      clear HR HB hb2 R
      go_wp2_with fail
      go_roundw
      case rel =>
        have hbel := HB2.out
        exact ⟨k + 1, by omega, by go_num, ST.out, (hbel.setCell hs1 _).setCell hs1 _⟩
      case measure => simp [intOf]; omega
    · clear z1
      have FF := hide (FIN.out w1.heap.size wr hs1 (hrow.congr (fun j hj => by rw [upTo, if_pos (by omega)]) (fun j hj => by rw [upTo, if_pos (by omega)])) hbel)
      clear hbel hrow
      go_wp2_with fail
      refine bodyPost_ret (v := .tuple #[.slice (some ⟨w1.heap.size, 0, none⟩) n n, .bool true]) ?_ rfl FF.out
      simp [results, Try.results7, go_sem]

set_option maxHeartbeats 1600000 in
theorem iRangesOf_any (a : Option Addr) (m cap : Nat) (xss : List (List Int)) (w : World) (h : Mat w a m xss) (hm : m ≤ 1048576) :
    Calls Try.prog 7 #[.slice a m cap] w fun e w' => RngR w xss e w' := by
  have hl := h.len
  by_cases h1 : 1 ≤ m
  · by_cases h60 : m ≤ 60
    · cases ha : alikeB xss
      · have AL := hide (vectorsAlike_any a m cap xss w h hm)
        rw [ha] at AL
        have hno : rngB xss = false := by rw [rng_of (by omega) (by omega), ha]
        have FIN : Hid (∀ w', Below w.heap.size w w' → RngR w xss (.returned (.tuple #[.slice none 0 0, .bool false])) w') := hide fun w' hb => .inl ⟨hno, rfl, hb⟩
        have hm1 : ((m : Int) < 1) = False := by simp; omega
        have hm2 : ((60 : Int) < m) = False := by simp; omega
        clear h hl ha hno
        go_enter Try.func7, Try.ntmps7
        go_wp2_with fail
        refine AL.out.mono ?_
        rintro e w1 ⟨rfl, hb1⟩
        go_wp2_with fail
        refine bodyPost_ret (v := .tuple #[.slice none 0 0, .bool false]) ?_ rfl (FIN.out _ (by repeat' first | with_reducible exact Below.refl _ _ | with_reducible assumption | with_reducible refine below_drewN ?_ _ | with_reducible refine balloc ?_ _ | with_reducible refine Below.drew ?_ | with_reducible refine Below.setCell ?_ (by first | (simp; done) | (simp; omega) | omega) _ | with_reducible refine bstep ?_ (by assumption)))
        simp [results, Try.results7, go_sem]
      · rcases h.lies with h0 | ⟨b, off, rfl, hb, hc⟩
        · omega
        · exact iRangesOf_yes b off m cap xss w hl h1 h60 hb hc ha
    · have hno : rngB xss = false := rng_many (by omega)
      have FIN : Hid (∀ w', Below w.heap.size w w' → RngR w xss (.returned (.tuple #[.slice none 0 0, .bool false])) w') := hide fun w' hb => .inl ⟨hno, rfl, hb⟩
      have hm1 : ((m : Int) < 1) = False := by simp; omega
      have hm2 : (60 : Int) < m := by omega
      clear h hl hno
      go_enter Try.func7, Try.ntmps7
      go_wp2_with fail
      refine bodyPost_ret (v := .tuple #[.slice none 0 0, .bool false]) ?_ rfl (FIN.out _ (by repeat' first | with_reducible exact Below.refl _ _ | with_reducible assumption | with_reducible refine below_drewN ?_ _ | with_reducible refine balloc ?_ _ | with_reducible refine Below.drew ?_ | with_reducible refine Below.setCell ?_ (by first | (simp; done) | (simp; omega) | omega) _ | with_reducible refine bstep ?_ (by assumption)))
      simp [results, Try.results7, go_sem]
  · obtain rfl : m = 0 := by omega
    have hno : rngB xss = false := rng_few (by omega)
    have FIN : Hid (∀ w', Below w.heap.size w w' → RngR w xss (.returned (.tuple #[.slice none 0 0, .bool false])) w') := hide fun w' hb => .inl ⟨hno, rfl, hb⟩
    clear h hl hno
    go_enter Try.func7, Try.ntmps7
    go_wp2_with fail
    refine bodyPost_ret (v := .tuple #[.slice none 0 0, .bool false]) ?_ rfl (FIN.out _ (by repeat' first | with_reducible exact Below.refl _ _ | with_reducible assumption | with_reducible refine below_drewN ?_ _ | with_reducible refine balloc ?_ _ | with_reducible refine Below.drew ?_ | with_reducible refine Below.setCell ?_ (by first | (simp; done) | (simp; omega) | omega) _ | with_reducible refine bstep ?_ (by assumption)))
    simp [results, Try.results7, go_sem]
end Go.Proofs.Ytpbehhanccodeaa
