/- Vectors of the program: vectorOf, VecOk. -/
import Derived.Test.YtlmiamohhmabhaaDoorVB
namespace Go.Proofs.YtlmiamohhmabhaaDoor
open Go.RowKit
set_option maxRecDepth 8000
set_option linter.unusedSimpArgs false

/-- A vector as the program has it: eight numbers, noughts behind, and how many. -/
def vecV (xs : List Int) (n : Int) : Value := .agg #[.int .i64 (nth xs 0), .int .i64 (nth xs 1), .int .i64 (nth xs 2), .int .i64 (nth xs 3), .int .i64 (nth xs 4), .int .i64 (nth xs 5), .int .i64 (nth xs 6), .int .i64 (nth xs 7), .int .i64 n]
def cellF (xs : List Int) (n : Nat) (k j : Nat) : Value := if j < k then .int .i64 (nth xs j) else if j = 8 then .int .i64 n else .int .i64 0

set_option maxHeartbeats 400000 in
theorem vectorOf_len (a : Option Addr) (n cap : Nat) (w : World) (h : n < 1 ∨ 8 < n) (hn : n ≤ 1048576) :
    Calls Tryd.prog 54 #[.slice a n cap] w fun e w' => e = .returned (.tuple #[vecV [] 0, .bool false]) ∧ Below w.heap.size w w' := by
  rcases h with h | h
  · go_enter Tryd.func54, Tryd.ntmps54
    go_wp2
    refine bodyPost_ret (v := .tuple #[vecV [] 0, .bool false]) ?_ rfl ⟨rfl, ?_⟩
    · simp [results, Tryd.results54, go_sem, vecV, nth]
    · exact (by repeat' first | with_reducible exact Below.refl _ _ | with_reducible assumption | with_reducible refine below_drewN ?_ _ | with_reducible refine balloc ?_ _ | with_reducible refine Below.drew ?_ | with_reducible refine Below.setCell ?_ (by first | (simp; done) | (simp; omega) | omega) _ | with_reducible refine bstep ?_ (by assumption))
  · have h' : ¬ n < 1 := by omega
    go_enter Tryd.func54, Tryd.ntmps54
    go_wp2
    refine bodyPost_ret (v := .tuple #[vecV [] 0, .bool false]) ?_ rfl ⟨rfl, ?_⟩
    · simp [results, Tryd.results54, go_sem, vecV, nth]
    · exact (by repeat' first | with_reducible exact Below.refl _ _ | with_reducible assumption | with_reducible refine below_drewN ?_ _ | with_reducible refine balloc ?_ _ | with_reducible refine Below.drew ?_ | with_reducible refine Below.setCell ?_ (by first | (simp; done) | (simp; omega) | omega) _ | with_reducible refine bstep ?_ (by assumption))

theorem cellF_step {w : World} {g n k : Nat} {xs : List Int} {t : TypeId} (h : w.rowIs g t 9 (cellF xs n k)) (hk : k < 8) :
    (w.setCell ⟨g, k, none⟩ (.int .i64 (nth xs k))).rowIs g t 9 (cellF xs n (k + 1)) := by
  refine (World.rowIs.set h k _).congr fun j hj => ?_
  unfold cellF
  by_cases e : j = k
  · subst e; simp
  · by_cases l : j < k
    · rw [if_neg e, if_pos l, if_pos (by omega)]
    · simp [e, l, show ¬ j < k + 1 by omega]

theorem start0 (w : World) (n : Int) (t : TypeId) : ((w.alloc (.cells #[.int .i64 0, .int .i64 0, .int .i64 0, .int .i64 0, .int .i64 0, .int .i64 0, .int .i64 0, .int .i64 0, .int .i64 0] t)).alloc (.cells #[.int .i64 0, .int .i64 0, .int .i64 0, .int .i64 0, .int .i64 0, .int .i64 0, .int .i64 0, .int .i64 0, .int .i64 n] t)).rowIs w.heap.size t 9 (fun _ => .int .i64 0) := by
  refine World.rowIs.alloc (World.rowIs_alloc w _ t _ ?_) _
  intro i hi
  have : i < 9 := hi
  rcases (show i = 0 ∨ i = 1 ∨ i = 2 ∨ i = 3 ∨ i = 4 ∨ i = 5 ∨ i = 6 ∨ i = 7 ∨ i = 8 by omega) with rfl | rfl | rfl | rfl | rfl | rfl | rfl | rfl | rfl <;> rfl

theorem start1 (w : World) (n : Nat) (o : Obj) (xs : List Int) (t : TypeId) : ((w.alloc o).alloc (.cells #[.int .i64 0, .int .i64 0, .int .i64 0, .int .i64 0, .int .i64 0, .int .i64 0, .int .i64 0, .int .i64 0, .int .i64 n] t)).rowIs (w.heap.size + 1) t 9 (cellF xs n 0) := by
  have := World.rowIs_alloc (w.alloc o) #[.int .i64 0, .int .i64 0, .int .i64 0, .int .i64 0, .int .i64 0, .int .i64 0, .int .i64 0, .int .i64 0, .int .i64 n] t (cellF xs n 0) ?_
  · rw [World.size_alloc] at this
    exact this
  · intro i hi
    have : i < 9 := hi
    rcases (show i = 0 ∨ i = 1 ∨ i = 2 ∨ i = 3 ∨ i = 4 ∨ i = 5 ∨ i = 6 ∨ i = 7 ∨ i = 8 by omega) with rfl | rfl | rfl | rfl | rfl | rfl | rfl | rfl | rfl <;> rfl

theorem nth_past {xs : List Int} {j : Nat} (h : xs.length ≤ j) : nth xs j = 0 := by simp [nth, h]

theorem cellF_end {xs : List Int} {n j : Nat} (hl : xs.length = n) (hj : j < 8) : cellF xs n n j = .int .i64 (nth xs j) := by
  unfold cellF
  by_cases h : j < n
  · rw [if_pos h]
  · rw [if_neg h, if_neg (by omega), nth_past (by omega)]

theorem cellF_n {xs : List Int} {n : Nat} (h : n ≤ 8) : cellF xs n n 8 = .int .i64 n := by
  unfold cellF
  rw [if_neg (by omega), if_pos rfl]

set_option maxHeartbeats 1000000 in
theorem vectorOf_no (b off n cap : Nat) (xs : List Int) (w : World) (hl : xs.length = n) (h1 : 1 ≤ n) (h8 : n ≤ 8) (hb : b < w.heap.size) (hc : ∀ i, i < n → w.cell? ⟨b, off + i, none⟩ = some (.int .i64 (nth xs i))) (hv : xs.all compB = false) :
    Calls Tryd.prog 54 #[.slice (some ⟨b, off, none⟩) n cap] w fun e w' => e = .returned (.tuple #[vecV [] 0, .bool false]) ∧ Below w.heap.size w w' := by
  go_enter Tryd.func54, Tryd.ntmps54
  go_wp2
  go_loopw [5, 6, 21] (fun s5 s6 i wr => ∃ k : Nat, k ≤ n ∧ i = .int .i64 k ∧ (∀ j, j < k → compB (nth xs j) = true) ∧ wr.rowIs w.heap.size 87 9 (fun _ => .int .i64 0) ∧ wr.rowIs (w.heap.size + 1) 87 9 (cellF xs n k) ∧ Below w.heap.size w wr) (fun _ _ i _ => n - (intOf i).toNat)
  case atStart => exact ⟨0, Nat.zero_le _, rfl, fun j h => absurd h (by omega), start0 _ _ _, start1 _ _ _ _ _, (by repeat' first | with_reducible exact Below.refl _ _ | with_reducible assumption | with_reducible refine below_drewN ?_ _ | with_reducible refine balloc ?_ _ | with_reducible refine Below.drew ?_ | with_reducible refine Below.setCell ?_ (by first | (simp; done) | (simp; omega) | omega) _ | with_reducible refine bstep ?_ (by assumption))⟩
  case round =>
    obtain ⟨k, hk, rfl, hpre, hr0, hr1, hbel⟩ := hrel
    have HP : Hid (∀ j, j < k → compB (nth xs j) = true) := hpre
    have HC : Hid (∀ i, i < n → w.cell? ⟨b, off + i, none⟩ = some (.int .i64 (nth xs i))) := hc
    have HB : Hid (Below w.heap.size w wr) := hbel
    by_cases hlt : k < n
    · have q1 : wr.cell? ⟨b, off + k, none⟩ = some (.int .i64 (nth xs k)) := (hbel.cell (p := ⟨b, off + k, none⟩) hb).trans (hc k hlt)
      cases he : compB (nth xs k)
      · have HE : Hid (compB (nth xs k) = false) := he
        have z0 := World.rowIs.cell hr0 (i := 0) (by omega)
        have y0 := World.rowIs.frozen hr0 0
        have z1 := World.rowIs.cell hr0 (i := 1) (by omega)
        have y1 := World.rowIs.frozen hr0 1
        have z2 := World.rowIs.cell hr0 (i := 2) (by omega)
        have y2 := World.rowIs.frozen hr0 2
        have z3 := World.rowIs.cell hr0 (i := 3) (by omega)
        have y3 := World.rowIs.frozen hr0 3
        have z4 := World.rowIs.cell hr0 (i := 4) (by omega)
        have y4 := World.rowIs.frozen hr0 4
        have z5 := World.rowIs.cell hr0 (i := 5) (by omega)
        have y5 := World.rowIs.frozen hr0 5
        have z6 := World.rowIs.cell hr0 (i := 6) (by omega)
        have y6 := World.rowIs.frozen hr0 6
        have z7 := World.rowIs.cell hr0 (i := 7) (by omega)
        have y7 := World.rowIs.frozen hr0 7
        have z8 := World.rowIs.cell hr0 (i := 8) (by omega)
        have y8 := World.rowIs.frozen hr0 8
        clear hr0 hr1 hpre hc hbel
        go_wp2_with (go_at_call 62; refine (compOk_any _ _).mono ?_; rintro e w' ⟨rfl, rfl⟩)
        have hB := HB.out
        refine bodyPost_ret (v := .tuple #[vecV [] 0, .bool false]) ?_ rfl ⟨rfl, ?_⟩
        · simp [results, Tryd.results54, go_sem, vecV, nth, z0, z1, z2, z3, z4, z5, z6, z7, z8]
        · exact (by repeat' first | with_reducible exact Below.refl _ _ | with_reducible assumption | with_reducible refine below_drewN ?_ _ | with_reducible refine balloc ?_ _ | with_reducible refine Below.drew ?_ | with_reducible refine Below.setCell ?_ (by first | (simp; done) | (simp; omega) | omega) _ | with_reducible refine bstep ?_ (by assumption))
      · have HE : Hid (compB (nth xs k) = true) := he
        have q2 := World.rowIs.cell hr1 (i := k) (by omega)
        have q3 := World.rowIs.frozen hr1 k
        have HS : Hid _ := cellF_step hr1 (by omega)
        have H0 : Hid (wr.rowIs w.heap.size 87 9 (fun _ => .int .i64 0)) := hr0
        clear hr0 hr1 hpre hc hbel
        go_wp2_with (go_at_call 62; refine (compOk_any _ _).mono ?_; rintro e w' ⟨rfl, rfl⟩)
        go_roundw
        case rel => exact ⟨k + 1, by omega, by go_num, fun j hj => (by rcases Nat.lt_succ_iff_lt_or_eq.1 hj with h | h; exact HP.out j h; rw [h]; exact HE.out), World.rowIs.setOther H0.out (by simp) _, HS.out, HB.out.setCell (by simp) _⟩
        case measure => simp [intOf]; omega
    · have : xs.all compB = true := all_nth fun j hj => hpre j (by omega)
      rw [this] at hv
      cases hv

set_option maxHeartbeats 1000000 in
theorem vectorOf_yes (b off n cap : Nat) (xs : List Int) (w : World) (hl : xs.length = n) (h1 : 1 ≤ n) (h8 : n ≤ 8) (hb : b < w.heap.size) (hc : ∀ i, i < n → w.cell? ⟨b, off + i, none⟩ = some (.int .i64 (nth xs i))) (hv : xs.all compB = true) :
    Calls Tryd.prog 54 #[.slice (some ⟨b, off, none⟩) n cap] w fun e w' => e = .returned (.tuple #[vecV xs n, .bool true]) ∧ Below w.heap.size w w' := by
  have hv' : ∀ k, k < n → compB (nth xs k) = true := fun k hk => by
    have := List.all_eq_true.1 hv (nth xs k) (by simp [nth, show k < xs.length by omega])
    exact this
  have HV : Hid (∀ k, k < n → compB (nth xs k) = true) := hv'
  clear hv hv'
  go_enter Tryd.func54, Tryd.ntmps54
  go_wp2
  go_loopw [5, 6, 21] (fun s5 s6 i wr => ∃ k : Nat, k ≤ n ∧ i = .int .i64 k ∧ (∀ j, j < k → compB (nth xs j) = true) ∧ wr.rowIs w.heap.size 87 9 (fun _ => .int .i64 0) ∧ wr.rowIs (w.heap.size + 1) 87 9 (cellF xs n k) ∧ Below w.heap.size w wr) (fun _ _ i _ => n - (intOf i).toNat)
  case atStart => exact ⟨0, Nat.zero_le _, rfl, fun j h => absurd h (by omega), start0 _ _ _, start1 _ _ _ _ _, (by repeat' first | with_reducible exact Below.refl _ _ | with_reducible assumption | with_reducible refine below_drewN ?_ _ | with_reducible refine balloc ?_ _ | with_reducible refine Below.drew ?_ | with_reducible refine Below.setCell ?_ (by first | (simp; done) | (simp; omega) | omega) _ | with_reducible refine bstep ?_ (by assumption))⟩
  case round =>
    obtain ⟨k, hk, rfl, hpre, hr0, hr1, hbel⟩ := hrel
    have HP : Hid (∀ j, j < k → compB (nth xs j) = true) := hpre
    have HC : Hid (∀ i, i < n → w.cell? ⟨b, off + i, none⟩ = some (.int .i64 (nth xs i))) := hc
    have HB : Hid (Below w.heap.size w wr) := hbel
    by_cases hlt : k < n
    · have q1 : wr.cell? ⟨b, off + k, none⟩ = some (.int .i64 (nth xs k)) := (hbel.cell (p := ⟨b, off + k, none⟩) hb).trans (hc k hlt)
      cases he : compB (nth xs k)
      · exact absurd (HV.out k hlt) (by rw [he]; simp)
      · have HE : Hid (compB (nth xs k) = true) := he
        have q2 := World.rowIs.cell hr1 (i := k) (by omega)
        have q3 := World.rowIs.frozen hr1 k
        have HS : Hid _ := cellF_step hr1 (by omega)
        have H0 : Hid (wr.rowIs w.heap.size 87 9 (fun _ => .int .i64 0)) := hr0
        clear hr0 hr1 hpre hc hbel
        go_wp2_with (go_at_call 62; refine (compOk_any _ _).mono ?_; rintro e w' ⟨rfl, rfl⟩)
        go_roundw
        case rel => exact ⟨k + 1, by omega, by go_num, fun j hj => (by rcases Nat.lt_succ_iff_lt_or_eq.1 hj with h | h; exact HP.out j h; rw [h]; exact HE.out), World.rowIs.setOther H0.out (by simp) _, HS.out, HB.out.setCell (by simp) _⟩
        case measure => simp [intOf]; omega
    · have hkn : k = n := by omega
      subst hkn
      have z0 := World.rowIs.cell hr0 (i := 0) (by omega)
      have y0 := World.rowIs.frozen hr0 0
      have z1 := World.rowIs.cell hr0 (i := 1) (by omega)
      have y1 := World.rowIs.frozen hr0 1
      have z2 := World.rowIs.cell hr0 (i := 2) (by omega)
      have y2 := World.rowIs.frozen hr0 2
      have z3 := World.rowIs.cell hr0 (i := 3) (by omega)
      have y3 := World.rowIs.frozen hr0 3
      have z4 := World.rowIs.cell hr0 (i := 4) (by omega)
      have y4 := World.rowIs.frozen hr0 4
      have z5 := World.rowIs.cell hr0 (i := 5) (by omega)
      have y5 := World.rowIs.frozen hr0 5
      have z6 := World.rowIs.cell hr0 (i := 6) (by omega)
      have y6 := World.rowIs.frozen hr0 6
      have z7 := World.rowIs.cell hr0 (i := 7) (by omega)
      have y7 := World.rowIs.frozen hr0 7
      have z8 := World.rowIs.cell hr0 (i := 8) (by omega)
      have y8 := World.rowIs.frozen hr0 8
      have v0 := World.rowIs.cell hr1 (i := 0) (by omega)
      have v1 := World.rowIs.cell hr1 (i := 1) (by omega)
      have v2 := World.rowIs.cell hr1 (i := 2) (by omega)
      have v3 := World.rowIs.cell hr1 (i := 3) (by omega)
      have v4 := World.rowIs.cell hr1 (i := 4) (by omega)
      have v5 := World.rowIs.cell hr1 (i := 5) (by omega)
      have v6 := World.rowIs.cell hr1 (i := 6) (by omega)
      have v7 := World.rowIs.cell hr1 (i := 7) (by omega)
      have v8 := World.rowIs.cell hr1 (i := 8) (by omega)
      rw [cellF_end hl (by omega)] at v0 v1 v2 v3 v4 v5 v6 v7
      rw [cellF_n h8] at v8
      clear hr0 hr1 hpre hc hbel
      go_wp2
      have hB := HB.out
      refine bodyPost_ret (v := .tuple #[vecV xs k, .bool true]) ?_ rfl ⟨rfl, ?_⟩
      · simp [results, Tryd.results54, go_sem, vecV, z0, z1, z2, z3, z4, z5, z6, z7, z8]
      · exact (by repeat' first | with_reducible exact Below.refl _ _ | with_reducible assumption | with_reducible refine below_drewN ?_ _ | with_reducible refine balloc ?_ _ | with_reducible refine Below.drew ?_ | with_reducible refine Below.setCell ?_ (by first | (simp; done) | (simp; omega) | omega) _ | with_reducible refine bstep ?_ (by assumption))

theorem vectorOf_any (a : Option Addr) (n cap : Nat) (xs : List Int) (w : World) (h : Row w a n xs) (hn : n ≤ 1048576) :
    Calls Tryd.prog 54 #[.slice a n cap] w fun e w' => e = .returned (.tuple #[if vecOkB xs then vecV xs n else vecV [] 0, .bool (vecOkB xs)]) ∧ Below w.heap.size w w' := by
  by_cases hlen : n < 1 ∨ 8 < n
  · have : vecOkB xs = false := by
      unfold vecOkB
      rw [h.len, decide_eq_false (by omega), Bool.false_and]
    rw [this]
    exact vectorOf_len a n cap w hlen hn
  · rcases h.lies with h0 | ⟨b, off, rfl, hb, hc⟩
    · omega
    · cases hv : xs.all compB
      · have : vecOkB xs = false := by unfold vecOkB; rw [hv, Bool.and_false]
        rw [this]
        exact vectorOf_no b off n cap xs w h.len (by omega) (by omega) hb hc hv
      · have : vecOkB xs = true := by
          unfold vecOkB
          rw [hv, h.len, decide_eq_true (by omega), Bool.and_true]
        rw [this]
        exact vectorOf_yes b off n cap xs w h.len (by omega) (by omega) hb hc hv

set_option maxHeartbeats 400000 in
theorem iVecOk_any (a : Option Addr) (n cap : Nat) (xs : List Int) (w : World) (h : Row w a n xs) (hn : n ≤ 1048576) :
    Calls Tryd.prog 43 #[.slice a n cap] w fun e w' => e = .returned (.bool (vecOkB xs)) ∧ Below w.heap.size w w' := by
  have H := vectorOf_any a n cap xs w h hn
  generalize hv : (if vecOkB xs = true then vecV xs n else vecV [] 0) = v at H
  obtain ⟨q0, q1, q2, q3, q4, q5, q6, q7, q8, rfl⟩ : ∃ q0 q1 q2 q3 q4 q5 q6 q7 q8 : Int, v = .agg #[.int .i64 q0, .int .i64 q1, .int .i64 q2, .int .i64 q3, .int .i64 q4, .int .i64 q5, .int .i64 q6, .int .i64 q7, .int .i64 q8] := by
    subst hv
    cases vecOkB xs
    · exact ⟨_, _, _, _, _, _, _, _, _, rfl⟩
    · exact ⟨_, _, _, _, _, _, _, _, _, rfl⟩
  have KH := hide H
  clear hv H h
  go_enter Tryd.func43, Tryd.ntmps43
  go_wp2_with (go_at_call 54; refine KH.out.mono ?_; rintro e w1 ⟨rfl, hb⟩)
  go_ret
  exact ⟨rfl, (by repeat' first | with_reducible exact Below.refl _ _ | with_reducible assumption | with_reducible refine below_drewN ?_ _ | with_reducible refine balloc ?_ _ | with_reducible refine Below.drew ?_ | with_reducible refine Below.setCell ?_ (by first | (simp; done) | (simp; omega) | omega) _ | with_reducible refine bstep ?_ (by assumption))⟩
end Go.Proofs.YtlmiamohhmabhaaDoor
