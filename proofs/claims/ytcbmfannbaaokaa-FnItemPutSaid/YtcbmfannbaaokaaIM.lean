/- ItemFind of the model and of the program. -/
import Derived.Test.YtcbmfannbaaokaaIK
namespace Go.Proofs.Ytcbmfannbaaokaa
open Go.RowKit
set_option linter.unusedSimpArgs false
set_option linter.unusedVariables false

/-- The first one of that id, and whether there is one. -/
def findX (n : Nat) (L : IL) (id : Int) : It × Bool :=
  match (List.range n).find? fun i => decide ((L i).id = id) with
  | some i => (L i, true)
  | none => (⟨0, 0, []⟩, false)
theorem findX_hit {n k : Nat} {L : IL} {id : Int} (hk : k < n) (h : (L k).id = id) (hp : ∀ j, j < k → (L j).id ≠ id) : findX n L id = (L k, true) := by
  have e : (List.range n).find? (fun i => decide ((L i).id = id)) = some k := by
    rw [List.find?_range_eq_some]
    exact ⟨by simpa using h, by simpa using hk, fun j hj => by simpa using hp j hj⟩
  unfold findX
  rw [e]
theorem findX_miss {n : Nat} {L : IL} {id : Int} (hp : ∀ j, j < n → (L j).id ≠ id) : findX n L id = (⟨0, 0, []⟩, false) := by
  have e : (List.range n).find? (fun i => decide ((L i).id = id)) = none := by
    rw [List.find?_eq_none]
    intro j hj
    simpa using hp j (by simpa using hj)
  unfold findX
  rw [e]
theorem findX_len {n : Nat} {L : IL} {id : Int} {m : Nat} (h : ∀ i, i < n → (L i).vec.length ≤ m) : (findX n L id).1.vec.length ≤ m := by
  unfold findX
  split
  · rename_i i e
    have := List.mem_of_find?_eq_some e
    exact h i (by simpa using this)
  · simp

/-- The answer of ItemFind. -/
def FindR (w : World) (x : It) (ok : Bool) (e : Ending) (w' : World) : Prop :=
  ∃ v g, e = .returned (.tuple #[.agg #[.int .i64 x.id, .int .i64 x.tags, v], .bool ok]) ∧ VSl w' w.heap.size w'.heap.size v x.vec g ∧ Below w.heap.size w w'

theorem findR_no {w w' : World} {e : Ending} (he : e = .returned (.tuple #[.agg #[.int .i64 0, .int .i64 0, .slice none 0 0], .bool false])) (hb : Below w.heap.size w w') : FindR w ⟨0, 0, []⟩ false e w' :=
  ⟨.slice none 0 0, 0, he, ⟨_, _, rfl, .inl rfl⟩, hb⟩

set_option maxHeartbeats 1600000 in
theorem sItemFind_some (b off n cap : Nat) (L : IL) (id : Int) (w : World) (hn : n ≤ 1048576) (hv : ∀ i, i < n → (L i).vec.length ≤ 1048576) (hb : b < w.heap.size) (hc : ∀ i, i < n → IAt w b (off + i * 3) (L i)) :
    Calls Try.prog 32 #[.slice (some ⟨b, off, none⟩) n cap, .int .i64 id] w fun e w' => FindR w (findX n L id).1 (findX n L id).2 e w' := by
  have HC := hide hc
  have HV := hide hv
  clear hc hv
  go_enter Try.func32, Try.ntmps32
  go_wp2_with fail
  go_loopw [6] (fun i wr => ∃ k : Nat, k ≤ n ∧ i = .int .i64 k ∧ (∀ j, j < k → (L j).id ≠ id) ∧ Tri wr w.heap.size (.int .i64 0) (.int .i64 0) (.slice none 0 0) ∧ Below w.heap.size w wr) (fun i _ => n - (intOf i).toNat)
  case atStart => exact ⟨0, Nat.zero_le _, rfl, fun j h => absurd h (by omega), Tri.new _ _ _ _ _, (by repeat' first | with_reducible exact Below.refl _ _ | with_reducible assumption | with_reducible refine below_drewN ?_ _ | with_reducible refine balloc ?_ _ | with_reducible refine Below.drew ?_ | with_reducible refine Below.setCell ?_ (by first | (simp; done) | (simp; omega) | omega) _ | with_reducible refine bstep ?_ (by assumption))⟩
  case round =>
    obtain ⟨k, hk, rfl, hpre, ht, hbel⟩ := hrel
    have HP := hide hpre
    have HB := hide hbel
    have HT := hide ht
    by_cases hlt : k < n
    · obtain ⟨c0, c1, va, vn, vc, c2, vr⟩ := (HC.out k hlt).below hb hbel
      have hlt' : (k : Int) < (n : Int) := by omega
      by_cases hid : (L k).id = id
      · have R := hide (l7Copy_any (L k) va vn vc wr vr (by rw [← vr.len]; exact HV.out k hlt))
        have hq : ((L k).id == id) = true := by simpa using hid
        have E := hide (findX_hit hlt hid hpre)
        clear hpre ht hbel vr hid
        go_wp2_with fail
        refine R.out.mono ?_
        rintro e w1 ⟨v, g, rfl, hv1, hb1⟩
        obtain ⟨q0, q1, q2, q3, q4, q5, q6⟩ := HT.out.below hb1
        have HV1 := hide hv1
        have hsz := HT.out.lt
        obtain ⟨a1, c1', rfl, _⟩ := hv1
        go_wp2_with fail
        refine bodyPost_ret (v := .tuple #[.agg #[.int .i64 (L k).id, .int .i64 (L k).tags, .slice a1 (L k).vec.length c1'], .bool true]) ?_ rfl ?_
        · simp [results, Try.results32, go_sem, q1, q2, q3]
        · rw [E.out]
          have hb0 := HB.out
          refine ⟨_, g, rfl, ?_, (by repeat' first | with_reducible exact Below.refl _ _ | with_reducible assumption | with_reducible refine below_drewN ?_ _ | with_reducible refine balloc ?_ _ | with_reducible refine Below.drew ?_ | with_reducible refine Below.setCell ?_ (by first | (simp; done) | (simp; omega) | omega) _ | with_reducible refine bstep ?_ (by assumption))⟩
          exact (((HV1.out.set ⟨w.heap.size, 0, none⟩ (.int .i64 (L k).id) (by simp; omega)).set ⟨w.heap.size, 1, none⟩ (.int .i64 (L k).tags) (by simp; omega)).set ⟨w.heap.size, 2, none⟩ (.slice a1 (L k).vec.length c1') (by simp; omega)).mono hb0.size (by simp [World.setCell])
      · have hq : ((L k).id == id) = false := by simpa using hid
        have HI := hide hid
        clear hpre ht hbel vr hid
        go_wp2_with fail
        go_roundw
        case rel => exact ⟨k + 1, by omega, by go_num, fun j hj => (by rcases Nat.lt_succ_iff_lt_or_eq.1 hj with h | h; exact HP.out j h; rw [h]; exact HI.out), HT.out, HB.out⟩
        case measure => simp [intOf]; omega
    · obtain rfl : k = n := by omega
      have E := hide (findX_miss hpre)
      obtain ⟨q0, q1, q2, q3, q4, q5, q6⟩ := ht
      clear hpre hbel
      go_wp2_with fail
      refine bodyPost_ret (v := .tuple #[.agg #[.int .i64 0, .int .i64 0, .slice none 0 0], .bool false]) ?_ rfl ?_
      · simp [results, Try.results32, go_sem, q1, q2, q3]
      · rw [E.out]
        have hb0 := HB.out
        exact findR_no rfl (by repeat' first | with_reducible exact Below.refl _ _ | with_reducible assumption | with_reducible refine below_drewN ?_ _ | with_reducible refine balloc ?_ _ | with_reducible refine Below.drew ?_ | with_reducible refine Below.setCell ?_ (by first | (simp; done) | (simp; omega) | omega) _ | with_reducible refine bstep ?_ (by assumption))

set_option maxHeartbeats 1600000 in
theorem iItemFind_some (b off n cap : Nat) (L : IL) (id : Int) (w : World) (hn : n ≤ 1048576) (hv : ∀ i, i < n → (L i).vec.length ≤ 1048576) (hb : b < w.heap.size) (hc : ∀ i, i < n → IAt w b (off + i * 3) (L i)) :
    Calls Try.prog 12 #[.slice (some ⟨b, off, none⟩) n cap, .int .i64 id] w fun e w' => FindR w (findX n L id).1 (findX n L id).2 e w' := by
  have HC := hide hc
  have HV := hide hv
  clear hc hv
  go_enter Try.func12, Try.ntmps12
  go_wp2_with fail
  go_loopw [10] (fun i wr => ∃ k : Nat, k ≤ n ∧ i = .int .i64 k ∧ (∀ j, j < k → (L j).id ≠ id) ∧ Tri wr w.heap.size (.int .i64 0) (.int .i64 0) (.slice none 0 0) ∧ Below w.heap.size w wr) (fun i _ => n - (intOf i).toNat)
  case atStart => exact ⟨0, Nat.zero_le _, rfl, fun j h => absurd h (by omega), Tri.new _ _ _ _ _, (by repeat' first | with_reducible exact Below.refl _ _ | with_reducible assumption | with_reducible refine below_drewN ?_ _ | with_reducible refine balloc ?_ _ | with_reducible refine Below.drew ?_ | with_reducible refine Below.setCell ?_ (by first | (simp; done) | (simp; omega) | omega) _ | with_reducible refine bstep ?_ (by assumption))⟩
  case round =>
    obtain ⟨k, hk, rfl, hpre, ht, hbel⟩ := hrel
    have HP := hide hpre
    have HB := hide hbel
    have HT := hide ht
    by_cases hlt : k < n
    · obtain ⟨c0, c1, va, vn, vc, c2, vr⟩ := (HC.out k hlt).below hb hbel
      have hlt' : (k : Int) < (n : Int) := by omega
      by_cases hid : (L k).id = id
      · have R := hide (fun w1 (h1 : Below wr.heap.size wr w1) => copied_any (L k) va vn vc w1 (vr.below h1) (by rw [← vr.len]; exact HV.out k hlt))
        have hq : ((L k).id == id) = true := by simpa using hid
        have E := hide (findX_hit hlt hid hpre)
        clear hpre ht hbel vr hid
        go_wp2_with fail
        refine (R.out _ (by repeat' first | with_reducible exact Below.refl _ _ | with_reducible assumption | with_reducible refine below_drewN ?_ _ | with_reducible refine balloc ?_ _ | with_reducible refine Below.drew ?_ | with_reducible refine Below.setCell ?_ (by first | (simp; done) | (simp; omega) | omega) _ | with_reducible refine bstep ?_ (by assumption))).mono ?_
        rintro e w1 ⟨v, g, rfl, hv1, hb1⟩
        obtain ⟨q0, q1, q2, q3, q4, q5, q6⟩ := (HT.out.alloc _).below hb1
        have HV1 := hide hv1
        have hsz := HT.out.lt
        obtain ⟨a1, c1', rfl, _⟩ := hv1
        go_wp2_with fail
        refine bodyPost_ret (v := .tuple #[.agg #[.int .i64 (L k).id, .int .i64 (L k).tags, .slice a1 (L k).vec.length c1'], .bool true]) ?_ rfl ?_
        · simp [results, Try.results12, go_sem, q1, q2, q3]
        · rw [E.out]
          have hb0 := HB.out
          refine ⟨_, g, rfl, ?_, (by repeat' first | with_reducible exact Below.refl _ _ | with_reducible assumption | with_reducible refine below_drewN ?_ _ | with_reducible refine balloc ?_ _ | with_reducible refine Below.drew ?_ | with_reducible refine Below.setCell ?_ (by first | (simp; done) | (simp; omega) | omega) _ | with_reducible refine bstep ?_ (by assumption))⟩
          exact (((HV1.out.set ⟨w.heap.size, 0, none⟩ (.int .i64 (L k).id) (by simp; omega)).set ⟨w.heap.size, 1, none⟩ (.int .i64 (L k).tags) (by simp; omega)).set ⟨w.heap.size, 2, none⟩ (.slice a1 (L k).vec.length c1') (by simp; omega)).mono (by have := hb0.size; simp; omega) (by simp [World.setCell])
      · have hq : ((L k).id == id) = false := by simpa using hid
        have HI := hide hid
        clear hpre ht hbel vr hid
        go_wp2_with fail
        go_roundw
        case rel => exact ⟨k + 1, by omega, by go_num, fun j hj => (by rcases Nat.lt_succ_iff_lt_or_eq.1 hj with h | h; exact HP.out j h; rw [h]; exact HI.out), HT.out.alloc _, (by have hb0 := HB.out; exact (by repeat' first | with_reducible exact Below.refl _ _ | with_reducible assumption | with_reducible refine below_drewN ?_ _ | with_reducible refine balloc ?_ _ | with_reducible refine Below.drew ?_ | with_reducible refine Below.setCell ?_ (by first | (simp; done) | (simp; omega) | omega) _ | with_reducible refine bstep ?_ (by assumption)))⟩
        case measure => simp [intOf]; omega
    · obtain rfl : k = n := by omega
      have E := hide (findX_miss hpre)
      obtain ⟨q0, q1, q2, q3, q4, q5, q6⟩ := ht
      clear hpre hbel
      go_wp2_with fail
      refine bodyPost_ret (v := .tuple #[.agg #[.int .i64 0, .int .i64 0, .slice none 0 0], .bool false]) ?_ rfl ?_
      · simp [results, Try.results12, go_sem, q1, q2, q3]
      · rw [E.out]
        have hb0 := HB.out
        exact findR_no rfl (by repeat' first | with_reducible exact Below.refl _ _ | with_reducible assumption | with_reducible refine below_drewN ?_ _ | with_reducible refine balloc ?_ _ | with_reducible refine Below.drew ?_ | with_reducible refine Below.setCell ?_ (by first | (simp; done) | (simp; omega) | omega) _ | with_reducible refine bstep ?_ (by assumption))

set_option maxHeartbeats 400000 in
theorem sItemFind_none (a : Option Addr) (n cap : Nat) (L : IL) (id : Int) (w : World) (hn : n < 1) :
    Calls Try.prog 32 #[.slice a n cap, .int .i64 id] w fun e w' => FindR w (findX n L id).1 (findX n L id).2 e w' := by
  rw [findX_miss (fun j hj => absurd hj (by omega))]
  obtain ⟨q0, q1, q2, q3, q4, q5, q6⟩ := Tri.new w (.int .i64 0) (.int .i64 0) (.slice none 0 0) 27
  go_enter Try.func32, Try.ntmps32
  go_wp2_with fail
  refine wp_loop_rounds 1 ?_
  rw [rounds_succ]
  go_wp2_with fail
  refine bodyPost_ret (v := .tuple #[.agg #[.int .i64 0, .int .i64 0, .slice none 0 0], .bool false]) ?_ rfl ?_
  · simp [results, Try.results32, go_sem]
  · exact findR_no rfl (by repeat' first | with_reducible exact Below.refl _ _ | with_reducible assumption | with_reducible refine below_drewN ?_ _ | with_reducible refine balloc ?_ _ | with_reducible refine Below.drew ?_ | with_reducible refine Below.setCell ?_ (by first | (simp; done) | (simp; omega) | omega) _ | with_reducible refine bstep ?_ (by assumption))

theorem sItemFind_any (a : Option Addr) (n cap : Nat) (L : IL) (id : Int) (w : World) (h : IRow w a n L) (hn : n ≤ 1048576) (hv : ∀ i, i < n → (L i).vec.length ≤ 1048576) :
    Calls Try.prog 32 #[.slice a n cap, .int .i64 id] w fun e w' => FindR w (findX n L id).1 (findX n L id).2 e w' := by
  rcases h.lies with h0 | ⟨b, off, rfl, lt, hc⟩
  · exact sItemFind_none a n cap L id w (by omega)
  · exact sItemFind_some b off n cap L id w hn hv lt hc

set_option maxHeartbeats 400000 in
theorem iItemFind_none (a : Option Addr) (n cap : Nat) (L : IL) (id : Int) (w : World) (hn : n < 1) :
    Calls Try.prog 12 #[.slice a n cap, .int .i64 id] w fun e w' => FindR w (findX n L id).1 (findX n L id).2 e w' := by
  rw [findX_miss (fun j hj => absurd hj (by omega))]
  obtain ⟨q0, q1, q2, q3, q4, q5, q6⟩ := Tri.new w (.int .i64 0) (.int .i64 0) (.slice none 0 0) 27
  go_enter Try.func12, Try.ntmps12
  go_wp2_with fail
  refine wp_loop_rounds 1 ?_
  rw [rounds_succ]
  go_wp2_with fail
  refine bodyPost_ret (v := .tuple #[.agg #[.int .i64 0, .int .i64 0, .slice none 0 0], .bool false]) ?_ rfl ?_
  · simp [results, Try.results12, go_sem]
  · exact findR_no rfl (by repeat' first | with_reducible exact Below.refl _ _ | with_reducible assumption | with_reducible refine below_drewN ?_ _ | with_reducible refine balloc ?_ _ | with_reducible refine Below.drew ?_ | with_reducible refine Below.setCell ?_ (by first | (simp; done) | (simp; omega) | omega) _ | with_reducible refine bstep ?_ (by assumption))

theorem iItemFind_any (a : Option Addr) (n cap : Nat) (L : IL) (id : Int) (w : World) (h : IRow w a n L) (hn : n ≤ 1048576) (hv : ∀ i, i < n → (L i).vec.length ≤ 1048576) :
    Calls Try.prog 12 #[.slice a n cap, .int .i64 id] w fun e w' => FindR w (findX n L id).1 (findX n L id).2 e w' := by
  rcases h.lies with h0 | ⟨b, off, rfl, lt, hc⟩
  · exact iItemFind_none a n cap L id w (by omega)
  · exact iItemFind_some b off n cap L id w hn hv lt hc

end Go.Proofs.Ytcbmfannbaaokaa
