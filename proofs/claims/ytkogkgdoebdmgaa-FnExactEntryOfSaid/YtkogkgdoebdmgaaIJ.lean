/- Marks over items: markInt64S, heldInt64S over a block whose first cells are known; markItemS, heldItemS, markItem, heldItem of the laws. -/
import Derived.Test.YtkogkgdoebdmgaaIB
namespace Go.Proofs.Ytkogkgdoebdmgaa
open Go.RowKit
set_option linter.unusedSimpArgs false
set_option linter.unusedVariables false

def mixV (k : Nat) (q : Int) (f : Nat → Value) : Nat → Value := fun j => if j < k then .int .i64 (q + (j : Int)) else f j
theorem mixV_step {w : World} {g n k : Nat} {q : Int} {f : Nat → Value} (h : Arr w g n (mixV k q f)) : Arr (w.setCell ⟨g, k, none⟩ (.int .i64 (q + (k : Int)))) g n (mixV (k + 1) q f) := by
  refine (h.set k _).congr fun j hj => ?_
  unfold mixV
  by_cases e : j = k
  · subst e; simp
  · by_cases l : j < k
    · simp [e, l, show j < k + 1 by omega]
    · simp [e, l, show ¬ j < k + 1 by omega]

set_option maxHeartbeats 400000 in
theorem markArr_any (g n cap : Nat) (q : Int) (f : Nat → Value) (w : World) (ha : Arr w g n f) (hn : n ≤ 1048576) (hq : 0 ≤ q) (hq2 : q ≤ 100000000) :
    Calls Try.prog 33 #[.slice (some ⟨g, 0, none⟩) n cap, .int .i64 q] w fun e w' => e = .returned (.int .i64 (q + (n : Int))) ∧ Arr w' g n (intF (marks q n)) ∧ But g w w' := by
  go_enter Try.func33, Try.ntmps33
  go_wp2
  go_loopw [1, 5] (fun q' i wr => ∃ k : Nat, k ≤ n ∧ i = .int .i64 k ∧ q' = .int .i64 (q + (k : Int)) ∧ Arr wr g n (mixV k q f) ∧ But g w wr) (fun _ i _ => n - (intOf i).toNat)
  case atStart => exact ⟨0, Nat.zero_le _, rfl, by simp, ha.congr fun j _ => by simp [mixV], But.refl _ _⟩
  case round =>
    obtain ⟨k, hk, rfl, rfl, hrow, hbut⟩ := hrel
    by_cases hlt : k < n
    · have h2 := hrow.cell hlt
      have h3 := hrow.froz k
      have HS : Hid _ := mixV_step hrow
      have HB : Hid (But g w wr) := hbut
      clear hrow hbut ha
      go_wp2
      go_roundw
      case rel => exact ⟨k + 1, by omega, by go_num, by go_num, HS.out, HB.out.setCell _ _⟩
      case measure => simp [intOf]; omega
    · have hkn : k = n := by omega
      subst hkn
      go_wp2
      go_ret
      refine ⟨rfl, hrow.congr fun j hj => ?_, hbut⟩
      unfold mixV intF
      rw [if_pos hj, nth_marks _ _ _ hj]

set_option maxHeartbeats 400000 in
theorem markInts_nil (a : Option Addr) (n cap : Nat) (q : Int) (w : World) (hn : n < 1) :
    Calls Try.prog 33 #[.slice a n cap, .int .i64 q] w fun e w' => e = .returned (.int .i64 q) ∧ w' = w := by
  go_enter Try.func33, Try.ntmps33
  go_wp2
  refine wp_loop_rounds 1 ?_
  rw [rounds_succ]
  go_wp2
  go_ret
  exact ⟨rfl, rfl⟩

set_option maxHeartbeats 400000 in
theorem heldInts_nil (a : Option Addr) (n cap : Nat) (q : Int) (w : World) (hn : n < 1) :
    Calls Try.prog 48 #[.slice a n cap, .int .i64 q] w fun e w' => e = .returned (.int .i64 q) ∧ w' = w := by
  go_enter Try.func48, Try.ntmps48
  go_wp2
  refine wp_loop_rounds 1 ?_
  rw [rounds_succ]
  go_wp2
  go_ret
  exact ⟨rfl, rfl⟩

set_option maxHeartbeats 400000 in
theorem heldArr_any (g n cap : Nat) (q : Int) (w : World) (ha : Arr w g n (intF (marks q n))) (hn : n ≤ 1048576) (hq : 0 ≤ q) (hq2 : q ≤ 100000000) :
    Calls Try.prog 48 #[.slice (some ⟨g, 0, none⟩) n cap, .int .i64 q] w fun e w' => e = .returned (.int .i64 (q + (n : Int))) ∧ w' = w := by
  go_enter Try.func48, Try.ntmps48
  go_wp2
  go_loopw [1, 5] (fun q' i wr => ∃ k : Nat, k ≤ n ∧ i = .int .i64 k ∧ q' = .int .i64 (q + (k : Int)) ∧ wr = w) (fun _ i _ => n - (intOf i).toNat)
  case atStart => exact ⟨0, Nat.zero_le _, rfl, by simp, by trivial⟩
  case round =>
    obtain ⟨k, hk, rfl, rfl, rfl⟩ := hrel
    by_cases hlt : k < n
    · have h2 : wr.cell? ⟨g, k, none⟩ = some (.int .i64 (q + (k : Int))) := by
        rw [ha.cell hlt]
        unfold intF
        rw [nth_marks _ _ _ hlt]
      have hne : ((q + (k : Int)) != (q + (k : Int))) = false := by simp
      clear ha
      go_wp2
      go_roundw
      case rel => exact ⟨k + 1, by omega, by go_num, by go_num, by trivial⟩
      case measure => simp [intOf]; omega
    · have hkn : k = n := by omega
      subst hkn
      go_wp2
      go_ret
      exact ⟨rfl, rfl⟩

/-- A slice that the call owns, marked. -/
theorem markV_any {B C : Nat} {v : Value} {xs : List Int} {b : Nat} (q : Int) (w : World) (h : VSl w B C v xs b) (hn : xs.length ≤ 1048576) (hq : 0 ≤ q) (hq2 : q ≤ 100000000) :
    Calls Try.prog 33 #[v, .int .i64 q] w fun e w' => e = .returned (.int .i64 (q + (xs.length : Int))) ∧ VSl w' B C v (marks q xs.length) b ∧ But b w w' ∧ (xs.length = 0 → w' = w) := by
  obtain ⟨a, c, rfl, h0 | ⟨rfl, k1, k2, ha⟩⟩ := h
  · refine (markInts_nil a xs.length c q w (by omega)).mono fun e w' ⟨he, hw⟩ => ?_
    subst hw
    exact ⟨by rw [he, h0]; simp, ⟨a, c, by rw [marks_len], .inl (by rw [marks_len]; exact h0)⟩, But.refl _ _, fun _ => rfl⟩
  · by_cases h0 : xs.length = 0
    · refine (markInts_nil _ xs.length c q w (by omega)).mono fun e w' ⟨he, hw⟩ => ?_
      subst hw
      exact ⟨by rw [he, h0]; simp, ⟨_, c, by rw [marks_len], .inl (by rw [marks_len]; exact h0)⟩, But.refl _ _, fun _ => rfl⟩
    · exact (markArr_any b xs.length c q _ w ha hn hq hq2).mono fun e w' ⟨he, hr, hb⟩ => ⟨he, ⟨_, c, by rw [marks_len], .inr ⟨rfl, k1, k2, by rw [marks_len]; exact hr⟩⟩, hb, fun h => absurd h h0⟩

theorem heldV_any {B C : Nat} {v : Value} {n : Nat} {b : Nat} (q : Int) (w : World) (h : VSl w B C v (marks q n) b) (hn : n ≤ 1048576) (hq : 0 ≤ q) (hq2 : q ≤ 100000000) :
    Calls Try.prog 48 #[v, .int .i64 q] w fun e w' => e = .returned (.int .i64 (q + (n : Int))) ∧ w' = w := by
  obtain ⟨a, c, rfl, h0 | ⟨rfl, k1, k2, ha⟩⟩ := h
  · rw [marks_len] at h0 ⊢
    refine (heldInts_nil a n c q w (by omega)).mono fun e w' ⟨he, hw⟩ => ⟨by rw [he, h0]; simp, hw⟩
  · rw [marks_len] at ha ⊢
    exact heldArr_any b n c q w ha hn hq hq2

def offI (L : IL) (k : Nat) : Int := 2 * (k : Int) + (sumV L k : Nat)
theorem offI_s (L : IL) (k : Nat) : offI L (k + 1) = offI L k + 2 + ((L k).vec.length : Nat) := by
  unfold offI
  have : sumV L (k + 1) = sumV L k + (L k).vec.length := rfl
  rw [this]
  omega
def mkI (L : IL) (q : Int) : IL := fun i => ⟨q + offI L i, q + offI L i + 1, marks (q + offI L i + 2) (L i).vec.length⟩
def mixI (k : Nat) (A B : IL) : IL := fun i => if i < k then A i else B i
theorem mixI_put (k : Nat) (A B : IL) : (mixI k A B).put k (A k) = mixI (k + 1) A B := by
  funext i
  unfold IL.put mixI
  by_cases e : i = k
  · subst e; simp
  · by_cases l : i < k
    · simp [e, l, show i < k + 1 by omega]
    · simp [e, l, show ¬ i < k + 1 by omega]

/-- The numbers of an item are put in their place. -/
theorem Arr.item2 {w : World} {g m k : Nat} {L : IL} {sv : Nat → Value} (h : Arr w g m (icell L sv)) (x : It) :
    Arr ((w.setCell ⟨g, k * 3, none⟩ (.int .i64 x.id)).setCell ⟨g, k * 3 + 1, none⟩ (.int .i64 x.tags)) g m (icell (L.put k x) sv) := by
  refine ((h.set (k * 3) _).set (k * 3 + 1) _).congr fun j hj => ?_
  unfold icell IL.put
  rcases (show j % 3 = 0 ∨ j % 3 = 1 ∨ j % 3 = 2 by omega) with h | h | h
  · simp only [h, if_true]
    rw [if_neg (show ¬ j = k * 3 + 1 by omega)]
    by_cases e : j = k * 3
    · rw [if_pos e, if_pos (show j / 3 = k by omega)]
    · rw [if_neg e, if_neg (show ¬ j / 3 = k by omega)]
  · simp only [h]
    by_cases e : j = k * 3 + 1
    · rw [if_pos e, if_pos (show j / 3 = k by omega)]; simp
    · rw [if_neg e, if_neg (show ¬ j = k * 3 by omega), if_neg (show ¬ j / 3 = k by omega)]
  · simp only [h]
    rw [if_neg (show ¬ j = k * 3 + 1 by omega), if_neg (show ¬ j = k * 3 by omega)]; simp

theorem Its.put {w w2 : World} {B C : Nat} {n : Nat} {L : IL} {g : Nat} {V : Nat → Nat} {sv : Nat → Value} (h : Its w B C (some ⟨g, 0, none⟩) n L g V sv) {k : Nat} (hk : k < n) (x : It) (hlen : x.vec.length = (L k).vec.length)
    (hv : VSl w2 B C (sv k) x.vec (V k)) (harr : Arr w2 g (n * 3) (icell (L.put k x) sv)) (hkeep : ∀ j, j < w.heap.size → j ≠ g → ((L k).vec.length ≠ 0 → j ≠ V k) → w2.heap[j]? = w.heap[j]?) : Its w2 B C (some ⟨g, 0, none⟩) n (L.put k x) g V sv := by
  have hlen' : ∀ i, ((L.put k x) i).vec.length = (L i).vec.length := fun i => by
    by_cases e : i = k
    · subst e; rw [IL.put_at, hlen]
    · rw [IL.put_off _ _ e]
  refine ⟨?_, fun i hi => ?_, fun i hi h0 => ?_⟩
  · rcases h.arr with h0 | ⟨_, h1, h2, _⟩
    · omega
    · exact .inr ⟨rfl, h1, h2, harr⟩
  · by_cases e : i = k
    · subst e; rw [IL.put_at]; exact hv
    · rw [IL.put_off _ _ e]
      obtain ⟨a, c, ev, h0 | ⟨rfl, k1, k2, ha⟩⟩ := h.vec i hi
      · exact ⟨a, c, ev, .inl h0⟩
      · by_cases h0 : (L i).vec.length = 0
        · exact ⟨_, c, ev, .inl h0⟩
        · refine ⟨_, c, ev, .inr ⟨rfl, k1, k2, ha.block (hkeep _ ha.lt (h.sep i hi h0).1 fun hk0 => ?_)⟩⟩
          exact Ne.symm ((h.sep i hi h0).2 k hk (Ne.symm e) hk0)
  · rw [hlen'] at h0
    obtain ⟨h1, h2⟩ := h.sep i hi h0
    exact ⟨h1, fun j hj hne hj0 => h2 j hj hne (by rwa [hlen'] at hj0)⟩

end Go.Proofs.Ytkogkgdoebdmgaa