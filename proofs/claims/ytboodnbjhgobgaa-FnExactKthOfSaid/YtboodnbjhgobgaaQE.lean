/- InRadius of the program: the closure, eachNear, the query. -/
import Derived.Test.YtboodnbjhgobgaaQD
import Derived.Test.YtboodnbjhgobgaaQB
import Derived.Test.YtboodnbjhgobgaaHR0
namespace Go.Proofs.Ytboodnbjhgobgaa
open Go.RowKit
set_option linter.unusedSimpArgs false
set_option linter.unusedVariables false

theorem fil_at {p : It → Bool} {L : IL} {k : Nat} (h : p (L k) = true) : ∀ n, k < n → fil p L n (cntP p L k) = L k := by
  intro n
  induction n with
  | zero => intro hk; omega
  | succ n ih =>
    intro hk
    by_cases e : k = n
    · subst e; rw [fil_yes h, IL.put_at]
    · have hlt : cntP p L k < cntP p L n := by
        have mono : ∀ j, cntP p L k + 1 ≤ cntP p L (k + 1 + j) := by
          intro j
          induction j with
          | zero => rw [Nat.add_zero, cntP_yes h]; exact Nat.le_refl _
          | succ j ihj => show _ ≤ cntP p L (k + 1 + j + 1); simp only [cntP]; split <;> omega
        have := mono (n - (k + 1))
        rw [show k + 1 + (n - (k + 1)) = n by omega] at this
        omega
      cases hn : p (L n)
      · rw [fil_no hn]; exact ih (by omega)
      · rw [fil_yes hn, IL.put_off _ _ (by omega)]; exact ih (by omega)
theorem nrL_at {qs : List Int} {mask : Int} {L : IL} {k n : Nat} (h : mtB mask (L k) = true) (hk : k < n) : nrL qs mask L n (cntP (mtB mask) L k) = nrOf qs (L k) := by
  unfold nrL
  rw [fil_at h n hk]

/-- What the closure of InRadius keeps: the radius, and the slice that it appends to. -/
structure Cap (w0 : World) (rb vb : Nat) (r : Int) (m : Nat) (M : NL) (w : World) : Prop where
  rad : w.heap[rb]? = some (.cells #[.int .i64 r] 2 (0, 0))
  ex : ∃ g c, w.heap[vb]? = some (.cells #[.slice (some ⟨g, 0, none⟩) m c] 25 (0, 0)) ∧ RC w w0.heap.size g c m M
  lo : w0.heap.size ≤ vb
  bel : Below w0.heap.size w0 w
theorem blkLt {w : World} {b : Nat} {o : Obj} (h : w.heap[b]? = some o) : b < w.heap.size := (Array.getElem?_eq_some_iff.1 h).1
theorem Cap.below {w0 : World} {rb vb : Nat} {r : Int} {m : Nat} {M : NL} {w w' : World} (h : Cap w0 rb vb r m M w) (hb : Below w.heap.size w w') : Cap w0 rb vb r m M w' := by
  obtain ⟨h1, ⟨g, c, h2, h3⟩, h4, h5⟩ := h
  exact ⟨(hb.block rb (blkLt h1)).trans h1, ⟨g, c, (hb.block vb (blkLt h2)).trans h2, h3.below hb⟩, h4, bstep h5 hb⟩
theorem one_cell {w : World} {b : Nat} {v : Value} {t : TypeId} (h : w.heap[b]? = some (.cells #[v] t (0, 0))) : w.cell? ⟨b, 0, none⟩ = some v := by simp [World.cell?, h]
theorem one_free {w : World} {b : Nat} {v : Value} {t : TypeId} (h : w.heap[b]? = some (.cells #[v] t (0, 0))) : w.frozen? ⟨b, 0, none⟩ = false := by simp [World.frozen?, h]
theorem RC.blk {w : World} {base g cap k : Nat} {M : NL} (h : RC w base g cap k M) : ∃ cur, w.heap[g]? = some (.cells cur 50 (0, 0)) := by
  obtain ⟨_, cur, h1, _⟩ := h
  exact ⟨cur, h1⟩

theorem two_newAt (w : World) (x y : Value) (t : TypeId) (b : Nat) (hb : w.heap.size = b) : ∀ (j : Nat) (u : Value), [x, y][j]? = some u → (w.alloc (.cells #[x, y] t)).cell? ((⟨b, 0, none⟩ : Addr).add j) = some u := hb ▸ two_new2 w x y t

set_option maxHeartbeats 400000 in
theorem matches_any (mask : Int) (x : It) (a : Option Addr) (n cap : Nat) (w : World) :
    Calls Try.prog 39 #[.agg #[.int .i64 x.id, .int .i64 x.tags, .slice a n cap], .int .i64 mask] w fun e w' => e = .returned (.bool (mtB mask x)) ∧ Below w.heap.size w w' := by
  unfold mtB
  go_enter Try.func39, Try.ntmps39
  go_wp2_with fail
  go_ret
  exact ⟨rfl, (by repeat' first | with_reducible exact Below.refl _ _ | with_reducible assumption | with_reducible refine below_drewN ?_ _ | with_reducible refine balloc ?_ _ | with_reducible refine Below.drew ?_ | with_reducible refine Below.setCell ?_ (by first | (simp; done) | (simp; omega) | omega) _ | with_reducible refine bstep ?_ (by assumption))⟩



theorem cap_step {r : Int} {A : NL} {j : Nat} {w0 : World} {rb vb : Nat} {w : World} (h : Cap w0 rb vb r (if inR r (A j) then cntN (inR r) A j + 1 else cntN (inR r) A j) (if inR r (A j) then (filN (inR r) A j).put (cntN (inR r) A j) (A j) else filN (inR r) A j) w) : Cap w0 rb vb r (cntN (inR r) A (j + 1)) (filN (inR r) A (j + 1)) w := by
  simp only [cntN, filN]
  exact h

end Go.Proofs.Ytboodnbjhgobgaa