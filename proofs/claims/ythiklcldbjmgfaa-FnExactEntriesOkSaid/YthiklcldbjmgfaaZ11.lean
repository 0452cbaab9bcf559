/- eqItem, eqItemS of the laws, where both are the same items. -/
import Derived.Test.YthiklcldbjmgfaaZ10
import Derived.Test.YthiklcldbjmgfaaZ5
import Derived.Test.YthiklcldbjmgfaaZ2
import Derived.Test.YthiklcldbjmgfaaZ9
import Derived.Deep.RegionHeld3
namespace Go.Proofs.Ythiklcldbjmgfaa
open Go.RowKit
set_option maxRecDepth 8000
set_option linter.unusedSimpArgs false
set_option linter.unusedVariables false

set_option maxHeartbeats 800000 in
theorem eqItem_self (x : It) (a a' : Option Addr) (n n' cap cap1 : Nat) (w : World) (h : Row w a n x.vec) (h' : Row w a' n' x.vec) (hn : n ≤ 1048576) :
    Calls Try.prog 35 #[.agg #[.int .i64 x.id, .int .i64 x.tags, .slice a n cap], .agg #[.int .i64 x.id, .int .i64 x.tags, .slice a' n' cap1]] w fun e w' => e = .returned (.bool true) ∧ Below w.heap.size w w' := by
  have R := hide (fun w1 (hb : Below w.heap.size w w1) => eqInts_any a a' n cap n' cap1 x.vec x.vec w1 (h.below hb) (h'.below hb) hn)
  have g1 : (x.id != x.id) = false := by simp
  have g2 : (x.tags != x.tags) = false := by simp
  clear h h'
  go_enter Try.func35, Try.ntmps35
  go_wp2_with fail
  refine (R.out _ (by repeat' first | with_reducible exact Below.refl _ _ | with_reducible assumption | with_reducible refine below_drewN ?_ _ | with_reducible refine balloc ?_ _ | with_reducible refine Below.drew ?_ | with_reducible refine Below.setCell ?_ (by first | (simp; done) | (simp; omega) | omega) _ | with_reducible refine bstep ?_ (by assumption))).mono ?_
  rintro e w1 ⟨rfl, hb1⟩
  rw [show decide True = true from rfl]
  go_wp2_with fail
  go_ret
  exact ⟨rfl, (by repeat' first | with_reducible exact Below.refl _ _ | with_reducible assumption | with_reducible refine below_drewN ?_ _ | with_reducible refine balloc ?_ _ | with_reducible refine Below.drew ?_ | with_reducible refine Below.setCell ?_ (by first | (simp; done) | (simp; omega) | omega) _ | with_reducible refine bstep ?_ (by assumption))⟩

/-- The cells of two items, as a comparison reads them. -/
structure Two (w : World) (b o b1 o' : Nat) (x : It) (a a' : Option Addr) (n n' c c' : Nat) : Prop where
  l : b < w.heap.size
  l' : b1 < w.heap.size
  r : Row w a n x.vec
  r' : Row w a' n' x.vec
  c0 : w.cell? ⟨b, o, none⟩ = some (.int .i64 x.id)
  c1 : w.cell? ⟨b, o + 1, none⟩ = some (.int .i64 x.tags)
  c2 : w.cell? ⟨b, o + 2, none⟩ = some (.slice a n c)
  d0 : w.cell? ⟨b1, o', none⟩ = some (.int .i64 x.id)
  d1 : w.cell? ⟨b1, o' + 1, none⟩ = some (.int .i64 x.tags)
  d2 : w.cell? ⟨b1, o' + 2, none⟩ = some (.slice a' n' c')

theorem Two.below {w w' : World} {b o b1 o' : Nat} {x : It} {a a' : Option Addr} {n n' c c' : Nat} (h : Two w b o b1 o' x a a' n n' c c') (hb : Below w.heap.size w w') : Two w' b o b1 o' x a a' n n' c c' :=
  ⟨Nat.lt_of_lt_of_le h.l hb.size, Nat.lt_of_lt_of_le h.l' hb.size, h.r.below hb, h.r'.below hb,
    (hb.cell (p := ⟨b, o, none⟩) h.l).trans h.c0, (hb.cell (p := ⟨b, o + 1, none⟩) h.l).trans h.c1, (hb.cell (p := ⟨b, o + 2, none⟩) h.l).trans h.c2,
    (hb.cell (p := ⟨b1, o', none⟩) h.l').trans h.d0, (hb.cell (p := ⟨b1, o' + 1, none⟩) h.l').trans h.d1, (hb.cell (p := ⟨b1, o' + 2, none⟩) h.l').trans h.d2⟩

theorem Two.drew {w : World} {b o b1 o' : Nat} {x : It} {a a' : Option Addr} {n n' c c' : Nat} (h : Two w b o b1 o' x a a' n n' c c') : Two w.drew b o b1 o' x a a' n n' c c' :=
  ⟨h.l, h.l', ⟨h.r.len, h.r.lies⟩, ⟨h.r'.len, h.r'.lies⟩, h.c0, h.c1, h.c2, h.d0, h.d1, h.d2⟩





end Go.Proofs.Ythiklcldbjmgfaa
/- Whether an item is right: l7Item, l7Dim of the model, fits of the program. -/
namespace Go.Proofs.Ythiklcldbjmgfaa
open Go.RowKit
set_option maxRecDepth 8000
set_option linter.unusedSimpArgs false
set_option linter.unusedVariables false

set_option maxHeartbeats 400000 in
theorem tagsOk_any (n : Int) (w : World) :
    Calls Try.prog 48 #[.int .i64 n] w fun e w' => e = .returned (.bool (inB n 0 255)) ∧ w' = w := by
  by_cases h1 : 0 ≤ n <;> by_cases h2 : n ≤ 255
  all_goals
    simp only [inB, h1, h2, and_true, and_false, decide_true, decide_false]
    go_enter Try.func48, Try.ntmps48
    go_wp2
    go_ret
    exact ⟨rfl, rfl⟩



/-- An item of a dim. -/
def itemB (dim : Int) (x : It) : Bool := inB x.id 1 9999 && inB x.tags 0 255 && vecOkB x.vec && decide ((x.vec.length : Int) = dim)

set_option maxHeartbeats 1600000 in
theorem l7Item_any (dim : Int) (x : It) (a : Option Addr) (n cap : Nat) (w : World) (h : Row w a n x.vec) (hn : n ≤ 1048576) :
    Calls Try.prog 40 #[.int .i64 dim, .agg #[.int .i64 x.id, .int .i64 x.tags, .slice a n cap]] w fun e w' => e = .returned (.bool (itemB dim x)) ∧ Below w.heap.size w w' := by
  have hl := h.len
  have V := hide (fun w1 (hb : Below w.heap.size w w1) => sVecOk_any a n cap x.vec w1 (h.below hb) hn)
  clear h
  unfold itemB
  rw [hl]
  obtain ⟨x0, x1, xs⟩ := x
  dsimp only at *
  cases h0 : inB x0 1 9999
  · simp only [Bool.and_true, Bool.and_false, Bool.true_and, Bool.false_and]
    go_enter Try.func40, Try.ntmps40
    go_wp2_with fail
    refine (l6Id_any _ _).mono ?_
    rintro e w' ⟨rfl, rfl⟩
    rw [h0]
    go_wp2_with fail
    go_ret
    exact ⟨rfl, (by repeat' first | with_reducible exact Below.refl _ _ | with_reducible assumption | with_reducible refine below_drewN ?_ _ | with_reducible refine balloc ?_ _ | with_reducible refine Below.drew ?_ | with_reducible refine Below.setCell ?_ (by first | (simp; done) | (simp; omega) | omega) _ | with_reducible refine bstep ?_ (by assumption))⟩
  · cases h1 : inB x1 0 255
    · simp only [Bool.and_true, Bool.and_false, Bool.true_and, Bool.false_and]
      go_enter Try.func40, Try.ntmps40
      go_wp2_with fail
      refine (l6Id_any _ _).mono ?_
      rintro e w' ⟨rfl, rfl⟩
      rw [h0]
      go_wp2_with fail
      refine (l1In_any _ _ _ _).mono ?_
      rintro e w' ⟨rfl, rfl⟩
      rw [h1]
      go_wp2_with fail
      go_ret
      exact ⟨rfl, (by repeat' first | with_reducible exact Below.refl _ _ | with_reducible assumption | with_reducible refine below_drewN ?_ _ | with_reducible refine balloc ?_ _ | with_reducible refine Below.drew ?_ | with_reducible refine Below.setCell ?_ (by first | (simp; done) | (simp; omega) | omega) _ | with_reducible refine bstep ?_ (by assumption))⟩
    · cases h2 : vecOkB xs
      · rw [h2] at V
        simp only [Bool.and_true, Bool.and_false, Bool.true_and, Bool.false_and]
        go_enter Try.func40, Try.ntmps40
        go_wp2_with fail
        refine (l6Id_any _ _).mono ?_
        rintro e w' ⟨rfl, rfl⟩
        rw [h0]
        go_wp2_with fail
        refine (l1In_any _ _ _ _).mono ?_
        rintro e w' ⟨rfl, rfl⟩
        rw [h1]
        go_wp2_with fail
        refine (V.out _ (by repeat' first | with_reducible exact Below.refl _ _ | with_reducible assumption | with_reducible refine below_drewN ?_ _ | with_reducible refine balloc ?_ _ | with_reducible refine Below.drew ?_ | with_reducible refine Below.setCell ?_ (by first | (simp; done) | (simp; omega) | omega) _ | with_reducible refine bstep ?_ (by assumption))).mono ?_
        rintro e w' ⟨rfl, rfl⟩
        go_wp2_with fail
        go_ret
        exact ⟨rfl, (by repeat' first | with_reducible exact Below.refl _ _ | with_reducible assumption | with_reducible refine below_drewN ?_ _ | with_reducible refine balloc ?_ _ | with_reducible refine Below.drew ?_ | with_reducible refine Below.setCell ?_ (by first | (simp; done) | (simp; omega) | omega) _ | with_reducible refine bstep ?_ (by assumption))⟩
      · rw [h2] at V
        simp only [Bool.and_true, Bool.and_false, Bool.true_and, Bool.false_and]
        obtain ⟨u, hu⟩ : ∃ u, decide ((n : Int) = dim) = u := ⟨_, rfl⟩
        have hu1 : ((n : Int) == dim) = u := by rw [← hu]; rfl
        rw [hu]
        clear hu
        go_enter Try.func40, Try.ntmps40
        go_wp2_with fail
        refine (l6Id_any _ _).mono ?_
        rintro e w' ⟨rfl, rfl⟩
        rw [h0]
        go_wp2_with fail
        refine (l1In_any _ _ _ _).mono ?_
        rintro e w' ⟨rfl, rfl⟩
        rw [h1]
        go_wp2_with fail
        refine (V.out _ (by repeat' first | with_reducible exact Below.refl _ _ | with_reducible assumption | with_reducible refine below_drewN ?_ _ | with_reducible refine balloc ?_ _ | with_reducible refine Below.drew ?_ | with_reducible refine Below.setCell ?_ (by first | (simp; done) | (simp; omega) | omega) _ | with_reducible refine bstep ?_ (by assumption))).mono ?_
        rintro e w' ⟨rfl, rfl⟩
        go_wp2_with fail
        go_ret
        exact ⟨rfl, (by repeat' first | with_reducible exact Below.refl _ _ | with_reducible assumption | with_reducible refine below_drewN ?_ _ | with_reducible refine balloc ?_ _ | with_reducible refine Below.drew ?_ | with_reducible refine Below.setCell ?_ (by first | (simp; done) | (simp; omega) | omega) _ | with_reducible refine bstep ?_ (by assumption))⟩

set_option maxHeartbeats 1600000 in
theorem fits_any (dim : Int) (x : It) (a : Option Addr) (n cap : Nat) (w : World) (h : Row w a n x.vec) (hn : n ≤ 1048576) :
    Calls Try.prog 32 #[.agg #[.int .i64 x.id, .int .i64 x.tags, .slice a n cap], .int .i64 dim] w fun e w' => e = .returned (.bool (itemB dim x)) ∧ Below w.heap.size w w' := by
  have hl := h.len
  have V := hide (fun w1 (hb : Below w.heap.size w w1) => iVecOk_any a n cap x.vec w1 (h.below hb) hn)
  clear h
  unfold itemB
  rw [hl]
  obtain ⟨x0, x1, xs⟩ := x
  dsimp only at *
  cases h0 : inB x0 1 9999
  · simp only [Bool.and_true, Bool.and_false, Bool.true_and, Bool.false_and]
    go_enter Try.func32, Try.ntmps32
    go_wp2_with fail
    refine (idOk_any _ _).mono ?_
    rintro e w' ⟨rfl, rfl⟩
    rw [h0]
    go_wp2_with fail
    go_ret
    exact ⟨rfl, (by repeat' first | with_reducible exact Below.refl _ _ | with_reducible assumption | with_reducible refine below_drewN ?_ _ | with_reducible refine balloc ?_ _ | with_reducible refine Below.drew ?_ | with_reducible refine Below.setCell ?_ (by first | (simp; done) | (simp; omega) | omega) _ | with_reducible refine bstep ?_ (by assumption))⟩
  · cases h1 : inB x1 0 255
    · simp only [Bool.and_true, Bool.and_false, Bool.true_and, Bool.false_and]
      go_enter Try.func32, Try.ntmps32
      go_wp2_with fail
      refine (idOk_any _ _).mono ?_
      rintro e w' ⟨rfl, rfl⟩
      rw [h0]
      go_wp2_with fail
      refine (tagsOk_any _ _).mono ?_
      rintro e w' ⟨rfl, rfl⟩
      rw [h1]
      go_wp2_with fail
      go_ret
      exact ⟨rfl, (by repeat' first | with_reducible exact Below.refl _ _ | with_reducible assumption | with_reducible refine below_drewN ?_ _ | with_reducible refine balloc ?_ _ | with_reducible refine Below.drew ?_ | with_reducible refine Below.setCell ?_ (by first | (simp; done) | (simp; omega) | omega) _ | with_reducible refine bstep ?_ (by assumption))⟩
    · cases h2 : vecOkB xs
      · rw [h2] at V
        simp only [Bool.and_true, Bool.and_false, Bool.true_and, Bool.false_and]
        go_enter Try.func32, Try.ntmps32
        go_wp2_with fail
        refine (idOk_any _ _).mono ?_
        rintro e w' ⟨rfl, rfl⟩
        rw [h0]
        go_wp2_with fail
        refine (tagsOk_any _ _).mono ?_
        rintro e w' ⟨rfl, rfl⟩
        rw [h1]
        go_wp2_with fail
        refine (V.out _ (by repeat' first | with_reducible exact Below.refl _ _ | with_reducible assumption | with_reducible refine below_drewN ?_ _ | with_reducible refine balloc ?_ _ | with_reducible refine Below.drew ?_ | with_reducible refine Below.setCell ?_ (by first | (simp; done) | (simp; omega) | omega) _ | with_reducible refine bstep ?_ (by assumption))).mono ?_
        rintro e w1 ⟨rfl, hb1⟩
        go_wp2_with fail
        go_ret
        exact ⟨rfl, (by repeat' first | with_reducible exact Below.refl _ _ | with_reducible assumption | with_reducible refine below_drewN ?_ _ | with_reducible refine balloc ?_ _ | with_reducible refine Below.drew ?_ | with_reducible refine Below.setCell ?_ (by first | (simp; done) | (simp; omega) | omega) _ | with_reducible refine bstep ?_ (by assumption))⟩
      · rw [h2] at V
        simp only [Bool.and_true, Bool.and_false, Bool.true_and, Bool.false_and]
        obtain ⟨u, hu⟩ : ∃ u, decide ((n : Int) = dim) = u := ⟨_, rfl⟩
        have hu1 : ((n : Int) == dim) = u := by rw [← hu]; rfl
        rw [hu]
        clear hu
        go_enter Try.func32, Try.ntmps32
        go_wp2_with fail
        refine (idOk_any _ _).mono ?_
        rintro e w' ⟨rfl, rfl⟩
        rw [h0]
        go_wp2_with fail
        refine (tagsOk_any _ _).mono ?_
        rintro e w' ⟨rfl, rfl⟩
        rw [h1]
        go_wp2_with fail
        refine (V.out _ (by repeat' first | with_reducible exact Below.refl _ _ | with_reducible assumption | with_reducible refine below_drewN ?_ _ | with_reducible refine balloc ?_ _ | with_reducible refine Below.drew ?_ | with_reducible refine Below.setCell ?_ (by first | (simp; done) | (simp; omega) | omega) _ | with_reducible refine bstep ?_ (by assumption))).mono ?_
        rintro e w1 ⟨rfl, hb1⟩
        obtain ⟨q0, q1, q2, q3, _⟩ := (Tri.new w (.int .i64 x0) (.int .i64 x1) (.slice a n cap) 43).below hb1
        go_wp2_with fail
        go_ret
        exact ⟨rfl, (by repeat' first | with_reducible exact Below.refl _ _ | with_reducible assumption | with_reducible refine below_drewN ?_ _ | with_reducible refine balloc ?_ _ | with_reducible refine Below.drew ?_ | with_reducible refine Below.setCell ?_ (by first | (simp; done) | (simp; omega) | omega) _ | with_reducible refine bstep ?_ (by assumption))⟩
end Go.Proofs.Ythiklcldbjmgfaa

/- Marks over items: markInt64S, heldInt64S over a block whose first cells are known; markItemS, heldItemS, markItem, heldItem of the laws. -/
namespace Go.Proofs.Ythiklcldbjmgfaa
open Go.RowKit
set_option maxRecDepth 8000
set_option linter.unusedSimpArgs false
set_option linter.unusedVariables false

def mixV (k : Nat) (q : Int) (f : Nat → Value) : Nat → Value := fun j => if j < k then .int .i64 (q + (j : Int)) else f j

theorem mixV_step {w : World} {g n k cap : Nat} {q : Int} {f : Nat → Value} (h : ArrC w g n (mixV k q f) cap) : ArrC (w.setCell ⟨g, k, none⟩ (.int .i64 (q + (k : Int)))) g n (mixV (k + 1) q f) cap := by
  refine (h.set k _).congr fun j hj => ?_
  unfold mixV
  by_cases e : j = k
  · subst e; simp
  · by_cases l : j < k
    · simp [e, l, show j < k + 1 by omega]
    · simp [e, l, show ¬ j < k + 1 by omega]













def offI (L : IL) (k : Nat) : Int := 2 * (k : Int) + (sumV L k : Nat)

theorem offI_s (L : IL) (k : Nat) : offI L (k + 1) = offI L k + 2 + ((L k).vec.length : Nat) := by
  unfold offI
  have : sumV L (k + 1) = sumV L k + (L k).vec.length := rfl
  rw [this]
  omega
def mkI (L : IL) (q : Int) : IL := fun i => ⟨q + offI L i, q + offI L i + 1, marks (q + offI L i + 2) (L i).vec.length⟩
def mixI (k : Nat) (A B : IL) : IL := fun i => if i < k then A i else B i

theorem mixI_put (k : Nat) (A B : IL) : (mixI k A B).put k (A k) = mixI (k + 1) A B := by
  funext i
  unfold IL.put mixI
  by_cases e : i = k
  · subst e; simp
  · by_cases l : i < k
    · simp [e, l, show i < k + 1 by omega]
    · simp [e, l, show ¬ i < k + 1 by omega]

/-- The numbers of an item are put in their place. -/
theorem Arr.item2 {w : World} {g m k : Nat} {L : IL} {sv : Nat → Value} (h : Arr w g m (icell L sv)) (x : It) :
    Arr ((w.setCell ⟨g, k * 3, none⟩ (.int .i64 x.id)).setCell ⟨g, k * 3 + 1, none⟩ (.int .i64 x.tags)) g m (icell (L.put k x) sv) := by
  refine ((h.set (k * 3) _).set (k * 3 + 1) _).congr fun j hj => ?_
  unfold icell IL.put
  rcases (show j % 3 = 0 ∨ j % 3 = 1 ∨ j % 3 = 2 by omega) with h | h | h
  · simp only [h, if_true]
    rw [if_neg (show ¬ j = k * 3 + 1 by omega)]
    by_cases e : j = k * 3
    · rw [if_pos e, if_pos (show j / 3 = k by omega)]
    · rw [if_neg e, if_neg (show ¬ j / 3 = k by omega)]
  · simp only [h]
    by_cases e : j = k * 3 + 1
    · rw [if_pos e, if_pos (show j / 3 = k by omega)]; simp
    · rw [if_neg e, if_neg (show ¬ j = k * 3 by omega), if_neg (show ¬ j / 3 = k by omega)]
  · simp only [h]
    rw [if_neg (show ¬ j = k * 3 + 1 by omega), if_neg (show ¬ j = k * 3 by omega)]; simp

theorem Its.put {w w2 : World} {B C : Nat} {n : Nat} {L : IL} {g : Nat} {V : Nat → Nat} {sv : Nat → Value} (h : Its w B C (some ⟨g, 0, none⟩) n L g V sv) {k : Nat} (hk : k < n) (x : It) (hlen : x.vec.length = (L k).vec.length)
    (hv : VSl w2 B C (sv k) x.vec (V k)) (harr : Arr w2 g (n * 3) (icell (L.put k x) sv)) (hkeep : ∀ j, j < w.heap.size → j ≠ g → ((L k).vec.length ≠ 0 → j ≠ V k) → w2.heap[j]? = w.heap[j]?) : Its w2 B C (some ⟨g, 0, none⟩) n (L.put k x) g V sv := by
  have hlen' : ∀ i, ((L.put k x) i).vec.length = (L i).vec.length := fun i => by
    by_cases e : i = k
    · subst e; rw [IL.put_at, hlen]
    · rw [IL.put_off _ _ e]
  refine ⟨?_, fun i hi => ?_, fun i hi h0 => ?_⟩
  · rcases h.arr with h0 | ⟨_, h1, h2, _⟩
    · omega
    · exact .inr ⟨rfl, h1, h2, harr⟩
  · by_cases e : i = k
    · subst e; rw [IL.put_at]; exact hv
    · rw [IL.put_off _ _ e]
      obtain ⟨a, c, ev, h0 | ⟨rfl, k1, k2, ha⟩⟩ := h.vec i hi
      · exact ⟨a, c, ev, .inl h0⟩
      · by_cases h0 : (L i).vec.length = 0
        · exact ⟨_, c, ev, .inl h0⟩
        · refine ⟨_, c, ev, .inr ⟨rfl, k1, k2, ha.block (hkeep _ ha.lt (h.sep i hi h0).1 fun hk0 => ?_)⟩⟩
          exact Ne.symm ((h.sep i hi h0).2 k hk (Ne.symm e) hk0)
  · rw [hlen'] at h0
    obtain ⟨h1, h2⟩ := h.sep i hi h0
    exact ⟨h1, fun j hj hne hj0 => h2 j hj hne (by rwa [hlen'] at hj0)⟩

end Go.Proofs.Ythiklcldbjmgfaa
/- Marks over items, the rest: markItemS and heldItemS of any slice that the call owns, markItem, heldItem. -/
namespace Go.Proofs.Ythiklcldbjmgfaa
open Go.RowKit
set_option maxRecDepth 8000
set_option linter.unusedSimpArgs false
set_option linter.unusedVariables false













end Go.Proofs.Ythiklcldbjmgfaa
/- Two packed rows are the same just when their codes are. -/
namespace Go.Proofs.Ythiklcldbjmgfaa
open Go.RowKit
set_option maxRecDepth 8000
set_option linter.unusedSimpArgs false
set_option linter.unusedVariables false

theorem pk_eq {m : Nat} {c1 c2 c3 d1 d2 d3 : Nat → Int} (hc : CodesOk m c1 c2 c3) (hd : CodesOk m d1 d2 d3) :
    (pA c1 c2 c3 m = pA d1 d2 d3 m ∧ pB c1 c2 c3 m = pB d1 d2 d3 m ∧ pC c1 c2 c3 m = pC d1 d2 d3 m ∧ pD c1 c2 c3 m = pD d1 d2 d3 m) ↔ ∀ i, i < m → c1 i = d1 i ∧ c2 i = d2 i ∧ c3 i = d3 i := by
  obtain ⟨l1, l2, l3, l4⟩ := dig_lt hc
  obtain ⟨k1, k2, k3, k4⟩ := dig_lt hd
  constructor
  · rintro ⟨eA, eB, eC, eD⟩ i hi
    unfold pA at eA
    unfold pB at eB
    unfold pC at eC
    unfold pD at eD
    have a := num_inj (by omega) l1 k1 (by omega) i hi
    have b := num_inj (by omega) l2 k2 (by omega) i hi
    have c := num_inj (by omega) l3 k3 (by omega) i hi
    have d := num_inj (by omega) l4 k4 (by omega) i hi
    have hci := hc i hi
    have hdi := hd i hi
    unfold CodesAt at hci hdi
    simp only [dig, outD] at a b c d
    by_cases x : c3 i = -1 <;> by_cases y : d3 i = -1 <;> simp only [x, y, if_true, if_false] at a b c d <;> omega
  · intro h
    have e : ∀ i, i < m → dig c3 c1 i = dig d3 d1 i ∧ dig c3 c2 i = dig d3 d2 i ∧ dig c3 c3 i = dig d3 d3 i ∧ outD c3 i = outD d3 i := fun i hi => by
      obtain ⟨h1, h2, h3⟩ := h i hi
      simp only [dig, outD, h1, h2, h3, and_self]
    unfold pA pB pC pD
    rw [num_congr (base := 2) (fun i hi => (e i hi).1), num_congr (base := 16) (fun i hi => (e i hi).2.1), num_congr (base := 256) (fun i hi => (e i hi).2.2.1), num_congr (base := 2) (fun i hi => (e i hi).2.2.2)]
    exact ⟨rfl, rfl, rfl, rfl⟩
end Go.Proofs.Ythiklcldbjmgfaa

/- ItemsOk of the model and of the program. -/
namespace Go.Proofs.Ythiklcldbjmgfaa
open Go.RowKit
set_option maxRecDepth 8000
set_option linter.unusedSimpArgs false
set_option linter.unusedVariables false

def okI (dim : Int) (L : IL) (k : Nat) : Bool := itemB dim (L k) && (decide (k = 0) || !decide ((L k).id ≤ (L (k - 1)).id))
def itemsB (dim : Int) (n : Nat) (L : IL) : Bool := inB dim 1 8 && decide (n ≤ 60) && allN n (okI dim L)

/-- What a look at one item reads: its cells, and the id of the one ahead. -/
structure IV (w : World) (b o o1 : Nat) (x : It) (y : Int) (a : Option Addr) (n c : Nat) : Prop where
  l : b < w.heap.size
  r : Row w a n x.vec
  c0 : w.cell? ⟨b, o, none⟩ = some (.int .i64 x.id)
  c1 : w.cell? ⟨b, o + 1, none⟩ = some (.int .i64 x.tags)
  c2 : w.cell? ⟨b, o + 2, none⟩ = some (.slice a n c)
  d0 : w.cell? ⟨b, o1, none⟩ = some (.int .i64 y)

theorem IV.below {w w' : World} {b o o1 : Nat} {x : It} {y : Int} {a : Option Addr} {n c : Nat} (h : IV w b o o1 x y a n c) (hb : Below w.heap.size w w') : IV w' b o o1 x y a n c :=
  ⟨Nat.lt_of_lt_of_le h.l hb.size, h.r.below hb, (hb.cell (p := ⟨b, o, none⟩) h.l).trans h.c0, (hb.cell (p := ⟨b, o + 1, none⟩) h.l).trans h.c1, (hb.cell (p := ⟨b, o + 2, none⟩) h.l).trans h.c2, (hb.cell (p := ⟨b, o1, none⟩) h.l).trans h.d0⟩

theorem IV.drew {w : World} {b o o1 : Nat} {x : It} {y : Int} {a : Option Addr} {n c : Nat} (h : IV w b o o1 x y a n c) : IV w.drew b o o1 x y a n c :=
  ⟨h.l, ⟨h.r.len, h.r.lies⟩, h.c0, h.c1, h.c2, h.d0⟩

theorem okI_no1 {dim : Int} {L : IL} {k : Nat} (h : itemB dim (L k) = false) : okI dim L k = false := by unfold okI; rw [h]; rfl

theorem okI_0 {dim : Int} {L : IL} (h : itemB dim (L 0) = true) : okI dim L 0 = true := by unfold okI; rw [h]; rfl

theorem okI_s {dim : Int} {L : IL} {p : Nat} {d : Bool} (h : itemB dim (L (p + 1)) = true) (hd : decide ((L (p + 1)).id ≤ (L p).id) = d) : okI dim L (p + 1) = !d := by
  unfold okI
  rw [h, decide_eq_false (by omega), Nat.add_sub_cancel, hd]
  rfl





end Go.Proofs.Ythiklcldbjmgfaa