/- Queries: queryOk of the program, l8Form of the model; nearOf of the program. -/
import Derived.Test.YtboodnbjhgobgaaIF
import Derived.Test.YtboodnbjhgobgaaVG
import Derived.Test.YtboodnbjhgobgaaHO0
namespace Go.Proofs.Ytboodnbjhgobgaa
open Go.RowKit
set_option linter.unusedSimpArgs false
set_option linter.unusedVariables false

/-- Whether a query is right in form. -/
def formB (dim : Int) (n : Nat) (L : IL) (qs : List Int) : Bool := itemsB dim n L && vecOkB qs && decide ((qs.length : Int) = dim)

set_option maxHeartbeats 1600000 in
theorem queryOk_any (dim : Int) (a : Option Addr) (n cap : Nat) (L : IL) (qa : Option Addr) (qn qc : Nat) (qs : List Int) (w : World) (h : IRow w a n L) (hn : n ≤ 1048576) (hv : ∀ i, i < n → (L i).vec.length ≤ 1048576) (hq : Row w qa qn qs) (hqn : qn ≤ 1048576) :
    Calls Try.prog 25 #[.int .i64 dim, .slice a n cap, .slice qa qn qc] w fun e w' => e = .returned (.bool (formB dim n L qs)) ∧ Below w.heap.size w w' := by
  have hl := hq.len
  have K := hide (iItemsOk_any dim a n cap L w h hn hv)
  have V := hide (fun w1 (hb : Below w.heap.size w w1) => iVecOk_any qa qn qc qs w1 (hq.below hb) hqn)
  clear h hv hq
  unfold formB
  rw [hl]
  cases h0 : itemsB dim n L
  · simp only [h0] at K
    simp only [Bool.and_true, Bool.and_false, Bool.true_and, Bool.false_and]
    go_enter Try.func25, Try.ntmps25
    go_wp2_with fail
    refine K.out.mono ?_
    rintro e w1 ⟨rfl, b1⟩
    go_wp2_with fail
    go_ret
    exact ⟨rfl, (by repeat' first | with_reducible exact Below.refl _ _ | with_reducible assumption | with_reducible refine below_drewN ?_ _ | with_reducible refine balloc ?_ _ | with_reducible refine Below.drew ?_ | with_reducible refine Below.setCell ?_ (by first | (simp; done) | (simp; omega) | omega) _ | with_reducible refine bstep ?_ (by assumption))⟩
  · simp only [h0] at K
    cases h1 : vecOkB qs
    · simp only [h1] at V
      simp only [Bool.and_true, Bool.and_false, Bool.true_and, Bool.false_and]
      go_enter Try.func25, Try.ntmps25
      go_wp2_with fail
      refine K.out.mono ?_
      rintro e w1 ⟨rfl, b1⟩
      go_wp2_with fail
      refine (V.out _ (by repeat' first | with_reducible exact Below.refl _ _ | with_reducible assumption | with_reducible refine below_drewN ?_ _ | with_reducible refine balloc ?_ _ | with_reducible refine Below.drew ?_ | with_reducible refine Below.setCell ?_ (by first | (simp; done) | (simp; omega) | omega) _ | with_reducible refine bstep ?_ (by assumption))).mono ?_
      rintro e w2 ⟨rfl, b2⟩
      go_wp2_with fail
      go_ret
      exact ⟨rfl, (by repeat' first | with_reducible exact Below.refl _ _ | with_reducible assumption | with_reducible refine below_drewN ?_ _ | with_reducible refine balloc ?_ _ | with_reducible refine Below.drew ?_ | with_reducible refine Below.setCell ?_ (by first | (simp; done) | (simp; omega) | omega) _ | with_reducible refine bstep ?_ (by assumption))⟩
    · simp only [h1] at V
      simp only [Bool.and_true, Bool.and_false, Bool.true_and, Bool.false_and]
      obtain ⟨u, hu⟩ : ∃ u, decide ((qn : Int) = dim) = u := ⟨_, rfl⟩
      have hu1 : ((qn : Int) == dim) = u := by rw [← hu]; rfl
      rw [hu]
      clear hu
      go_enter Try.func25, Try.ntmps25
      go_wp2_with fail
      refine K.out.mono ?_
      rintro e w1 ⟨rfl, b1⟩
      go_wp2_with fail
      refine (V.out _ (by repeat' first | with_reducible exact Below.refl _ _ | with_reducible assumption | with_reducible refine below_drewN ?_ _ | with_reducible refine balloc ?_ _ | with_reducible refine Below.drew ?_ | with_reducible refine Below.setCell ?_ (by first | (simp; done) | (simp; omega) | omega) _ | with_reducible refine bstep ?_ (by assumption))).mono ?_
      rintro e w2 ⟨rfl, b2⟩
      go_wp2_with fail
      go_ret
      exact ⟨rfl, (by repeat' first | with_reducible exact Below.refl _ _ | with_reducible assumption | with_reducible refine below_drewN ?_ _ | with_reducible refine balloc ?_ _ | with_reducible refine Below.drew ?_ | with_reducible refine Below.setCell ?_ (by first | (simp; done) | (simp; omega) | omega) _ | with_reducible refine bstep ?_ (by assumption))⟩

set_option maxHeartbeats 1600000 in
theorem l8Form_any (dim : Int) (a : Option Addr) (n cap : Nat) (L : IL) (qa : Option Addr) (qn qc : Nat) (qs : List Int) (w : World) (h : IRow w a n L) (hn : n ≤ 1048576) (hv : ∀ i, i < n → (L i).vec.length ≤ 1048576) (hq : Row w qa qn qs) (hqn : qn ≤ 1048576) :
    Calls Try.prog 20 #[.int .i64 dim, .slice a n cap, .slice qa qn qc] w fun e w' => e = .returned (.bool (formB dim n L qs)) ∧ Below w.heap.size w w' := by
  have hl := hq.len
  have K := hide (sItemsOk_any dim a n cap L w h hn hv)
  have V := hide (fun w1 (hb : Below w.heap.size w w1) => sVecOk_any qa qn qc qs w1 (hq.below hb) hqn)
  clear h hv hq
  unfold formB
  rw [hl]
  cases h0 : itemsB dim n L
  · simp only [h0] at K
    simp only [Bool.and_true, Bool.and_false, Bool.true_and, Bool.false_and]
    go_enter Try.func20, Try.ntmps20
    go_wp2_with fail
    refine K.out.mono ?_
    rintro e w1 ⟨rfl, b1⟩
    go_wp2_with fail
    go_ret
    exact ⟨rfl, (by repeat' first | with_reducible exact Below.refl _ _ | with_reducible assumption | with_reducible refine below_drewN ?_ _ | with_reducible refine balloc ?_ _ | with_reducible refine Below.drew ?_ | with_reducible refine Below.setCell ?_ (by first | (simp; done) | (simp; omega) | omega) _ | with_reducible refine bstep ?_ (by assumption))⟩
  · simp only [h0] at K
    cases h1 : vecOkB qs
    · simp only [h1] at V
      simp only [Bool.and_true, Bool.and_false, Bool.true_and, Bool.false_and]
      go_enter Try.func20, Try.ntmps20
      go_wp2_with fail
      refine K.out.mono ?_
      rintro e w1 ⟨rfl, b1⟩
      go_wp2_with fail
      refine (V.out _ (by repeat' first | with_reducible exact Below.refl _ _ | with_reducible assumption | with_reducible refine below_drewN ?_ _ | with_reducible refine balloc ?_ _ | with_reducible refine Below.drew ?_ | with_reducible refine Below.setCell ?_ (by first | (simp; done) | (simp; omega) | omega) _ | with_reducible refine bstep ?_ (by assumption))).mono ?_
      rintro e w2 ⟨rfl, b2⟩
      go_wp2_with fail
      go_ret
      exact ⟨rfl, (by repeat' first | with_reducible exact Below.refl _ _ | with_reducible assumption | with_reducible refine below_drewN ?_ _ | with_reducible refine balloc ?_ _ | with_reducible refine Below.drew ?_ | with_reducible refine Below.setCell ?_ (by first | (simp; done) | (simp; omega) | omega) _ | with_reducible refine bstep ?_ (by assumption))⟩
    · simp only [h1] at V
      simp only [Bool.and_true, Bool.and_false, Bool.true_and, Bool.false_and]
      obtain ⟨u, hu⟩ : ∃ u, decide ((qn : Int) = dim) = u := ⟨_, rfl⟩
      have hu1 : ((qn : Int) == dim) = u := by rw [← hu]; rfl
      rw [hu]
      clear hu
      go_enter Try.func20, Try.ntmps20
      go_wp2_with fail
      refine K.out.mono ?_
      rintro e w1 ⟨rfl, b1⟩
      go_wp2_with fail
      refine (V.out _ (by repeat' first | with_reducible exact Below.refl _ _ | with_reducible assumption | with_reducible refine below_drewN ?_ _ | with_reducible refine balloc ?_ _ | with_reducible refine Below.drew ?_ | with_reducible refine Below.setCell ?_ (by first | (simp; done) | (simp; omega) | omega) _ | with_reducible refine bstep ?_ (by assumption))).mono ?_
      rintro e w2 ⟨rfl, b2⟩
      go_wp2_with fail
      go_ret
      exact ⟨rfl, (by repeat' first | with_reducible exact Below.refl _ _ | with_reducible assumption | with_reducible refine below_drewN ?_ _ | with_reducible refine balloc ?_ _ | with_reducible refine Below.drew ?_ | with_reducible refine Below.setCell ?_ (by first | (simp; done) | (simp; omega) | omega) _ | with_reducible refine bstep ?_ (by assumption))⟩

/-- An item as a Near of a query. -/
def nrOf (qs : List Int) (x : It) : Int × Int := (x.id, dsum x.vec qs x.vec.length)
/-- What a right query says of its items. -/
structure Fine (dim : Int) (n : Nat) (L : IL) (qs : List Int) : Prop where
  n60 : n ≤ 60
  vq : vecOkB qs = true
  vi : ∀ i, i < n → vecOkB (L i).vec = true
  li : ∀ i, i < n → (L i).vec.length = qs.length
theorem fine_of {dim : Int} {n : Nat} {L : IL} {qs : List Int} (h : formB dim n L qs = true) : Fine dim n L qs := by
  unfold formB at h
  simp only [Bool.and_eq_true, decide_eq_true_eq] at h
  obtain ⟨⟨h0, h1⟩, h2⟩ := h
  have hi : ∀ i, i < n → vecOkB (L i).vec = true ∧ ((L i).vec.length : Int) = dim := fun i hi => by
    unfold itemsB at h0
    simp only [Bool.and_eq_true] at h0
    have := allN_at h0.2 hi
    unfold okI itemB at this
    simp only [Bool.and_eq_true, decide_eq_true_eq] at this
    exact ⟨this.1.1.2, this.1.2⟩
  refine ⟨?_, h1, fun i hi' => (hi i hi').1, fun i hi' => by have := (hi i hi').2; omega⟩
  unfold itemsB at h0
  simp only [Bool.and_eq_true, decide_eq_true_eq] at h0
  exact h0.1.2
end Go.Proofs.Ytboodnbjhgobgaa
