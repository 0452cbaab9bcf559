/- Queries: queryOk of the program, l8Form of the model; nearOf of the program. -/
import Derived.Test.YtjliecggfncelaaZ11
import Derived.Test.YtjliecggfncelaaZ5
import Derived.Test.YtjliecggfncelaaZ9
namespace Go.Proofs.Ytjliecggfncelaa
open Go.RowKit
set_option maxRecDepth 8000
set_option linter.unusedSimpArgs false
set_option linter.unusedVariables false

/-- Whether a query is right in form. -/
def formB (dim : Int) (n : Nat) (L : IL) (qs : List Int) : Bool := itemsB dim n L && vecOkB qs && decide ((qs.length : Int) = dim)

set_option maxHeartbeats 1600000 in
theorem queryOk_any (dim : Int) (a : Option Addr) (n cap : Nat) (L : IL) (qa : Option Addr) (qn qc : Nat) (qs : List Int) (w : World) (h : IRow w a n L) (hn : n ≤ 1048576) (hv : ∀ i, i < n → (L i).vec.length ≤ 1048576) (hq : Row w qa qn qs) (hqn : qn ≤ 1048576) :
    Calls Try.prog 32 #[.int .i64 dim, .slice a n cap, .slice qa qn qc] w fun e w' => e = .returned (.bool (formB dim n L qs)) ∧ Below w.heap.size w w' := by
  have hl := hq.len
  have K := hide (iItemsOk_any dim a n cap L w h hn hv)
  have V := hide (fun w1 (hb : Below w.heap.size w w1) => iVecOk_any qa qn qc qs w1 (hq.below hb) hqn)
  clear h hv hq
  unfold formB
  rw [hl]
  cases h0 : itemsB dim n L
  · simp only [h0] at K
    simp only [Bool.and_true, Bool.and_false, Bool.true_and, Bool.false_and]
    go_enter Try.func32, Try.ntmps32
    go_wp2_with fail
    refine K.out.mono ?_
    rintro e w1 ⟨rfl, b1⟩
    go_wp2_with fail
    go_ret
    exact ⟨rfl, (by repeat' first | with_reducible exact Below.refl _ _ | with_reducible assumption | with_reducible refine below_drewN ?_ _ | with_reducible refine balloc ?_ _ | with_reducible refine Below.drew ?_ | with_reducible refine Below.setCell ?_ (by first | (simp; done) | (simp; omega) | omega) _ | with_reducible refine bstep ?_ (by assumption))⟩
  · simp only [h0] at K
    cases h1 : vecOkB qs
    · simp only [h1] at V
      simp only [Bool.and_true, Bool.and_false, Bool.true_and, Bool.false_and]
      go_enter Try.func32, Try.ntmps32
      go_wp2_with fail
      refine K.out.mono ?_
      rintro e w1 ⟨rfl, b1⟩
      go_wp2_with fail
      refine (V.out _ (by repeat' first | with_reducible exact Below.refl _ _ | with_reducible assumption | with_reducible refine below_drewN ?_ _ | with_reducible refine balloc ?_ _ | with_reducible refine Below.drew ?_ | with_reducible refine Below.setCell ?_ (by first | (simp; done) | (simp; omega) | omega) _ | with_reducible refine bstep ?_ (by assumption))).mono ?_
      rintro e w2 ⟨rfl, b2⟩
      go_wp2_with fail
      go_ret
      exact ⟨rfl, (by repeat' first | with_reducible exact Below.refl _ _ | with_reducible assumption | with_reducible refine below_drewN ?_ _ | with_reducible refine balloc ?_ _ | with_reducible refine Below.drew ?_ | with_reducible refine Below.setCell ?_ (by first | (simp; done) | (simp; omega) | omega) _ | with_reducible refine bstep ?_ (by assumption))⟩
    · simp only [h1] at V
      simp only [Bool.and_true, Bool.and_false, Bool.true_and, Bool.false_and]
      obtain ⟨u, hu⟩ : ∃ u, decide ((qn : Int) = dim) = u := ⟨_, rfl⟩
      have hu1 : ((qn : Int) == dim) = u := by rw [← hu]; rfl
      rw [hu]
      clear hu
      go_enter Try.func32, Try.ntmps32
      go_wp2_with fail
      refine K.out.mono ?_
      rintro e w1 ⟨rfl, b1⟩
      go_wp2_with fail
      refine (V.out _ (by repeat' first | with_reducible exact Below.refl _ _ | with_reducible assumption | with_reducible refine below_drewN ?_ _ | with_reducible refine balloc ?_ _ | with_reducible refine Below.drew ?_ | with_reducible refine Below.setCell ?_ (by first | (simp; done) | (simp; omega) | omega) _ | with_reducible refine bstep ?_ (by assumption))).mono ?_
      rintro e w2 ⟨rfl, b2⟩
      go_wp2_with fail
      go_ret
      exact ⟨rfl, (by repeat' first | with_reducible exact Below.refl _ _ | with_reducible assumption | with_reducible refine below_drewN ?_ _ | with_reducible refine balloc ?_ _ | with_reducible refine Below.drew ?_ | with_reducible refine Below.setCell ?_ (by first | (simp; done) | (simp; omega) | omega) _ | with_reducible refine bstep ?_ (by assumption))⟩



/-- An item as a Near of a query. -/
def nrOf (qs : List Int) (x : It) : Int × Int := (x.id, dsum x.vec qs x.vec.length)
/-- What a right query says of its items. -/
structure Fine (dim : Int) (n : Nat) (L : IL) (qs : List Int) : Prop where
  n60 : n ≤ 60
  vq : vecOkB qs = true
  vi : ∀ i, i < n → vecOkB (L i).vec = true
  li : ∀ i, i < n → (L i).vec.length = qs.length

theorem fine_of {dim : Int} {n : Nat} {L : IL} {qs : List Int} (h : formB dim n L qs = true) : Fine dim n L qs := by
  unfold formB at h
  simp only [Bool.and_eq_true, decide_eq_true_eq] at h
  obtain ⟨⟨h0, h1⟩, h2⟩ := h
  have hi : ∀ i, i < n → vecOkB (L i).vec = true ∧ ((L i).vec.length : Int) = dim := fun i hi => by
    unfold itemsB at h0
    simp only [Bool.and_eq_true] at h0
    have := allN_at h0.2 hi
    unfold okI itemB at this
    simp only [Bool.and_eq_true, decide_eq_true_eq] at this
    exact ⟨this.1.1.2, this.1.2⟩
  refine ⟨?_, h1, fun i hi' => (hi i hi').1, fun i hi' => by have := (hi i hi').2; omega⟩
  unfold itemsB at h0
  simp only [Bool.and_eq_true, decide_eq_true_eq] at h0
  exact h0.1.2
end Go.Proofs.Ytjliecggfncelaa

/- nearOf of the program: an item as a Near. -/
namespace Go.Proofs.Ytjliecggfncelaa
open Go.RowKit
set_option maxRecDepth 8000
set_option linter.unusedSimpArgs false
set_option linter.unusedVariables false

/-- A box of two cells that may be written, whatever lies in it. -/
structure Any2 (w : World) (b : Nat) : Prop where
  lt : b < w.heap.size
  c0 : ∃ u, w.cell? ⟨b, 0, none⟩ = some u
  c1 : ∃ u, w.cell? ⟨b, 1, none⟩ = some u
  f0 : w.frozen? ⟨b, 0, none⟩ = false
  f1 : w.frozen? ⟨b, 1, none⟩ = false

theorem Any2.below {w w' : World} {b : Nat} (h : Any2 w b) (hb : Below w.heap.size w w') : Any2 w' b :=
  ⟨Nat.lt_of_lt_of_le h.lt hb.size, h.c0.imp fun u hu => (hb.cell (p := ⟨b, 0, none⟩) h.lt).trans hu, h.c1.imp fun u hu => (hb.cell (p := ⟨b, 1, none⟩) h.lt).trans hu, (hb.frozen (p := ⟨b, 0, none⟩) h.lt).trans h.f0, (hb.frozen (p := ⟨b, 1, none⟩) h.lt).trans h.f1⟩

theorem Any2.new (w : World) (x y : Value) (T : TypeId) (b : Nat) (hb : w.heap.size = b) : Any2 (w.alloc (.cells #[x, y] T)) b := hb ▸ ⟨by simp, ⟨x, by simp [go_sem]⟩, ⟨y, by simp [go_sem]⟩, by simp [go_sem], by simp [go_sem]⟩
/-- What nearOf holds: the item's box, and the box of its answer. -/
structure NO (w : World) (b b' : Nat) (x : It) (xa : Option Addr) (xn xc : Nat) : Prop where
  one : Tri w b (.int .i64 x.id) (.int .i64 x.tags) (.slice xa xn xc)
  two : Any2 w b'

theorem NO.below {w w' : World} {b b' : Nat} {x : It} {xa : Option Addr} {xn xc : Nat} (h : NO w b b' x xa xn xc) (hb : Below w.heap.size w w') : NO w' b b' x xa xn xc := ⟨h.one.below hb, h.two.below hb⟩

theorem NO.drew {w : World} {b b' : Nat} {x : It} {xa : Option Addr} {xn xc : Nat} (h : NO w b b' x xa xn xc) : NO w.drew b b' x xa xn xc := ⟨h.one.drew, ⟨h.two.lt, h.two.c0, h.two.c1, h.two.f0, h.two.f1⟩⟩

theorem Tri.away {w : World} {b : Nat} {x y z : Value} (h : Tri w b x y z) (p : Addr) (v : Value) (hp : b ≠ p.block) : Tri (w.setCell p v) b x y z := by
  have e := Below.heap_setCell w p v b hp
  obtain ⟨h0, h1, h2, h3, h4, h5, h6⟩ := h
  refine ⟨by simpa [World.setCell] using h0, ?_, ?_, ?_, ?_, ?_, ?_⟩ <;> simp only [World.cell?, World.frozen?, e] at * <;> assumption

theorem Any2.set {w : World} {b : Nat} (h : Any2 w b) (u v : Value) : Any2 ((w.setCell ⟨b, 0, none⟩ u).setCell ⟨b, 1, none⟩ v) b := by
  obtain ⟨h0, ⟨u0, h1⟩, ⟨u1, h2⟩, h3, h4⟩ := h
  exact ⟨by simpa [World.setCell] using h0, ⟨u, by simp [go_sem, h1, h2]⟩, ⟨v, by simp [go_sem, h1, h2]⟩, by simp [go_sem, h3], by simp [go_sem, h4]⟩

theorem NO.set {w : World} {b b' : Nat} {x : It} {xa : Option Addr} {xn xc : Nat} (h : NO w b b' x xa xn xc) (hne : b ≠ b') (u v : Value) : NO ((w.setCell ⟨b', 0, none⟩ u).setCell ⟨b', 1, none⟩ v) b b' x xa xn xc :=
  ⟨(h.one.away _ _ hne).away _ _ hne, h.two.set u v⟩

/-- The answer of nearOf. -/
def NearR (w : World) (y : Int × Int) (e : Ending) (w' : World) : Prop := e = .returned (.agg #[.int .i64 y.1, .int .i64 y.2]) ∧ Below w.heap.size w w'

theorem distL_fine {xs ys : List Int} (hx : vecOkB xs = true) (hy : vecOkB ys = true) (hl : xs.length = ys.length) : distL xs ys = dsum xs ys xs.length := by
  unfold distL pairB
  rw [hx, hy, decide_eq_true hl]
  rfl

set_option maxHeartbeats 4000000 in
set_option maxRecDepth 4000 in
theorem nearOf_any (x : It) (xa : Option Addr) (xn xc : Nat) (qa : Option Addr) (qn qc : Nat) (qs : List Int) (w : World) (rx : Row w xa xn x.vec) (hxn : xn ≤ 1048576) (rq : Row w qa qn qs) (hqn : qn ≤ 1048576) (hx : vecOkB x.vec = true) (hq : vecOkB qs = true) (hl : x.vec.length = qs.length) :
    Calls Try.prog 54 #[.agg #[.int .i64 x.id, .int .i64 x.tags, .slice xa xn xc], .slice qa qn qc] w fun e w' => NearR w (nrOf qs x) e w' := by
  have D := hide (fun w1 (hb : Below w.heap.size w w1) => iDistOf_any xa qa xn xc qn qc x.vec qs w1 (rx.below hb) (rq.below hb) hxn hqn)
  rw [distL_fine hx hq hl] at D
  unfold nrOf
  obtain ⟨d, hd⟩ : ∃ d, dsum x.vec qs x.vec.length = d := ⟨_, rfl⟩
  rw [hd] at D ⊢
  have bw : Below w.heap.size w ((w.alloc (.cells #[.int .i64 x.id, .int .i64 x.tags, .slice xa xn xc] 36)).alloc (.cells #[.int .i64 0, .int .i64 0] 49)).drew := Below.drew (balloc (balloc (Below.refl _ _) _) _)
  have S0 : Hid (NO ((w.alloc (.cells #[.int .i64 x.id, .int .i64 x.tags, .slice xa xn xc] 36)).alloc (.cells #[.int .i64 0, .int .i64 0] 49)).drew w.heap.size (w.heap.size + 1) x xa xn xc) := hide (NO.drew ⟨(Tri.new w _ _ _ _).alloc _, Any2.new (w.alloc _) _ _ _ _ (by simp)⟩)
  clear rx rq hx hq hl hd
  go_enter Try.func54, Try.ntmps54
  go_wp2_with fail
  refine wp_region_held_drew (S := fun wx => NO wx w.heap.size (w.heap.size + 1) x xa xn xc) (by kernel_rfl) (S0.out) (fun hH0 => ?_)
  refine wpAnyH_take (i := 0) (oi := { dst := some 5, op := _, type := _, pos := _, after := _, guard := _ }) (v := ?_) rfl (by kernel_rfl) (by kernel_rfl) (by kernel_rfl) (fun _ _ _ h => h) (Or.inl ⟨by rfl, ?_⟩) (hH0) ?_
  rotate_left
  · (intro wx hSw; obtain ⟨⟨_, q1, q2, q3, _, _, _⟩, ⟨l2, ⟨u0, p0⟩, ⟨u1, p1⟩, p2, p3⟩⟩ := hSw; go_simp <;> with_reducible rfl)
  simp only [Act.put, List.setIfInBounds_toArray, List.set_cons_zero, List.set_cons_succ]
  refine wpAnyH_take (i := 1) (oi := { dst := some 6, op := _, type := _, pos := _, after := _, guard := _ }) (v := ?_) rfl (by kernel_rfl) (by kernel_rfl) (by kernel_rfl) (fun _ _ _ h => h) (Or.inl ⟨by rfl, ?_⟩) (hH0) ?_
  rotate_left
  · (intro wx hSw; obtain ⟨⟨_, q1, q2, q3, _, _, _⟩, ⟨l2, ⟨u0, p0⟩, ⟨u1, p1⟩, p2, p3⟩⟩ := hSw; go_simp <;> with_reducible rfl)
  simp only [Act.put, List.setIfInBounds_toArray, List.set_cons_zero, List.set_cons_succ]
  refine wpAnyH_take (i := 2) (oi := { dst := some 7, op := _, type := _, pos := _, after := _, guard := _ }) (v := ?_) rfl (by kernel_rfl) (by kernel_rfl) (by kernel_rfl) (fun _ _ _ h => h) (Or.inl ⟨by rfl, ?_⟩) (hH0) ?_
  rotate_left
  · (intro wx hSw; obtain ⟨⟨_, q1, q2, q3, _, _, _⟩, ⟨l2, ⟨u0, p0⟩, ⟨u1, p1⟩, p2, p3⟩⟩ := hSw; go_simp <;> with_reducible rfl)
  simp only [Act.put, List.setIfInBounds_toArray, List.set_cons_zero, List.set_cons_succ]
  refine wpAnyH_take (i := 3) (oi := { dst := some 8, op := _, type := _, pos := _, after := _, guard := _ }) (v := ?_) rfl (by kernel_rfl) (by kernel_rfl) (by kernel_rfl) (fun _ _ _ h => h) (Or.inl ⟨by rfl, ?_⟩) (hH0) ?_
  rotate_left
  · (intro wx hSw; obtain ⟨⟨_, q1, q2, q3, _, _, _⟩, ⟨l2, ⟨u0, p0⟩, ⟨u1, p1⟩, p2, p3⟩⟩ := hSw; go_simp <;> with_reducible rfl)
  simp only [Act.put, List.setIfInBounds_toArray, List.set_cons_zero, List.set_cons_succ]
  refine wpAnyH_take (i := 4) (oi := { dst := some 9, op := _, type := _, pos := _, after := _, guard := _ }) (v := ?_) rfl (by kernel_rfl) (by kernel_rfl) (by kernel_rfl) (fun _ _ _ h => h) (Or.inl ⟨by rfl, ?_⟩) (hH0) ?_
  rotate_left
  · (intro wx hSw; obtain ⟨⟨_, q1, q2, q3, _, _, _⟩, ⟨l2, ⟨u0, p0⟩, ⟨u1, p1⟩, p2, p3⟩⟩ := hSw; go_simp <;> with_reducible rfl)
  simp only [Act.put, List.setIfInBounds_toArray, List.set_cons_zero, List.set_cons_succ]
  refine wpAnyH_ready (rs := [5]) (by kernel_rfl) (by simp) ?_
  refine AllReadyH.cons (o := { dst := some 10, op := _, type := _, pos := _, after := _, guard := _ }) rfl (fun K hK => ?_) AllReadyH.nil
  go_simp
  refine (D.out _ bw).mono ?_
  rintro e w1 ⟨rfl, b1⟩
  dsimp only
  refine hK.out _ _ (NO.below hH0 b1) (fun hH1 => ?_)
  clear hK K
  refine wpAnyH_take (i := 6) (oi := { dst := some 11, op := _, type := _, pos := _, after := _, guard := _ }) (v := ?_) rfl (by kernel_rfl) (by kernel_rfl) (by kernel_rfl) (fun _ _ _ h => h) (Or.inl ⟨by rfl, ?_⟩) (hH1) ?_
  rotate_left
  · (intro wx hSw; obtain ⟨⟨_, q1, q2, q3, _, _, _⟩, ⟨l2, ⟨u0, p0⟩, ⟨u1, p1⟩, p2, p3⟩⟩ := hSw; go_simp <;> with_reducible rfl)
  simp only [Act.put, List.setIfInBounds_toArray, List.set_cons_zero, List.set_cons_succ]
  -- behind it: go_wp2_with fail, then go_meet (a cut) or go_ret; the condition at the end: hH1
  refine wpAnyH_ready (rs := [7]) (by kernel_rfl) (by simp) ?_
  refine AllReadyH.cons (o := { dst := none, op := _, type := _, pos := _, after := _, guard := _ }) rfl (fun K hK => ?_) AllReadyH.nil
  obtain ⟨⟨_, q1, q2, q3, _, _, _⟩, ⟨l2, ⟨u0, p0⟩, ⟨u1, p1⟩, p2, p3⟩⟩ := id hH1
  go_simp
  refine hK.out _ _ (NO.set hH1 (by omega) _ _) (fun hH2 => ?_)
  clear hK K
  refine wpAnyH_done (by kernel_rfl) ?_ _
  have hsz := b1.size
  simp at hsz
  go_wp2_with fail
  refine bodyPost_ret (v := .agg #[.int .i64 x.id, .int .i64 d]) ?_ rfl ⟨rfl, ?_⟩
  · simp [results, Try.results54, go_sem, p0, p1]
  · exact ((bstep bw b1).setCell (by simp) _).setCell (by simp) _
end Go.Proofs.Ytjliecggfncelaa
