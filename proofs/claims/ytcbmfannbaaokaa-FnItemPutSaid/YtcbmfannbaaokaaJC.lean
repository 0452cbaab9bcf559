/- ItemPut of the program. -/
import Derived.Test.YtcbmfannbaaokaaJB
import Derived.Test.YtcbmfannbaaokaaIY0
namespace Go.Proofs.Ytcbmfannbaaokaa
open Go.RowKit
set_option linter.unusedSimpArgs false
set_option linter.unusedVariables false

def tri3 {α : Type} (x y z : α) : Nat → α := fun i => if i = 0 then x else if i = 1 then y else z
/-- An item in a block of its own. -/
theorem IRow.one {w : World} (x : It) (xa : Option Addr) (xn xc : Nat) (t : TypeId) (rx : Row w xa xn x.vec) : IRow (w.alloc (.cells #[.int .i64 x.id, .int .i64 x.tags, .slice xa xn xc] t)) (some ⟨w.heap.size, 0, none⟩) 1 (fun _ => x) := by
  refine ⟨.inr ⟨w.heap.size, 0, rfl, by simp, fun i hi => ?_⟩⟩
  obtain rfl : i = 0 := by omega
  exact ⟨by simp [go_sem], by simp [go_sem], xa, xn, xc, by simp [go_sem], rx.below (balloc (Below.refl _ _) _)⟩
theorem Parts.three {w : World} (a1 a2 a3 : Option Addr) (n1 n2 n3 c1 c2 c3 : Nat) (L1 L2 L3 : IL) (t : TypeId) (h1 : IRow w a1 n1 L1) (h2 : IRow w a2 n2 L2) (h3 : IRow w a3 n3 L3) :
    Parts (w.alloc (.cells #[.slice a1 n1 c1, .slice a2 n2 c2, .slice a3 n3 c3] t)) w.heap.size 3 (tri3 a1 a2 a3) (tri3 n1 n2 n3) (tri3 c1 c2 c3) (tri3 L1 L2 L3) := by
  have hb : Below w.heap.size w (w.alloc (.cells #[.slice a1 n1 c1, .slice a2 n2 c2, .slice a3 n3 c3] t)) := balloc (Below.refl _ _) _
  refine ⟨by simp, fun i hi => ?_, fun i hi => ?_⟩
  · rcases (show i = 0 ∨ i = 1 ∨ i = 2 by omega) with rfl | rfl | rfl <;> simp [tri3, go_sem]
  · rcases (show i = 0 ∨ i = 1 ∨ i = 2 by omega) with rfl | rfl | rfl
    · exact h1.below hb
    · exact h2.below hb
    · exact h3.below hb
theorem cat_put {L : IL} {n p q : Nat} {f : Bool} {x : It} (hp : p ≤ n) (hq : q = if f then p + 1 else p) (hqn : q ≤ n) : catN (tri3 p 1 (n - q)) 3 = (if f then n else n + 1) ∧ ∀ j, j < (if f then n else n + 1) → catL (tri3 p 1 (n - q)) (tri3 L (fun _ => x) (fun j => L (q + j))) 3 j = putI L p f x j := by
  refine ⟨?_, fun j hj => ?_⟩
  · simp only [catN, tri3]; subst hq; cases f <;> simp at * <;> omega
  · simp only [catL, catN, tri3, putI]
    by_cases h : j < p
    · simp [h, show j < p + 1 by omega]
    · by_cases e : j = p
      · subst e; simp
      · subst hq
        cases f
        · simp [h, e, show ¬ j < p + 1 by omega]
          congr 1
          omega
        · simp [h, e, show ¬ j < p + 1 by omega]
          congr 1
          omega

/-- What a put's region reads: the box of the item that is put. -/
def BoxI (w : World) (b : Nat) (x : It) (xa : Option Addr) (xn xc : Nat) : Prop := Tri w b (.int .i64 x.id) (.int .i64 x.tags) (.slice xa xn xc)
theorem BoxI.below {w w' : World} {b : Nat} {x : It} {xa : Option Addr} {xn xc : Nat} (h : BoxI w b x xa xn xc) (hb : Below w.heap.size w w') : BoxI w' b x xa xn xc := Tri.below h hb

set_option maxHeartbeats 800000 in
theorem iItemPut_no (dim : Int) (a : Option Addr) (n cap : Nat) (L : IL) (x : It) (xa : Option Addr) (xn xc : Nat) (w : World) (h : IRow w a n L) (hn : n ≤ 1048576) (hv : ∀ i, i < n → (L i).vec.length ≤ 1048576) (rx : Row w xa xn x.vec) (hxn : xn ≤ 1048576) (hno : putOk dim n L x = false) (N : IL) :
    Calls Try.prog 7 #[.int .i64 dim, .slice a n cap, .agg #[.int .i64 x.id, .int .i64 x.tags, .slice xa xn xc]] w fun e w' => TwoR w 0 N (.int .i64 1) e w' := by
  have K := hide (fun w1 (hb : Below w.heap.size w w1) => iItemsOk_any dim a n cap L w1 (h.below hb) hn hv)
  have J := hide (fun w1 (hb : Below w.heap.size w w1) => fits_any dim x xa xn xc w1 (rx.below hb) hxn)
  have hno' : itemsB dim n L = false ∨ (itemsB dim n L = true ∧ itemB dim x = false) := by
    unfold putOk at hno
    cases e : itemsB dim n L
    · exact .inl rfl
    · rw [e] at hno; exact .inr ⟨rfl, by simpa using hno⟩
  clear h hv hno rx
  rcases hno' with h0 | ⟨h0, h1⟩
  · simp only [h0] at K
    go_enter Try.func7, Try.ntmps7
    go_wp2_with fail
    refine (K.out _ (by repeat' first | with_reducible exact Below.refl _ _ | with_reducible assumption | with_reducible refine below_drewN ?_ _ | with_reducible refine balloc ?_ _ | with_reducible refine Below.drew ?_ | with_reducible refine Below.setCell ?_ (by first | (simp; done) | (simp; omega) | omega) _ | with_reducible refine bstep ?_ (by assumption))).mono ?_
    rintro e w1 ⟨rfl, hb1⟩
    go_wp2_with fail
    go_ret2
    exact twoR_nil rfl (by repeat' first | with_reducible exact Below.refl _ _ | with_reducible assumption | with_reducible refine below_drewN ?_ _ | with_reducible refine balloc ?_ _ | with_reducible refine Below.drew ?_ | with_reducible refine Below.setCell ?_ (by first | (simp; done) | (simp; omega) | omega) _ | with_reducible refine bstep ?_ (by assumption))
  · simp only [h0] at K
    simp only [h1] at J
    go_enter Try.func7, Try.ntmps7
    go_wp2_with fail
    refine (K.out _ (by repeat' first | with_reducible exact Below.refl _ _ | with_reducible assumption | with_reducible refine below_drewN ?_ _ | with_reducible refine balloc ?_ _ | with_reducible refine Below.drew ?_ | with_reducible refine Below.setCell ?_ (by first | (simp; done) | (simp; omega) | omega) _ | with_reducible refine bstep ?_ (by assumption))).mono ?_
    rintro e w1 ⟨rfl, hb1⟩
    obtain ⟨_, q1, q2, q3, _⟩ := (Tri.new w (.int .i64 x.id) (.int .i64 x.tags) (.slice xa xn xc) 27).below hb1
    go_wp2_with fail
    refine (J.out _ (by repeat' first | with_reducible exact Below.refl _ _ | with_reducible assumption | with_reducible refine below_drewN ?_ _ | with_reducible refine balloc ?_ _ | with_reducible refine Below.drew ?_ | with_reducible refine Below.setCell ?_ (by first | (simp; done) | (simp; omega) | omega) _ | with_reducible refine bstep ?_ (by assumption))).mono ?_
    rintro e w2 ⟨rfl, hb2⟩
    go_wp2_with fail
    go_ret2
    exact twoR_nil rfl (by repeat' first | with_reducible exact Below.refl _ _ | with_reducible assumption | with_reducible refine below_drewN ?_ _ | with_reducible refine balloc ?_ _ | with_reducible refine Below.drew ?_ | with_reducible refine Below.setCell ?_ (by first | (simp; done) | (simp; omega) | omega) _ | with_reducible refine bstep ?_ (by assumption))

/-- What a put leaves, out of what was copied. -/
theorem putEnd {w w5 : World} {base g c : Nat} {pn : Nat → Nat} {PL : Nat → IL} {V : Nat → Nat} {sv : Nat → Value} {m : Nat} {N : IL} {u : Value} {e : Ending} (hg : GI w5 base g c (catN pn 3) (catL pn PL 3) V sv) (hB : w.heap.size ≤ base) (hcat : catN pn 3 = m ∧ ∀ j, j < m → catL pn PL 3 j = N j)
    (he : e = .returned (.tuple #[.slice (some ⟨g, 0, none⟩) (catN pn 3) c, u])) (hb : Below w.heap.size w w5) : TwoR w m N u e w5 := by
  obtain ⟨h1, h2⟩ := hcat
  rw [h1] at hg he
  exact ⟨_, c, g, V, sv, he, (hg.congr h2).its.mono hB (Nat.le_refl _), hb⟩

set_option maxHeartbeats 16000000 in
set_option maxRecDepth 8000 in
theorem iItemPut_yes (dim : Int) (b off n cap : Nat) (L : IL) (x : It) (xa : Option Addr) (xn xc : Nat) (w : World) (hcap : n ≤ cap) (hn : n ≤ 60) (hv : ∀ i, i < n → (L i).vec.length ≤ 1048576) (hb : b < w.heap.size) (hc : ∀ i, i < n → IAt w b (off + i * 3) (L i)) (rx : Row w xa xn x.vec) (hxn : xn ≤ 1048576)
    (h0 : itemsB dim n L = true) (h1 : itemB dim x = true) (p : Nat) (f : Bool) (hp : IsPlace n L x.id p) (hf : f = decide (p < n ∧ (L p).id = x.id)) :
    Calls Try.prog 7 #[.int .i64 dim, .slice (some ⟨b, off, none⟩) n cap, .agg #[.int .i64 x.id, .int .i64 x.tags, .slice xa xn xc]] w fun e w' => TwoR w (if (if f then n else n + 1) ≤ 60 then (if f then n else n + 1) else 0) (putI L p f x) (.int .i64 (if (if f then n else n + 1) ≤ 60 then 0 else 2)) e w' := by
  have h : IRow w (some ⟨b, off, none⟩) n L := ⟨.inr ⟨b, off, rfl, hb, hc⟩⟩
  have K := hide (fun w1 (hb : Below w.heap.size w w1) => iItemsOk_any dim _ n cap L w1 (h.below hb) (by omega) hv)
  have J := hide (fun w1 (hb : Below w.heap.size w w1) => fits_any dim x xa xn xc w1 (rx.below hb) hxn)
  have PL := hide (fun w1 (hb : Below w.heap.size w w1) => placeOf_any _ n cap L x.id w1 (h.below hb) hn (itemsB_le h0))
  have HU := hide (fun p' (hp' : IsPlace n L x.id p') => hp'.uniq hp)
  have hpn := hp.le
  have HF := hide hf
  simp only [h0] at K
  simp only [h1] at J
  have HC := hide hc
  have HV := hide hv
  have hxl : x.vec.length ≤ 1048576 := by rw [rx.len]; exact hxn
  have HRX := hide rx
  clear hc hv h h0 h1 rx hp hf
  go_enter Try.func7, Try.ntmps7
  go_wp2_with fail
  refine (K.out _ (by repeat' first | with_reducible exact Below.refl _ _ | with_reducible assumption | with_reducible refine below_drewN ?_ _ | with_reducible refine balloc ?_ _ | with_reducible refine Below.drew ?_ | with_reducible refine Below.setCell ?_ (by first | (simp; done) | (simp; omega) | omega) _ | with_reducible refine bstep ?_ (by assumption))).mono ?_
  rintro e w1 ⟨rfl, hb1⟩
  have T1 := (Tri.new w (.int .i64 x.id) (.int .i64 x.tags) (.slice xa xn xc) 27).below hb1
  have HT1 := hide T1
  obtain ⟨_, q1, q2, q3, _⟩ := T1
  go_wp2_with fail
  refine (J.out _ (by repeat' first | with_reducible exact Below.refl _ _ | with_reducible assumption | with_reducible refine below_drewN ?_ _ | with_reducible refine balloc ?_ _ | with_reducible refine Below.drew ?_ | with_reducible refine Below.setCell ?_ (by first | (simp; done) | (simp; omega) | omega) _ | with_reducible refine bstep ?_ (by assumption))).mono ?_
  rintro e w2 ⟨rfl, hb2⟩
  clear q1 q2 q3
  have HT2 := hide (HT1.out.below hb2)
  obtain ⟨_, q1, q2, q3, _⟩ := HT2.out
  go_wp2_with fail
  refine (PL.out _ (by repeat' first | with_reducible exact Below.refl _ _ | with_reducible assumption | with_reducible refine below_drewN ?_ _ | with_reducible refine balloc ?_ _ | with_reducible refine Below.drew ?_ | with_reducible refine Below.setCell ?_ (by first | (simp; done) | (simp; omega) | omega) _ | with_reducible refine bstep ?_ (by assumption))).mono ?_
  rintro e w3 ⟨p', rfl, hp', hb3⟩
  obtain rfl := HU.out p' hp'
  rw [← HF.out]
  have bw3 : Below w.heap.size w w3.drew := Below.drew (by repeat' first | with_reducible exact Below.refl _ _ | with_reducible assumption | with_reducible refine below_drewN ?_ _ | with_reducible refine balloc ?_ _ | with_reducible refine Below.drew ?_ | with_reducible refine Below.setCell ?_ (by first | (simp; done) | (simp; omega) | omega) _ | with_reducible refine bstep ?_ (by assumption))
  have HT3 : Hid (BoxI w3.drew w.heap.size x xa xn xc) := hide ((HT2.out.below hb3).drew)
  have bw3' : Below w.heap.size w w3 := (by repeat' first | with_reducible exact Below.refl _ _ | with_reducible assumption | with_reducible refine below_drewN ?_ _ | with_reducible refine balloc ?_ _ | with_reducible refine Below.drew ?_ | with_reducible refine Below.setCell ?_ (by first | (simp; done) | (simp; omega) | omega) _ | with_reducible refine bstep ?_ (by assumption))
  have HBW3 := hide bw3'
  clear q1 q2 q3 hb1 hb2 hb3 hp' bw3' K J PL
  have HD := hide HF.out.symm
  obtain ⟨q, hq⟩ : ∃ q, q = (if f then p' + 1 else p') := ⟨_, rfl⟩
  have hqn : q ≤ n := by
    cases f
    · simp at hq; omega
    · have := (of_decide_eq_true HD.out).1; simp at hq; omega
  have e2 : (q : Int) ≤ (n : Int) := by omega
  have e3 : (p' : Int) ≤ (cap : Int) := by omega
  obtain ⟨a2, ha2⟩ : ∃ a2, (if cap = q then some (⟨b, off, none⟩ : Addr) else some ⟨b, off + q * 3, none⟩) = a2 := ⟨_, rfl⟩
  have ha3 : some (restAt b off cap q) = a2 := by rw [← ha2]; unfold restAt; split <;> rfl
  have bw4 : Below w.heap.size w (w3.drew.alloc (.cells #[.int .i64 x.id, .int .i64 x.tags, .slice xa xn xc] 27)) := balloc bw3 _
  have hcat := cat_put (L := L) (x := x) hpn hq hqn
  have hpb : (w3.drew.alloc (.cells #[.int .i64 x.id, .int .i64 x.tags, .slice xa xn xc] 27)).heap.size = w3.heap.size + 1 := by simp
  have PT := Parts.three (w := w3.drew.alloc (.cells #[.int .i64 x.id, .int .i64 x.tags, .slice xa xn xc] 27)) (some ⟨b, off, none⟩) (some ⟨w3.heap.size, 0, none⟩) a2 p' 1 (n - q) cap 1 (cap - q) L (fun _ => x) (fun j => L (q + j)) 24
    (IRow.to (Nat.lt_of_lt_of_le hb bw4.size) (fun i hi => (HC.out i hi).below hb bw4) (by omega)) (IRow.one x xa xn xc 27 (HRX.out.below bw3)) (by rw [← ha3]; exact IRow.from (Nat.lt_of_lt_of_le hb bw4.size) (fun i hi => (HC.out i hi).below hb bw4) (by omega) hcap)
  rw [hpb] at PT
  have CI := hide (copiedItems_any (w3.heap.size + 1) 3 3 _ _ _ _ _ PT (by omega) (by rw [hcat.1]; split <;> omega)
    (fun i hi j hj => by rcases (show i = 0 ∨ i = 1 ∨ i = 2 by omega) with rfl | rfl | rfl; exact HV.out j (by simp [tri3] at hj; omega); exact hxl; exact HV.out (q + j) (by simp [tri3] at hj; omega)))
  have HCAT := hide hcat
  have HBW := hide bw4
  have HQ := hide hq
  clear hcat bw4 bw3 ha3 PT hpb
  have HB5W := hide (fun (w5 : World) (hb5 : Below ((w3.drew.alloc (.cells #[.int .i64 x.id, .int .i64 x.tags, .slice xa xn xc] 27)).alloc (.cells #[.slice (some ⟨b, off, none⟩) p' cap, .slice (some ⟨w3.heap.size, 0, none⟩) 1 1, .slice a2 (n - q) (cap - q)] 24)).heap.size ((w3.drew.alloc (.cells #[.int .i64 x.id, .int .i64 x.tags, .slice xa xn xc] 27)).alloc (.cells #[.slice (some ⟨b, off, none⟩) p' cap, .slice (some ⟨w3.heap.size, 0, none⟩) 1 1, .slice a2 (n - q) (cap - q)] 24)) w5) => bstep (balloc HBW.out _) hb5)
  have hszw := HBW3.out.size
  cases f
  · simp only [Bool.false_eq_true, if_false] at hq HCAT
    by_cases h60 : n = 60
    · have hB3 := hide HBW3.out
      clear CI HCAT
      go_wp2_with fail
      all_goals (go_ret2; exact twoR_nil rfl HBW3.out)
    · rw [hq] at CI HCAT e2 ha2 HB5W
      have hlt60 : n < 60 := by omega
      clear hq h60
      obtain ⟨_, q1, q2, q3, _⟩ := HT3.out
      go_wp2_with fail
      refine wp_region_held_drew (S := fun wx => BoxI wx w.heap.size x xa xn xc) (by kernel_rfl) (HT3.out) (fun hH0 => ?_)
      refine wpAnyH_take (i := 0) (oi := { dst := some 42, op := _, type := _, pos := _, after := _, guard := _ }) (v := ?_) rfl (by kernel_rfl) (by kernel_rfl) (by kernel_rfl) (fun _ _ _ h => h) (Or.inl ⟨by rfl, ?_⟩) (hH0) ?_
      rotate_left
      · (intro wx hSw; obtain ⟨_, q1, q2, q3, _, _, _⟩ := hSw; go_simp <;> with_reducible rfl)
      simp only [Act.put, List.setIfInBounds_toArray, List.set_cons_zero, List.set_cons_succ]
      refine wpAnyH_take (i := 1) (oi := { dst := some 43, op := _, type := _, pos := _, after := _, guard := _ }) (v := ?_) rfl (by kernel_rfl) (by kernel_rfl) (by kernel_rfl) (fun _ _ _ h => h) (Or.inl ⟨by rfl, ?_⟩) (hH0) ?_
      rotate_left
      · (intro wx hSw; obtain ⟨_, q1, q2, q3, _, _, _⟩ := hSw; go_simp <;> with_reducible rfl)
      simp only [Act.put, List.setIfInBounds_toArray, List.set_cons_zero, List.set_cons_succ]
      refine wpAnyH_take (i := 2) (oi := { dst := some 44, op := _, type := _, pos := _, after := _, guard := _ }) (v := ?_) rfl (by kernel_rfl) (by kernel_rfl) (by kernel_rfl) (fun _ _ _ h => h) (Or.inl ⟨by rfl, ?_⟩) (hH0) ?_
      rotate_left
      · (intro wx hSw; obtain ⟨_, q1, q2, q3, _, _, _⟩ := hSw; go_simp <;> with_reducible rfl)
      simp only [Act.put, List.setIfInBounds_toArray, List.set_cons_zero, List.set_cons_succ]
      refine wpAnyH_take (i := 3) (oi := { dst := some 45, op := _, type := _, pos := _, after := _, guard := _ }) (v := ?_) rfl (by kernel_rfl) (by kernel_rfl) (by kernel_rfl) (fun _ _ _ h => h) (Or.inl ⟨by rfl, ?_⟩) (hH0) ?_
      rotate_left
      · (intro wx hSw; obtain ⟨_, q1, q2, q3, _, _, _⟩ := hSw; go_simp <;> with_reducible rfl)
      simp only [Act.put, List.setIfInBounds_toArray, List.set_cons_zero, List.set_cons_succ]
      refine wpAnyH_take (i := 5) (oi := { dst := some 47, op := _, type := _, pos := _, after := _, guard := _ }) (v := ?_) rfl (by kernel_rfl) (by kernel_rfl) (by kernel_rfl) (fun _ _ _ h => h) (Or.inl ⟨by rfl, ?_⟩) (hH0) ?_
      rotate_left
      · (intro wx hSw; obtain ⟨_, q1, q2, q3, _, _, _⟩ := hSw; go_simp <;> with_reducible rfl)
      simp only [Act.put, List.setIfInBounds_toArray, List.set_cons_zero, List.set_cons_succ]
      refine wpAnyH_take (i := 6) (oi := { dst := some 48, op := _, type := _, pos := _, after := _, guard := _ }) (v := ?_) rfl (by kernel_rfl) (by kernel_rfl) (by kernel_rfl) (fun _ _ _ h => h) (Or.inl ⟨by rfl, ?_⟩) (hH0) ?_
      rotate_left
      · (intro wx hSw; obtain ⟨_, q1, q2, q3, _, _, _⟩ := hSw; go_simp <;> with_reducible rfl)
      simp only [Act.put, List.setIfInBounds_toArray, List.set_cons_zero, List.set_cons_succ]
      refine wpAnyH_take (i := 7) (oi := { dst := some 49, op := _, type := _, pos := _, after := _, guard := _ }) (v := ?_) rfl (by kernel_rfl) (by kernel_rfl) (by kernel_rfl) (fun _ _ _ h => h) (Or.inl ⟨by rfl, ?_⟩) (hH0) ?_
      rotate_left
      · (intro wx hSw; obtain ⟨_, q1, q2, q3, _, _, _⟩ := hSw; go_simp <;> with_reducible rfl)
      simp only [Act.put, List.setIfInBounds_toArray, List.set_cons_zero, List.set_cons_succ]
      refine wpAnyH_ready (rs := [4]) (by kernel_rfl) (by simp) ?_
      refine AllReadyH.cons (o := { dst := some 46, op := _, type := _, pos := _, after := _, guard := _ }) rfl (fun K hK => ?_) AllReadyH.nil
      go_simp
      refine hK.out _ _ (BoxI.below hH0 (balloc (Below.refl _ _) _)) (fun hH1 => ?_)
      clear hK K
      refine wpAnyH_ready (rs := [8]) (by kernel_rfl) (by simp) ?_
      refine AllReadyH.cons (o := { dst := some 50, op := _, type := _, pos := _, after := _, guard := _ }) rfl (fun K hK => ?_) AllReadyH.nil
      go_simp
      refine hK.out _ _ (BoxI.below hH1 (balloc (Below.refl _ _) _)) (fun hH2 => ?_)
      clear hK K
      refine wpAnyH_ready (rs := [9]) (by kernel_rfl) (by simp) ?_
      refine AllReadyH.cons (o := { dst := some 51, op := _, type := _, pos := _, after := _, guard := _ }) rfl (fun K hK => ?_) AllReadyH.nil
      go_simp
      refine (CI.out).mono ?_
      rintro e w5 ⟨v5, rfl, hg5, hb5⟩
      dsimp only
      refine hK.out _ _ (BoxI.below hH2 hb5) (fun hH3 => ?_)
      clear hK K
      refine wpAnyH_take (i := 10) (oi := { dst := some 6, op := _, type := _, pos := _, after := _, guard := _ }) (v := ?_) rfl (by kernel_rfl) (by kernel_rfl) (by kernel_rfl) (fun _ _ _ h => h) (Or.inl ⟨by rfl, ?_⟩) (hH3) ?_
      rotate_left
      · (intro wx hSw; obtain ⟨_, q1, q2, q3, _, _, _⟩ := hSw; go_simp <;> with_reducible rfl)
      simp only [Act.put, List.setIfInBounds_toArray, List.set_cons_zero, List.set_cons_succ]
      refine wpAnyH_take (i := 11) (oi := { dst := some 7, op := _, type := _, pos := _, after := _, guard := _ }) (v := ?_) rfl (by kernel_rfl) (by kernel_rfl) (by kernel_rfl) (fun _ _ _ h => h) (Or.inl ⟨by rfl, ?_⟩) (hH3) ?_
      rotate_left
      · (intro wx hSw; obtain ⟨_, q1, q2, q3, _, _, _⟩ := hSw; go_simp <;> with_reducible rfl)
      simp only [Act.put, List.setIfInBounds_toArray, List.set_cons_zero, List.set_cons_succ]
      refine wpAnyH_done (by kernel_rfl) ?_ _
      -- behind it: go_wp2_with fail, then go_meet (a cut) or go_ret; the condition at the end: hH3
      obtain ⟨g5, c5, V5, sv5, rfl, hgi⟩ := hg5
      have HG5 := hide hgi
      have HB5 := hide (HB5W.out _ hb5)
      clear hgi hb5 HB5W
      go_wp2_with fail
      go_ret2
      (try simp only [Bool.false_eq_true, if_false])
      (try rw [if_pos (show n + 1 ≤ 60 by omega), if_pos (show n + 1 ≤ 60 by omega)])
      exact putEnd HG5.out (by simp; omega) HCAT.out rfl HB5.out
  · simp only [if_true] at hq HCAT
    have e1 : IntKind.i64.wrap ((p' : Int) + 1) = (q : Int) := by rw [wrapIn _ (by omega) (by omega)]; omega
    clear hq
    obtain ⟨_, q1, q2, q3, _⟩ := HT3.out
    go_wp2_with fail
    refine wp_region_held_drew (S := fun wx => BoxI wx w.heap.size x xa xn xc) (by kernel_rfl) (HT3.out) (fun hH0 => ?_)
    refine wpAnyH_take (i := 0) (oi := { dst := some 28, op := _, type := _, pos := _, after := _, guard := _ }) (v := ?_) rfl (by kernel_rfl) (by kernel_rfl) (by kernel_rfl) (fun _ _ _ h => h) (Or.inl ⟨by rfl, ?_⟩) (hH0) ?_
    rotate_left
    · (intro wx hSw; obtain ⟨_, q1, q2, q3, _, _, _⟩ := hSw; go_simp <;> with_reducible rfl)
    simp only [Act.put, List.setIfInBounds_toArray, List.set_cons_zero, List.set_cons_succ]
    refine wpAnyH_take (i := 1) (oi := { dst := some 29, op := _, type := _, pos := _, after := _, guard := _ }) (v := ?_) rfl (by kernel_rfl) (by kernel_rfl) (by kernel_rfl) (fun _ _ _ h => h) (Or.inl ⟨by rfl, ?_⟩) (hH0) ?_
    rotate_left
    · (intro wx hSw; obtain ⟨_, q1, q2, q3, _, _, _⟩ := hSw; go_simp <;> with_reducible rfl)
    simp only [Act.put, List.setIfInBounds_toArray, List.set_cons_zero, List.set_cons_succ]
    refine wpAnyH_take (i := 2) (oi := { dst := some 30, op := _, type := _, pos := _, after := _, guard := _ }) (v := ?_) rfl (by kernel_rfl) (by kernel_rfl) (by kernel_rfl) (fun _ _ _ h => h) (Or.inl ⟨by rfl, ?_⟩) (hH0) ?_
    rotate_left
    · (intro wx hSw; obtain ⟨_, q1, q2, q3, _, _, _⟩ := hSw; go_simp <;> with_reducible rfl)
    simp only [Act.put, List.setIfInBounds_toArray, List.set_cons_zero, List.set_cons_succ]
    refine wpAnyH_take (i := 3) (oi := { dst := some 31, op := _, type := _, pos := _, after := _, guard := _ }) (v := ?_) rfl (by kernel_rfl) (by kernel_rfl) (by kernel_rfl) (fun _ _ _ h => h) (Or.inl ⟨by rfl, ?_⟩) (hH0) ?_
    rotate_left
    · (intro wx hSw; obtain ⟨_, q1, q2, q3, _, _, _⟩ := hSw; go_simp <;> with_reducible rfl)
    simp only [Act.put, List.setIfInBounds_toArray, List.set_cons_zero, List.set_cons_succ]
    refine wpAnyH_take (i := 5) (oi := { dst := some 33, op := _, type := _, pos := _, after := _, guard := _ }) (v := ?_) rfl (by kernel_rfl) (by kernel_rfl) (by kernel_rfl) (fun _ _ _ h => h) (Or.inl ⟨by rfl, ?_⟩) (hH0) ?_
    rotate_left
    · (intro wx hSw; obtain ⟨_, q1, q2, q3, _, _, _⟩ := hSw; go_simp <;> with_reducible rfl)
    simp only [Act.put, List.setIfInBounds_toArray, List.set_cons_zero, List.set_cons_succ]
    refine wpAnyH_take (i := 6) (oi := { dst := some 34, op := _, type := _, pos := _, after := _, guard := _ }) (v := ?_) rfl (by kernel_rfl) (by kernel_rfl) (by kernel_rfl) (fun _ _ _ h => h) (Or.inl ⟨by rfl, ?_⟩) (hH0) ?_
    rotate_left
    · (intro wx hSw; obtain ⟨_, q1, q2, q3, _, _, _⟩ := hSw; go_simp <;> with_reducible rfl)
    simp only [Act.put, List.setIfInBounds_toArray, List.set_cons_zero, List.set_cons_succ]
    refine wpAnyH_take (i := 7) (oi := { dst := some 35, op := _, type := _, pos := _, after := _, guard := _ }) (v := ?_) rfl (by kernel_rfl) (by kernel_rfl) (by kernel_rfl) (fun _ _ _ h => h) (Or.inl ⟨by rfl, ?_⟩) (hH0) ?_
    rotate_left
    · (intro wx hSw; obtain ⟨_, q1, q2, q3, _, _, _⟩ := hSw; go_simp <;> with_reducible rfl)
    simp only [Act.put, List.setIfInBounds_toArray, List.set_cons_zero, List.set_cons_succ]
    refine wpAnyH_take (i := 8) (oi := { dst := some 36, op := _, type := _, pos := _, after := _, guard := _ }) (v := ?_) rfl (by kernel_rfl) (by kernel_rfl) (by kernel_rfl) (fun _ _ _ h => h) (Or.inl ⟨by rfl, ?_⟩) (hH0) ?_
    rotate_left
    · (intro wx hSw; obtain ⟨_, q1, q2, q3, _, _, _⟩ := hSw; go_simp <;> with_reducible rfl)
    simp only [Act.put, List.setIfInBounds_toArray, List.set_cons_zero, List.set_cons_succ]
    refine wpAnyH_ready (rs := [4]) (by kernel_rfl) (by simp) ?_
    refine AllReadyH.cons (o := { dst := some 32, op := _, type := _, pos := _, after := _, guard := _ }) rfl (fun K hK => ?_) AllReadyH.nil
    go_simp
    refine hK.out _ _ (BoxI.below hH0 (balloc (Below.refl _ _) _)) (fun hH1 => ?_)
    clear hK K
    refine wpAnyH_ready (rs := [9]) (by kernel_rfl) (by simp) ?_
    refine AllReadyH.cons (o := { dst := some 37, op := _, type := _, pos := _, after := _, guard := _ }) rfl (fun K hK => ?_) AllReadyH.nil
    go_simp
    refine hK.out _ _ (BoxI.below hH1 (balloc (Below.refl _ _) _)) (fun hH2 => ?_)
    clear hK K
    refine wpAnyH_ready (rs := [10]) (by kernel_rfl) (by simp) ?_
    refine AllReadyH.cons (o := { dst := some 38, op := _, type := _, pos := _, after := _, guard := _ }) rfl (fun K hK => ?_) AllReadyH.nil
    go_simp
    refine (CI.out).mono ?_
    rintro e w5 ⟨v5, rfl, hg5, hb5⟩
    dsimp only
    refine hK.out _ _ (BoxI.below hH2 hb5) (fun hH3 => ?_)
    clear hK K
    refine wpAnyH_take (i := 11) (oi := { dst := some 6, op := _, type := _, pos := _, after := _, guard := _ }) (v := ?_) rfl (by kernel_rfl) (by kernel_rfl) (by kernel_rfl) (fun _ _ _ h => h) (Or.inl ⟨by rfl, ?_⟩) (hH3) ?_
    rotate_left
    · (intro wx hSw; obtain ⟨_, q1, q2, q3, _, _, _⟩ := hSw; go_simp <;> with_reducible rfl)
    simp only [Act.put, List.setIfInBounds_toArray, List.set_cons_zero, List.set_cons_succ]
    refine wpAnyH_take (i := 12) (oi := { dst := some 7, op := _, type := _, pos := _, after := _, guard := _ }) (v := ?_) rfl (by kernel_rfl) (by kernel_rfl) (by kernel_rfl) (fun _ _ _ h => h) (Or.inl ⟨by rfl, ?_⟩) (hH3) ?_
    rotate_left
    · (intro wx hSw; obtain ⟨_, q1, q2, q3, _, _, _⟩ := hSw; go_simp <;> with_reducible rfl)
    simp only [Act.put, List.setIfInBounds_toArray, List.set_cons_zero, List.set_cons_succ]
    refine wpAnyH_done (by kernel_rfl) ?_ _
    -- behind it: go_wp2_with fail, then go_meet (a cut) or go_ret; the condition at the end: hH3
    obtain ⟨g5, c5, V5, sv5, rfl, hgi⟩ := hg5
    have HG5 := hide hgi
    have HB5 := hide (HB5W.out _ hb5)
    clear hgi hb5 HB5W
    go_wp2_with fail
    go_ret2
    (try simp only [if_true])
    (try rw [if_pos hn, if_pos hn])
    exact putEnd HG5.out (by simp; omega) HCAT.out rfl HB5.out

theorem iItemPut_any (dim : Int) (g n cap : Nat) (L : IL) (x : It) (xa : Option Addr) (xn xc : Nat) (w : World) (hg : g < w.heap.size) (hc : ∀ i, i < n → IAt w g (0 + i * 3) (L i)) (hcap : n ≤ cap) (hn : n ≤ 1048576) (hv : ∀ i, i < n → (L i).vec.length ≤ 1048576) (rx : Row w xa xn x.vec) (hxn : xn ≤ 1048576) :
    Calls Try.prog 7 #[.int .i64 dim, .slice (some ⟨g, 0, none⟩) n cap, .agg #[.int .i64 x.id, .int .i64 x.tags, .slice xa xn xc]] w fun e w' => PutR w dim n L x e w' := by
  unfold PutR putT putC
  cases hok : putOk dim n L x
  · exact iItemPut_no dim _ n cap L x xa xn xc w ⟨.inr ⟨g, 0, rfl, hg, hc⟩⟩ hn hv rx hxn hok _
  · have hok' := hok
    unfold putOk at hok'
    simp only [Bool.and_eq_true] at hok'
    have hp := plc_is (id := x.id) (itemsB_le hok'.1)
    exact iItemPut_yes dim g 0 n cap L x xa xn xc w hcap (itemsB_n hok'.1) hv hg hc rx hxn hok'.1 hok'.2 (plc L x.id n) (isAt n L x.id) hp rfl
end Go.Proofs.Ytcbmfannbaaokaa
