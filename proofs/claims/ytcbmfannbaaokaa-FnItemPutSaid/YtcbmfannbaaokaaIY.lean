/- ItemDrop of the program. -/
import Derived.Test.YtcbmfannbaaokaaIX
import Derived.Test.YtcbmfannbaaokaaIY0
namespace Go.Proofs.Ytcbmfannbaaokaa
open Go.RowKit
set_option linter.unusedSimpArgs false
set_option linter.unusedVariables false

theorem Its.congr {w : World} {B C : Nat} {a : Option Addr} {n : Nat} {L M : IL} {g : Nat} {V : Nat → Nat} {sv : Nat → Value} (h : Its w B C a n L g V sv) (e : ∀ i, i < n → L i = M i) : Its w B C a n M g V sv := by
  refine ⟨?_, fun i hi => by rw [← e i hi]; exact h.vec i hi, fun i hi h0 => ?_⟩
  · rcases h.arr with h0 | ⟨h1, h2, h3, ha⟩
    · exact .inl h0
    · exact .inr ⟨h1, h2, h3, ha.congr fun j hj => by unfold icell; rw [e (j / 3) (by omega)]⟩
  · rw [← e i hi] at h0
    obtain ⟨s1, s2⟩ := h.sep i hi h0
    exact ⟨s1, fun j hj hne hj0 => s2 j hj hne (by rw [e j hj]; exact hj0)⟩

def two2 {α : Type} (x y : α) : Nat → α := fun i => if i = 0 then x else y
/-- Two slices of items that a call lays one beside the other. -/
theorem Parts.two {w : World} (a1 a2 : Option Addr) (n1 n2 c1 c2 : Nat) (L1 L2 : IL) (t : TypeId) (h1 : IRow w a1 n1 L1) (h2 : IRow w a2 n2 L2) :
    Parts (w.alloc (.cells #[.slice a1 n1 c1, .slice a2 n2 c2] t)) w.heap.size 2 (two2 a1 a2) (two2 n1 n2) (two2 c1 c2) (two2 L1 L2) := by
  have hb : Below w.heap.size w (w.alloc (.cells #[.slice a1 n1 c1, .slice a2 n2 c2] t)) := balloc (Below.refl _ _) _
  refine ⟨by simp, fun i hi => ?_, fun i hi => ?_⟩
  · rcases (show i = 0 ∨ i = 1 by omega) with rfl | rfl <;> simp [two2, go_sem]
  · rcases (show i = 0 ∨ i = 1 by omega) with rfl | rfl
    · exact h1.below hb
    · exact h2.below hb
theorem cat_two {L : IL} {n p : Nat} (hp : p < n) : catN (two2 p (n - (p + 1))) 2 = n - 1 ∧ ∀ j, j < n - 1 → catL (two2 p (n - (p + 1))) (two2 L (fun j => L (p + 1 + j))) 2 j = sansL L p j := by
  refine ⟨?_, fun j hj => ?_⟩
  · simp only [catN, two2]; simp; omega
  · simp only [catL, catN, two2, sansL]
    by_cases h : j < p
    · simp [h]
    · simp [h]
      congr 1
      omega

set_option maxHeartbeats 800000 in
theorem iItemDrop_no (dim : Int) (a : Option Addr) (n cap : Nat) (L : IL) (id : Int) (w : World) (h : IRow w a n L) (hn : n ≤ 1048576) (hv : ∀ i, i < n → (L i).vec.length ≤ 1048576) (hno : dropB dim n L id = false) :
    Calls Try.prog 15 #[.int .i64 dim, .slice a n cap, .int .i64 id] w fun e w' => TwoG w 0 (fil (neB id) L n) (.bool false) e w' := by
  have K := hide (iItemsOk_any dim a n cap L w h hn hv)
  cases h0 : itemsB dim n L
  · simp only [h0] at K
    clear h hv hno
    go_enter Try.func15, Try.ntmps15
    go_wp2_with fail
    refine K.out.mono ?_
    rintro e w1 ⟨rfl, hb1⟩
    go_wp2_with fail
    go_ret2
    exact twoG_nil rfl (by repeat' first | with_reducible exact Below.refl _ _ | with_reducible assumption | with_reducible refine below_drewN ?_ _ | with_reducible refine balloc ?_ _ | with_reducible refine Below.drew ?_ | with_reducible refine Below.setCell ?_ (by first | (simp; done) | (simp; omega) | omega) _ | with_reducible refine bstep ?_ (by assumption))
  · simp only [h0] at K
    have PL := hide (fun w1 (hb : Below w.heap.size w w1) => placeOf_any a n cap L id w1 (h.below hb) (itemsB_n h0) (itemsB_le h0))
    have HF := hide (fun p hp => (place_find (p := p) (id := id) h0 hp).symm.trans (show (findX n L id).2 = false from by unfold dropB at hno; rw [h0] at hno; simpa using hno))
    clear h hv hno h0
    go_enter Try.func15, Try.ntmps15
    go_wp2_with fail
    refine K.out.mono ?_
    rintro e w1 ⟨rfl, hb1⟩
    go_wp2_with fail
    refine (PL.out _ (by repeat' first | with_reducible exact Below.refl _ _ | with_reducible assumption | with_reducible refine below_drewN ?_ _ | with_reducible refine balloc ?_ _ | with_reducible refine Below.drew ?_ | with_reducible refine Below.setCell ?_ (by first | (simp; done) | (simp; omega) | omega) _ | with_reducible refine bstep ?_ (by assumption))).mono ?_
    rintro e w2 ⟨p, rfl, hp, hb2⟩
    rw [HF.out p hp]
    go_wp2_with fail
    go_ret2
    exact twoG_nil rfl (by repeat' first | with_reducible exact Below.refl _ _ | with_reducible assumption | with_reducible refine below_drewN ?_ _ | with_reducible refine balloc ?_ _ | with_reducible refine Below.drew ?_ | with_reducible refine Below.setCell ?_ (by first | (simp; done) | (simp; omega) | omega) _ | with_reducible refine bstep ?_ (by assumption))

set_option maxHeartbeats 4000000 in
set_option maxRecDepth 4000 in
theorem iItemDrop_yes (dim : Int) (b off n cap : Nat) (L : IL) (id : Int) (w : World) (hcap : n ≤ cap) (hn : n ≤ 1048576) (hv : ∀ i, i < n → (L i).vec.length ≤ 1048576) (hb : b < w.heap.size) (hc : ∀ i, i < n → IAt w b (off + i * 3) (L i)) (hyes : dropB dim n L id = true) :
    Calls Try.prog 15 #[.int .i64 dim, .slice (some ⟨b, off, none⟩) n cap, .int .i64 id] w fun e w' => TwoGs w (cntP (neB id) L n) (fil (neB id) L n) (.bool true) e w' := by
  have h : IRow w (some ⟨b, off, none⟩) n L := ⟨.inr ⟨b, off, rfl, hb, hc⟩⟩
  have K := hide (iItemsOk_any dim _ n cap L w h hn hv)
  unfold dropB at hyes
  simp only [Bool.and_eq_true] at hyes
  simp only [hyes.1] at K
  have PL := hide (fun w1 (hb : Below w.heap.size w w1) => placeOf_any _ n cap L id w1 (h.below hb) (itemsB_n hyes.1) (itemsB_le hyes.1))
  have HF := hide (fun p hp => (place_find (p := p) (id := id) hyes.1 hp).symm.trans hyes.2)
  have HY := hide hyes.1
  have HC := hide hc
  have HV := hide hv
  clear hc hv h hyes
  go_enter Try.func15, Try.ntmps15
  go_wp2_with fail
  refine K.out.mono ?_
  rintro e w1 ⟨rfl, hb1⟩
  go_wp2_with fail
  refine (PL.out _ (by repeat' first | with_reducible exact Below.refl _ _ | with_reducible assumption | with_reducible refine below_drewN ?_ _ | with_reducible refine balloc ?_ _ | with_reducible refine Below.drew ?_ | with_reducible refine Below.setCell ?_ (by first | (simp; done) | (simp; omega) | omega) _ | with_reducible refine bstep ?_ (by assumption))).mono ?_
  rintro e w2 ⟨p, rfl, hp, hb2⟩
  obtain ⟨hpn, hpe⟩ := of_decide_eq_true (HF.out p hp)
  rw [HF.out p hp]
  have bw2 : Below w.heap.size w w2.drew := Below.drew (by repeat' first | with_reducible exact Below.refl _ _ | with_reducible assumption | with_reducible refine below_drewN ?_ _ | with_reducible refine balloc ?_ _ | with_reducible refine Below.drew ?_ | with_reducible refine Below.setCell ?_ (by first | (simp; done) | (simp; omega) | omega) _ | with_reducible refine bstep ?_ (by assumption))
  have s1 := sliceTo b off n cap p (by omega)
  obtain ⟨q, hq⟩ : ∃ q, p + 1 = q := ⟨_, rfl⟩
  have e1 : IntKind.i64.wrap ((p : Int) + 1) = (q : Int) := by rw [wrapIn _ (by omega) (by omega)]; omega
  have e2 : (q : Int) ≤ (n : Int) := by omega
  have e3 : (p : Int) ≤ (cap : Int) := by omega
  obtain ⟨a2, ha2⟩ : ∃ a2, (if cap = q then some (⟨b, off, none⟩ : Addr) else some ⟨b, off + q * 3, none⟩) = a2 := ⟨_, rfl⟩
  have ha3 : some (restAt b off cap q) = a2 := by rw [← ha2]; unfold restAt; split <;> rfl
  have CI := hide (copiedItems_any w2.drew.heap.size 2 2 _ _ _ _ _ (Parts.two (w := w2.drew) (some ⟨b, off, none⟩) a2 p (n - q) cap (cap - q) L (fun j => L (q + j)) 24
    (IRow.to (Nat.lt_of_lt_of_le hb bw2.size) (fun i hi => (HC.out i hi).below hb bw2) (by omega)) (by rw [← ha3]; exact IRow.from (Nat.lt_of_lt_of_le hb bw2.size) (fun i hi => (HC.out i hi).below hb bw2) (by omega) hcap)) (by omega) (by rw [← hq, (cat_two hpn (L := L)).1]; omega)
    (fun i hi j hj => by rcases (show i = 0 ∨ i = 1 by omega) with rfl | rfl; exact HV.out j (by simp [two2] at hj; omega); exact HV.out (q + j) (by simp [two2] at hj; omega)))
  have HBW := hide bw2
  have HPE := hide hpe
  have HP := hide hp
  have HQ := hide hq
  clear hb1 hb2 bw2 hpe hp hq ha3 s1
  go_wp2_with fail
  refine wp_region_held_drew (S := fun wx => True) (by kernel_rfl) (trivial) (fun hH0 => ?_)
  refine wpAnyH_take (i := 0) (oi := { dst := some 22, op := _, type := _, pos := _, after := _, guard := _ }) (v := ?_) rfl (by kernel_rfl) (by kernel_rfl) (by kernel_rfl) (fun _ _ _ h => h) (Or.inl ⟨by rfl, ?_⟩) (hH0) ?_
  rotate_left
  · (intro wx hSw; obtain _ := hSw; go_simp <;> with_reducible rfl)
  simp only [Act.put, List.setIfInBounds_toArray, List.set_cons_zero, List.set_cons_succ]
  refine wpAnyH_take (i := 1) (oi := { dst := some 23, op := _, type := _, pos := _, after := _, guard := _ }) (v := ?_) rfl (by kernel_rfl) (by kernel_rfl) (by kernel_rfl) (fun _ _ _ h => h) (Or.inl ⟨by rfl, ?_⟩) (hH0) ?_
  rotate_left
  · (intro wx hSw; obtain _ := hSw; go_simp <;> with_reducible rfl)
  simp only [Act.put, List.setIfInBounds_toArray, List.set_cons_zero, List.set_cons_succ]
  refine wpAnyH_take (i := 2) (oi := { dst := some 24, op := _, type := _, pos := _, after := _, guard := _ }) (v := ?_) rfl (by kernel_rfl) (by kernel_rfl) (by kernel_rfl) (fun _ _ _ h => h) (Or.inl ⟨by rfl, ?_⟩) (hH0) ?_
  rotate_left
  · (intro wx hSw; obtain _ := hSw; go_simp <;> with_reducible rfl)
  simp only [Act.put, List.setIfInBounds_toArray, List.set_cons_zero, List.set_cons_succ]
  refine wpAnyH_take (i := 3) (oi := { dst := some 25, op := _, type := _, pos := _, after := _, guard := _ }) (v := ?_) rfl (by kernel_rfl) (by kernel_rfl) (by kernel_rfl) (fun _ _ _ h => h) (Or.inl ⟨by rfl, ?_⟩) (hH0) ?_
  rotate_left
  · (intro wx hSw; obtain _ := hSw; go_simp <;> with_reducible rfl)
  simp only [Act.put, List.setIfInBounds_toArray, List.set_cons_zero, List.set_cons_succ]
  refine wpAnyH_take (i := 4) (oi := { dst := some 26, op := _, type := _, pos := _, after := _, guard := _ }) (v := ?_) rfl (by kernel_rfl) (by kernel_rfl) (by kernel_rfl) (fun _ _ _ h => h) (Or.inl ⟨by rfl, ?_⟩) (hH0) ?_
  rotate_left
  · (intro wx hSw; obtain _ := hSw; go_simp <;> with_reducible rfl)
  simp only [Act.put, List.setIfInBounds_toArray, List.set_cons_zero, List.set_cons_succ]
  refine wpAnyH_take (i := 5) (oi := { dst := some 27, op := _, type := _, pos := _, after := _, guard := _ }) (v := ?_) rfl (by kernel_rfl) (by kernel_rfl) (by kernel_rfl) (fun _ _ _ h => h) (Or.inl ⟨by rfl, ?_⟩) (hH0) ?_
  rotate_left
  · (intro wx hSw; obtain _ := hSw; go_simp <;> with_reducible rfl)
  simp only [Act.put, List.setIfInBounds_toArray, List.set_cons_zero, List.set_cons_succ]
  refine wpAnyH_take (i := 6) (oi := { dst := some 28, op := _, type := _, pos := _, after := _, guard := _ }) (v := ?_) rfl (by kernel_rfl) (by kernel_rfl) (by kernel_rfl) (fun _ _ _ h => h) (Or.inl ⟨by rfl, ?_⟩) (hH0) ?_
  rotate_left
  · (intro wx hSw; obtain _ := hSw; go_simp <;> with_reducible rfl)
  simp only [Act.put, List.setIfInBounds_toArray, List.set_cons_zero, List.set_cons_succ]
  refine wpAnyH_ready (rs := [7]) (by kernel_rfl) (by simp) ?_
  refine AllReadyH.cons (o := { dst := some 29, op := _, type := _, pos := _, after := _, guard := _ }) rfl (fun K hK => ?_) AllReadyH.nil
  go_simp
  refine hK.out _ _ (trivial) (fun hH1 => ?_)
  clear hK K
  refine wpAnyH_ready (rs := [8]) (by kernel_rfl) (by simp) ?_
  refine AllReadyH.cons (o := { dst := some 30, op := _, type := _, pos := _, after := _, guard := _ }) rfl (fun K hK => ?_) AllReadyH.nil
  go_simp
  refine (CI.out).mono ?_
  rintro e w3 ⟨v3, rfl, hg3, hb3⟩
  dsimp only
  refine hK.out _ _ (trivial) (fun hH2 => ?_)
  clear hK K
  refine wpAnyH_take (i := 9) (oi := { dst := some 6, op := _, type := _, pos := _, after := _, guard := _ }) (v := ?_) rfl (by kernel_rfl) (by kernel_rfl) (by kernel_rfl) (fun _ _ _ h => h) (Or.inl ⟨by rfl, ?_⟩) (hH2) ?_
  rotate_left
  · (intro wx hSw; obtain _ := hSw; go_simp <;> with_reducible rfl)
  simp only [Act.put, List.setIfInBounds_toArray, List.set_cons_zero, List.set_cons_succ]
  refine wpAnyH_take (i := 10) (oi := { dst := some 7, op := _, type := _, pos := _, after := _, guard := _ }) (v := ?_) rfl (by kernel_rfl) (by kernel_rfl) (by kernel_rfl) (fun _ _ _ h => h) (Or.inl ⟨by rfl, ?_⟩) (hH2) ?_
  rotate_left
  · (intro wx hSw; obtain _ := hSw; go_simp <;> with_reducible rfl)
  simp only [Act.put, List.setIfInBounds_toArray, List.set_cons_zero, List.set_cons_succ]
  refine wpAnyH_done (by kernel_rfl) ?_ _
  -- behind it: go_wp2_with fail, then go_meet (a cut) or go_ret; the condition at the end: hH2
  obtain ⟨g3, c3, V3, sv3, rfl, hgi⟩ := hg3
  have HG3 := hide hgi
  have HB3 := hide hb3
  clear hgi hb3
  go_wp2_with fail
  go_ret2
  have hsan := (sans_fil hpn HPE.out (fun i hi hne e => by
    rcases Nat.lt_or_gt_of_ne hne with hlt | hgt
    · have := HP.out.lo i hlt; omega
    · have := itemsB_rise HY.out hgt hi; have := HPE.out; omega) n (Nat.le_refl _)).2 hpn
  have hcat := cat_two (L := L) hpn
  rw [HQ.out] at hcat
  have hb3 := HB3.out
  have bw2 := HBW.out
  have hgi := HG3.out.low (base' := w.heap.size) (by have := bw2.size; simp at this ⊢; omega)
  rw [hcat.1] at hgi
  have e : ∀ i, i < n - 1 → catL (two2 p (n - q)) (two2 L (fun j => L (q + j))) 2 i = fil (neB id) L n i := fun i hi => by rw [hsan.2 i hi, hcat.2 i hi]
  refine ⟨_, rfl, ⟨g3, c3, V3, sv3, by rw [hsan.1, ← hcat.1]; rfl, ?_⟩, ?_⟩
  · rw [hsan.1]
    exact hgi.congr e
  · exact bstep (balloc bw2 _) hb3

theorem iItemDrop_anyG (dim : Int) (a : Option Addr) (n cap : Nat) (L : IL) (id : Int) (w : World) (h : IRow w a n L) (hcap : n ≤ cap) (hn : n ≤ 1048576) (hv : ∀ i, i < n → (L i).vec.length ≤ 1048576) :
    Calls Try.prog 15 #[.int .i64 dim, .slice a n cap, .int .i64 id] w fun e w' => TwoG w (dropN dim n L id) (fil (neB id) L n) (.bool (dropB dim n L id)) e w' := by
  unfold dropN
  cases e : dropB dim n L id
  · exact iItemDrop_no dim a n cap L id w h hn hv e
  · rw [if_pos rfl]
    rcases h.lies with h0 | ⟨b, off, rfl, lt, hc⟩
    · subst h0
      unfold dropB at e
      rw [findX_miss (fun j hj => absurd hj (by omega))] at e
      simp at e
    · exact (iItemDrop_yes dim b off n cap L id w hcap hn hv lt hc e).mono fun _ _ h => h.g
theorem iItemDrop_any (dim : Int) (a : Option Addr) (n cap : Nat) (L : IL) (id : Int) (w : World) (h : IRow w a n L) (hcap : n ≤ cap) (hn : n ≤ 1048576) (hv : ∀ i, i < n → (L i).vec.length ≤ 1048576) :
    Calls Try.prog 15 #[.int .i64 dim, .slice a n cap, .int .i64 id] w fun e w' => TwoR w (dropN dim n L id) (fil (neB id) L n) (.bool (dropB dim n L id)) e w' :=
  (iItemDrop_anyG dim a n cap L id w h hcap hn hv).mono fun _ _ h => h.two
end Go.Proofs.Ytcbmfannbaaokaa
