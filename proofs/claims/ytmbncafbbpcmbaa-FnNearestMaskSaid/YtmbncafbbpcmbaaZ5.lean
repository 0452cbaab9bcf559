/- ItemPut, plain: the place of an id among items that rise; what there is behind a put. -/
import Derived.Test.YtmbncafbbpcmbaaZ4
import Derived.Test.YtmbncafbbpcmbaaZ3
import Derived.Test.YtmbncafbbpcmbaaZ2
import Derived.Deep.RegionHeld3
import Derived.Deep.Slices
namespace Go.Proofs.Ytmbncafbbpcmbaa
open Go.RowKit
set_option maxRecDepth 8000
set_option linter.unusedSimpArgs false
set_option linter.unusedVariables false

/-- How many of the first k stand ahead of an id, where they rise. -/
def plc (L : IL) (id : Int) : Nat → Nat
  | 0 => 0
  | k + 1 => if (L k).id < id then k + 1 else plc L id k
theorem plc_is {L : IL} {id : Int} {n : Nat} (hr : ∀ i j, i ≤ j → j < n → (L i).id ≤ (L j).id) : IsPlace n L id (plc L id n) := by
  induction n with
  | zero => exact ⟨Nat.le_refl _, fun i hi => absurd hi (by simp [plc]), fun i _ hi => absurd hi (by omega)⟩
  | succ n ih =>
    obtain ⟨h1, h2, h3⟩ := ih fun i j h1 h2 => hr i j h1 (by omega)
    unfold plc
    by_cases h : (L n).id < id
    · rw [if_pos h]
      exact ⟨Nat.le_refl _, fun i hi => by have := hr i n (by omega) (by omega); omega, fun i h1 h2 => absurd h2 (by omega)⟩
    · rw [if_neg h]
      refine ⟨by omega, h2, fun i hi hin => ?_⟩
      by_cases e : i = n
      · subst e; omega
      · exact h3 i hi (by omega)
theorem IsPlace.uniq {n : Nat} {L : IL} {id : Int} {p q : Nat} (hp : IsPlace n L id p) (hq : IsPlace n L id q) : p = q := by
  rcases Nat.lt_trichotomy p q with h | h | h
  · have h1 := hp.hi p (Nat.le_refl _) (by have := hq.le; omega)
    have h2 := hq.lo p h
    omega
  · exact h
  · have h1 := hq.hi q (Nat.le_refl _) (by have := hp.le; omega)
    have h2 := hp.lo q h
    omega

/-- Whether an item of that id is there. -/
def isAt (n : Nat) (L : IL) (id : Int) : Bool := decide (plc L id n < n ∧ (L (plc L id n)).id = id)
/-- The items behind a put at p: in the place of the p-th, or ahead of it. -/
def putI (L : IL) (p : Nat) (f : Bool) (x : It) : IL := fun j => if j < p then L j else if j = p then x else if f then L j else L (j - 1)
/-- Whether a put is right in form; how many there are behind it; its code; how many are told. -/
def putOk (dim : Int) (n : Nat) (L : IL) (x : It) : Bool := itemsB dim n L && itemB dim x
def putM (n : Nat) (L : IL) (x : It) : Nat := if isAt n L x.id then n else n + 1
def putC (dim : Int) (n : Nat) (L : IL) (x : It) : Int := if putOk dim n L x then (if putM n L x ≤ 60 then 0 else 2) else 1
def putT (dim : Int) (n : Nat) (L : IL) (x : It) : Nat := if putOk dim n L x then (if putM n L x ≤ 60 then putM n L x else 0) else 0
def putA (n : Nat) (L : IL) (x : It) : IL := putI L (plc L x.id n) (isAt n L x.id) x

theorem putI_lt {L : IL} {p : Nat} {f : Bool} {x : It} {j : Nat} (h : j < p) : putI L p f x j = L j := by unfold putI; rw [if_pos h]
theorem putI_at {L : IL} {p : Nat} {f : Bool} {x : It} : putI L p f x p = x := by unfold putI; rw [if_neg (by omega), if_pos rfl]
theorem putI_yes {L : IL} {p : Nat} {x : It} {j : Nat} (h : p < j) : putI L p true x j = L j := by unfold putI; rw [if_neg (by omega), if_neg (by omega), if_pos rfl]
theorem putI_no {L : IL} {p : Nat} {x : It} {j : Nat} (h : p < j) : putI L p false x j = L (j - 1) := by unfold putI; rw [if_neg (by omega), if_neg (by omega)]; rfl

/-- One more, which is the next one of N. -/
theorem GI.next {w w1 w2 w3 : World} {base g cap m : Nat} {N : IL} {V : Nat → Nat} {sv : Nat → Value} (h : GI w base g cap m N V sv) (hB : base ≤ w.heap.size) (hb : Below w.heap.size w w1) (x : It) (hx : N m = x) (v : Value) (gv : Nat) (hv : VSl w1 w.heap.size w1.heap.size v x.vec gv)
    (hb2 : Below w1.heap.size w1 w2) {g' cap' : Nat} (hown : w3.ownsRow base 55 3 (.slice (some ⟨g', 0, none⟩) (m + 1) cap') (m + 1) (icl N sv m ++ [.int .i64 x.id, .int .i64 x.tags, v]))
    (hgrow : w2.grownBy w3 (some g)) (hat : some g = some g' ∨ g' = w2.heap.size) : GI w3 base g' cap' (m + 1) N (putF V m gv) (putF sv m v) :=
  (h.step hB hb x v gv hv hb2 hown hgrow hat).congr fun i hi => by
    by_cases e : i = m
    · subst e; rw [IL.put_at, hx]
    · rw [IL.put_off _ _ e]

theorem sumV_put (L : IL) (p : Nat) (f : Bool) (x : It) (n : Nat) (hp : p ≤ n) : sumV (putI L p f x) (if f then n else n + 1) ≤ sumV L n + x.vec.length := by
  have hlt : ∀ k, k ≤ p → sumV (putI L p f x) k = sumV L k := fun k hk => sumV_congr fun i hi => putI_lt (by omega)
  cases f
  · have h : ∀ k, sumV (putI L p false x) (p + k + 1) = sumV L (p + k) + x.vec.length := by
      intro k
      induction k with
      | zero => show sumV _ p + (putI L p false x p).vec.length = _; rw [hlt p (Nat.le_refl _), putI_at]; rfl
      | succ k ih =>
        show sumV _ (p + k + 1) + (putI L p false x (p + k + 1)).vec.length = sumV L (p + k) + (L (p + k)).vec.length + _
        rw [ih, putI_no (by omega), show p + k + 1 - 1 = p + k by omega]
        omega
    have := h (n - p)
    rw [show p + (n - p) = n by omega] at this
    simp only [Bool.false_eq_true, if_false]
    omega
  · by_cases e : p = n
    · subst e; rw [if_pos rfl, hlt _ (Nat.le_refl _)]; omega
    · have h : ∀ k, sumV (putI L p true x) (p + k + 1) ≤ sumV L (p + k + 1) + x.vec.length := by
        intro k
        induction k with
        | zero => show sumV _ p + (putI L p true x p).vec.length ≤ sumV L p + (L p).vec.length + _; rw [hlt p (Nat.le_refl _), putI_at]; omega
        | succ k ih =>
          show sumV _ (p + k + 1) + (putI L p true x (p + k + 1)).vec.length ≤ sumV L (p + k + 1) + (L (p + k + 1)).vec.length + _
          rw [putI_yes (by omega)]
          omega
      have := h (n - p - 1)
      rw [show p + (n - p - 1) + 1 = n by omega] at this
      rw [if_pos rfl]
      exact this
end Go.Proofs.Ytmbncafbbpcmbaa

/- ItemPut of the model. -/
namespace Go.Proofs.Ytmbncafbbpcmbaa
open Go.RowKit
set_option maxRecDepth 8000
set_option linter.unusedSimpArgs false
set_option linter.unusedVariables false

theorem ToV.from {w W : World} {x : It} {e : Ending} {w' : World} (h : ToV W x e w') (hb : Below w.heap.size w W) : ToV w x e w' := by
  obtain ⟨v, g, he, hv, hb'⟩ := h
  exact ⟨v, g, he, hv.mono hb.size (Nat.le_refl _), bstep hb hb'⟩

/-- How many there are behind k rounds. -/
def mkP (p : Nat) (f : Bool) (k : Nat) : Nat := if k ≤ p then k else if f then k else k + 1
theorem mkP_lo {p : Nat} {f : Bool} {k : Nat} (h : k < p) : mkP p f (k + 1) = mkP p f k + 1 := by unfold mkP; rw [if_pos (by omega), if_pos (by omega)]
theorem mkP_hi {p : Nat} {f : Bool} {k : Nat} (h : p < k) : mkP p f (k + 1) = mkP p f k + 1 := by unfold mkP; rw [if_neg (show ¬ k + 1 ≤ p by omega), if_neg (show ¬ k ≤ p by omega)]; cases f <;> rfl
theorem mkP_le (p : Nat) (f : Bool) (k : Nat) : mkP p f k ≤ k + 1 := by unfold mkP; split <;> (try split) <;> omega

set_option maxHeartbeats 800000 in
set_option maxRecDepth 8000 in
theorem sItemPut_no (dim : Int) (a : Option Addr) (n cap : Nat) (L : IL) (x : It) (xa : Option Addr) (xn xc : Nat) (w : World) (h : IRow w a n L) (hn : n ≤ 1048576) (hv : ∀ i, i < n → (L i).vec.length ≤ 1048576) (rx : Row w xa xn x.vec) (hxn : xn ≤ 1048576) (hno : putOk dim n L x = false) (N : IL) :
    Calls Try.prog 36 #[.int .i64 dim, .slice a n cap, .agg #[.int .i64 x.id, .int .i64 x.tags, .slice xa xn xc]] w fun e w' => TwoG w 0 N (.int .i64 1) e w' := by
  have K := hide (fun w1 (hb : Below w.heap.size w w1) => sItemsOk_any dim a n cap L w1 (h.below hb) hn hv)
  have J := hide (fun w1 (hb : Below w.heap.size w w1) => l7Item_any dim x xa xn xc w1 (rx.below hb) hxn)
  have hno' : itemsB dim n L = false ∨ (itemsB dim n L = true ∧ itemB dim x = false) := by
    unfold putOk at hno
    cases e : itemsB dim n L
    · exact .inl rfl
    · rw [e] at hno; exact .inr ⟨rfl, by simpa using hno⟩
  clear h hv hno rx
  rcases hno' with h0 | ⟨h0, h1⟩
  · simp only [h0] at K
    go_enter Try.func36, Try.ntmps36
    go_wp2_with fail
    refine (K.out _ (by repeat' first | with_reducible exact Below.refl _ _ | with_reducible assumption | with_reducible refine below_drewN ?_ _ | with_reducible refine balloc ?_ _ | with_reducible refine Below.drew ?_ | with_reducible refine Below.setCell ?_ (by first | (simp; done) | (simp; omega) | omega) _ | with_reducible refine bstep ?_ (by assumption))).mono ?_
    rintro e w1 ⟨rfl, hb1⟩
    go_wp2_with fail
    go_ret2
    exact twoG_nil rfl (by repeat' first | with_reducible exact Below.refl _ _ | with_reducible assumption | with_reducible refine below_drewN ?_ _ | with_reducible refine balloc ?_ _ | with_reducible refine Below.drew ?_ | with_reducible refine Below.setCell ?_ (by first | (simp; done) | (simp; omega) | omega) _ | with_reducible refine bstep ?_ (by assumption))
  · simp only [h0] at K
    simp only [h1] at J
    go_enter Try.func36, Try.ntmps36
    go_wp2_with fail
    refine (K.out _ (by repeat' first | with_reducible exact Below.refl _ _ | with_reducible assumption | with_reducible refine below_drewN ?_ _ | with_reducible refine balloc ?_ _ | with_reducible refine Below.drew ?_ | with_reducible refine Below.setCell ?_ (by first | (simp; done) | (simp; omega) | omega) _ | with_reducible refine bstep ?_ (by assumption))).mono ?_
    rintro e w1 ⟨rfl, hb1⟩
    obtain ⟨_, q1, q2, q3, _⟩ := (Tri.new w (.int .i64 x.id) (.int .i64 x.tags) (.slice xa xn xc) 55).below hb1
    go_wp2_with fail
    refine (J.out _ (by repeat' first | with_reducible exact Below.refl _ _ | with_reducible assumption | with_reducible refine below_drewN ?_ _ | with_reducible refine balloc ?_ _ | with_reducible refine Below.drew ?_ | with_reducible refine Below.setCell ?_ (by first | (simp; done) | (simp; omega) | omega) _ | with_reducible refine bstep ?_ (by assumption))).mono ?_
    rintro e w2 ⟨rfl, hb2⟩
    go_wp2_with fail
    go_ret2
    exact twoG_nil rfl (by repeat' first | with_reducible exact Below.refl _ _ | with_reducible assumption | with_reducible refine below_drewN ?_ _ | with_reducible refine balloc ?_ _ | with_reducible refine Below.drew ?_ | with_reducible refine Below.setCell ?_ (by first | (simp; done) | (simp; omega) | omega) _ | with_reducible refine bstep ?_ (by assumption))

set_option maxHeartbeats 16000000 in
set_option maxRecDepth 8000 in
theorem sItemPut_loop (dim : Int) (b off n cap : Nat) (L : IL) (x : It) (xa : Option Addr) (xn xc : Nat) (w : World) (hn : n ≤ 60) (hv : ∀ i, i < n → (L i).vec.length ≤ 1048576) (hb : b < w.heap.size) (hc : ∀ i, i < n → IAt w b (off + i * 3) (L i)) (rx : Row w xa xn x.vec) (hxn : xn ≤ 1048576)
    (h0 : itemsB dim n L = true) (h1 : itemB dim x = true) (p : Nat) (f : Bool) (hp : IsPlace n L x.id p) (hf : f = decide (p < n ∧ (L p).id = x.id)) :
    Calls Try.prog 36 #[.int .i64 dim, .slice (some ⟨b, off, none⟩) n cap, .agg #[.int .i64 x.id, .int .i64 x.tags, .slice xa xn xc]] w fun e w' => TwoG w (if (if f then n else n + 1) ≤ 60 then (if f then n else n + 1) else 0) (putI L p f x) (.int .i64 (if (if f then n else n + 1) ≤ 60 then 0 else 2)) e w' := by
  obtain ⟨i0, hi, hz0, hz1, hz2⟩ := itemInfo
  have h : IRow w (some ⟨b, off, none⟩) n L := ⟨.inr ⟨b, off, rfl, hb, hc⟩⟩
  have K := hide (fun w1 (hb : Below w.heap.size w w1) => sItemsOk_any dim _ n cap L w1 (h.below hb) (by omega) hv)
  have J := hide (fun w1 (hb : Below w.heap.size w w1) => l7Item_any dim x xa xn xc w1 (rx.below hb) hxn)
  simp only [h0] at K
  simp only [h1] at J
  have HI := hide hi
  have HC := hide hc
  have HV := hide hv
  have HPL := hide hp
  have HF := hide hf
  have hpn := hp.le
  have HAF := hide (fun k (hk : p < k) (hkn : k < n) => show x.id < (L k).id from by
    have h2 := hp.hi p (Nat.le_refl _) (by omega)
    have h3 := itemsB_rise h0 hk hkn
    omega)
  have HNC := hide (fun k (hk : p < k) m (hm : mkP p f k = m) => show putI L p f x m = L k from by
    subst hm
    unfold mkP
    rw [if_neg (by omega)]
    cases f
    · exact (putI_no (by simp; omega)).trans (by simp)
    · exact putI_yes hk)
  clear hc hv hi h h0 h1 hp hf
  go_enter Try.func36, Try.ntmps36
  go_wp2_with fail
  refine (K.out _ (by repeat' first | with_reducible exact Below.refl _ _ | with_reducible assumption | with_reducible refine below_drewN ?_ _ | with_reducible refine balloc ?_ _ | with_reducible refine Below.drew ?_ | with_reducible refine Below.setCell ?_ (by first | (simp; done) | (simp; omega) | omega) _ | with_reducible refine bstep ?_ (by assumption))).mono ?_
  rintro e w1 ⟨rfl, hb1⟩
  obtain ⟨_, q1, q2, q3, _⟩ := (Tri.new w (.int .i64 x.id) (.int .i64 x.tags) (.slice xa xn xc) 55).below hb1
  go_wp2_with fail
  refine (J.out _ (by repeat' first | with_reducible exact Below.refl _ _ | with_reducible assumption | with_reducible refine below_drewN ?_ _ | with_reducible refine balloc ?_ _ | with_reducible refine Below.drew ?_ | with_reducible refine Below.setCell ?_ (by first | (simp; done) | (simp; omega) | omega) _ | with_reducible refine bstep ?_ (by assumption))).mono ?_
  rintro e w2 ⟨rfl, hb2⟩
  have bw2 : Below w.heap.size w w2 := (by repeat' first | with_reducible exact Below.refl _ _ | with_reducible assumption | with_reducible refine below_drewN ?_ _ | with_reducible refine balloc ?_ _ | with_reducible refine Below.drew ?_ | with_reducible refine Below.setCell ?_ (by first | (simp; done) | (simp; omega) | omega) _ | with_reducible refine bstep ?_ (by assumption))
  have HT2 := hide (((Tri.new w (.int .i64 x.id) (.int .i64 x.tags) (.slice xa xn xc) 55).below hb1).below hb2)
  have HB2 := hide bw2
  clear bw2 hb1 hb2 q1 q2 q3 K J
  go_wp2_with fail
  go_loopw [8, 9, 10] (fun s d i wr => ∃ k : Nat, k ≤ n ∧ d = .bool (decide (p < k)) ∧ i = .int .i64 k ∧ (∃ g c V sv, s = .slice (some ⟨g, 0, none⟩) (mkP p f k) c ∧ GI wr w2.heap.size g c (mkP p f k) (putI L p f x) V sv) ∧ Below w2.heap.size w2 wr) (fun _ _ i _ => n - (intOf i).toNat)
  case atStart =>
    refine ⟨0, Nat.zero_le _, by rw [show decide (p < 0) = false from decide_eq_false (by omega)], rfl, ⟨w2.heap.size, 0, fun _ => 0, fun _ => .slice none 0 0, ?_, ?_⟩, (by repeat' first | with_reducible exact Below.refl _ _ | with_reducible assumption | with_reducible refine below_drewN ?_ _ | with_reducible refine balloc ?_ _ | with_reducible refine Below.drew ?_ | with_reducible refine Below.setCell ?_ (by first | (simp; done) | (simp; omega) | omega) _ | with_reducible refine bstep ?_ (by assumption))⟩
    · unfold mkP; rw [if_pos (Nat.zero_le _)]
    · unfold mkP; rw [if_pos (Nat.zero_le _)]; exact GI.new _ _ _ _
  case round =>
    obtain ⟨k, hk, rfl, rfl, ⟨g1, c1, V, sv, rfl, hgi⟩, hbel⟩ := hrel
    have HB := hide hbel
    have HG := hide hgi
    have hml := mkP_le p f k
    have hsz := hbel.size
    by_cases hlt : k < n
    · obtain ⟨c0, c1', va, vn, vc, c2, vr⟩ := (HC.out k hlt).below hb (bstep HB2.out hbel)
      obtain ⟨_, q1, q2, q3, _⟩ := HT2.out.below hbel
      have hlt' : (k : Int) < (n : Int) := by omega
      have HF0 := hide (fun (hf : f = false) (hkp : k = p) => show (L k).id ≠ x.id from by
        have h := HF.out
        rw [hf] at h
        subst hkp
        exact fun e => absurd h.symm (by simp [hlt, e]))
      have HF1 := hide (fun (hf : f = true) => show (L p).id = x.id from by
        have h := HF.out
        rw [hf] at h
        exact (of_decide_eq_true h.symm).2)
      obtain ⟨m, hm⟩ : ∃ m, mkP p f k = m := ⟨_, rfl⟩
      rw [hm] at hml HG ⊢
      rcases Nat.lt_trichotomy k p with hcase | hcase | hcase
      · have hdec : decide (p < k) = false := decide_eq_false (by omega)
        rw [hdec]
        have hlo := HPL.out.lo k hcase
        have hge : decide (x.id ≤ (L k).id) = false := decide_eq_false (by omega)
        have hne : ((L k).id != x.id) = true := by simp; omega
        have RK := hide (fun w1 (h1 : Below wr.heap.size wr w1) => (l7Copy_any (L k) va vn vc w1 (vr.below h1) (by rw [← vr.len]; exact HV.out k hlt)).mono fun e w' h => h.from h1)
        have HM := hide hm
        clear hbel hgi vr hdec
        go_wp2_with fail
        go_quiet (fail)
        go_wp2_with fail
        go_quiet (fail)
        go_wp2_with fail
        refine (RK.out _ (by repeat' first | with_reducible exact Below.refl _ _ | with_reducible assumption | with_reducible refine below_drewN ?_ _ | with_reducible refine balloc ?_ _ | with_reducible refine Below.drew ?_ | with_reducible refine Below.setCell ?_ (by first | (simp; done) | (simp; omega) | omega) _ | with_reducible refine bstep ?_ (by assumption))).mono ?_
        rintro e w1s ⟨vs, gvs, rfl, hvs, hbs⟩
        have HVs := hide hvs
        obtain ⟨a1s, c3s, rfl, _⟩ := hvs
        have howns := hide ((HG.out.below hbs).own.alloc (.cells #[.int .i64 (L k).id, .int .i64 (L k).tags, .slice a1s (L k).vec.length c3s] 55))
        have hss := hbs.size
        have hXs := HB.out.size
        go_wp2_with (at_builtin; refine wpList_append_lies _ rfl _ _ 24 rfl w2.heap.size 55 i0 _ 3 40 Try.underlying24 HI.out hz0 hz1 hz2 rfl (by decide) _ _ _ rfl howns.out ⟨_, 0, none⟩ 1 1 [.int .i64 (L k).id, .int .i64 (L k).tags, .slice a1s (L k).vec.length c3s] rfl rfl (three_new _ _ _ _ _) (three_one _ _ _ _ _) (by omega) (by unfold maxLen; omega) (by omega) (by simp; omega) _ rfl ?_)
        intro g5s c5s w5s hown5 hgrow hat5 hglt
        have HGs := hide (HG.out.next (by omega) hbs (L k) (by have e := HM.out; unfold mkP at e; rw [if_pos (by omega)] at e; rw [← e]; exact putI_lt hcase) _ gvs HVs.out (balloc (Below.refl _ _) _) hown5 hgrow (by rcases hat5 with h | h; exact .inl h; exact .inr (by simp [h])))
        have HBs : Hid (Below w2.heap.size w2 w5s) := hide ((balloc (bstep HB.out hbs) (.cells #[.int .i64 (L k).id, .int .i64 (L k).tags, .slice a1s (L k).vec.length c3s] 55)).grown hgrow (by simp; omega) fun k' hk' => (howns.out.lt k' hk').1)
        clear hown5 hgrow hat5 howns hbs hglt
        go_wp2_with fail
        go_roundw
        case rel =>
          have e1 : mkP p f (k + 1) = m + 1 := by rw [mkP_lo (by omega), HM.out]
          exact ⟨k + 1, by omega, by rw [show decide (p < k + 1) = false from decide_eq_false (by omega)], by go_num, ⟨g5s, c5s, _, _, by rw [e1], by rw [e1]; exact HGs.out⟩, HBs.out⟩
        case measure => simp [intOf]; omega
      · subst hcase
        have hdec : decide (k < k) = false := decide_eq_false (by omega)
        rw [hdec]
        have hhi := HPL.out.hi k (Nat.le_refl _) hlt
        have hge : decide (x.id ≤ (L k).id) = true := decide_eq_true hhi
        have RX := hide (fun w1 (h1 : Below wr.heap.size wr w1) => (l7Copy_any x xa xn xc w1 ((rx.below (bstep HB2.out hbel)).below h1) hxn).mono fun e w' h => h.from h1)
        have HM := hide hm
        clear hdec
        cases hf : f
        · subst hf
          have HVR := hide vr
          have HBEL := hide hbel
          clear hbel hgi vr
          go_wp2_with fail
          go_quiet (fail)
          go_wp2_with fail
          refine (RX.out _ (by repeat' first | with_reducible exact Below.refl _ _ | with_reducible assumption | with_reducible refine below_drewN ?_ _ | with_reducible refine balloc ?_ _ | with_reducible refine Below.drew ?_ | with_reducible refine Below.setCell ?_ (by first | (simp; done) | (simp; omega) | omega) _ | with_reducible refine bstep ?_ (by assumption))).mono ?_
          rintro e w1s ⟨vs, gvs, rfl, hvs, hbs⟩
          have HVs := hide hvs
          obtain ⟨a1s, c3s, rfl, _⟩ := hvs
          have howns := hide ((HG.out.below hbs).own.alloc (.cells #[.int .i64 x.id, .int .i64 x.tags, .slice a1s x.vec.length c3s] 55))
          have hss := hbs.size
          have hXs := HB.out.size
          go_wp2_with (at_builtin; refine wpList_append_lies _ rfl _ _ 24 rfl w2.heap.size 55 i0 _ 3 40 Try.underlying24 HI.out hz0 hz1 hz2 rfl (by decide) _ _ _ rfl howns.out ⟨_, 0, none⟩ 1 1 [.int .i64 x.id, .int .i64 x.tags, .slice a1s x.vec.length c3s] rfl rfl (three_new _ _ _ _ _) (three_one _ _ _ _ _) (by omega) (by unfold maxLen; omega) (by omega) (by simp; omega) _ rfl ?_)
          intro g5s c5s w5s hown5 hgrow hat5 hglt
          have HGs := hide (HG.out.next (by omega) hbs x (by have e := HM.out; unfold mkP at e; rw [if_pos (by omega)] at e; rw [← e]; exact putI_at) _ gvs HVs.out (balloc (Below.refl _ _) _) hown5 hgrow (by rcases hat5 with h | h; exact .inl h; exact .inr (by simp [h])))
          have HBs : Hid (Below w2.heap.size w2 w5s) := hide ((balloc (bstep HB.out hbs) (.cells #[.int .i64 x.id, .int .i64 x.tags, .slice a1s x.vec.length c3s] 55)).grown hgrow (by simp; omega) fun k' hk' => (howns.out.lt k' hk').1)
          clear hown5 hgrow hat5 howns hbs hglt
          clear q1 q2 q3 c0 c1' c2
          obtain ⟨_, q1, q2, q3, _⟩ := HT2.out.below HBs.out
          obtain ⟨c0, c1', va', vn', vc', c2, vr'⟩ := (HC.out k hlt).below hb (bstep HB2.out HBs.out)
          have hne : ((L k).id != x.id) = true := by have : (L k).id ≠ x.id := (by first | exact HF0.out trivial trivial | exact HF0.out rfl rfl | exact HF0.out trivial rfl); simp; omega
          have RK := hide (fun w1 (h1 : Below w5s.heap.size w5s w1) => (l7Copy_any (L k) va' vn' vc' w1 (vr'.below h1) (by rw [← vr'.len]; exact HV.out k hlt)).mono fun e w' h => h.from h1)
          clear vr' HB HG
          go_wp2_with fail
          go_quiet (fail)
          go_wp2_with fail
          refine (RK.out _ (by repeat' first | with_reducible exact Below.refl _ _ | with_reducible assumption | with_reducible refine below_drewN ?_ _ | with_reducible refine balloc ?_ _ | with_reducible refine Below.drew ?_ | with_reducible refine Below.setCell ?_ (by first | (simp; done) | (simp; omega) | omega) _ | with_reducible refine bstep ?_ (by assumption))).mono ?_
          rintro e w1t ⟨vt, gvt, rfl, hvt, hbt⟩
          have HVt := hide hvt
          obtain ⟨a1t, c3t, rfl, _⟩ := hvt
          have hownt := hide ((HGs.out.below hbt).own.alloc (.cells #[.int .i64 (L k).id, .int .i64 (L k).tags, .slice a1t (L k).vec.length c3t] 55))
          have hst := hbt.size
          have hXt := HBs.out.size
          go_wp2_with (at_builtin; refine wpList_append_lies _ rfl _ _ 24 rfl w2.heap.size 55 i0 _ 3 40 Try.underlying24 HI.out hz0 hz1 hz2 rfl (by decide) _ _ _ rfl hownt.out ⟨_, 0, none⟩ 1 1 [.int .i64 (L k).id, .int .i64 (L k).tags, .slice a1t (L k).vec.length c3t] rfl rfl (three_new _ _ _ _ _) (three_one _ _ _ _ _) (by omega) (by unfold maxLen; omega) (by omega) (by simp; omega) _ rfl ?_)
          intro g5t c5t w5t hown5 hgrow hat5 hglt
          have HGt := hide (HGs.out.next (by omega) hbt (L k) (by have e := HM.out; unfold mkP at e; rw [if_pos (by omega)] at e; rw [← e]; exact (putI_no (by omega)).trans (by rw [Nat.add_sub_cancel])) _ gvt HVt.out (balloc (Below.refl _ _) _) hown5 hgrow (by rcases hat5 with h | h; exact .inl h; exact .inr (by simp [h])))
          have HBt : Hid (Below w2.heap.size w2 w5t) := hide ((balloc (bstep HBs.out hbt) (.cells #[.int .i64 (L k).id, .int .i64 (L k).tags, .slice a1t (L k).vec.length c3t] 55)).grown hgrow (by simp; omega) fun k' hk' => (hownt.out.lt k' hk').1)
          clear hown5 hgrow hat5 hownt hbt hglt
          go_wp2_with fail
          go_roundw
          case rel =>
            have e := HM.out
            unfold mkP at e
            rw [if_pos (by omega)] at e
            have e1 : mkP k false (k + 1) = m + 1 + 1 := by unfold mkP; rw [if_neg (by omega), ← e]; rfl
            exact ⟨k + 1, by omega, by rw [show decide (k < k + 1) = true from decide_eq_true (by omega)], by go_num, ⟨g5t, c5t, _, _, by rw [e1], by rw [e1]; exact HGt.out⟩, HBt.out⟩
          case measure => simp [intOf]; omega
        · subst hf
          have HVR := hide vr
          have HBEL := hide hbel
          clear hbel hgi vr
          go_wp2_with fail
          go_quiet (fail)
          go_wp2_with fail
          refine (RX.out _ (by repeat' first | with_reducible exact Below.refl _ _ | with_reducible assumption | with_reducible refine below_drewN ?_ _ | with_reducible refine balloc ?_ _ | with_reducible refine Below.drew ?_ | with_reducible refine Below.setCell ?_ (by first | (simp; done) | (simp; omega) | omega) _ | with_reducible refine bstep ?_ (by assumption))).mono ?_
          rintro e w1s ⟨vs, gvs, rfl, hvs, hbs⟩
          have HVs := hide hvs
          obtain ⟨a1s, c3s, rfl, _⟩ := hvs
          have howns := hide ((HG.out.below hbs).own.alloc (.cells #[.int .i64 x.id, .int .i64 x.tags, .slice a1s x.vec.length c3s] 55))
          have hss := hbs.size
          have hXs := HB.out.size
          go_wp2_with (at_builtin; refine wpList_append_lies _ rfl _ _ 24 rfl w2.heap.size 55 i0 _ 3 40 Try.underlying24 HI.out hz0 hz1 hz2 rfl (by decide) _ _ _ rfl howns.out ⟨_, 0, none⟩ 1 1 [.int .i64 x.id, .int .i64 x.tags, .slice a1s x.vec.length c3s] rfl rfl (three_new _ _ _ _ _) (three_one _ _ _ _ _) (by omega) (by unfold maxLen; omega) (by omega) (by simp; omega) _ rfl ?_)
          intro g5s c5s w5s hown5 hgrow hat5 hglt
          have HGs := hide (HG.out.next (by omega) hbs x (by have e := HM.out; unfold mkP at e; rw [if_pos (by omega)] at e; rw [← e]; exact putI_at) _ gvs HVs.out (balloc (Below.refl _ _) _) hown5 hgrow (by rcases hat5 with h | h; exact .inl h; exact .inr (by simp [h])))
          have HBs : Hid (Below w2.heap.size w2 w5s) := hide ((balloc (bstep HB.out hbs) (.cells #[.int .i64 x.id, .int .i64 x.tags, .slice a1s x.vec.length c3s] 55)).grown hgrow (by simp; omega) fun k' hk' => (howns.out.lt k' hk').1)
          clear hown5 hgrow hat5 howns hbs hglt
          clear q1 q2 q3 c0 c1' c2
          obtain ⟨_, q1, q2, q3, _⟩ := HT2.out.below HBs.out
          obtain ⟨c0, c1', va', vn', vc', c2, vr'⟩ := (HC.out k hlt).below hb (bstep HB2.out HBs.out)
          have hne : ((L k).id != x.id) = false := by have : (L k).id = x.id := (by first | exact HF1.out trivial | exact HF1.out rfl); simp; exact this
          clear vr' HB HG
          go_wp2_with fail
          go_quiet (fail)
          go_wp2_with fail
          go_roundw
          case rel =>
            have e := HM.out
            unfold mkP at e
            rw [if_pos (by omega)] at e
            have e1 : mkP k true (k + 1) = m + 1 := by unfold mkP; rw [if_neg (by omega), ← e]; rfl
            exact ⟨k + 1, by omega, by rw [show decide (k < k + 1) = true from decide_eq_true (by omega)], by go_num, ⟨g5s, c5s, _, _, by rw [e1], by rw [e1]; exact HGs.out.below (below_drewN (Below.refl _ _) _)⟩, below_drewN HBs.out _⟩
          case measure => simp [intOf]; omega
      · have hdec : decide (p < k) = true := decide_eq_true (by omega)
        rw [hdec]
        have hne : ((L k).id != x.id) = true := by have := HAF.out k hcase hlt; simp; omega
        have RK := hide (fun w1 (h1 : Below wr.heap.size wr w1) => (l7Copy_any (L k) va vn vc w1 (vr.below h1) (by rw [← vr.len]; exact HV.out k hlt)).mono fun e w' h => h.from h1)
        have HM := hide hm
        clear hbel hgi vr hdec
        go_wp2_with fail
        go_quiet (fail)
        go_wp2_with fail
        go_quiet (fail)
        go_wp2_with fail
        refine (RK.out _ (by repeat' first | with_reducible exact Below.refl _ _ | with_reducible assumption | with_reducible refine below_drewN ?_ _ | with_reducible refine balloc ?_ _ | with_reducible refine Below.drew ?_ | with_reducible refine Below.setCell ?_ (by first | (simp; done) | (simp; omega) | omega) _ | with_reducible refine bstep ?_ (by assumption))).mono ?_
        rintro e w1s ⟨vs, gvs, rfl, hvs, hbs⟩
        have HVs := hide hvs
        obtain ⟨a1s, c3s, rfl, _⟩ := hvs
        have howns := hide ((HG.out.below hbs).own.alloc (.cells #[.int .i64 (L k).id, .int .i64 (L k).tags, .slice a1s (L k).vec.length c3s] 55))
        have hss := hbs.size
        have hXs := HB.out.size
        go_wp2_with (at_builtin; refine wpList_append_lies _ rfl _ _ 24 rfl w2.heap.size 55 i0 _ 3 40 Try.underlying24 HI.out hz0 hz1 hz2 rfl (by decide) _ _ _ rfl howns.out ⟨_, 0, none⟩ 1 1 [.int .i64 (L k).id, .int .i64 (L k).tags, .slice a1s (L k).vec.length c3s] rfl rfl (three_new _ _ _ _ _) (three_one _ _ _ _ _) (by omega) (by unfold maxLen; omega) (by omega) (by simp; omega) _ rfl ?_)
        intro g5s c5s w5s hown5 hgrow hat5 hglt
        have HGs := hide (HG.out.next (by omega) hbs (L k) (HNC.out k hcase m HM.out) _ gvs HVs.out (balloc (Below.refl _ _) _) hown5 hgrow (by rcases hat5 with h | h; exact .inl h; exact .inr (by simp [h])))
        have HBs : Hid (Below w2.heap.size w2 w5s) := hide ((balloc (bstep HB.out hbs) (.cells #[.int .i64 (L k).id, .int .i64 (L k).tags, .slice a1s (L k).vec.length c3s] 55)).grown hgrow (by simp; omega) fun k' hk' => (howns.out.lt k' hk').1)
        clear hown5 hgrow hat5 howns hbs hglt
        go_wp2_with fail
        go_roundw
        case rel =>
          have e1 : mkP p f (k + 1) = m + 1 := by rw [mkP_hi (by omega), HM.out]
          exact ⟨k + 1, by omega, by rw [show decide (p < k + 1) = true from decide_eq_true (by omega)], by go_num, ⟨g5s, c5s, _, _, by rw [e1], by rw [e1]; exact HGs.out⟩, HBs.out⟩
        case measure => simp [intOf]; omega
    · obtain rfl : k = n := by omega
      obtain ⟨_, q1, q2, q3, _⟩ := HT2.out.below hbel
      have HBEL := hide hbel
      by_cases hpk : p < k
      · have hdec : decide (p < k) = true := decide_eq_true hpk
        rw [hdec]
        clear hbel hgi hdec
        cases hf : f
        · subst hf
          have hm : mkP p false k = k + 1 := by unfold mkP; rw [if_neg (by omega)]; rfl
          rw [hm] at HG hml ⊢
          clear hm
          by_cases h60 : k + 1 ≤ 60
          · go_wp2_with fail
            go_ret2
            (try simp only [Bool.false_eq_true, if_false, if_pos h60])
            exact ⟨_, rfl, .inr ⟨g1, c1, V, sv, rfl, HG.out.low HB2.out.size⟩, bstep HB2.out HB.out⟩
          · go_wp2_with fail
            go_ret2
            (try simp only [Bool.false_eq_true, if_false, if_neg h60])
            exact twoG_nil rfl (bstep HB2.out HB.out)
        · subst hf
          have hm : mkP p true k = k := by unfold mkP; rw [if_neg (by omega)]; rfl
          rw [hm] at HG hml ⊢
          clear hm
          go_wp2_with fail
          go_ret2
          (try simp only [if_true, if_pos hn])
          exact ⟨_, rfl, .inr ⟨g1, c1, V, sv, rfl, HG.out.low HB2.out.size⟩, bstep HB2.out HB.out⟩
      · obtain rfl : p = k := by omega
        have hdec : decide (p < p) = false := decide_eq_false (by omega)
        rw [hdec]
        have hff : f = false := by rw [HF.out]; exact decide_eq_false fun h => hpk h.1
        subst hff
        have hm : mkP p false p = p := by unfold mkP; rw [if_pos (Nat.le_refl _)]
        rw [hm] at HG hml ⊢
        have RX := hide (fun w1 (h1 : Below wr.heap.size wr w1) => (l7Copy_any x xa xn xc w1 ((rx.below (bstep HB2.out hbel)).below h1) hxn).mono fun e w' h => h.from h1)
        clear hbel hgi hdec hm HBEL hpk
        go_wp2_with fail
        refine (RX.out _ (by repeat' first | with_reducible exact Below.refl _ _ | with_reducible assumption | with_reducible refine below_drewN ?_ _ | with_reducible refine balloc ?_ _ | with_reducible refine Below.drew ?_ | with_reducible refine Below.setCell ?_ (by first | (simp; done) | (simp; omega) | omega) _ | with_reducible refine bstep ?_ (by assumption))).mono ?_
        rintro e w1s ⟨vs, gvs, rfl, hvs, hbs⟩
        have HVs := hide hvs
        obtain ⟨a1s, c3s, rfl, _⟩ := hvs
        have howns := hide ((HG.out.below hbs).own.alloc (.cells #[.int .i64 x.id, .int .i64 x.tags, .slice a1s x.vec.length c3s] 55))
        have hss := hbs.size
        have hXs := HB.out.size
        go_wp2_with (at_builtin; refine wpList_append_lies _ rfl _ _ 24 rfl w2.heap.size 55 i0 _ 3 40 Try.underlying24 HI.out hz0 hz1 hz2 rfl (by decide) _ _ _ rfl howns.out ⟨_, 0, none⟩ 1 1 [.int .i64 x.id, .int .i64 x.tags, .slice a1s x.vec.length c3s] rfl rfl (three_new _ _ _ _ _) (three_one _ _ _ _ _) (by omega) (by unfold maxLen; omega) (by omega) (by simp; omega) _ rfl ?_)
        intro g5s c5s w5s hown5 hgrow hat5 hglt
        have HGs := hide (HG.out.next (by omega) hbs x putI_at _ gvs HVs.out (balloc (Below.refl _ _) _) hown5 hgrow (by rcases hat5 with h | h; exact .inl h; exact .inr (by simp [h])))
        have HBs : Hid (Below w2.heap.size w2 w5s) := hide ((balloc (bstep HB.out hbs) (.cells #[.int .i64 x.id, .int .i64 x.tags, .slice a1s x.vec.length c3s] 55)).grown hgrow (by simp; omega) fun k' hk' => (howns.out.lt k' hk').1)
        clear hown5 hgrow hat5 howns hbs hglt
        by_cases h60 : p + 1 ≤ 60
        · go_wp2_with fail
          go_ret2
          (try simp only [Bool.false_eq_true, if_false, if_pos h60])
          exact ⟨_, rfl, .inr ⟨g5s, c5s, _, _, rfl, HGs.out.low HB2.out.size⟩, bstep HB2.out HBs.out⟩
        · go_wp2_with fail
          go_ret2
          (try simp only [Bool.false_eq_true, if_false, if_neg h60])
          exact twoG_nil rfl (bstep HB2.out HBs.out)

set_option maxHeartbeats 4000000 in
set_option maxRecDepth 8000 in
theorem sItemPut_zero (dim : Int) (a : Option Addr) (n cap : Nat) (L : IL) (x : It) (xa : Option Addr) (xn xc : Nat) (w : World) (hn : n < 1) (rx : Row w xa xn x.vec) (hxn : xn ≤ 1048576) (h0 : itemsB dim n L = true) (h1 : itemB dim x = true) :
    Calls Try.prog 36 #[.int .i64 dim, .slice a n cap, .agg #[.int .i64 x.id, .int .i64 x.tags, .slice xa xn xc]] w fun e w' => TwoG w 1 (fun _ => x) (.int .i64 0) e w' := by
  obtain ⟨i0, hi, hz0, hz1, hz2⟩ := itemInfo
  have h : IRow w a n L := ⟨.inl (by omega)⟩
  have K := hide (fun w1 (hb : Below w.heap.size w w1) => sItemsOk_any dim a n cap L w1 (h.below hb) (by omega) (fun i hi => absurd hi (by omega)))
  have J := hide (fun w1 (hb : Below w.heap.size w w1) => l7Item_any dim x xa xn xc w1 (rx.below hb) hxn)
  simp only [h0] at K
  simp only [h1] at J
  have HI := hide hi
  clear hi h h0 h1
  go_enter Try.func36, Try.ntmps36
  go_wp2_with fail
  refine (K.out _ (by repeat' first | with_reducible exact Below.refl _ _ | with_reducible assumption | with_reducible refine below_drewN ?_ _ | with_reducible refine balloc ?_ _ | with_reducible refine Below.drew ?_ | with_reducible refine Below.setCell ?_ (by first | (simp; done) | (simp; omega) | omega) _ | with_reducible refine bstep ?_ (by assumption))).mono ?_
  rintro e w1 ⟨rfl, hb1⟩
  obtain ⟨_, q1, q2, q3, _⟩ := (Tri.new w (.int .i64 x.id) (.int .i64 x.tags) (.slice xa xn xc) 55).below hb1
  go_wp2_with fail
  refine (J.out _ (by repeat' first | with_reducible exact Below.refl _ _ | with_reducible assumption | with_reducible refine below_drewN ?_ _ | with_reducible refine balloc ?_ _ | with_reducible refine Below.drew ?_ | with_reducible refine Below.setCell ?_ (by first | (simp; done) | (simp; omega) | omega) _ | with_reducible refine bstep ?_ (by assumption))).mono ?_
  rintro e w2 ⟨rfl, hb2⟩
  have bw2 : Below w.heap.size w w2 := (by repeat' first | with_reducible exact Below.refl _ _ | with_reducible assumption | with_reducible refine below_drewN ?_ _ | with_reducible refine balloc ?_ _ | with_reducible refine Below.drew ?_ | with_reducible refine Below.setCell ?_ (by first | (simp; done) | (simp; omega) | omega) _ | with_reducible refine bstep ?_ (by assumption))
  have HT2 := hide (((Tri.new w (.int .i64 x.id) (.int .i64 x.tags) (.slice xa xn xc) 55).below hb1).below hb2)
  have HB2 := hide bw2
  clear hb1 hb2 q1 q2 q3 K J
  go_wp2_with fail
  refine wp_loop_rounds 1 ?_
  rw [rounds_succ]
  obtain ⟨X, hX⟩ : ∃ X, w2.alloc (.cells #[] 55) = X := ⟨_, rfl⟩
  have HBX : Hid (Below w2.heap.size w2 X) := hide (hX ▸ balloc (Below.refl _ _) _)
  have HG : Hid (GI X w2.heap.size w2.heap.size 0 0 (fun _ => x) (fun _ => 0) (fun _ => .slice none 0 0)) := hide (hX ▸ GI.new _ _ _ _)
  have RX := hide (fun w1 (h1 : Below X.heap.size X w1) => (l7Copy_any x xa xn xc w1 ((rx.below (bstep bw2 HBX.out)).below h1) hxn).mono fun e w' h => h.from h1)
  obtain ⟨_, q1, q2, q3, _⟩ := HT2.out.below HBX.out
  rw [hX]
  clear bw2 hX rx
  go_wp2_with fail
  refine (RX.out _ (by repeat' first | with_reducible exact Below.refl _ _ | with_reducible assumption | with_reducible refine below_drewN ?_ _ | with_reducible refine balloc ?_ _ | with_reducible refine Below.drew ?_ | with_reducible refine Below.setCell ?_ (by first | (simp; done) | (simp; omega) | omega) _ | with_reducible refine bstep ?_ (by assumption))).mono ?_
  rintro e w1s ⟨vs, gvs, rfl, hvs, hbs⟩
  have HVs := hide hvs
  obtain ⟨a1s, c3s, rfl, _⟩ := hvs
  have howns := hide ((HG.out.below hbs).own.alloc (.cells #[.int .i64 x.id, .int .i64 x.tags, .slice a1s x.vec.length c3s] 55))
  have hss := hbs.size
  have hXs := HBX.out.size
  go_wp2_with (at_builtin; refine wpList_append_lies _ rfl _ _ 24 rfl w2.heap.size 55 i0 _ 3 40 Try.underlying24 HI.out hz0 hz1 hz2 rfl (by decide) _ _ _ rfl howns.out ⟨_, 0, none⟩ 1 1 [.int .i64 x.id, .int .i64 x.tags, .slice a1s x.vec.length c3s] rfl rfl (three_new _ _ _ _ _) (three_one _ _ _ _ _) (by omega) (by unfold maxLen; omega) (by omega) (by simp; omega) _ rfl ?_)
  intro g5s c5s w5s hown5 hgrow hat5 hglt
  have HGs := hide (HG.out.next (by omega) hbs x rfl _ gvs HVs.out (balloc (Below.refl _ _) _) hown5 hgrow (by rcases hat5 with h | h; exact .inl h; exact .inr (by simp [h])))
  have HBs : Hid (Below w2.heap.size w2 w5s) := hide ((balloc (bstep HBX.out hbs) (.cells #[.int .i64 x.id, .int .i64 x.tags, .slice a1s x.vec.length c3s] 55)).grown hgrow (by simp; omega) fun k' hk' => (howns.out.lt k' hk').1)
  clear hown5 hgrow hat5 howns hbs hglt
  go_wp2_with fail
  go_ret2
  exact ⟨_, rfl, .inr ⟨g5s, c5s, _, _, rfl, HGs.out.low HB2.out.size⟩, bstep HB2.out HBs.out⟩

/-- The answer of ItemPut. -/
def PutR (w : World) (dim : Int) (n : Nat) (L : IL) (x : It) (e : Ending) (w' : World) : Prop := TwoR w (putT dim n L x) (putA n L x) (.int .i64 (putC dim n L x)) e w'

theorem TwoR.less {w : World} {m : Nat} {N M : IL} {u : Value} {e : Ending} {w' : World} (h : TwoR w m N u e w') (he : ∀ i, i < m → N i = M i) : TwoR w m M u e w' := by
  obtain ⟨a, cap, g, V, sv, h1, hi, hb⟩ := h
  refine ⟨a, cap, g, V, sv, h1, ⟨?_, fun i hi' => by rw [← he i hi']; exact hi.vec i hi', fun i hi' h0 => ?_⟩, hb⟩
  · rcases hi.arr with h0 | ⟨h1, h2, h3, ha⟩
    · exact .inl h0
    · exact .inr ⟨h1, h2, h3, ha.congr fun j hj => by unfold icell; rw [he (j / 3) (by omega)]⟩
  · rw [← he i hi'] at h0
    obtain ⟨s1, s2⟩ := hi.sep i hi' h0
    exact ⟨s1, fun j hj hne hj0 => s2 j hj hne (by rw [he j hj]; exact hj0)⟩

def PutG (w : World) (dim : Int) (n : Nat) (L : IL) (x : It) (e : Ending) (w' : World) : Prop := TwoG w (putT dim n L x) (putA n L x) (.int .i64 (putC dim n L x)) e w'
theorem sItemPut_anyG (dim : Int) (a : Option Addr) (n cap : Nat) (L : IL) (x : It) (xa : Option Addr) (xn xc : Nat) (w : World) (h : IRow w a n L) (hn : n ≤ 1048576) (hv : ∀ i, i < n → (L i).vec.length ≤ 1048576) (rx : Row w xa xn x.vec) (hxn : xn ≤ 1048576) :
    Calls Try.prog 36 #[.int .i64 dim, .slice a n cap, .agg #[.int .i64 x.id, .int .i64 x.tags, .slice xa xn xc]] w fun e w' => PutG w dim n L x e w' := by
  unfold PutG putT putC
  cases hok : putOk dim n L x
  · exact sItemPut_no dim a n cap L x xa xn xc w h hn hv rx hxn hok _
  · have hok' := hok
    unfold putOk at hok'
    simp only [Bool.and_eq_true] at hok'
    rcases h.lies with h0 | ⟨b, off, rfl, lt, hc⟩
    · subst h0
      have e1 : putM 0 L x = 1 := by simp [putM, isAt]
      simp only [if_true, e1]
      refine (sItemPut_zero dim a 0 cap L x xa xn xc w (by omega) rx hxn hok'.1 hok'.2).mono fun e w' h => h.less fun i hi => ?_
      obtain rfl : i = 0 := by omega
      exact putI_at.symm
    · have hp := plc_is (id := x.id) (itemsB_le hok'.1)
      exact sItemPut_loop dim b off n cap L x xa xn xc w (itemsB_n hok'.1) hv lt hc rx hxn hok'.1 hok'.2 (plc L x.id n) (isAt n L x.id) hp rfl
theorem sItemPut_any (dim : Int) (a : Option Addr) (n cap : Nat) (L : IL) (x : It) (xa : Option Addr) (xn xc : Nat) (w : World) (h : IRow w a n L) (hn : n ≤ 1048576) (hv : ∀ i, i < n → (L i).vec.length ≤ 1048576) (rx : Row w xa xn x.vec) (hxn : xn ≤ 1048576) :
    Calls Try.prog 36 #[.int .i64 dim, .slice a n cap, .agg #[.int .i64 x.id, .int .i64 x.tags, .slice xa xn xc]] w fun e w' => PutR w dim n L x e w' :=
  (sItemPut_anyG dim a n cap L x xa xn xc w h hn hv rx hxn).mono fun _ _ h => h.two
end Go.Proofs.Ytmbncafbbpcmbaa

/- The reader of drawn bytes: items. -/
namespace Go.Proofs.Ytmbncafbbpcmbaa
open Go.RowKit
set_option maxRecDepth 8000
set_option linter.unusedSimpArgs false
set_option linter.unusedVariables false

theorem VSl.but {rb : Nat} {w w' : World} {B C : Nat} {v : Value} {xs : List Int} {b : Nat} (h : VSl w B C v xs b) (hb : But rb w w') (hr : rb < B) : VSl w' B C v xs b :=
  h.keep fun k h1 _ lt => hb.block k lt (by omega)
theorem GI.but {rb : Nat} {w w' : World} {base g cap m : Nat} {M : IL} {V : Nat → Nat} {sv : Nat → Value} (h : GI w base g cap m M V sv) (hb : But rb w w') (hr : rb < base) : GI w' base g cap m M V sv := by
  obtain ⟨h1, cur, hg, h2⟩ := h.shape
  exact ⟨⟨icl_len _ _ _, .inr ⟨g, cap, cur, rfl, h1, (hb.block g h.lt (by omega)).trans hg, h2⟩⟩, fun i hi => ((h.vecs.vec i hi).but hb hr).mono (Nat.le_refl _) hb.size, h.vecs.sep⟩

theorem But.ofLow {g : Nat} {a b : World} (h : Below a.heap.size a b) : But g a b := ⟨h.os, h.tape, h.output, h.size, fun k hk _ => h.block k hk⟩
theorem putM_pos (n : Nat) (L : IL) (x : It) : 1 ≤ putM n L x := by
  unfold putM isAt
  split
  · rename_i h
    simp only [decide_eq_true_eq] at h
    omega
  · omega
theorem itemB_len {dim : Int} {x : It} (h : itemB dim x = true) : (x.vec.length : Int) = dim := by
  unfold itemB at h
  simp only [Bool.and_eq_true, decide_eq_true_eq] at h
  exact h.2
/-- What is put has vectors of that many numbers. -/
theorem put_len {d n : Nat} {L : IL} {x : It} (hL : ∀ j, j < n → (L j).vec.length = d) (hx : x.vec.length = d) (hp : plc L x.id n ≤ n) : ∀ j, j < putM n L x → (putA n L x j).vec.length = d := by
  intro j hj
  unfold putA putI
  unfold putM at hj
  by_cases h1 : j < plc L x.id n
  · rw [if_pos h1]; exact hL j (by omega)
  · rw [if_neg h1]
    by_cases h2 : j = plc L x.id n
    · rw [if_pos h2]; exact hx
    · rw [if_neg h2]
      cases hf : isAt n L x.id
      · rw [hf] at hj
        simp only [Bool.false_eq_true, if_false] at hj ⊢
        exact hL (j - 1) (by omega)
      · rw [hf] at hj
        simp only [if_true] at hj ⊢
        exact hL j hj

/-- Items that are being drawn: all in memory that is younger than w. -/
def DIt (w wr : World) (d : Nat) (v : Value) : Prop :=
  ∃ g cp m M V sv, v = .slice (some ⟨g, 0, none⟩) m cp ∧ GI wr w.heap.size g cp m M V sv ∧ m ≤ 60 ∧ ∀ j, j < m → (M j).vec.length = d
theorem plc_le (L : IL) (id : Int) (n : Nat) : plc L id n ≤ n := by
  induction n with
  | zero => exact Nat.le_refl _
  | succ n ih => unfold plc; split <;> omega

def ItemsPost (B : Nat) (w : World) (rb : Nat) (a : Option Addr) (n c d : Nat) (e : Ending) (w' : World) : Prop :=
  ∃ v, e = .returned v ∧ DIt w w' d v ∧ Rd B w' rb a n c ∧ But rb w w'

set_option maxHeartbeats 4000000 in
set_option maxRecDepth 8000 in
theorem items_any (B rb n c : Nat) (a : Option Addr) (d : Nat) (w : World) (h : Rd B w rb a n c) (hB : B ≤ w.heap.size) (d1 : 1 ≤ d) (hd : d ≤ 8) :
    Calls Try.prog 14 #[.pointer (some ⟨rb, 0, none⟩), .int .i64 d] w fun e w' => ItemsPost B w rb a n c d e w' := by
  have SZ := hide (fun w (h : Rd B w rb a n c) => size_any B rb n c a 9 22 w h (by omega) (by omega) (by omega) (by omega))
  have ON := hide (fun w (h : Rd B w rb a n c) => once_any B rb n c a 40 w h (by omega) (by omega))
  have IT := hide (fun w (h : Rd B w rb a n c) (hB : B ≤ w.heap.size) => item_any B rb n c a d w h hB d1 (by omega))
  have HR := hide h
  have hlt := h.lt
  clear h
  go_enter Try.func14, Try.ntmps14
  go_wp2_with fail
  refine (SZ.out _ (HR.out.alloc _)).mono ?_
  rintro e w1 ⟨k0, rfl, k1, k2, r1, b1⟩
  have PUT := hide (fun (g cp m : Nat) (M : IL) (i t : Int) (f : Nat → Int) (gv cv : Nat) w1 (h : IRow w1 (some ⟨g, 0, none⟩) m M) (hm : m ≤ 60) (hl : ∀ j, j < m → (M j).vec.length = d) (hr : Row w1 (some ⟨gv, 0, none⟩) d (ints f d)) => sItemPut_anyG (d : Int) (some ⟨g, 0, none⟩) m cp M ⟨i, t, ints f d⟩ (some ⟨gv, 0, none⟩) d cv w1 h (by omega) (fun j hj => by rw [hl j hj]; omega) hr (by omega))
  have HB1 := hide (((But.refl rb w).alloc (.cells #[] 55)).trans b1)
  have HD1 : Hid (DIt w w1 d (.slice (some ⟨w.heap.size, 0, none⟩) 0 0)) := hide ⟨w.heap.size, 0, 0, fun _ => ⟨0, 0, []⟩, fun _ => 0, fun _ => .slice none 0 0, rfl, (GI.new w _ _ _).but b1 hlt, by omega, fun j hj => absurd hj (by omega)⟩
  have HR1 := hide r1
  obtain ⟨k, rfl⟩ : ∃ k : Nat, k0 = (k : Int) := ⟨k0.toNat, by omega⟩
  clear b1 r1 SZ HR
  go_wp2_with fail
  go_loopw [5, 6] (fun l i wr => ∃ k : Nat, k ≤ 22 ∧ i = .int .i64 k ∧ DIt w wr d l ∧ Rd B wr rb a n c ∧ But rb w wr) (fun _ i _ => (intOf i).toNat)
  case atStart => exact ⟨k, by omega, rfl, HD1.out, HR1.out, HB1.out⟩
  case round =>
    clear HB1 HD1 HR1
    obtain ⟨k, hk, rfl, ⟨g, cp, m, M, V, sv, rfl, hg, hm, hl⟩, hr, hb⟩ := hrel
    have HG := hide hg
    have HL := hide hl
    have HR := hide hr
    have HB := hide hb
    have hs := hb.size
    clear hg hl hr hb
    by_cases h0 : 0 < k
    · have h0' : (0 : Int) < (k : Int) := by omega
      go_wp2_with fail
      refine (IT.out _ HR.out (by omega)).mono ?_
      rintro e w2 ⟨i, t, gv, cv, f, rfl, o2, r2, b2⟩
      obtain ⟨a', c', e', row, _⟩ := row_of_owns o2
      cases e'
      have HG2 := hide (HG.out.but b2 hlt)
      have HR2 := hide r2
      have HB2 := hide (HB.out.trans b2)
      have s2 := b2.size
      clear o2 r2 b2 HG HR HB
      go_wp2_with fail
      refine (PUT.out g cp m M i t f gv cv w2 HG2.out.its.irow hm HL.out row).mono ?_
      rintro e w3 ⟨v3, rfl, hv3, b3⟩
      have HR3 := hide (HR2.out.stays b3)
      have HB3 := hide (HB2.out.trans (But.ofLow b3))
      obtain ⟨q, hq⟩ : ∃ q, putC d m M ⟨i, t, ints f d⟩ = q := ⟨_, rfl⟩
      rw [hq]
      by_cases hq0 : q = 0
      · subst hq0
        have hok : putOk d m M ⟨i, t, ints f d⟩ = true ∧ putM m M ⟨i, t, ints f d⟩ ≤ 60 := by
          unfold putC at hq
          split at hq
          · rename_i h1
            split at hq
            · rename_i h2; exact ⟨h1, h2⟩
            · omega
          · omega
        have hT : putT d m M ⟨i, t, ints f d⟩ = putM m M ⟨i, t, ints f d⟩ := by unfold putT; rw [hok.1, if_pos rfl, if_pos hok.2]
        have hpos := putM_pos m M ⟨i, t, ints f d⟩
        have HD : Hid (DIt w w3 d v3) := by
          rcases hv3 with ⟨_, h0⟩ | ⟨g3, c3, V3, s3, rfl, hg3⟩
          · omega
          · rw [hT] at hg3 ⊢
            exact hide ⟨g3, c3, _, _, V3, s3, rfl, hg3.low (by omega), hok.2, put_len HL.out (ints_len f d) (plc_le _ _ _)⟩
        clear hv3 hq hok hT hpos HG2 HL b3 HR2 HB2 PUT IT row
        go_wp2_with fail
        go_roundw
        case rel => exact ⟨k - 1, by omega, by go_num, HD.out, HR3.out, HB3.out⟩
        case measure => simp [intOf]; omega
      · have hqb : (q == 0) = false := by simp [hq0]
        have HD : Hid (DIt w w3 d (.slice (some ⟨g, 0, none⟩) m cp)) := hide ⟨g, cp, m, M, V, sv, rfl, HG2.out.below b3, hm, HL.out⟩
        clear hv3 hq HG2 HL b3 HR2 HB2 PUT IT row
        go_wp2_with fail
        go_roundw
        case rel => exact ⟨k - 1, by omega, by go_num, HD.out, HR3.out, HB3.out⟩
        case measure => simp [intOf]; omega
    · obtain rfl : k = 0 := by omega
      go_wp2_with fail
      refine (ON.out _ HR.out).mono ?_
      rintro e w2 ⟨o, rfl, r2, b2⟩
      have HG2 := hide (HG.out.but b2 hlt)
      have HR2 := hide r2
      have HB2 := hide (HB.out.trans b2)
      clear r2 b2 HG HR HB
      cases o
      · go_wp2_with fail
        go_ret
        exact ⟨_, rfl, ⟨g, cp, m, M, V, sv, rfl, HG2.out, hm, HL.out⟩, HR2.out, HB2.out⟩
      · go_wp2_with fail
        go_loopw [5, 9] (fun l i wr => ∃ k : Nat, 100 ≤ k ∧ k ≤ 170 ∧ i = .int .i64 k ∧ DIt w wr d l ∧ Rd B wr rb a n c ∧ But rb w wr) (fun _ i _ => 170 - (intOf i).toNat)
        case atStart => exact ⟨100, by omega, by omega, rfl, ⟨g, cp, m, M, V, sv, rfl, HG2.out, hm, HL.out⟩, HR2.out, HB2.out⟩
        case round =>
          clear HG2 HL HR2 HB2
          obtain ⟨k, hk0, hk, rfl, ⟨g, cp, m, M, V, sv, rfl, hg, hm, hl⟩, hr, hb⟩ := hrel
          have HG := hide hg
          have HL := hide hl
          have HR := hide hr
          have HB := hide hb
          have hs := hb.size
          obtain ⟨p, hp, hblk⟩ := hr.blk
          have c0 := rd_cell0 hblk
          clear hg hl hr hb hblk
          by_cases h1 : k < 170
          · have h1' : decide ((k : Int) < 170) = true := by simp; omega
            have n0 : 0 ≤ (n : Int) % 2 := Int.emod_nonneg _ (by omega)
            have n1 : (n : Int) % 2 < 2 := Int.emod_lt_of_pos _ (by omega)
            by_cases h2 : (m : Int) < 59 + (n : Int) % 2
            · obtain ⟨i0, hi, hz0, hz1, hz2⟩ := itemInfo
              have hmk := run_make_row' (P := Try.prog) 25 2 (.int .i64 0) 8 Try.underlying25 Try.infoI64 rfl .i64 .i64 d (by omega) (by omega) wr
              obtain ⟨W, hW⟩ : ∃ W, wr.alloc (.cells (madeCells #[.int .i64 0] d) 2) = W := ⟨_, rfl⟩
              have sW : W.heap.size = wr.heap.size + 1 := by rw [← hW]; simp
              have bW : Below wr.heap.size wr W := hW ▸ balloc (Below.refl _ _) _
              have vW : VSl W wr.heap.size W.heap.size (.slice (some ⟨wr.heap.size, 0, none⟩) d d) (ints (fun _ => 0) d) wr.heap.size := by
                refine ⟨_, d, by rw [ints_len], .inr ⟨rfl, Nat.le_refl _, by omega, ?_⟩⟩
                rw [ints_len]
                obtain ⟨cs, hc, hsz, hv⟩ := World.rowIs_made wr (.int .i64 0) d 2
                rw [hW] at hc
                exact ⟨cs, hc, hsz, Nat.le_refl _, .inr rfl, fun j hj => by rw [hv j hj]; simp [intF, nth_ints _ _ _ hj]⟩
              have howns := hide ((HG.out.below bW).own.alloc (.cells #[.int .i64 k, .int .i64 0, .slice (some ⟨wr.heap.size, 0, none⟩) d d] 55))
              rw [hW] at hmk
              have HW := hide hW
              have VW := hide vW
              have BW := hide bW
              have SW := hide sW
              clear hW vW bW sW
              go_wp2_with (at_builtin; refine wpList_append_lies _ rfl _ _ 24 rfl w.heap.size 55 i0 _ 3 40 Try.underlying24 hi hz0 hz1 hz2 rfl (by decide) _ _ _ rfl howns.out ⟨_, 0, none⟩ 1 1 [.int .i64 k, .int .i64 0, .slice (some ⟨wr.heap.size, 0, none⟩) d d] rfl rfl (three_new _ _ _ _ _) (three_one _ _ _ _ _) (by omega) (by unfold maxLen; omega) (by omega) (by have := SW.out; simp; omega) _ rfl ?_)
              intro g5 c5 w5 hown5 hgrow hat5 hglt
              have sW := SW.out
              have HG5 := hide (HG.out.step hs BW.out ⟨k, 0, ints (fun _ => 0) d⟩ _ _ VW.out (balloc (Below.refl _ _) _) hown5 hgrow (by rcases hat5 with h | h; exact .inl h; exact .inr (by simp [h])))
              have HR5 := hide ((HR.out.stays BW.out).app hlt hB (HG.out.below BW.out).own hgrow)
              have HB5 := hide (but_app (HB.out.trans (But.ofLow BW.out)) (HG.out.below BW.out).own hgrow)
              have HL5 : Hid (∀ j, j < m + 1 → ((M.put m ⟨k, 0, ints (fun _ => 0) d⟩) j).vec.length = d) := hide (by
                intro j hj
                by_cases e : j = m
                · subst e; rw [IL.put_at]; exact ints_len _ _
                · rw [IL.put_off _ _ e]; exact HL.out j (by omega))
              clear hown5 hgrow hat5 hglt howns HG HR HB HL BW VW HW SW hmk
              go_wp2_with fail
              go_roundw
              case rel => exact ⟨k + 1, by omega, by omega, by go_num, ⟨g5, c5, m + 1, _, _, _, rfl, HG5.out, by omega, HL5.out⟩, HR5.out, HB5.out⟩
              case measure => simp [intOf]; omega
            · go_wp2_with fail
              go_ret
              exact ⟨_, rfl, ⟨g, cp, m, M, V, sv, rfl, HG.out, hm, HL.out⟩, HR.out, HB.out⟩
          · have h1' : decide ((k : Int) < 170) = false := by simp; omega
            go_wp2_with fail
            go_ret
            exact ⟨_, rfl, ⟨g, cp, m, M, V, sv, rfl, HG.out, hm, HL.out⟩, HR.out, HB.out⟩
end Go.Proofs.Ytmbncafbbpcmbaa

/- The reader of drawn bytes: hurtItems; drawn items. -/
namespace Go.Proofs.Ytmbncafbbpcmbaa
open Go.RowKit
set_option maxRecDepth 8000
set_option linter.unusedSimpArgs false
set_option linter.unusedVariables false

/-- Items that are read, all at base or behind. -/
structure IHi (w : World) (base g n : Nat) (L : IL) : Prop where
  lo : base ≤ g
  lt : g < w.heap.size
  at_ : ∀ i, i < n → w.cell? ⟨g, i * 3, none⟩ = some (.int .i64 (L i).id) ∧ w.cell? ⟨g, i * 3 + 1, none⟩ = some (.int .i64 (L i).tags) ∧ ∃ a m c, w.cell? ⟨g, i * 3 + 2, none⟩ = some (.slice a m c) ∧ Row w a m (L i).vec ∧ ∀ b off, a = some ⟨b, off, none⟩ → base ≤ b
theorem IHi.iat {w : World} {base g n : Nat} {L : IL} (h : IHi w base g n L) : ∀ i, i < n → IAt w g (0 + i * 3) (L i) := by
  intro i hi
  obtain ⟨c0, c1, a, m, c, c2, hr, _⟩ := h.at_ i hi
  rw [Nat.zero_add]
  exact ⟨c0, c1, a, m, c, c2, hr⟩
theorem IHi.irow {w : World} {base g n : Nat} {L : IL} (h : IHi w base g n L) : IRow w (some ⟨g, 0, none⟩) n L := ⟨.inr ⟨g, 0, rfl, h.lt, h.iat⟩⟩
theorem IHi.but {rb : Nat} {w w' : World} {base g n : Nat} {L : IL} (h : IHi w base g n L) (hb : But rb w w') (hr : rb < base) : IHi w' base g n L := by
  have hne : g ≠ rb := by have := h.lo; omega
  refine ⟨h.lo, Nat.lt_of_lt_of_le h.lt hb.size, fun i hi => ?_⟩
  obtain ⟨c0, c1, a, m, c, c2, hrow, ha⟩ := h.at_ i hi
  exact ⟨(hb.cell (p := ⟨g, i * 3, none⟩) h.lt hne).trans c0, (hb.cell (p := ⟨g, i * 3 + 1, none⟩) h.lt hne).trans c1, a, m, c, (hb.cell (p := ⟨g, i * 3 + 2, none⟩) h.lt hne).trans c2, hb.row hrow (fun b off e => by have := ha b off e; omega), ha⟩
theorem IHi.below {w w' : World} {base g n : Nat} {L : IL} (h : IHi w base g n L) (hb : Below w.heap.size w w') : IHi w' base g n L := by
  refine ⟨h.lo, Nat.lt_of_lt_of_le h.lt hb.size, fun i hi => ?_⟩
  obtain ⟨c0, c1, a, m, c, c2, hrow, ha⟩ := h.at_ i hi
  exact ⟨(hb.cell (p := ⟨g, i * 3, none⟩) h.lt).trans c0, (hb.cell (p := ⟨g, i * 3 + 1, none⟩) h.lt).trans c1, a, m, c, (hb.cell (p := ⟨g, i * 3 + 2, none⟩) h.lt).trans c2, hrow.below hb, ha⟩

theorem VSl.hi {w : World} {B C : Nat} {v : Value} {xs : List Int} {b : Nat} (h : VSl w B C v xs b) (h0 : xs.length ≠ 0) : ∃ c, v = .slice (some ⟨b, 0, none⟩) xs.length c ∧ ArrC w b xs.length (intF xs) c ∧ B ≤ b := by
  obtain ⟨a, c, e, h1 | ⟨rfl, k1, k2, ha⟩⟩ := h
  · exact absurd h1 h0
  · exact ⟨c, e, ha, k1⟩
theorem own_hi {w : World} {base g n cap : Nat} {M : IL} {sv : Nat → Value} (hown : w.ownsRow base 55 3 (.slice (some ⟨g, 0, none⟩) n cap) n (icl M sv n)) (hg : base ≤ g) (hlt : g < w.heap.size)
    (hv : ∀ i, i < n → ∃ a m c, sv i = .slice a m c ∧ Row w a m (M i).vec ∧ ∀ b off, a = some ⟨b, off, none⟩ → base ≤ b) : IHi w base g n M := by
  refine ⟨hg, hlt, fun i hi => ?_⟩
  obtain ⟨a, m, c, e, hr, ha⟩ := hv i hi
  have c0 := hown.cellAt (i * 3) (by omega)
  have c1 := hown.cellAt (i * 3 + 1) (by omega)
  have c2 := hown.cellAt (i * 3 + 2) (by omega)
  rw [icl_at M sv (by omega)] at c0 c1 c2
  rw [icell_0] at c0
  rw [icell_1] at c1
  rw [icell_2, e] at c2
  exact ⟨c0, c1, a, m, c, c2, hr, ha⟩
theorem Vecs.hi {w : World} {B k : Nat} {M : IL} {V : Nat → Nat} {sv : Nat → Value} {g : Nat} (h : Vecs w B k M V sv g) {d : Nat} (d1 : 1 ≤ d) (hl : ∀ j, j < k → (M j).vec.length = d) (i : Nat) (hi : i < k) : ∃ a m c, sv i = .slice a m c ∧ Row w a m (M i).vec ∧ ∀ b off, a = some ⟨b, off, none⟩ → B ≤ b := by
  obtain ⟨c, e, ha, hb⟩ := (h.vec i hi).hi (by rw [hl i hi]; omega)
  exact ⟨_, _, c, e, ha.row, fun b off e => by cases e; exact hb⟩
theorem GI.hi {w : World} {base g cap m : Nat} {M : IL} {V : Nat → Nat} {sv : Nat → Value} (h : GI w base g cap m M V sv) {d : Nat} (d1 : 1 ≤ d) (hl : ∀ j, j < m → (M j).vec.length = d) : IHi w base g m M :=
  own_hi h.own h.shape.1 h.lt (h.vecs.hi d1 hl)
theorem ArrC.owns {w : World} {b : Nat} {xs : List Int} {cap base : Nat} (h : ArrC w b xs.length (intF xs) cap) (hb : base ≤ b) (hl : xs.length ≤ 1000) : w.ownsRow base 2 1 (.slice (some ⟨b, 0, none⟩) xs.length cap) xs.length (vals (nth xs) xs.length) := by
  obtain ⟨cur, hc, hs, hm, hcap, hv⟩ := h
  refine ⟨by simp [vals_len], .inr ⟨b, cap, cur, rfl, hb, hc, hm, ?_, by omega, ?_⟩⟩
  · rcases hcap with h | h
    · exact h
    · unfold maxLen; omega
  · refine List.ext_getElem? fun i => ?_
    by_cases hi : i < xs.length
    · rw [List.getElem?_take_of_lt (by omega), Array.getElem?_toList, hv i hi]; simp [vals, hi, intF]
    · rw [List.getElem?_eq_none (by simp; omega), List.getElem?_eq_none (by rw [vals_len]; omega)]

/-- Drawn items, right or not. -/
def DItems (base : Nat) (w' : World) (v : Value) : Prop :=
  ∃ g n cap L, v = .slice (some ⟨g, 0, none⟩) n cap ∧ n ≤ cap ∧ n ≤ 61 ∧ IHi w' base g n L ∧ ∀ i, i < n → (L i).vec.length ≤ 200
def HurtIsPost (B : Nat) (w0 : World) (rb : Nat) (a : Option Addr) (n c : Nat) (e : Ending) (w' : World) : Prop :=
  ∃ v, e = .returned v ∧ DItems w0.heap.size w' v ∧ Rd B w' rb a n c ∧ But rb w0 w'

/-- Of what was there nothing has turned but three blocks. -/
def KpI (rb g v m : Nat) (w w' : World) : Prop := ∀ k, k < w.heap.size → k ≠ rb → k ≠ g → (0 < m → k ≠ v) → w'.heap[k]? = w.heap[k]?

set_option maxHeartbeats 4000000 in
set_option maxRecDepth 8000 in
theorem hurtItems2_any (B rb n c : Nat) (a : Option Addr) (d g cp m : Nat) (M : IL) (V : Nat → Nat) (sv : Nat → Value) (w0 w : World) (h : Rd B w rb a n c) (hB : B ≤ w0.heap.size) (hrb : rb < w0.heap.size) (hb : But rb w0 w) (d1 : 1 ≤ d) (d2 : d ≤ 8) (hg : GI w w0.heap.size g cp m M V sv) (hm : m ≤ 60) (hl : ∀ j, j < m → (M j).vec.length = d) :
    Calls Try.prog 20 #[.pointer (some ⟨rb, 0, none⟩), .slice (some ⟨g, 0, none⟩) m cp] w fun e w' => HurtIsPost B w0 rb a n c e w' ∧ KpI rb g (V 0) m w w' := by
  have N := hide (fun w (h : Rd B w rb a n c) => below_any B rb n c a 24 w h (by omega) (by omega))
  have HG := hide hg
  have HL := hide hl
  have HB := hide hb
  have HR := hide h
  have s0 := hb.size
  obtain ⟨g0, cur, _, hcp, _⟩ := hg.shape
  by_cases hm0 : 0 < m
  · have hm0' : (0 : Int) < (m : Int) := by omega
    clear hg hl hb h
    go_enter Try.func20, Try.ntmps20
    go_wp2_with fail
    refine (N.out _ HR.out).mono ?_
    rintro e w1 ⟨x, rfl, x0, x1, r1, b1⟩
    have HG1 := hide (HG.out.but b1 hrb)
    have HR1 := hide r1
    have HB1 := hide (HB.out.trans b1)
    have KB1 := hide b1
    have s1 := b1.size
    clear r1 b1 HG HR HB N
    have hd0 := HL.out 0 hm0
    obtain ⟨vc, ev, ha0, hlo0⟩ := (HG1.out.vecs.vec 0 hm0).hi (by rw [hd0]; omega)
    have own0 := ha0.owns hlo0 (by rw [hd0]; omega)
    rw [hd0] at ev own0
    have k0 := HG1.out.arr.cell (j := 0) (by omega)
    have k1 := HG1.out.arr.cell (j := 1) (by omega)
    have k2 := HG1.out.arr.cell (j := 2) (by omega)
    have q0 := icell_0 M sv 0
    have q1 := icell_1 M sv 0
    have q2 := icell_2 M sv 0
    simp only [Nat.zero_mul, Nat.zero_add] at q0 q1 q2
    rw [q0] at k0
    rw [q1] at k1
    rw [q2, ev] at k2
    have EV := hide ev
    have HA0 := hide ha0
    have OW := hide own0
    clear q0 q1 q2 ev ha0 own0
    by_cases e0 : x = 0
    · have z0 : (x == 0) = true := by simp [e0]
      have HI := hide (hurtItem_any B rb n c a (M 0).id (M 0).tags d vc (V 0) (nth (M 0).vec) w0 w1 HR1.out hB hrb HB1.out d1 (by omega) OW.out)
      go_wp2_with fail
      refine HI.out.mono ?_
      rintro e w2 ⟨i2, t2, v2, d2', f2, rfl, hd2, o2, r2, b2, kp2⟩
      obtain ⟨a2, c2, rfl, _, _⟩ := row_of_owns o2
      have hsep := HG1.out.vecs.sep 0 hm0 (by rw [hd0]; omega)
      have hgb := kp2.2 g HG1.out.lt (by omega) (Ne.symm hsep.1)
      have arr2 := HG1.out.arr.block hgb
      have isb : IsBlk w2 g := by
        obtain ⟨_, cur, hc, _⟩ := HG1.out.shape
        exact ⟨cur, _, hgb.trans hc⟩
      have j0 := (arr2.cell (j := 0) (by omega))
      have j1 := (arr2.cell (j := 1) (by omega))
      have j2 := (arr2.cell (j := 2) (by omega))
      have f0 := arr2.froz 0
      have f1 := arr2.froz 1
      have f2' := arr2.froz 2
      have q0 := icell_0 M sv 0
      have q1 := icell_1 M sv 0
      have q2 := icell_2 M sv 0
      simp only [Nat.zero_mul, Nat.zero_add] at q0 q1 q2
      rw [q0] at j0
      rw [q1] at j1
      rw [q2, EV.out] at j2
      have DONE : Hid (HurtIsPost B w0 rb a n c (.returned (.slice (some ⟨g, 0, none⟩) m cp)) (((w2.setCell ⟨g, 0, none⟩ (.int .i64 i2)).setCell ⟨g, 1, none⟩ (.int .i64 t2)).setCell ⟨g, 2, none⟩ (.slice a2 d2' c2)) ∧ KpI rb g (V 0) m w (((w2.setCell ⟨g, 0, none⟩ (.int .i64 i2)).setCell ⟨g, 1, none⟩ (.int .i64 t2)).setCell ⟨g, 2, none⟩ (.slice a2 d2' c2))) := hide (by
        have arr3 := ((arr2.set 0 (.int .i64 i2)).set 1 (.int .i64 t2)).set 2 (.slice a2 d2' c2)
        have o3 := owns_item (owns_item (owns_item o2 isb 0 (.int .i64 i2)) (isb.set ⟨g, 0, none⟩ _) 1 (.int .i64 t2)) ((isb.set ⟨g, 0, none⟩ (.int .i64 i2)).set ⟨g, 1, none⟩ (.int .i64 t2)) 2 (.slice a2 d2' c2)
        obtain ⟨a3, c3, e3, row3, lo3⟩ := row_of_owns o3
        cases e3
        have bg : But g w2 (((w2.setCell ⟨g, 0, none⟩ (.int .i64 i2)).setCell ⟨g, 1, none⟩ (.int .i64 t2)).setCell ⟨g, 2, none⟩ (.slice a2 d2' c2)) := (((But.refl g w2).setCell 0 _).setCell 1 _).setCell 2 _
        refine ⟨⟨_, rfl, ⟨g, m, cp, M.put 0 ⟨i2, t2, ints f2 d2'⟩, rfl, hcp, by omega, ⟨g0, arr3.lt, fun i hi => ?_⟩, fun i hi => ?_⟩, r2.but bg (by omega) (by omega), but_far (but_far (but_far b2 g0 _ _) g0 _ _) g0 _ _⟩, fun k hk h1 h2 h3 => ?_⟩
        · have c0 := arr3.cell (j := i * 3) (by omega)
          have c1 := arr3.cell (j := i * 3 + 1) (by omega)
          have c2 := arr3.cell (j := i * 3 + 2) (by omega)
          by_cases hi0 : i = 0
          · subst hi0
            rw [IL.put_at]
            simp at c0 c1 c2
            exact ⟨by simpa using c0, by simpa using c1, _, _, _, by simpa using c2, row3, lo3⟩
          · rw [IL.put_off _ _ hi0]
            simp only [show i * 3 ≠ 0 by omega, show i * 3 ≠ 1 by omega, show i * 3 ≠ 2 by omega, if_false, icell_0] at c0
            simp only [show i * 3 + 1 ≠ 0 by omega, show i * 3 + 1 ≠ 1 by omega, show i * 3 + 1 ≠ 2 by omega, if_false, icell_1] at c1
            simp only [show i * 3 + 2 ≠ 0 by omega, show i * 3 + 2 ≠ 1 by omega, show i * 3 + 2 ≠ 2 by omega, if_false, icell_2] at c2
            have hdi := HL.out i hi
            obtain ⟨ci, ei, hai, hloi⟩ := (HG1.out.vecs.vec i hi).hi (by rw [hdi]; omega)
            rw [ei] at c2
            have hs2 := hsep.2 i hi hi0 (by rw [hdi]; omega)
            have hs3 := HG1.out.vecs.sep i hi (by rw [hdi]; omega)
            have hb1 := kp2.2 (V i) hai.lt (by omega) hs2
            have hb2 := bg.block (V i) (Nat.lt_of_lt_of_le hai.lt kp2.1) hs3.1
            exact ⟨c0, c1, _, _, _, c2, (hai.block (hb2.trans hb1)).row, fun b off e => by cases e; exact hloi⟩
        · by_cases hi0 : i = 0
          · subst hi0; rw [IL.put_at]; show (ints f2 d2').length ≤ 200; rw [ints_len]; exact hd2
          · rw [IL.put_off _ _ hi0, HL.out i hi]; omega
        · have lt1 := Nat.lt_of_lt_of_le hk KB1.out.size
          exact (bg.block k (Nat.lt_of_lt_of_le lt1 kp2.1) h2).trans ((kp2.2 k lt1 h1 (h3 hm0)).trans (KB1.out.block k hk h1)))
      clear hsep hgb arr2 isb q0 q1 q2 k0 k1 k2 o2 r2 b2 kp2 HI OW HA0 EV HG1 HR1 HB1 HL
      go_wp2_with fail
      go_ret
      exact DONE.out
    · have z0 : (x == 0) = false := by simp [e0]
      by_cases e1 : x = 1
      · have z1 : (x == 1) = true := by simp [e1]
        obtain ⟨i0, hi, hz0, hz1, hz2⟩ := itemInfo
        have howns := hide (HG1.out.own.alloc (.cells #[.int .i64 (M 0).id, .int .i64 (M 0).tags, .slice (some ⟨V 0, 0, none⟩) d vc] 55))
        go_wp2_with (at_builtin; refine wpList_append_lies _ rfl _ _ 24 rfl w0.heap.size 55 i0 _ 3 40 Try.underlying24 hi hz0 hz1 hz2 rfl (by decide) _ _ _ rfl howns.out ⟨_, 0, none⟩ 1 1 [.int .i64 (M 0).id, .int .i64 (M 0).tags, .slice (some ⟨V 0, 0, none⟩) d vc] rfl rfl (three_new _ _ _ _ _) (three_one _ _ _ _ _) (by omega) (by unfold maxLen; omega) (by omega) (by simp; omega) _ rfl ?_)
        intro g5 c5 w5 hown5 hgrow hat5 hglt
        have bA : Below w1.heap.size w1 (w1.alloc (.cells #[.int .i64 (M 0).id, .int .i64 (M 0).tags, .slice (some ⟨V 0, 0, none⟩) d vc] 55)) := balloc (Below.refl _ _) _
        have vecs5 := (HG1.out.vecs.below bA).row hgrow.size fun i hi hne => hgrow.block i hi (by simpa [Value.ownBlock] using hne)
        have r5 := HR1.out.app hrb hB HG1.out.own hgrow
        have b5 := but_app HB1.out HG1.out.own hgrow
        have DONE : Hid (HurtIsPost B w0 rb a n c (.returned (.slice (some ⟨g5, 0, none⟩) (m + 1) c5)) w5 ∧ KpI rb g (V 0) m w w5) := hide (by
          rw [← EV.out, ← icl_put M sv m (M 0) (sv 0)] at hown5
          have hsh : w0.heap.size ≤ g5 ∧ m + 1 ≤ c5 := by
            rcases hown5.2 with ⟨h0, _⟩ | ⟨g', cap', cur', hv', hb', hg', hcap', _⟩
            · cases h0
            · simp only [Value.slice.injEq, Option.some.injEq, Addr.mk.injEq] at hv'
              obtain ⟨⟨rfl, _⟩, _, rfl⟩ := hv'
              exact ⟨hb', hcap'⟩
          refine ⟨⟨_, rfl, ⟨g5, m + 1, c5, M.put m (M 0), rfl, hsh.2, by omega, own_hi hown5 hsh.1 hglt fun i hi => ?_, fun i hi => ?_⟩, r5, b5⟩, fun k hk h1 h2 h3 => ?_⟩
          · by_cases hi0 : i = m
            · subst hi0; rw [IL.put_at, putF_at]; exact vecs5.hi d1 HL.out 0 hm0
            · rw [IL.put_off _ _ hi0, putF_off _ _ hi0]; exact vecs5.hi d1 HL.out i (by omega)
          · by_cases hi0 : i = m
            · subst hi0; rw [IL.put_at, hd0]; omega
            · rw [IL.put_off _ _ hi0, HL.out i (by omega)]; omega
          · have lt1 := Nat.lt_of_lt_of_le hk KB1.out.size
            exact (hgrow.block k (by simp; omega) (by simpa [Value.ownBlock] using h2)).trans ((bA.block k lt1).trans (KB1.out.block k hk h1)))
        clear hown5 hgrow hat5 hglt howns vecs5 r5 b5 bA k0 k1 k2 OW HA0 EV HG1 HR1 HB1 HL
        go_wp2_with fail
        go_ret
        exact DONE.out
      · have z1 : (x == 1) = false := by simp [e1]
        clear k0 k1 k2
        go_wp2_with fail
        go_ret
        exact ⟨⟨_, rfl, ⟨g, m, cp, M, rfl, hcp, by omega, HG1.out.hi d1 HL.out, fun i hi => by rw [HL.out i hi]; omega⟩, HR1.out, HB1.out⟩, fun k hk h1 _ _ => KB1.out.block k hk h1⟩
  · obtain rfl : m = 0 := by omega
    clear hg hl hb h
    go_enter Try.func20, Try.ntmps20
    go_wp2_with fail
    go_ret
    exact ⟨⟨_, rfl, ⟨g, 0, cp, M, rfl, hcp, by omega, HG.out.hi d1 HL.out, fun i hi => absurd hi (by omega)⟩, HR.out, HB.out⟩, fun k hk _ _ _ => rfl⟩
theorem hurtItems_any (B rb n c : Nat) (a : Option Addr) (d : Nat) (v : Value) (w0 w : World) (h : Rd B w rb a n c) (hB : B ≤ w0.heap.size) (hrb : rb < w0.heap.size) (hb : But rb w0 w) (d1 : 1 ≤ d) (d2 : d ≤ 8) (hd : DIt w0 w d v) :
    Calls Try.prog 20 #[.pointer (some ⟨rb, 0, none⟩), v] w fun e w' => HurtIsPost B w0 rb a n c e w' := by
  obtain ⟨g, cp, m, M, V, sv, rfl, hg, hm, hl⟩ := hd
  exact (hurtItems2_any B rb n c a d g cp m M V sv w0 w h hB hrb hb d1 d2 hg hm hl).mono fun _ _ h => h.1
end Go.Proofs.Ytmbncafbbpcmbaa

/- The reader of drawn bytes: about; drawn queries (DrawNearest). -/
namespace Go.Proofs.Ytmbncafbbpcmbaa
open Go.RowKit
set_option maxRecDepth 8000
set_option linter.unusedSimpArgs false
set_option linter.unusedVariables false

theorem natOf {x : Int} (h : 0 ≤ x) : ∃ k : Nat, x = (k : Int) := ⟨x.toNat, by omega⟩
theorem below_lt {k m : Nat} (hm : 0 < m) (h : (k : Int) ≤ max 0 ((m : Int) - 1)) : k < m := by omega
theorem vals_setk (f : Nat → Int) (d k : Nat) (x : Int) (hk : k < d) : (vals f d).set k (.int .i64 x) = vals (fun j => if j = k then x else f j) d := by
  refine List.ext_getElem? fun i => ?_
  by_cases hi : i < d
  · by_cases h0 : i = k
    · subst h0; simp [vals, hi]
    · rw [List.getElem?_set_ne (by omega)]; simp [vals, hi, h0]
  · rw [List.getElem?_eq_none (by simp [vals_len]; omega), List.getElem?_eq_none (by simp [vals_len]; omega)]
theorem DIt.but {rb : Nat} {w w1 w2 : World} {d : Nat} {v : Value} (h : DIt w w1 d v) (hb : But rb w1 w2) (hr : rb < w.heap.size) : DIt w w2 d v := by
  obtain ⟨g, cp, m, M, V, sv, e, hg, hm, hl⟩ := h
  exact ⟨g, cp, m, M, V, sv, e, hg.but hb hr, hm, hl⟩
/-- A row that the call owns, and a row that is read, where the reader's block alone may have turned. -/
structure Ab (w : World) (base gq d cq : Nat) (f : Nat → Int) (va : Option Addr) (vn : Nat) (xs : List Int) : Prop where
  own : w.ownsRow base 2 1 (.slice (some ⟨gq, 0, none⟩) d cq) d (vals f d)
  row : Row w va vn xs

def AboutPost (B : Nat) (w : World) (rb : Nat) (a : Option Addr) (n c d : Nat) (e : Ending) (w' : World) : Prop :=
  ∃ (g k : Nat) (f : Nat → Int), e = .returned (.slice (some ⟨g, 0, none⟩) d k) ∧ w'.ownsRow w.heap.size 2 1 (.slice (some ⟨g, 0, none⟩) d k) d (vals f d) ∧ Rd B w' rb a n c ∧ But rb w w'

set_option maxHeartbeats 4000000 in
set_option maxRecDepth 8000 in
theorem about_any (B rb n c : Nat) (a : Option Addr) (d g m cp : Nat) (M : IL) (V : Nat → Nat) (sv : Nat → Value) (w0 w : World) (h : Rd B w rb a n c) (hB : B ≤ w0.heap.size) (hrb : rb < w0.heap.size) (hw : w0.heap.size ≤ w.heap.size) (d1 : 1 ≤ d) (hd : d ≤ 8) (hg : GI w w0.heap.size g cp m M V sv) (hm : m ≤ 60) (hl : ∀ j, j < m → (M j).vec.length = d) :
    Calls Try.prog 16 #[.pointer (some ⟨rb, 0, none⟩), .int .i64 d, .slice (some ⟨g, 0, none⟩) m cp] w fun e w' => AboutPost B w rb a n c d e w' := by
  have VC := hide (vec_any B rb n c a d w h (by omega) (by omega))
  have HI := hide (hg.hi d1 hl)
  have HL := hide hl
  have rlt := h.lt
  clear h hg hl
  go_enter Try.func16, Try.ntmps16
  go_wp2_with fail
  refine VC.out.mono ?_
  rintro e w1 ⟨v1, f1, rfl, o1, r1, b1⟩
  obtain ⟨gq, cq, rfl, _, _⟩ := o1.form (by omega)
  have HO1 := hide o1
  have HR1 := hide r1
  have HB1 := hide b1
  have s1 := b1.size
  clear o1 r1 b1 VC
  by_cases hm0 : 0 < m
  · have hm0' : (0 : Int) < (m : Int) := by omega
    go_wp2_with fail
    refine (once_any _ _ n c a 2 w1 HR1.out (by omega) (by omega)).mono ?_
    rintro e w2 ⟨o, rfl, r2, b2⟩
    have HO2 := hide (owns_but HO1.out b2 rlt)
    have HR2 := hide r2
    have HB2 := hide (HB1.out.trans b2)
    clear r2 b2 HO1 HR1 HB1
    cases o
    · go_wp2_with fail
      go_ret
      exact ⟨gq, cq, f1, rfl, HO2.out, HR2.out, HB2.out⟩
    · have CH := hide (fun w3 (h : Rd B w3 rb a n c) => below_all B rb n c a m w3 h (by omega))
      go_wp2_with fail
      refine (CH.out _ HR2.out).mono ?_
      rintro e w3 ⟨x, rfl, x0, x1, r3, b3⟩
      obtain ⟨k, rfl⟩ := natOf x0
      have hk := below_lt hm0 x1
      have HO3 := hide (owns_but HO2.out b3 rlt)
      have HR3 := hide r3
      have HB3 := hide (HB2.out.trans b3)
      obtain ⟨_, _, va, vn, vc, k2w, vrw, vlo⟩ := HI.out.at_ k hk
      have k2 := (HB3.out.cell (p := ⟨g, k * 3 + 2, none⟩) HI.out.lt (show g ≠ rb by have := HI.out.lo; omega)).trans k2w
      have vr := HB3.out.row vrw (fun b off e => by have := vlo b off e; omega)
      have VRW := hide vrw
      have hvl : vn = d := by rw [← vr.len]; exact HL.out k hk
      subst hvl
      have AB3 : Hid (Ab w3 w.heap.size gq vn cq f1 va vn (M k).vec) := hide ⟨HO3.out, vr⟩
      have VLO := hide vlo
      clear r3 b3 HO2 HR2 HB2 vr vlo HO3 CH x0 x1 k2w vrw
      go_wp2_with fail
      go_loopw [9] (fun i wr => ∃ (j : Nat) (f : Nat → Int), j ≤ vn ∧ i = .int .i64 j ∧ Ab wr w.heap.size gq vn cq f va vn (M k).vec ∧ Rd B wr rb a n c ∧ But rb w wr) (fun i _ => vn - (intOf i).toNat)
      case atStart => exact ⟨0, f1, Nat.zero_le _, rfl, AB3.out, HR3.out, HB3.out⟩
      case round =>
        clear AB3 HR3 HB3
        obtain ⟨j, f, hj, rfl, hab, hr, hb⟩ := hrel
        have HAB := hide hab
        have HR := hide hr
        have HB := hide hb
        have sr := hb.size
        clear hab hr hb
        by_cases hjn : j < vn
        · have hj' : (j : Int) < (vn : Int) := by omega
          rcases HAB.out.row.lies with hz | ⟨bv, ov, rfl, hbv, hcv⟩
          · omega
          · have cv := hcv j hjn
            have hlo := VLO.out bv ov rfl
            have hbw : bv < w.heap.size := by
              rcases VRW.out.lies with hz | ⟨bv', ov', e', hlt', _⟩
              · omega
              · cases e'; exact hlt'
            have CH := hide (below_any _ _ n c a 5 wr.drew (HR.out.stays (Below.drew (Below.refl _ _))) (by omega) (by omega))
            have YH := hide (fun (W : World) (hW : But rb wr.drew W) => show W.cell? ⟨bv, ov + j, none⟩ = some (.int .i64 (nth (M k).vec j)) ∧ W.cell? ⟨gq, j, none⟩ = some (.int .i64 (f j)) ∧ W.frozen? ⟨gq, j, none⟩ = false from by
              have own := owns_but (w := w) (wr := wr.drew) ⟨HAB.out.own.1, HAB.out.own.2⟩ hW (by omega)
              refine ⟨(hW.cell (p := ⟨bv, ov + j, none⟩) hbv (show bv ≠ rb by omega)).trans cv, ?_, own.frozenAt j⟩
              rw [own.cellAt j (by omega)]; simp [vals, hjn])
            have DONE := hide (fun (W : World) (hr4 : Rd B W rb a n c) (hW : But rb wr.drew W) (z : Int) => show Ab (W.setCell ⟨gq, j, none⟩ (.int .i64 z)) w.heap.size gq vn cq (fun i => if i = j then z else f i) (some ⟨bv, ov, none⟩) vn (M k).vec ∧ Rd B (W.setCell ⟨gq, j, none⟩ (.int .i64 z)) rb a n c ∧ But rb w (W.setCell ⟨gq, j, none⟩ (.int .i64 z)) from by
              have own := owns_but (w := w) (wr := wr.drew) ⟨HAB.out.own.1, HAB.out.own.2⟩ hW (by omega)
              have glt := own.lt gq rfl
              have ST := own.stored j (.int .i64 z)
              rw [vals_setk f vn j z hjn] at ST
              have bw := HB.out.drew.trans hW
              refine ⟨⟨ST.1, ?_⟩, hr4.but ((But.refl gq W).setCell j _) (by omega) (by omega), but_far bw glt.1 j _⟩
              exact (But.setCell (But.refl gq W) j (.int .i64 z)).row (hW.row (Row.below HAB.out.row (Below.drew (Below.refl _ _))) (fun b off e => by cases e; omega)) (fun b off e => by cases e; omega))
            clear HAB HR HB
            go_wp2_with fail
            go_region_with (go_at_call 13; refine CH.out.mono ?_; rintro e w4 ⟨x, rfl, x0, x1, hr4, hb4⟩; obtain ⟨y1, y2, y3⟩ := YH.out _ hb4)
            all_goals
              have DD := hide (DONE.out w4 hr4 hb4)
              clear hr4 hb4 y1 y2 y3
              go_wp2_with fail
              go_roundw
              case rel => exact ⟨j + 1, _, by omega, by go_num, (DD.out _).1, (DD.out _).2.1, (DD.out _).2.2⟩
              case measure => simp [intOf]; omega
        · obtain rfl : j = vn := by omega
          go_wp2_with fail
          go_ret
          exact ⟨gq, cq, f, rfl, HAB.out.own, HR.out, HB.out⟩
  · obtain rfl : m = 0 := by omega
    go_wp2_with fail
    go_ret
    exact ⟨gq, cq, f1, rfl, HO1.out, HR1.out, HB1.out⟩
end Go.Proofs.Ytmbncafbbpcmbaa

/- Drawn queries: DrawNearest. -/
namespace Go.Proofs.Ytmbncafbbpcmbaa
open Go.RowKit
set_option maxRecDepth 8000
set_option linter.unusedSimpArgs false
set_option linter.unusedVariables false

/-- Items in new memory. -/
structure NIq (w w' : World) (g n cap : Nat) (L : IL) : Prop where
  cap_ : n ≤ cap
  few : n ≤ 61
  hi : IHi w' w.heap.size g n L
  len : ∀ i, i < n → (L i).vec.length ≤ 200
  low : Below w.heap.size w w'
theorem IHi.lowq {w : World} {base base' g n : Nat} {L : IL} (h : IHi w base g n L) (hb : base' ≤ base) : IHi w base' g n L :=
  ⟨Nat.le_trans hb h.lo, h.lt, fun i hi => by
    obtain ⟨c0, c1, a', m', c', c2, hr, hlo⟩ := h.at_ i hi
    exact ⟨c0, c1, a', m', c', c2, hr, fun b off e => Nat.le_trans hb (hlo b off e)⟩⟩
/-- The answer of DrawNearest. -/
def DrawQ (w : World) (e : Ending) (w' : World) : Prop :=
  ∃ (dim : Int) (g n cap : Nat) (L : IL) (qa : Option Addr) (qc : Nat) (qs : List Int) (k mask : Int), e = .returned (.tuple #[.int .i64 dim, .slice (some ⟨g, 0, none⟩) n cap, .slice qa qs.length qc, .int .i64 k, .int .i64 mask]) ∧ NIq w w' g n cap L ∧ Row w' qa qs.length qs ∧ qs.length ≤ 200

set_option maxHeartbeats 8000000 in
theorem drawNearest_any (a : Option Addr) (n c : Nat) (w : World) (h : Code w a n) :
    Calls Try.prog 6 #[.slice a n c] w fun e w' => DrawQ w e w' := by
  have O := hide (open_any a n c w h)
  clear h
  go_enter Try.func6, Try.ntmps6
  go_wp2_with fail
  refine O.out.mono ?_
  rintro e w1 ⟨rfl, hr1, hb1, hs1⟩
  go_wp2_with fail
  refine (below_any _ _ n c a 3 w1 hr1 (by omega) (by omega)).mono ?_
  rintro e w2 ⟨v, rfl, v0, v1, hr2, hb2⟩
  obtain ⟨d, hd⟩ : ∃ d : Nat, 1 + v = (d : Int) := ⟨(1 + v).toNat, by omega⟩
  have s2 := hb2.size
  have rlt : w.heap.size < w2.heap.size := by omega
  go_wp2_with fail
  refine (items_any _ _ n c a d w2 hr2 (by omega) (by omega) (by omega)).mono ?_
  rintro e w3 ⟨v3, rfl, hd3, hr3, hb3⟩
  obtain ⟨g3, cp3, m3, M3, V3, s3, rfl, hg3, hm3, hl3⟩ := hd3
  have s3' := hb3.size
  have B2 : Hid (Below w.heap.size w w2) := hide (hb1.trans (hb2.below (Nat.le_refl _) (by omega)))
  have HG3 := hide hg3
  have HG3L := hide hg3
  have HL3 := hide hl3
  have HR3 := hide hr3
  have HB3 := hide hb3
  clear hg3 hl3 hr3 hb3 hr2 hb2 hr1 hb1 O
  go_wp2_with fail
  refine (about_any _ _ n c a d g3 m3 cp3 M3 V3 s3 w2 w3 HR3.out (by omega) rlt s3' (by omega) (by omega) HG3.out hm3 HL3.out).mono ?_
  rintro e w4 ⟨gq, cq, fq, rfl, o4, r4, b4⟩
  have HO4 := hide o4
  have HR4 := hide r4
  have HB4 := hide b4
  have s4 := b4.size
  clear o4 r4 b4
  go_wp2_with fail
  refine (hurtVec_any _ _ n c a d cq gq fq w3 w4 HR4.out (by omega) (by omega) HB4.out (by omega) (by omega) HO4.out).mono ?_
  rintro e w5 ⟨v5, d5, f5, rfl, hd5, o5, r5, b5⟩
  obtain ⟨a5, c5, rfl, row5, lo5⟩ := row_of_owns o5
  have HQ5 := hide row5
  have LO5 := hide lo5
  have HR5 := hide r5
  have HG5 := hide (HG3.out.but b5 rlt)
  have HB5 := hide (HB3.out.trans b5)
  have s5 := b5.size
  clear o5 r5 b5 row5 lo5 HO4 HR4 HB4 HG3 HB3 HR3
  go_wp2_with fail
  refine (below_any _ _ n c a 6 w5 HR5.out (by omega) (by omega)).mono ?_
  rintro e w6 ⟨v6, rfl, _, _, r6, b6⟩
  have HQ6 := hide (b6.row HQ5.out (fun b off e => by have := LO5.out b off e; omega))
  have HR6 := hide r6
  have HG6 := hide (HG5.out.but b6 rlt)
  have HB6 := hide (HB5.out.trans b6)
  clear r6 b6 HQ5 HR5 HG5 HB5
  go_wp2_with fail
  refine (once_any _ _ n c a 8 w6 HR6.out (by omega) (by omega)).mono ?_
  rintro e w7 ⟨o7, rfl, r7, b7⟩
  have HQ7 := hide (b7.row HQ6.out (fun b off e => by have := LO5.out b off e; omega))
  have HR7 := hide r7
  have HG7 := hide (HG6.out.but b7 rlt)
  have HB7 := hide (HB6.out.trans b7)
  clear r7 b7 HQ6 HR6 HG6 HB6
  have OFF := hide (fun w1 (h : Rd w.heap.size w1 w.heap.size a n c) => off_any w.heap.size w.heap.size n c a 1 20 w1 h (by omega) (by omega) (by omega) (by omega))
  have TAG := hide (fun w1 (h : Rd w.heap.size w1 w.heap.size a n c) => tags_any w.heap.size w.heap.size n c a w1 h)
  have ON2 := hide (fun w1 (h : Rd w.heap.size w1 w.heap.size a n c) => once_any w.heap.size w.heap.size n c a 2 w1 h (by omega) (by omega))
  have HIS := hide (fun w1 (h : Rd w.heap.size w1 w.heap.size a n c) (hb : But w.heap.size w2 w1) (hg : GI w1 w2.heap.size g3 cp3 m3 M3 V3 s3) => hurtItems2_any w.heap.size w.heap.size n c a d g3 cp3 m3 M3 V3 s3 w2 w1 h (by omega) rlt hb (by omega) (by omega) hg hm3 HL3.out)
  have FIN := hide (fun (k mask : Int) (w8 W : World) (g n' cap : Nat) (L : IL) (hg8 : GI w8 w2.heap.size g3 cp3 m3 M3 V3 s3) (hq : Row w8 a5 d5 (ints f5 d5)) (hcap : n' ≤ cap) (hn' : n' ≤ 61) (hi : IHi W w2.heap.size g n' L) (hl : ∀ i, i < n' → (L i).vec.length ≤ 200) (hb : But w.heap.size w2 W) (hk : KpI w.heap.size g3 (V3 0) m3 w8 W) =>
    show DrawQ w (.returned (.tuple #[.int .i64 d, .slice (some ⟨g, 0, none⟩) n' cap, .slice a5 d5 c5, .int .i64 k, .int .i64 mask])) W from by
      refine ⟨d, g, n', cap, L, a5, c5, ints f5 d5, k, mask, by rw [ints_len], ⟨hcap, hn', hi.lowq (by omega), hl, B2.out.trans (hb.below (Nat.le_refl _) (by omega))⟩, ?_, by rw [ints_len]; exact hd5⟩
      rw [ints_len]
      refine ⟨hq.len, ?_⟩
      rcases hq.lies with h0 | ⟨b, off, e, lt, hc⟩
      · exact .inl h0
      · have hlo := LO5.out b off e
        have hv0 : 0 < m3 → b ≠ V3 0 := fun hm0 => by
          have := ((HG3L.out.vecs.vec 0 hm0).lt (by rw [HL3.out 0 hm0]; omega)).2.2
          omega
        have hblk := hk b lt (by omega) (by have := HG3L.out.lt; omega) hv0
        exact .inr ⟨b, off, e, (Array.getElem?_eq_some_iff.1 (hblk.trans (Array.getElem?_eq_getElem lt))).1, fun i hi => (World.cell?_of_block (a := ⟨b, off + i, none⟩) hblk).trans (hc i hi)⟩)
  cases o7
  · go_wp2_with fail
    refine (TAG.out _ HR7.out).mono ?_
    rintro e w9 ⟨mk, rfl, _, _, r9, b9⟩
    have HQ9 := hide (b9.row HQ7.out (fun b off e => by have := LO5.out b off e; omega))
    have HR9 := hide r9
    have HG9 := hide (HG7.out.but b9 rlt)
    have HB9 := hide (HB7.out.trans b9)
    clear r9 b9 HQ7 HR7 HG7 HB7
    go_wp2_with fail
    refine (ON2.out _ HR9.out).mono ?_
    rintro e w10 ⟨o10, rfl, r10, b10⟩
    have HQ10 := hide (b10.row HQ9.out (fun b off e => by have := LO5.out b off e; omega))
    have HR10 := hide r10
    have HG10 := hide (HG9.out.but b10 rlt)
    have HB10 := hide (HB9.out.trans b10)
    clear r10 b10 HQ9 HR9 HG9 HB9
    cases o10
    · go_wp2_with fail
      refine (HIS.out _ HR10.out HB10.out HG10.out).mono ?_
      rintro e w11 ⟨⟨v11, rfl, ⟨g11, n11, cp11, L11, rfl, hc11, hn11, hi11, hl11⟩, _, hb11⟩, kp11⟩
      have s11 := hb11.size
      have DN := hide (fun k mask => FIN.out k mask w10 w11 g11 n11 cp11 L11 HG10.out HQ10.out hc11 hn11 hi11 hl11 hb11 kp11)
      clear hi11 hl11 hb11 kp11
      go_wp2_with fail
      refine bodyPost_ret (v := .tuple #[.int .i64 d, .slice (some ⟨g11, 0, none⟩) n11 cp11, .slice a5 d5 c5, .int .i64 (1 + v6), .int .i64 mk]) ?_ rfl (DN.out (1 + v6) mk)
      simp [results, Try.results6, go_sem]
    · go_wp2_with fail
      refine (HIS.out _ HR10.out HB10.out HG10.out).mono ?_
      rintro e w11 ⟨⟨v11, rfl, ⟨g11, n11, cp11, L11, rfl, hc11, hn11, hi11, hl11⟩, _, hb11⟩, kp11⟩
      have s11 := hb11.size
      have DN := hide (fun k mask => FIN.out k mask w10 w11 g11 n11 cp11 L11 HG10.out HQ10.out hc11 hn11 hi11 hl11 hb11 kp11)
      clear hi11 hl11 hb11 kp11
      go_wp2_with fail
      refine bodyPost_ret (v := .tuple #[.int .i64 d, .slice (some ⟨g11, 0, none⟩) n11 cp11, .slice a5 d5 c5, .int .i64 (1 + v6), .int .i64 0]) ?_ rfl (DN.out (1 + v6) 0)
      simp [results, Try.results6, go_sem]
  · go_wp2_with fail
    refine (OFF.out _ HR7.out).mono ?_
    rintro e w8 ⟨k8, rfl, r8, b8⟩
    have HQ8 := hide (b8.row HQ7.out (fun b off e => by have := LO5.out b off e; omega))
    have HR8 := hide r8
    have HG8 := hide (HG7.out.but b8 rlt)
    have HB8 := hide (HB7.out.trans b8)
    clear r8 b8 HQ7 HR7 HG7 HB7
    go_wp2_with fail
    refine (TAG.out _ HR8.out).mono ?_
    rintro e w9 ⟨mk, rfl, _, _, r9, b9⟩
    have HQ9 := hide (b9.row HQ8.out (fun b off e => by have := LO5.out b off e; omega))
    have HR9 := hide r9
    have HG9 := hide (HG8.out.but b9 rlt)
    have HB9 := hide (HB8.out.trans b9)
    clear r9 b9 HQ8 HR8 HG8 HB8
    go_wp2_with fail
    refine (ON2.out _ HR9.out).mono ?_
    rintro e w10 ⟨o10, rfl, r10, b10⟩
    have HQ10 := hide (b10.row HQ9.out (fun b off e => by have := LO5.out b off e; omega))
    have HR10 := hide r10
    have HG10 := hide (HG9.out.but b10 rlt)
    have HB10 := hide (HB9.out.trans b10)
    clear r10 b10 HQ9 HR9 HG9 HB9
    cases o10
    · go_wp2_with fail
      refine (HIS.out _ HR10.out HB10.out HG10.out).mono ?_
      rintro e w11 ⟨⟨v11, rfl, ⟨g11, n11, cp11, L11, rfl, hc11, hn11, hi11, hl11⟩, _, hb11⟩, kp11⟩
      have s11 := hb11.size
      have DN := hide (fun k mask => FIN.out k mask w10 w11 g11 n11 cp11 L11 HG10.out HQ10.out hc11 hn11 hi11 hl11 hb11 kp11)
      clear hi11 hl11 hb11 kp11
      go_wp2_with fail
      refine bodyPost_ret (v := .tuple #[.int .i64 d, .slice (some ⟨g11, 0, none⟩) n11 cp11, .slice a5 d5 c5, .int .i64 k8, .int .i64 mk]) ?_ rfl (DN.out k8 mk)
      simp [results, Try.results6, go_sem]
    · go_wp2_with fail
      refine (HIS.out _ HR10.out HB10.out HG10.out).mono ?_
      rintro e w11 ⟨⟨v11, rfl, ⟨g11, n11, cp11, L11, rfl, hc11, hn11, hi11, hl11⟩, _, hb11⟩, kp11⟩
      have s11 := hb11.size
      have DN := hide (fun k mask => FIN.out k mask w10 w11 g11 n11 cp11 L11 HG10.out HQ10.out hc11 hn11 hi11 hl11 hb11 kp11)
      clear hi11 hl11 hb11 kp11
      go_wp2_with fail
      refine bodyPost_ret (v := .tuple #[.int .i64 d, .slice (some ⟨g11, 0, none⟩) n11 cp11, .slice a5 d5 c5, .int .i64 k8, .int .i64 0]) ?_ rfl (DN.out k8 0)
      simp [results, Try.results6, go_sem]
end Go.Proofs.Ytmbncafbbpcmbaa

/- Contracts of Nears: idOk, less, NearOk, NearLess of the program and of the model; toNear, eqNear of the laws. -/
namespace Go.Proofs.Ytmbncafbbpcmbaa
open Go.RowKit
set_option maxRecDepth 8000
set_option linter.unusedSimpArgs false

def nearB (i d : Int) : Bool := inB i 1 9999 && inB d 0 1125899906842624
def lessB (ai ad bi bd : Int) : Bool := decide (ad < bd ∨ ad = bd ∧ ai < bi)
def nlessB (ai ad bi bd : Int) : Bool := nearB ai ad && nearB bi bd && lessB ai ad bi bd

set_option maxHeartbeats 800000 in
theorem iNearOk_any (i d : Int) (w : World) :
    Calls Try.prog 57 #[.agg #[.int .i64 i, .int .i64 d]] w fun e w' => e = .returned (.bool (nearB i d)) ∧ Below w.heap.size w w' := by
  unfold nearB
  cases h0 : inB i 1 9999 <;> by_cases h1 : 0 ≤ d <;> by_cases h2 : d ≤ 1125899906842624
  all_goals try (exfalso; omega)
  all_goals
    rw [show inB d 0 1125899906842624 = decide (0 ≤ d ∧ d ≤ 1125899906842624) from rfl]
    simp only [h1, h2, and_true, and_false, decide_true, decide_false, Bool.and_true, Bool.and_false, Bool.true_and, Bool.false_and]
    go_enter Try.func57, Try.ntmps57
    go_wp2_with (go_at_call 62; refine (idOk_any _ _).mono ?_; rintro e w' ⟨rfl, rfl⟩)
    go_ret
    exact ⟨by first | rfl | (simp [h2]; done), (by repeat' first | with_reducible exact Below.refl _ _ | with_reducible assumption | with_reducible refine below_drewN ?_ _ | with_reducible refine balloc ?_ _ | with_reducible refine Below.drew ?_ | with_reducible refine Below.setCell ?_ (by first | (simp; done) | (simp; omega) | omega) _ | with_reducible refine bstep ?_ (by assumption))⟩



set_option maxHeartbeats 800000 in
theorem less_any (ai ad bi bd : Int) (w : World) :
    Calls Try.prog 67 #[.agg #[.int .i64 ai, .int .i64 ad], .agg #[.int .i64 bi, .int .i64 bd]] w fun e w' => e = .returned (.bool (lessB ai ad bi bd)) ∧ Below w.heap.size w w' := by
  unfold lessB
  by_cases h0 : ad = bd
  · subst h0
    have g0 : (ad != ad) = false := by simp
    by_cases h1 : ai < bi
    all_goals
      simp only [h1, Int.lt_irrefl, and_true, and_false, or_false, false_or, decide_true, decide_false]
      go_enter Try.func67, Try.ntmps67
      go_wp2
      go_ret
      exact ⟨by first | rfl | (simp [h1]; done), (by repeat' first | with_reducible exact Below.refl _ _ | with_reducible assumption | with_reducible refine below_drewN ?_ _ | with_reducible refine balloc ?_ _ | with_reducible refine Below.drew ?_ | with_reducible refine Below.setCell ?_ (by first | (simp; done) | (simp; omega) | omega) _ | with_reducible refine bstep ?_ (by assumption))⟩
  · have g0 : (ad != bd) = true := by simp [h0]
    by_cases h1 : ad < bd
    all_goals
      simp only [h1, h0, false_and, or_false, true_or, decide_true, decide_false]
      go_enter Try.func67, Try.ntmps67
      go_wp2
      go_ret
      exact ⟨by first | rfl | (simp [h1]; done), (by repeat' first | with_reducible exact Below.refl _ _ | with_reducible assumption | with_reducible refine below_drewN ?_ _ | with_reducible refine balloc ?_ _ | with_reducible refine Below.drew ?_ | with_reducible refine Below.setCell ?_ (by first | (simp; done) | (simp; omega) | omega) _ | with_reducible refine bstep ?_ (by assumption))⟩

set_option maxHeartbeats 800000 in
theorem l6Less_any (ai ad bi bd : Int) (w : World) :
    Calls Try.prog 47 #[.agg #[.int .i64 ai, .int .i64 ad], .agg #[.int .i64 bi, .int .i64 bd]] w fun e w' => e = .returned (.bool (lessB ai ad bi bd)) ∧ Below w.heap.size w w' := by
  unfold lessB
  by_cases h1 : ad < bd
  · simp only [h1, true_or, decide_true]
    go_enter Try.func47, Try.ntmps47
    go_wp2
    go_ret
    exact ⟨rfl, (by repeat' first | with_reducible exact Below.refl _ _ | with_reducible assumption | with_reducible refine below_drewN ?_ _ | with_reducible refine balloc ?_ _ | with_reducible refine Below.drew ?_ | with_reducible refine Below.setCell ?_ (by first | (simp; done) | (simp; omega) | omega) _ | with_reducible refine bstep ?_ (by assumption))⟩
  · by_cases h0 : ad = bd
    · subst h0
      have g0 : (ad == ad) = true := by simp
      by_cases h2 : ai < bi
      all_goals
        simp only [h1, h2, and_true, and_false, or_false, false_or, decide_true, decide_false]
        go_enter Try.func47, Try.ntmps47
        go_wp2
        go_ret
        exact ⟨by first | rfl | (simp [h2]; done), (by repeat' first | with_reducible exact Below.refl _ _ | with_reducible assumption | with_reducible refine below_drewN ?_ _ | with_reducible refine balloc ?_ _ | with_reducible refine Below.drew ?_ | with_reducible refine Below.setCell ?_ (by first | (simp; done) | (simp; omega) | omega) _ | with_reducible refine bstep ?_ (by assumption))⟩
    · have g0 : (ad == bd) = false := by simp [h0]
      simp only [h1, h0, false_and, or_false, decide_false]
      go_enter Try.func47, Try.ntmps47
      go_wp2
      go_ret
      exact ⟨rfl, (by repeat' first | with_reducible exact Below.refl _ _ | with_reducible assumption | with_reducible refine below_drewN ?_ _ | with_reducible refine balloc ?_ _ | with_reducible refine Below.drew ?_ | with_reducible refine Below.setCell ?_ (by first | (simp; done) | (simp; omega) | omega) _ | with_reducible refine bstep ?_ (by assumption))⟩









end Go.Proofs.Ytmbncafbbpcmbaa

/- Rows of Nears of the call's own; contracts of the laws' small functions over them: szNearS, toNearS, eqNearS. -/
namespace Go.Proofs.Ytmbncafbbpcmbaa
open Go.RowKit
set_option maxRecDepth 8000
set_option linter.unusedSimpArgs false
set_option linter.unusedVariables false

theorem Try.infoNear : (Try.prog.info? 47).map (fun i => (i.zero, i.size, i.bytes)) = some (some (.agg #[.int .i64 0, .int .i64 0]), 2, 16) := by kernel_rfl

/-- A row of Nears of the call's own, that may be written. -/
def OwnN (w : World) (b n : Nat) (f g : Nat → Int) : Prop := w.rowIs b 47 (n * 2) (pcell f g)
theorem OwnN.lt {w : World} {b n : Nat} {f g : Nat → Int} (h : OwnN w b n f g) : b < w.heap.size := World.rowIs.lt h
theorem OwnN.c0 {w : World} {b n : Nat} {f g : Nat → Int} (h : OwnN w b n f g) {i : Nat} (hi : i < n) : w.cell? ⟨b, i * 2, none⟩ = some (.int .i64 (f i)) := by
  rw [World.rowIs.cell h (show i * 2 < n * 2 by omega), pcell_lo]
theorem OwnN.c1 {w : World} {b n : Nat} {f g : Nat → Int} (h : OwnN w b n f g) {i : Nat} (hi : i < n) : w.cell? ⟨b, i * 2 + 1, none⟩ = some (.int .i64 (g i)) := by
  rw [World.rowIs.cell h (show i * 2 + 1 < n * 2 by omega), pcell_hi]
theorem OwnN.prow {w : World} {b n : Nat} {f g : Nat → Int} (h : OwnN w b n f g) : PRow w (some ⟨b, 0, none⟩) n f g :=
  ⟨.inr ⟨b, 0, rfl, h.lt, fun i hi => by rw [Nat.zero_add]; exact ⟨h.c0 hi, h.c1 hi⟩⟩⟩
theorem OwnN.below {w w' : World} {b n : Nat} {f g : Nat → Int} (h : OwnN w b n f g) (hb : Below w.heap.size w w') : OwnN w' b n f g := World.rowIs.of_block h (hb.block b (World.rowIs.lt h))
theorem OwnN.congr {w : World} {b n : Nat} {f g f' g' : Nat → Int} (h : OwnN w b n f g) (hf : ∀ i, i < n → f i = f' i) (hg : ∀ i, i < n → g i = g' i) : OwnN w b n f' g' := by
  refine World.rowIs.congr h fun j hj => ?_
  unfold pcell
  rw [hf (j / 2) (by omega), hg (j / 2) (by omega)]
theorem OwnN.made (w : World) (n : Nat) : OwnN (w.alloc (.cells (madeCells #[.int .i64 0, .int .i64 0] (n * 2)) 47)) w.heap.size n (fun _ => 0) (fun _ => 0) := by
  refine ⟨_, Go.Deep.blk_alloc_new _ _, size_madeCells _ _, fun i hi => ?_⟩
  rcases (show i % 2 = 0 ∨ i % 2 = 1 by omega) with h | h <;> simp [madeCells, hi, h, pcell]
theorem OwnN.set {w : World} {b n : Nat} {f g : Nat → Int} (h : OwnN w b n f g) (k : Nat) (x y : Int) :
    OwnN ((w.setCell ⟨b, k * 2, none⟩ (.int .i64 x)).setCell ⟨b, k * 2 + 1, none⟩ (.int .i64 y)) b n (fun i => if i = k then x else f i) (fun i => if i = k then y else g i) := by
  refine (World.rowIs.set (World.rowIs.set h (k * 2) _) (k * 2 + 1) _).congr fun j hj => ?_
  unfold pcell
  dsimp only
  rcases (show j % 2 = 0 ∨ j % 2 = 1 by omega) with h | h
  · rw [if_neg (show ¬ j = k * 2 + 1 by omega)]
    by_cases e : j = k * 2
    · rw [if_pos e, if_pos h, if_pos (show j / 2 = k by omega)]
    · rw [if_neg e, if_pos h, if_pos h, if_neg (show ¬ j / 2 = k by omega)]
  · by_cases e : j = k * 2 + 1
    · rw [if_pos e, if_neg (by omega), if_pos (show j / 2 = k by omega)]
    · rw [if_neg e, if_neg (by omega), if_neg (by omega), if_neg (by omega), if_neg (show ¬ j / 2 = k by omega)]

theorem OwnN.step {w : World} {b n k : Nat} {f g : Nat → Int} (h : OwnN w b n (upTo k f) (upTo k g)) :
    OwnN ((w.setCell ⟨b, k * 2, none⟩ (.int .i64 (f k))).setCell ⟨b, k * 2 + 1, none⟩ (.int .i64 (g k))) b n (upTo (k + 1) f) (upTo (k + 1) g) := by
  refine (h.set k (f k) (g k)).congr (fun i _ => ?_) (fun i _ => ?_)
  all_goals
    unfold upTo
    by_cases e : i = k
    · subst e; simp
    · by_cases l : i < k
      · simp [e, l, show i < k + 1 by omega]
      · simp [e, l, show ¬ i < k + 1 by omega]



def ToNs (w : World) (n : Nat) (f g : Nat → Int) (e : Ending) (w' : World) : Prop :=
  ∃ b, e = .returned (.slice (some ⟨b, 0, none⟩) n n) ∧ w.heap.size ≤ b ∧ OwnN w' b n f g ∧ Below w.heap.size w w'





end Go.Proofs.Ytmbncafbbpcmbaa