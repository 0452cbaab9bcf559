/- ItemPut of the model. -/
import Derived.Test.YtjliecggfncelaaZ19
namespace Go.Proofs.Ytjliecggfncelaa
open Go.RowKit
set_option maxRecDepth 8000
set_option linter.unusedSimpArgs false
set_option linter.unusedVariables false

theorem ToV.from {w W : World} {x : It} {e : Ending} {w' : World} (h : ToV W x e w') (hb : Below w.heap.size w W) : ToV w x e w' := by
  obtain ⟨v, g, he, hv, hb'⟩ := h
  exact ⟨v, g, he, hv.mono hb.size (Nat.le_refl _), bstep hb hb'⟩

/-- How many there are behind k rounds. -/
def mkP (p : Nat) (f : Bool) (k : Nat) : Nat := if k ≤ p then k else if f then k else k + 1

theorem mkP_lo {p : Nat} {f : Bool} {k : Nat} (h : k < p) : mkP p f (k + 1) = mkP p f k + 1 := by unfold mkP; rw [if_pos (by omega), if_pos (by omega)]

theorem mkP_hi {p : Nat} {f : Bool} {k : Nat} (h : p < k) : mkP p f (k + 1) = mkP p f k + 1 := by unfold mkP; rw [if_neg (show ¬ k + 1 ≤ p by omega), if_neg (show ¬ k ≤ p by omega)]; cases f <;> rfl

theorem mkP_le (p : Nat) (f : Bool) (k : Nat) : mkP p f k ≤ k + 1 := by unfold mkP; split <;> (try split) <;> omega

set_option maxHeartbeats 800000 in
set_option maxRecDepth 8000 in
theorem sItemPut_no (dim : Int) (a : Option Addr) (n cap : Nat) (L : IL) (x : It) (xa : Option Addr) (xn xc : Nat) (w : World) (h : IRow w a n L) (hn : n ≤ 1048576) (hv : ∀ i, i < n → (L i).vec.length ≤ 1048576) (rx : Row w xa xn x.vec) (hxn : xn ≤ 1048576) (hno : putOk dim n L x = false) (N : IL) :
    Calls Try.prog 37 #[.int .i64 dim, .slice a n cap, .agg #[.int .i64 x.id, .int .i64 x.tags, .slice xa xn xc]] w fun e w' => TwoG w 0 N (.int .i64 1) e w' := by
  have K := hide (fun w1 (hb : Below w.heap.size w w1) => sItemsOk_any dim a n cap L w1 (h.below hb) hn hv)
  have J := hide (fun w1 (hb : Below w.heap.size w w1) => l7Item_any dim x xa xn xc w1 (rx.below hb) hxn)
  have hno' : itemsB dim n L = false ∨ (itemsB dim n L = true ∧ itemB dim x = false) := by
    unfold putOk at hno
    cases e : itemsB dim n L
    · exact .inl rfl
    · rw [e] at hno; exact .inr ⟨rfl, by simpa using hno⟩
  clear h hv hno rx
  rcases hno' with h0 | ⟨h0, h1⟩
  · simp only [h0] at K
    go_enter Try.func37, Try.ntmps37
    go_wp2_with fail
    refine (K.out _ (by repeat' first | with_reducible exact Below.refl _ _ | with_reducible assumption | with_reducible refine below_drewN ?_ _ | with_reducible refine balloc ?_ _ | with_reducible refine Below.drew ?_ | with_reducible refine Below.setCell ?_ (by first | (simp; done) | (simp; omega) | omega) _ | with_reducible refine bstep ?_ (by assumption))).mono ?_
    rintro e w1 ⟨rfl, hb1⟩
    go_wp2_with fail
    go_ret2
    exact twoG_nil rfl (by repeat' first | with_reducible exact Below.refl _ _ | with_reducible assumption | with_reducible refine below_drewN ?_ _ | with_reducible refine balloc ?_ _ | with_reducible refine Below.drew ?_ | with_reducible refine Below.setCell ?_ (by first | (simp; done) | (simp; omega) | omega) _ | with_reducible refine bstep ?_ (by assumption))
  · simp only [h0] at K
    simp only [h1] at J
    go_enter Try.func37, Try.ntmps37
    go_wp2_with fail
    refine (K.out _ (by repeat' first | with_reducible exact Below.refl _ _ | with_reducible assumption | with_reducible refine below_drewN ?_ _ | with_reducible refine balloc ?_ _ | with_reducible refine Below.drew ?_ | with_reducible refine Below.setCell ?_ (by first | (simp; done) | (simp; omega) | omega) _ | with_reducible refine bstep ?_ (by assumption))).mono ?_
    rintro e w1 ⟨rfl, hb1⟩
    obtain ⟨_, q1, q2, q3, _⟩ := (Tri.new w (.int .i64 x.id) (.int .i64 x.tags) (.slice xa xn xc) 36).below hb1
    go_wp2_with fail
    refine (J.out _ (by repeat' first | with_reducible exact Below.refl _ _ | with_reducible assumption | with_reducible refine below_drewN ?_ _ | with_reducible refine balloc ?_ _ | with_reducible refine Below.drew ?_ | with_reducible refine Below.setCell ?_ (by first | (simp; done) | (simp; omega) | omega) _ | with_reducible refine bstep ?_ (by assumption))).mono ?_
    rintro e w2 ⟨rfl, hb2⟩
    go_wp2_with fail
    go_ret2
    exact twoG_nil rfl (by repeat' first | with_reducible exact Below.refl _ _ | with_reducible assumption | with_reducible refine below_drewN ?_ _ | with_reducible refine balloc ?_ _ | with_reducible refine Below.drew ?_ | with_reducible refine Below.setCell ?_ (by first | (simp; done) | (simp; omega) | omega) _ | with_reducible refine bstep ?_ (by assumption))

set_option maxHeartbeats 16000000 in
set_option maxRecDepth 8000 in
theorem sItemPut_loop (dim : Int) (b off n cap : Nat) (L : IL) (x : It) (xa : Option Addr) (xn xc : Nat) (w : World) (hn : n ≤ 60) (hv : ∀ i, i < n → (L i).vec.length ≤ 1048576) (hb : b < w.heap.size) (hc : ∀ i, i < n → IAt w b (off + i * 3) (L i)) (rx : Row w xa xn x.vec) (hxn : xn ≤ 1048576)
    (h0 : itemsB dim n L = true) (h1 : itemB dim x = true) (p : Nat) (f : Bool) (hp : IsPlace n L x.id p) (hf : f = decide (p < n ∧ (L p).id = x.id)) :
    Calls Try.prog 37 #[.int .i64 dim, .slice (some ⟨b, off, none⟩) n cap, .agg #[.int .i64 x.id, .int .i64 x.tags, .slice xa xn xc]] w fun e w' => TwoG w (if (if f then n else n + 1) ≤ 60 then (if f then n else n + 1) else 0) (putI L p f x) (.int .i64 (if (if f then n else n + 1) ≤ 60 then 0 else 2)) e w' := by
  obtain ⟨i0, hi, hz0, hz1, hz2⟩ := itemInfo
  have h : IRow w (some ⟨b, off, none⟩) n L := ⟨.inr ⟨b, off, rfl, hb, hc⟩⟩
  have K := hide (fun w1 (hb : Below w.heap.size w w1) => sItemsOk_any dim _ n cap L w1 (h.below hb) (by omega) hv)
  have J := hide (fun w1 (hb : Below w.heap.size w w1) => l7Item_any dim x xa xn xc w1 (rx.below hb) hxn)
  simp only [h0] at K
  simp only [h1] at J
  have HI := hide hi
  have HC := hide hc
  have HV := hide hv
  have HPL := hide hp
  have HF := hide hf
  have hpn := hp.le
  have HAF := hide (fun k (hk : p < k) (hkn : k < n) => show x.id < (L k).id from by
    have h2 := hp.hi p (Nat.le_refl _) (by omega)
    have h3 := itemsB_rise h0 hk hkn
    omega)
  have HNC := hide (fun k (hk : p < k) m (hm : mkP p f k = m) => show putI L p f x m = L k from by
    subst hm
    unfold mkP
    rw [if_neg (by omega)]
    cases f
    · exact (putI_no (by simp; omega)).trans (by simp)
    · exact putI_yes hk)
  clear hc hv hi h h0 h1 hp hf
  go_enter Try.func37, Try.ntmps37
  go_wp2_with fail
  refine (K.out _ (by repeat' first | with_reducible exact Below.refl _ _ | with_reducible assumption | with_reducible refine below_drewN ?_ _ | with_reducible refine balloc ?_ _ | with_reducible refine Below.drew ?_ | with_reducible refine Below.setCell ?_ (by first | (simp; done) | (simp; omega) | omega) _ | with_reducible refine bstep ?_ (by assumption))).mono ?_
  rintro e w1 ⟨rfl, hb1⟩
  obtain ⟨_, q1, q2, q3, _⟩ := (Tri.new w (.int .i64 x.id) (.int .i64 x.tags) (.slice xa xn xc) 36).below hb1
  go_wp2_with fail
  refine (J.out _ (by repeat' first | with_reducible exact Below.refl _ _ | with_reducible assumption | with_reducible refine below_drewN ?_ _ | with_reducible refine balloc ?_ _ | with_reducible refine Below.drew ?_ | with_reducible refine Below.setCell ?_ (by first | (simp; done) | (simp; omega) | omega) _ | with_reducible refine bstep ?_ (by assumption))).mono ?_
  rintro e w2 ⟨rfl, hb2⟩
  have bw2 : Below w.heap.size w w2 := (by repeat' first | with_reducible exact Below.refl _ _ | with_reducible assumption | with_reducible refine below_drewN ?_ _ | with_reducible refine balloc ?_ _ | with_reducible refine Below.drew ?_ | with_reducible refine Below.setCell ?_ (by first | (simp; done) | (simp; omega) | omega) _ | with_reducible refine bstep ?_ (by assumption))
  have HT2 := hide (((Tri.new w (.int .i64 x.id) (.int .i64 x.tags) (.slice xa xn xc) 36).below hb1).below hb2)
  have HB2 := hide bw2
  clear bw2 hb1 hb2 q1 q2 q3 K J
  go_wp2_with fail
  go_loopw [8, 9, 10] (fun s d i wr => ∃ k : Nat, k ≤ n ∧ d = .bool (decide (p < k)) ∧ i = .int .i64 k ∧ (∃ g c V sv, s = .slice (some ⟨g, 0, none⟩) (mkP p f k) c ∧ GI wr w2.heap.size g c (mkP p f k) (putI L p f x) V sv) ∧ Below w2.heap.size w2 wr) (fun _ _ i _ => n - (intOf i).toNat)
  case atStart =>
    refine ⟨0, Nat.zero_le _, by rw [show decide (p < 0) = false from decide_eq_false (by omega)], rfl, ⟨w2.heap.size, 0, fun _ => 0, fun _ => .slice none 0 0, ?_, ?_⟩, (by repeat' first | with_reducible exact Below.refl _ _ | with_reducible assumption | with_reducible refine below_drewN ?_ _ | with_reducible refine balloc ?_ _ | with_reducible refine Below.drew ?_ | with_reducible refine Below.setCell ?_ (by first | (simp; done) | (simp; omega) | omega) _ | with_reducible refine bstep ?_ (by assumption))⟩
    · unfold mkP; rw [if_pos (Nat.zero_le _)]
    · unfold mkP; rw [if_pos (Nat.zero_le _)]; exact GI.new _ _ _ _
  case round =>
    obtain ⟨k, hk, rfl, rfl, ⟨g1, c1, V, sv, rfl, hgi⟩, hbel⟩ := hrel
    have HB := hide hbel
    have HG := hide hgi
    have hml := mkP_le p f k
    have hsz := hbel.size
    by_cases hlt : k < n
    · obtain ⟨c0, c1', va, vn, vc, c2, vr⟩ := (HC.out k hlt).below hb (bstep HB2.out hbel)
      obtain ⟨_, q1, q2, q3, _⟩ := HT2.out.below hbel
      have hlt' : (k : Int) < (n : Int) := by omega
      have HF0 := hide (fun (hf : f = false) (hkp : k = p) => show (L k).id ≠ x.id from by
        have h := HF.out
        rw [hf] at h
        subst hkp
        exact fun e => absurd h.symm (by simp [hlt, e]))
      have HF1 := hide (fun (hf : f = true) => show (L p).id = x.id from by
        have h := HF.out
        rw [hf] at h
        exact (of_decide_eq_true h.symm).2)
      obtain ⟨m, hm⟩ : ∃ m, mkP p f k = m := ⟨_, rfl⟩
      rw [hm] at hml HG ⊢
      rcases Nat.lt_trichotomy k p with hcase | hcase | hcase
      · have hdec : decide (p < k) = false := decide_eq_false (by omega)
        rw [hdec]
        have hlo := HPL.out.lo k hcase
        have hge : decide (x.id ≤ (L k).id) = false := decide_eq_false (by omega)
        have hne : ((L k).id != x.id) = true := by simp; omega
        have RK := hide (fun w1 (h1 : Below wr.heap.size wr w1) => (l7Copy_any (L k) va vn vc w1 (vr.below h1) (by rw [← vr.len]; exact HV.out k hlt)).mono fun e w' h => h.from h1)
        have HM := hide hm
        clear hbel hgi vr hdec
        go_wp2_with fail
        go_quiet (fail)
        go_wp2_with fail
        go_quiet (fail)
        go_wp2_with fail
        refine (RK.out _ (by repeat' first | with_reducible exact Below.refl _ _ | with_reducible assumption | with_reducible refine below_drewN ?_ _ | with_reducible refine balloc ?_ _ | with_reducible refine Below.drew ?_ | with_reducible refine Below.setCell ?_ (by first | (simp; done) | (simp; omega) | omega) _ | with_reducible refine bstep ?_ (by assumption))).mono ?_
        rintro e w1s ⟨vs, gvs, rfl, hvs, hbs⟩
        have HVs := hide hvs
        obtain ⟨a1s, c3s, rfl, _⟩ := hvs
        have howns := hide ((HG.out.below hbs).own.alloc (.cells #[.int .i64 (L k).id, .int .i64 (L k).tags, .slice a1s (L k).vec.length c3s] 36))
        have hss := hbs.size
        have hXs := HB.out.size
        go_wp2_with (at_builtin; refine wpList_append_lies _ rfl _ _ 24 rfl w2.heap.size 36 i0 _ 3 40 Try.underlying24 HI.out hz0 hz1 hz2 rfl (by decide) _ _ _ rfl howns.out ⟨_, 0, none⟩ 1 1 [.int .i64 (L k).id, .int .i64 (L k).tags, .slice a1s (L k).vec.length c3s] rfl rfl (three_new _ _ _ _ _) (three_one _ _ _ _ _) (by omega) (by unfold maxLen; omega) (by omega) (by simp; omega) _ rfl ?_)
        intro g5s c5s w5s hown5 hgrow hat5 hglt
        have HGs := hide (HG.out.next (by omega) hbs (L k) (by have e := HM.out; unfold mkP at e; rw [if_pos (by omega)] at e; rw [← e]; exact putI_lt hcase) _ gvs HVs.out (balloc (Below.refl _ _) _) hown5 hgrow (by rcases hat5 with h | h; exact .inl h; exact .inr (by simp [h])))
        have HBs : Hid (Below w2.heap.size w2 w5s) := hide ((balloc (bstep HB.out hbs) (.cells #[.int .i64 (L k).id, .int .i64 (L k).tags, .slice a1s (L k).vec.length c3s] 36)).grown hgrow (by simp; omega) fun k' hk' => (howns.out.lt k' hk').1)
        clear hown5 hgrow hat5 howns hbs hglt
        go_wp2_with fail
        go_roundw
        case rel =>
          have e1 : mkP p f (k + 1) = m + 1 := by rw [mkP_lo (by omega), HM.out]
          exact ⟨k + 1, by omega, by rw [show decide (p < k + 1) = false from decide_eq_false (by omega)], by go_num, ⟨g5s, c5s, _, _, by rw [e1], by rw [e1]; exact HGs.out⟩, HBs.out⟩
        case measure => simp [intOf]; omega
      · subst hcase
        have hdec : decide (k < k) = false := decide_eq_false (by omega)
        rw [hdec]
        have hhi := HPL.out.hi k (Nat.le_refl _) hlt
        have hge : decide (x.id ≤ (L k).id) = true := decide_eq_true hhi
        have RX := hide (fun w1 (h1 : Below wr.heap.size wr w1) => (l7Copy_any x xa xn xc w1 ((rx.below (bstep HB2.out hbel)).below h1) hxn).mono fun e w' h => h.from h1)
        have HM := hide hm
        clear hdec
        cases hf : f
        · subst hf
          have HVR := hide vr
          have HBEL := hide hbel
          clear hbel hgi vr
          go_wp2_with fail
          go_quiet (fail)
          go_wp2_with fail
          refine (RX.out _ (by repeat' first | with_reducible exact Below.refl _ _ | with_reducible assumption | with_reducible refine below_drewN ?_ _ | with_reducible refine balloc ?_ _ | with_reducible refine Below.drew ?_ | with_reducible refine Below.setCell ?_ (by first | (simp; done) | (simp; omega) | omega) _ | with_reducible refine bstep ?_ (by assumption))).mono ?_
          rintro e w1s ⟨vs, gvs, rfl, hvs, hbs⟩
          have HVs := hide hvs
          obtain ⟨a1s, c3s, rfl, _⟩ := hvs
          have howns := hide ((HG.out.below hbs).own.alloc (.cells #[.int .i64 x.id, .int .i64 x.tags, .slice a1s x.vec.length c3s] 36))
          have hss := hbs.size
          have hXs := HB.out.size
          go_wp2_with (at_builtin; refine wpList_append_lies _ rfl _ _ 24 rfl w2.heap.size 36 i0 _ 3 40 Try.underlying24 HI.out hz0 hz1 hz2 rfl (by decide) _ _ _ rfl howns.out ⟨_, 0, none⟩ 1 1 [.int .i64 x.id, .int .i64 x.tags, .slice a1s x.vec.length c3s] rfl rfl (three_new _ _ _ _ _) (three_one _ _ _ _ _) (by omega) (by unfold maxLen; omega) (by omega) (by simp; omega) _ rfl ?_)
          intro g5s c5s w5s hown5 hgrow hat5 hglt
          have HGs := hide (HG.out.next (by omega) hbs x (by have e := HM.out; unfold mkP at e; rw [if_pos (by omega)] at e; rw [← e]; exact putI_at) _ gvs HVs.out (balloc (Below.refl _ _) _) hown5 hgrow (by rcases hat5 with h | h; exact .inl h; exact .inr (by simp [h])))
          have HBs : Hid (Below w2.heap.size w2 w5s) := hide ((balloc (bstep HB.out hbs) (.cells #[.int .i64 x.id, .int .i64 x.tags, .slice a1s x.vec.length c3s] 36)).grown hgrow (by simp; omega) fun k' hk' => (howns.out.lt k' hk').1)
          clear hown5 hgrow hat5 howns hbs hglt
          clear q1 q2 q3 c0 c1' c2
          obtain ⟨_, q1, q2, q3, _⟩ := HT2.out.below HBs.out
          obtain ⟨c0, c1', va', vn', vc', c2, vr'⟩ := (HC.out k hlt).below hb (bstep HB2.out HBs.out)
          have hne : ((L k).id != x.id) = true := by have : (L k).id ≠ x.id := (by first | exact HF0.out trivial trivial | exact HF0.out rfl rfl | exact HF0.out trivial rfl); simp; omega
          have RK := hide (fun w1 (h1 : Below w5s.heap.size w5s w1) => (l7Copy_any (L k) va' vn' vc' w1 (vr'.below h1) (by rw [← vr'.len]; exact HV.out k hlt)).mono fun e w' h => h.from h1)
          clear vr' HB HG
          go_wp2_with fail
          go_quiet (fail)
          go_wp2_with fail
          refine (RK.out _ (by repeat' first | with_reducible exact Below.refl _ _ | with_reducible assumption | with_reducible refine below_drewN ?_ _ | with_reducible refine balloc ?_ _ | with_reducible refine Below.drew ?_ | with_reducible refine Below.setCell ?_ (by first | (simp; done) | (simp; omega) | omega) _ | with_reducible refine bstep ?_ (by assumption))).mono ?_
          rintro e w1t ⟨vt, gvt, rfl, hvt, hbt⟩
          have HVt := hide hvt
          obtain ⟨a1t, c3t, rfl, _⟩ := hvt
          have hownt := hide ((HGs.out.below hbt).own.alloc (.cells #[.int .i64 (L k).id, .int .i64 (L k).tags, .slice a1t (L k).vec.length c3t] 36))
          have hst := hbt.size
          have hXt := HBs.out.size
          go_wp2_with (at_builtin; refine wpList_append_lies _ rfl _ _ 24 rfl w2.heap.size 36 i0 _ 3 40 Try.underlying24 HI.out hz0 hz1 hz2 rfl (by decide) _ _ _ rfl hownt.out ⟨_, 0, none⟩ 1 1 [.int .i64 (L k).id, .int .i64 (L k).tags, .slice a1t (L k).vec.length c3t] rfl rfl (three_new _ _ _ _ _) (three_one _ _ _ _ _) (by omega) (by unfold maxLen; omega) (by omega) (by simp; omega) _ rfl ?_)
          intro g5t c5t w5t hown5 hgrow hat5 hglt
          have HGt := hide (HGs.out.next (by omega) hbt (L k) (by have e := HM.out; unfold mkP at e; rw [if_pos (by omega)] at e; rw [← e]; exact (putI_no (by omega)).trans (by rw [Nat.add_sub_cancel])) _ gvt HVt.out (balloc (Below.refl _ _) _) hown5 hgrow (by rcases hat5 with h | h; exact .inl h; exact .inr (by simp [h])))
          have HBt : Hid (Below w2.heap.size w2 w5t) := hide ((balloc (bstep HBs.out hbt) (.cells #[.int .i64 (L k).id, .int .i64 (L k).tags, .slice a1t (L k).vec.length c3t] 36)).grown hgrow (by simp; omega) fun k' hk' => (hownt.out.lt k' hk').1)
          clear hown5 hgrow hat5 hownt hbt hglt
          go_wp2_with fail
          go_roundw
          case rel =>
            have e := HM.out
            unfold mkP at e
            rw [if_pos (by omega)] at e
            have e1 : mkP k false (k + 1) = m + 1 + 1 := by unfold mkP; rw [if_neg (by omega), ← e]; rfl
            exact ⟨k + 1, by omega, by rw [show decide (k < k + 1) = true from decide_eq_true (by omega)], by go_num, ⟨g5t, c5t, _, _, by rw [e1], by rw [e1]; exact HGt.out⟩, HBt.out⟩
          case measure => simp [intOf]; omega
        · subst hf
          have HVR := hide vr
          have HBEL := hide hbel
          clear hbel hgi vr
          go_wp2_with fail
          go_quiet (fail)
          go_wp2_with fail
          refine (RX.out _ (by repeat' first | with_reducible exact Below.refl _ _ | with_reducible assumption | with_reducible refine below_drewN ?_ _ | with_reducible refine balloc ?_ _ | with_reducible refine Below.drew ?_ | with_reducible refine Below.setCell ?_ (by first | (simp; done) | (simp; omega) | omega) _ | with_reducible refine bstep ?_ (by assumption))).mono ?_
          rintro e w1s ⟨vs, gvs, rfl, hvs, hbs⟩
          have HVs := hide hvs
          obtain ⟨a1s, c3s, rfl, _⟩ := hvs
          have howns := hide ((HG.out.below hbs).own.alloc (.cells #[.int .i64 x.id, .int .i64 x.tags, .slice a1s x.vec.length c3s] 36))
          have hss := hbs.size
          have hXs := HB.out.size
          go_wp2_with (at_builtin; refine wpList_append_lies _ rfl _ _ 24 rfl w2.heap.size 36 i0 _ 3 40 Try.underlying24 HI.out hz0 hz1 hz2 rfl (by decide) _ _ _ rfl howns.out ⟨_, 0, none⟩ 1 1 [.int .i64 x.id, .int .i64 x.tags, .slice a1s x.vec.length c3s] rfl rfl (three_new _ _ _ _ _) (three_one _ _ _ _ _) (by omega) (by unfold maxLen; omega) (by omega) (by simp; omega) _ rfl ?_)
          intro g5s c5s w5s hown5 hgrow hat5 hglt
          have HGs := hide (HG.out.next (by omega) hbs x (by have e := HM.out; unfold mkP at e; rw [if_pos (by omega)] at e; rw [← e]; exact putI_at) _ gvs HVs.out (balloc (Below.refl _ _) _) hown5 hgrow (by rcases hat5 with h | h; exact .inl h; exact .inr (by simp [h])))
          have HBs : Hid (Below w2.heap.size w2 w5s) := hide ((balloc (bstep HB.out hbs) (.cells #[.int .i64 x.id, .int .i64 x.tags, .slice a1s x.vec.length c3s] 36)).grown hgrow (by simp; omega) fun k' hk' => (howns.out.lt k' hk').1)
          clear hown5 hgrow hat5 howns hbs hglt
          clear q1 q2 q3 c0 c1' c2
          obtain ⟨_, q1, q2, q3, _⟩ := HT2.out.below HBs.out
          obtain ⟨c0, c1', va', vn', vc', c2, vr'⟩ := (HC.out k hlt).below hb (bstep HB2.out HBs.out)
          have hne : ((L k).id != x.id) = false := by have : (L k).id = x.id := (by first | exact HF1.out trivial | exact HF1.out rfl); simp; exact this
          clear vr' HB HG
          go_wp2_with fail
          go_quiet (fail)
          go_wp2_with fail
          go_roundw
          case rel =>
            have e := HM.out
            unfold mkP at e
            rw [if_pos (by omega)] at e
            have e1 : mkP k true (k + 1) = m + 1 := by unfold mkP; rw [if_neg (by omega), ← e]; rfl
            exact ⟨k + 1, by omega, by rw [show decide (k < k + 1) = true from decide_eq_true (by omega)], by go_num, ⟨g5s, c5s, _, _, by rw [e1], by rw [e1]; exact HGs.out.below (below_drewN (Below.refl _ _) _)⟩, below_drewN HBs.out _⟩
          case measure => simp [intOf]; omega
      · have hdec : decide (p < k) = true := decide_eq_true (by omega)
        rw [hdec]
        have hne : ((L k).id != x.id) = true := by have := HAF.out k hcase hlt; simp; omega
        have RK := hide (fun w1 (h1 : Below wr.heap.size wr w1) => (l7Copy_any (L k) va vn vc w1 (vr.below h1) (by rw [← vr.len]; exact HV.out k hlt)).mono fun e w' h => h.from h1)
        have HM := hide hm
        clear hbel hgi vr hdec
        go_wp2_with fail
        go_quiet (fail)
        go_wp2_with fail
        go_quiet (fail)
        go_wp2_with fail
        refine (RK.out _ (by repeat' first | with_reducible exact Below.refl _ _ | with_reducible assumption | with_reducible refine below_drewN ?_ _ | with_reducible refine balloc ?_ _ | with_reducible refine Below.drew ?_ | with_reducible refine Below.setCell ?_ (by first | (simp; done) | (simp; omega) | omega) _ | with_reducible refine bstep ?_ (by assumption))).mono ?_
        rintro e w1s ⟨vs, gvs, rfl, hvs, hbs⟩
        have HVs := hide hvs
        obtain ⟨a1s, c3s, rfl, _⟩ := hvs
        have howns := hide ((HG.out.below hbs).own.alloc (.cells #[.int .i64 (L k).id, .int .i64 (L k).tags, .slice a1s (L k).vec.length c3s] 36))
        have hss := hbs.size
        have hXs := HB.out.size
        go_wp2_with (at_builtin; refine wpList_append_lies _ rfl _ _ 24 rfl w2.heap.size 36 i0 _ 3 40 Try.underlying24 HI.out hz0 hz1 hz2 rfl (by decide) _ _ _ rfl howns.out ⟨_, 0, none⟩ 1 1 [.int .i64 (L k).id, .int .i64 (L k).tags, .slice a1s (L k).vec.length c3s] rfl rfl (three_new _ _ _ _ _) (three_one _ _ _ _ _) (by omega) (by unfold maxLen; omega) (by omega) (by simp; omega) _ rfl ?_)
        intro g5s c5s w5s hown5 hgrow hat5 hglt
        have HGs := hide (HG.out.next (by omega) hbs (L k) (HNC.out k hcase m HM.out) _ gvs HVs.out (balloc (Below.refl _ _) _) hown5 hgrow (by rcases hat5 with h | h; exact .inl h; exact .inr (by simp [h])))
        have HBs : Hid (Below w2.heap.size w2 w5s) := hide ((balloc (bstep HB.out hbs) (.cells #[.int .i64 (L k).id, .int .i64 (L k).tags, .slice a1s (L k).vec.length c3s] 36)).grown hgrow (by simp; omega) fun k' hk' => (howns.out.lt k' hk').1)
        clear hown5 hgrow hat5 howns hbs hglt
        go_wp2_with fail
        go_roundw
        case rel =>
          have e1 : mkP p f (k + 1) = m + 1 := by rw [mkP_hi (by omega), HM.out]
          exact ⟨k + 1, by omega, by rw [show decide (p < k + 1) = true from decide_eq_true (by omega)], by go_num, ⟨g5s, c5s, _, _, by rw [e1], by rw [e1]; exact HGs.out⟩, HBs.out⟩
        case measure => simp [intOf]; omega
    · obtain rfl : k = n := by omega
      obtain ⟨_, q1, q2, q3, _⟩ := HT2.out.below hbel
      have HBEL := hide hbel
      by_cases hpk : p < k
      · have hdec : decide (p < k) = true := decide_eq_true hpk
        rw [hdec]
        clear hbel hgi hdec
        cases hf : f
        · subst hf
          have hm : mkP p false k = k + 1 := by unfold mkP; rw [if_neg (by omega)]; rfl
          rw [hm] at HG hml ⊢
          clear hm
          by_cases h60 : k + 1 ≤ 60
          · go_wp2_with fail
            go_ret2
            (try simp only [Bool.false_eq_true, if_false, if_pos h60])
            exact ⟨_, rfl, .inr ⟨g1, c1, V, sv, rfl, HG.out.low HB2.out.size⟩, bstep HB2.out HB.out⟩
          · go_wp2_with fail
            go_ret2
            (try simp only [Bool.false_eq_true, if_false, if_neg h60])
            exact twoG_nil rfl (bstep HB2.out HB.out)
        · subst hf
          have hm : mkP p true k = k := by unfold mkP; rw [if_neg (by omega)]; rfl
          rw [hm] at HG hml ⊢
          clear hm
          go_wp2_with fail
          go_ret2
          (try simp only [if_true, if_pos hn])
          exact ⟨_, rfl, .inr ⟨g1, c1, V, sv, rfl, HG.out.low HB2.out.size⟩, bstep HB2.out HB.out⟩
      · obtain rfl : p = k := by omega
        have hdec : decide (p < p) = false := decide_eq_false (by omega)
        rw [hdec]
        have hff : f = false := by rw [HF.out]; exact decide_eq_false fun h => hpk h.1
        subst hff
        have hm : mkP p false p = p := by unfold mkP; rw [if_pos (Nat.le_refl _)]
        rw [hm] at HG hml ⊢
        have RX := hide (fun w1 (h1 : Below wr.heap.size wr w1) => (l7Copy_any x xa xn xc w1 ((rx.below (bstep HB2.out hbel)).below h1) hxn).mono fun e w' h => h.from h1)
        clear hbel hgi hdec hm HBEL hpk
        go_wp2_with fail
        refine (RX.out _ (by repeat' first | with_reducible exact Below.refl _ _ | with_reducible assumption | with_reducible refine below_drewN ?_ _ | with_reducible refine balloc ?_ _ | with_reducible refine Below.drew ?_ | with_reducible refine Below.setCell ?_ (by first | (simp; done) | (simp; omega) | omega) _ | with_reducible refine bstep ?_ (by assumption))).mono ?_
        rintro e w1s ⟨vs, gvs, rfl, hvs, hbs⟩
        have HVs := hide hvs
        obtain ⟨a1s, c3s, rfl, _⟩ := hvs
        have howns := hide ((HG.out.below hbs).own.alloc (.cells #[.int .i64 x.id, .int .i64 x.tags, .slice a1s x.vec.length c3s] 36))
        have hss := hbs.size
        have hXs := HB.out.size
        go_wp2_with (at_builtin; refine wpList_append_lies _ rfl _ _ 24 rfl w2.heap.size 36 i0 _ 3 40 Try.underlying24 HI.out hz0 hz1 hz2 rfl (by decide) _ _ _ rfl howns.out ⟨_, 0, none⟩ 1 1 [.int .i64 x.id, .int .i64 x.tags, .slice a1s x.vec.length c3s] rfl rfl (three_new _ _ _ _ _) (three_one _ _ _ _ _) (by omega) (by unfold maxLen; omega) (by omega) (by simp; omega) _ rfl ?_)
        intro g5s c5s w5s hown5 hgrow hat5 hglt
        have HGs := hide (HG.out.next (by omega) hbs x putI_at _ gvs HVs.out (balloc (Below.refl _ _) _) hown5 hgrow (by rcases hat5 with h | h; exact .inl h; exact .inr (by simp [h])))
        have HBs : Hid (Below w2.heap.size w2 w5s) := hide ((balloc (bstep HB.out hbs) (.cells #[.int .i64 x.id, .int .i64 x.tags, .slice a1s x.vec.length c3s] 36)).grown hgrow (by simp; omega) fun k' hk' => (howns.out.lt k' hk').1)
        clear hown5 hgrow hat5 howns hbs hglt
        by_cases h60 : p + 1 ≤ 60
        · go_wp2_with fail
          go_ret2
          (try simp only [Bool.false_eq_true, if_false, if_pos h60])
          exact ⟨_, rfl, .inr ⟨g5s, c5s, _, _, rfl, HGs.out.low HB2.out.size⟩, bstep HB2.out HBs.out⟩
        · go_wp2_with fail
          go_ret2
          (try simp only [Bool.false_eq_true, if_false, if_neg h60])
          exact twoG_nil rfl (bstep HB2.out HBs.out)

set_option maxHeartbeats 4000000 in
set_option maxRecDepth 8000 in
theorem sItemPut_zero (dim : Int) (a : Option Addr) (n cap : Nat) (L : IL) (x : It) (xa : Option Addr) (xn xc : Nat) (w : World) (hn : n < 1) (rx : Row w xa xn x.vec) (hxn : xn ≤ 1048576) (h0 : itemsB dim n L = true) (h1 : itemB dim x = true) :
    Calls Try.prog 37 #[.int .i64 dim, .slice a n cap, .agg #[.int .i64 x.id, .int .i64 x.tags, .slice xa xn xc]] w fun e w' => TwoG w 1 (fun _ => x) (.int .i64 0) e w' := by
  obtain ⟨i0, hi, hz0, hz1, hz2⟩ := itemInfo
  have h : IRow w a n L := ⟨.inl (by omega)⟩
  have K := hide (fun w1 (hb : Below w.heap.size w w1) => sItemsOk_any dim a n cap L w1 (h.below hb) (by omega) (fun i hi => absurd hi (by omega)))
  have J := hide (fun w1 (hb : Below w.heap.size w w1) => l7Item_any dim x xa xn xc w1 (rx.below hb) hxn)
  simp only [h0] at K
  simp only [h1] at J
  have HI := hide hi
  clear hi h h0 h1
  go_enter Try.func37, Try.ntmps37
  go_wp2_with fail
  refine (K.out _ (by repeat' first | with_reducible exact Below.refl _ _ | with_reducible assumption | with_reducible refine below_drewN ?_ _ | with_reducible refine balloc ?_ _ | with_reducible refine Below.drew ?_ | with_reducible refine Below.setCell ?_ (by first | (simp; done) | (simp; omega) | omega) _ | with_reducible refine bstep ?_ (by assumption))).mono ?_
  rintro e w1 ⟨rfl, hb1⟩
  obtain ⟨_, q1, q2, q3, _⟩ := (Tri.new w (.int .i64 x.id) (.int .i64 x.tags) (.slice xa xn xc) 36).below hb1
  go_wp2_with fail
  refine (J.out _ (by repeat' first | with_reducible exact Below.refl _ _ | with_reducible assumption | with_reducible refine below_drewN ?_ _ | with_reducible refine balloc ?_ _ | with_reducible refine Below.drew ?_ | with_reducible refine Below.setCell ?_ (by first | (simp; done) | (simp; omega) | omega) _ | with_reducible refine bstep ?_ (by assumption))).mono ?_
  rintro e w2 ⟨rfl, hb2⟩
  have bw2 : Below w.heap.size w w2 := (by repeat' first | with_reducible exact Below.refl _ _ | with_reducible assumption | with_reducible refine below_drewN ?_ _ | with_reducible refine balloc ?_ _ | with_reducible refine Below.drew ?_ | with_reducible refine Below.setCell ?_ (by first | (simp; done) | (simp; omega) | omega) _ | with_reducible refine bstep ?_ (by assumption))
  have HT2 := hide (((Tri.new w (.int .i64 x.id) (.int .i64 x.tags) (.slice xa xn xc) 36).below hb1).below hb2)
  have HB2 := hide bw2
  clear hb1 hb2 q1 q2 q3 K J
  go_wp2_with fail
  refine wp_loop_rounds 1 ?_
  rw [rounds_succ]
  obtain ⟨X, hX⟩ : ∃ X, w2.alloc (.cells #[] 36) = X := ⟨_, rfl⟩
  have HBX : Hid (Below w2.heap.size w2 X) := hide (hX ▸ balloc (Below.refl _ _) _)
  have HG : Hid (GI X w2.heap.size w2.heap.size 0 0 (fun _ => x) (fun _ => 0) (fun _ => .slice none 0 0)) := hide (hX ▸ GI.new _ _ _ _)
  have RX := hide (fun w1 (h1 : Below X.heap.size X w1) => (l7Copy_any x xa xn xc w1 ((rx.below (bstep bw2 HBX.out)).below h1) hxn).mono fun e w' h => h.from h1)
  obtain ⟨_, q1, q2, q3, _⟩ := HT2.out.below HBX.out
  rw [hX]
  clear bw2 hX rx
  go_wp2_with fail
  refine (RX.out _ (by repeat' first | with_reducible exact Below.refl _ _ | with_reducible assumption | with_reducible refine below_drewN ?_ _ | with_reducible refine balloc ?_ _ | with_reducible refine Below.drew ?_ | with_reducible refine Below.setCell ?_ (by first | (simp; done) | (simp; omega) | omega) _ | with_reducible refine bstep ?_ (by assumption))).mono ?_
  rintro e w1s ⟨vs, gvs, rfl, hvs, hbs⟩
  have HVs := hide hvs
  obtain ⟨a1s, c3s, rfl, _⟩ := hvs
  have howns := hide ((HG.out.below hbs).own.alloc (.cells #[.int .i64 x.id, .int .i64 x.tags, .slice a1s x.vec.length c3s] 36))
  have hss := hbs.size
  have hXs := HBX.out.size
  go_wp2_with (at_builtin; refine wpList_append_lies _ rfl _ _ 24 rfl w2.heap.size 36 i0 _ 3 40 Try.underlying24 HI.out hz0 hz1 hz2 rfl (by decide) _ _ _ rfl howns.out ⟨_, 0, none⟩ 1 1 [.int .i64 x.id, .int .i64 x.tags, .slice a1s x.vec.length c3s] rfl rfl (three_new _ _ _ _ _) (three_one _ _ _ _ _) (by omega) (by unfold maxLen; omega) (by omega) (by simp; omega) _ rfl ?_)
  intro g5s c5s w5s hown5 hgrow hat5 hglt
  have HGs := hide (HG.out.next (by omega) hbs x rfl _ gvs HVs.out (balloc (Below.refl _ _) _) hown5 hgrow (by rcases hat5 with h | h; exact .inl h; exact .inr (by simp [h])))
  have HBs : Hid (Below w2.heap.size w2 w5s) := hide ((balloc (bstep HBX.out hbs) (.cells #[.int .i64 x.id, .int .i64 x.tags, .slice a1s x.vec.length c3s] 36)).grown hgrow (by simp; omega) fun k' hk' => (howns.out.lt k' hk').1)
  clear hown5 hgrow hat5 howns hbs hglt
  go_wp2_with fail
  go_ret2
  exact ⟨_, rfl, .inr ⟨g5s, c5s, _, _, rfl, HGs.out.low HB2.out.size⟩, bstep HB2.out HBs.out⟩

/-- The answer of ItemPut. -/
def PutR (w : World) (dim : Int) (n : Nat) (L : IL) (x : It) (e : Ending) (w' : World) : Prop := TwoR w (putT dim n L x) (putA n L x) (.int .i64 (putC dim n L x)) e w'

theorem TwoR.less {w : World} {m : Nat} {N M : IL} {u : Value} {e : Ending} {w' : World} (h : TwoR w m N u e w') (he : ∀ i, i < m → N i = M i) : TwoR w m M u e w' := by
  obtain ⟨a, cap, g, V, sv, h1, hi, hb⟩ := h
  refine ⟨a, cap, g, V, sv, h1, ⟨?_, fun i hi' => by rw [← he i hi']; exact hi.vec i hi', fun i hi' h0 => ?_⟩, hb⟩
  · rcases hi.arr with h0 | ⟨h1, h2, h3, ha⟩
    · exact .inl h0
    · exact .inr ⟨h1, h2, h3, ha.congr fun j hj => by unfold icell; rw [he (j / 3) (by omega)]⟩
  · rw [← he i hi'] at h0
    obtain ⟨s1, s2⟩ := hi.sep i hi' h0
    exact ⟨s1, fun j hj hne hj0 => s2 j hj hne (by rw [he j hj]; exact hj0)⟩

def PutG (w : World) (dim : Int) (n : Nat) (L : IL) (x : It) (e : Ending) (w' : World) : Prop := TwoG w (putT dim n L x) (putA n L x) (.int .i64 (putC dim n L x)) e w'

theorem sItemPut_anyG (dim : Int) (a : Option Addr) (n cap : Nat) (L : IL) (x : It) (xa : Option Addr) (xn xc : Nat) (w : World) (h : IRow w a n L) (hn : n ≤ 1048576) (hv : ∀ i, i < n → (L i).vec.length ≤ 1048576) (rx : Row w xa xn x.vec) (hxn : xn ≤ 1048576) :
    Calls Try.prog 37 #[.int .i64 dim, .slice a n cap, .agg #[.int .i64 x.id, .int .i64 x.tags, .slice xa xn xc]] w fun e w' => PutG w dim n L x e w' := by
  unfold PutG putT putC
  cases hok : putOk dim n L x
  · exact sItemPut_no dim a n cap L x xa xn xc w h hn hv rx hxn hok _
  · have hok' := hok
    unfold putOk at hok'
    simp only [Bool.and_eq_true] at hok'
    rcases h.lies with h0 | ⟨b, off, rfl, lt, hc⟩
    · subst h0
      have e1 : putM 0 L x = 1 := by simp [putM, isAt]
      simp only [if_true, e1]
      refine (sItemPut_zero dim a 0 cap L x xa xn xc w (by omega) rx hxn hok'.1 hok'.2).mono fun e w' h => h.less fun i hi => ?_
      obtain rfl : i = 0 := by omega
      exact putI_at.symm
    · have hp := plc_is (id := x.id) (itemsB_le hok'.1)
      exact sItemPut_loop dim b off n cap L x xa xn xc w (itemsB_n hok'.1) hv lt hc rx hxn hok'.1 hok'.2 (plc L x.id n) (isAt n L x.id) hp rfl

theorem sItemPut_any (dim : Int) (a : Option Addr) (n cap : Nat) (L : IL) (x : It) (xa : Option Addr) (xn xc : Nat) (w : World) (h : IRow w a n L) (hn : n ≤ 1048576) (hv : ∀ i, i < n → (L i).vec.length ≤ 1048576) (rx : Row w xa xn x.vec) (hxn : xn ≤ 1048576) :
    Calls Try.prog 37 #[.int .i64 dim, .slice a n cap, .agg #[.int .i64 x.id, .int .i64 x.tags, .slice xa xn xc]] w fun e w' => PutR w dim n L x e w' :=
  (sItemPut_anyG dim a n cap L x xa xn xc w h hn hv rx hxn).mono fun _ _ h => h.two
end Go.Proofs.Ytjliecggfncelaa
