/- InRadius of the program, by its parts. -/
import Derived.Test.YtmbncafbbpcmbaaZ8
import Derived.Test.YtmbncafbbpcmbaaZ7
import Derived.Test.YtmbncafbbpcmbaaZ4
import Derived.Test.YtmbncafbbpcmbaaZ2
import Derived.Test.YtmbncafbbpcmbaaZ5
import Derived.Test.YtmbncafbbpcmbaaZ6
import Derived.OpenShut
namespace Go.Proofs.Ytmbncafbbpcmbaa
open Go.RowKit
set_option maxRecDepth 8000
set_option linter.unusedSimpArgs false
set_option linter.unusedVariables false

/-- The answer of whoever tells Nears of its own. -/
def OutN (w : World) (m : Nat) (A : NL) (e : Ending) (w' : World) : Prop :=
  ∃ a cap, e = .returned (.slice a m cap) ∧ Wr w' a m A w.heap.size ∧ Below w.heap.size w w'
theorem NearsR.out {w : World} {m : Nat} {A : NL} {e : Ending} {w' : World} (h : NearsR w m A e w') : OutN w m A e w' := by
  obtain ⟨g, cap, he, hr, hb⟩ := h
  exact ⟨_, cap, he, .inr ⟨g, rfl, hr.base, hr.rowl⟩, hb⟩
theorem outN_nil {w w' : World} {A : NL} {e : Ending} (he : e = .returned (.slice none 0 0)) (hb : Below w.heap.size w w') : OutN w 0 A e w' := ⟨none, 0, he, .inl rfl, hb⟩

set_option maxHeartbeats 400000 in
theorem eachNear_zero (a : Option Addr) (n cap : Nat) (qv fv : Value) (mask : Int) (w : World) (hn : n < 1) :
    Calls Try.prog 23 #[.slice a n cap, qv, .int .i64 mask, fv] w fun e w' => e = .returned (.tuple #[]) ∧ w' = w := by
  go_enter Try.func23, Try.ntmps23
  go_wp2_with fail
  refine wp_loop_rounds 1 ?_
  rw [rounds_succ]
  go_wp2_with fail
  go_end0
  exact ⟨rfl, rfl⟩







end Go.Proofs.Ytmbncafbbpcmbaa
/- Nearest of the program: the closure, eachNear, the query. -/
namespace Go.Proofs.Ytmbncafbbpcmbaa
open Go.RowKit
set_option maxRecDepth 8000
set_option linter.unusedSimpArgs false
set_option linter.unusedVariables false

/-- What the closure of Nearest keeps: the slice that it appends to. -/
structure CapN (w0 : World) (vb : Nat) (m : Nat) (M : NL) (w : World) : Prop where
  ex : ∃ g c, w.heap[vb]? = some (.cells #[.slice (some ⟨g, 0, none⟩) m c] 28 (0, 0)) ∧ RC w w0.heap.size g c m M
  lo : w0.heap.size ≤ vb
  bel : Below w0.heap.size w0 w
theorem CapN.below {w0 : World} {vb : Nat} {m : Nat} {M : NL} {w w' : World} (h : CapN w0 vb m M w) (hb : Below w.heap.size w w') : CapN w0 vb m M w' := by
  obtain ⟨⟨g, c, h2, h3⟩, h4, h5⟩ := h
  exact ⟨⟨g, c, (hb.block vb (blkLt h2)).trans h2, h3.below hb⟩, h4, bstep h5 hb⟩

set_option maxHeartbeats 4000000 in
theorem nearest1_any (w0 : World) (vb : Nat) (m : Nat) (M : NL) (x : Int × Int) (w : World) (h : CapN w0 vb m M w) (hm : m ≤ 60) :
    Calls Try.prog 24 #[.agg #[.int .i64 x.1, .int .i64 x.2], .pointer (some ⟨vb, 0, none⟩)] w fun e w' => e = .returned (.tuple #[]) ∧ CapN w0 vb (m + 1) (M.put m x) w' := by
  have hb1 : Below w.heap.size w (w.alloc (.cells #[.int .i64 x.1, .int .i64 x.2] 47)) := balloc (Below.refl _ _) _
  obtain ⟨i0, hi, hz0, hz1, hz2⟩ := nearInfo2
  have HI := hide hi
  obtain ⟨⟨g, c, h2, h3⟩, h4, h5⟩ := h.below hb1
  have q2 := one_cell h2
  have hs0 := h5.size
  have l2 := blkLt h2
  simp only [World.size_alloc] at hs0 l2
  have hne : vb ≠ g := fun e => by
    obtain ⟨cur, hcur⟩ := h3.blk
    rw [← e, h2] at hcur
    simp at hcur
  have HRC := hide h3
  have HH2 := hide h2
  have HB5 := hide h5
  generalize hNV : nlv M m = NV at *
  have HNV := hide hNV
  have hown := hide (HRC.out.owns.alloc (.cells #[.int .i64 x.1, .int .i64 x.2] 47))
  rw [HNV.out] at hown
  have hnew := two_newAt (w.alloc (.cells #[.int .i64 x.1, .int .i64 x.2] 47)) (.int .i64 x.1) (.int .i64 x.2) 47 (w.heap.size + 1) (by simp)
  have HN := hide hnew
  clear hNV hnew h h2 h3 h5 hi hb1
  go_enter Try.func24, Try.ntmps24
  go_wp2_with (at_builtin; refine wpList_append_lies _ rfl _ _ 28 rfl w0.heap.size 47 i0 _ 2 16 Try.underlying28 HI.out hz0 hz1 hz2 rfl (by decide) _ _ _ rfl hown.out ⟨w.heap.size + 1, 0, none⟩ 1 1 [.int .i64 x.1, .int .i64 x.2] rfl rfl HN.out (two_one _ _) (by omega) (by unfold maxLen; omega) (by omega) (by simp; omega) _ rfl ?_)
  intro g5 c5 w5 hown5 hgrow hat5 hglt
  have HG5 : Hid (RC w5 w0.heap.size g5 c5 (m + 1) (M.put m x)) := hide (RC.grown (x := x.1) (y := x.2) (by rw [HNV.out]; exact hown5))
  have hvb5 : w5.heap[vb]? = some (.cells #[.slice (some ⟨g, 0, none⟩) m c] 28 (0, 0)) := by
    rw [hgrow.block vb (by simp; omega) (by simpa [Value.ownBlock] using hne)]
    exact ((balloc (Below.refl _ _) _).block vb (by simp; omega)).trans HH2.out
  have hbel5 : Below w0.heap.size w0 w5 := (balloc HB5.out (.cells #[.int .i64 x.1, .int .i64 x.2] 47)).grown hgrow (by simp; omega) fun k' hk' => (hown.out.lt k' hk').1
  have hne5 : vb ≠ g5 := by
    rcases hat5 with h | h
    · simp [Value.ownBlock] at h; omega
    · omega
  have HEND : Hid (CapN w0 vb (m + 1) (M.put m x) (w5.setCell ⟨vb, 0, none⟩ (.slice (some ⟨g5, 0, none⟩) (m + 1) c5))) := hide ⟨⟨g5, c5, by rw [heap_set hvb5]; simp, HG5.out.block (Below.heap_setCell w5 ⟨vb, 0, none⟩ _ g5 (Ne.symm hne5))⟩, h4, hbel5.setCell h4 _⟩
  have q5 := one_cell hvb5
  have q6 := one_free hvb5
  clear hown5 hgrow hat5 hown hvb5 hbel5
  go_wp2_with fail
  go_end0
  exact ⟨rfl, HEND.out⟩

set_option maxHeartbeats 8000000 in
set_option maxRecDepth 4000 in
theorem eachNear_near (w0 : World) (vb : Nat) (dim : Int) (b off n cap : Nat) (L : IL) (qa : Option Addr) (qn qc : Nat) (qs : List Int) (mask : Int) (w : World) (hb : b < w0.heap.size) (hc : ∀ i, i < n → IAt w0 b (off + i * 3) (L i)) (rq : Row w0 qa qn qs) (hqn : qn ≤ 1048576) (hf : Fine dim n L qs)
    (h : CapN w0 vb 0 (nrL qs mask L 0) w) :
    Calls Try.prog 23 #[.slice (some ⟨b, off, none⟩) n cap, .slice qa qn qc, .int .i64 mask, .func (.func 24) #[] #[.pointer (some ⟨vb, 0, none⟩)]] w fun e w' => e = .returned (.tuple #[]) ∧ CapN w0 vb (cntP (mtB mask) L n) (nrL qs mask L n) w' := by
  have hn := hf.n60
  have HF := hide hf
  have HC := hide hc
  have HRQ := hide rq
  have HCAP := hide h
  clear hf hc rq h
  go_enter Try.func23, Try.ntmps23
  go_wp2_with fail
  go_loopw [12] (fun i wr => ∃ k : Nat, k ≤ n ∧ i = .int .i64 k ∧ CapN w0 vb (cntP (mtB mask) L k) (nrL qs mask L k) wr) (fun i _ => n - (intOf i).toNat)
  case atStart => exact ⟨0, Nat.zero_le _, rfl, HCAP.out⟩
  case round =>
    obtain ⟨k, hk, rfl, hcap⟩ := hrel
    have HK := hide hcap
    have hbel := hcap.bel
    by_cases hlt : k < n
    · obtain ⟨c0, c1', va, vn, vc, c2, vr⟩ := (HC.out k hlt).below hb hbel
      have hlt' : (k : Int) < (n : Int) := by omega
      have MT := hide (fun w1 => matches_any mask (L k) va vn vc w1)
      cases hm : mtB mask (L k)
      · simp only [hm] at MT
        have E1 := hide (cntP_no hm)
        have E2 := hide (nrL_no (qs := qs) hm)
        clear hbel hcap vr hm
        go_wp2_with fail
        refine (MT.out _).mono ?_
        rintro e w1 ⟨rfl, hb1⟩
        have bel1 : Below wr.heap.size wr w1 := (by repeat' first | with_reducible exact Below.refl _ _ | with_reducible assumption | with_reducible refine below_drewN ?_ _ | with_reducible refine balloc ?_ _ | with_reducible refine Below.drew ?_ | with_reducible refine Below.setCell ?_ (by first | (simp; done) | (simp; omega) | omega) _ | with_reducible refine bstep ?_ (by assumption))
        go_wp2_with fail
        go_roundw
        case rel => exact ⟨k + 1, by omega, by go_num, by rw [E1.out, E2.out]; exact HK.out.below bel1⟩
        case measure => simp [intOf]; omega
      · simp only [hm] at MT
        have E1 := hide (cntP_yes hm)
        have E2 := hide (nrL_yes (qs := qs) hm)
        have hvl := vr.len
        have NO := hide (fun w1 (h1 : Below wr.heap.size wr w1) => nearOf_any (L k) va vn vc qa qn qc qs w1 (vr.below h1) (by have := (vecOk_all (HF.out.vi k hlt) hvl).2.1; omega) ((HRQ.out.below hbel).below h1) hqn (HF.out.vi k hlt) HF.out.vq (HF.out.li k hlt))
        have hj : cntP (mtB mask) L k ≤ 60 := Nat.le_trans (cntP_le _ _ _) (by omega)
        generalize cntP (mtB mask) L k = j at *
        generalize nrL qs mask L k = M at *
        obtain ⟨y, hy⟩ : ∃ y, nrOf qs (L k) = y := ⟨_, rfl⟩
        rw [hy] at NO E2
        have CL := hide (fun w1 (h1 : CapN w0 vb j M w1) => nearest1_any w0 vb j M y w1 h1 hj)
        clear hbel hcap vr hm hy
        go_wp2_with fail
        refine (MT.out _).mono ?_
        rintro e w1 ⟨rfl, hb1⟩
        have bel1 : Below wr.heap.size wr w1 := (by repeat' first | with_reducible exact Below.refl _ _ | with_reducible assumption | with_reducible refine below_drewN ?_ _ | with_reducible refine balloc ?_ _ | with_reducible refine Below.drew ?_ | with_reducible refine Below.setCell ?_ (by first | (simp; done) | (simp; omega) | omega) _ | with_reducible refine bstep ?_ (by assumption))
        obtain ⟨_, q1, q2, q3, _⟩ := (Tri.new wr (.int .i64 (L k).id) (.int .i64 (L k).tags) (.slice va vn vc) 55).below hb1
        go_wp2_with fail
        refine (NO.out _ bel1).mono ?_
        rintro e w2 ⟨rfl, hb2⟩
        go_wp2_with fail
        refine (CL.out _ (HK.out.below (bstep bel1 hb2))).mono ?_
        rintro e w3 ⟨rfl, hc3⟩
        have HC3 := hide hc3
        clear hc3
        go_wp2_with fail
        go_roundw
        case rel => exact ⟨k + 1, by omega, by go_num, by rw [E1.out, E2.out]; exact HC3.out⟩
        case measure => simp [intOf]; omega
    · obtain rfl : k = n := by omega
      clear hcap hbel
      go_wp2_with fail
      go_end0
      exact ⟨rfl, HK.out⟩

theorem eachNear_nearAny (w0 : World) (vb : Nat) (dim : Int) (a : Option Addr) (n cap : Nat) (L : IL) (qa : Option Addr) (qn qc : Nat) (qs : List Int) (mask : Int) (w : World) (hi : IRow w0 a n L) (rq : Row w0 qa qn qs) (hqn : qn ≤ 1048576) (hf : Fine dim n L qs)
    (h : CapN w0 vb 0 (nrL qs mask L 0) w) :
    Calls Try.prog 23 #[.slice a n cap, .slice qa qn qc, .int .i64 mask, .func (.func 24) #[] #[.pointer (some ⟨vb, 0, none⟩)]] w fun e w' => e = .returned (.tuple #[]) ∧ CapN w0 vb (cntP (mtB mask) L n) (nrL qs mask L n) w' := by
  rcases hi.lies with h0 | ⟨b, off, rfl, lt, hc⟩
  · subst h0
    exact (eachNear_zero a 0 cap _ _ mask w (by omega)).mono fun e w' ⟨he, hw⟩ => ⟨he, hw ▸ h⟩
  · exact eachNear_near w0 vb dim b off n cap L qa qn qc qs mask w lt hc rq hqn hf h

/-- The Nears of a right query are right. -/
theorem near_ok {dim : Int} {n : Nat} {L : IL} {qs : List Int} {mask : Int} (hf : formB dim n L qs = true) : ∀ t, t < cntP (mtB mask) L n → nearB (nrL qs mask L n t).1 (nrL qs mask L n t).2 = true := by
  intro t ht
  obtain ⟨j, hj, e⟩ := fil_mem (mtB mask) L n t ht
  have fine := fine_of hf
  have hid : inB (L j).id 1 9999 = true := by
    unfold formB at hf
    simp only [Bool.and_eq_true] at hf
    have h0 := hf.1.1
    unfold itemsB at h0
    simp only [Bool.and_eq_true] at h0
    have := allN_at h0.2 hj
    unfold okI itemB at this
    simp only [Bool.and_eq_true] at this
    exact this.1.1.1.1
  obtain ⟨x1, x8, xc⟩ := vecOk_all (fine.vi j hj) rfl
  obtain ⟨y1, y8, yc⟩ := vecOk_all fine.vq rfl
  have hb := dsum_bd (n := (L j).vec.length) xc (fun i hi => yc i (by rw [← fine.li j hj]; exact hi)) _ (Nat.le_refl _)
  unfold nearB nrL nrOf
  rw [e, hid]
  simp only [Bool.true_and]
  unfold inB
  exact decide_eq_true (by omega)

def nearM (dim : Int) (n : Nat) (L : IL) (qs : List Int) (k mask : Int) : Nat := if formB dim n L qs && inB k 1 20 then min k.toNat (cntP (mtB mask) L n) else 0
def nearA (n : Nat) (L : IL) (qs : List Int) (mask : Int) : NL := isortL (cntP (mtB mask) L n) (nrL qs mask L n)

set_option maxHeartbeats 4000000 in
theorem iNearest_yes (dim : Int) (a : Option Addr) (n cap : Nat) (L : IL) (qa : Option Addr) (qn qc : Nat) (qs : List Int) (K : Nat) (mask : Int) (w : World) (h : IRow w a n L) (hv : ∀ i, i < n → (L i).vec.length ≤ 1048576) (rq : Row w qa qn qs) (hqn : qn ≤ 1048576) (hf : formB dim n L qs = true) (h1 : 1 ≤ K) (h20 : K ≤ 20) :
    Calls Try.prog 7 #[.int .i64 dim, .slice a n cap, .slice qa qn qc, .int .i64 K, .int .i64 mask] w fun e w' => OutN w (min K (cntP (mtB mask) L n)) (nearA n L qs mask) e w' := by
  have hfine := fine_of hf
  have hn := hfine.n60
  have KQ := hide (fun w1 (hb : Below w.heap.size w w1) => queryOk_any dim a n cap L qa qn qc qs w1 (h.below hb) (by omega) hv (rq.below hb) hqn)
  simp only [hf] at KQ
  have KO := hide (kOk_any K)
  rw [show inB (K : Int) 1 20 = true from decide_eq_true (by omega)] at KO
  have EN := hide (fun vb w1 (hc : CapN w vb 0 (nrL qs mask L 0) w1) => eachNear_nearAny w vb dim a n cap L qa qn qc qs mask w1 h rq hqn hfine hc)
  have hml : cntP (mtB mask) L n ≤ 60 := Nat.le_trans (cntP_le _ _ _) hn
  have hna := near_ok (mask := mask) hf
  have LO := hide (fun g c w1 (hr : RowL w1 g (cntP (mtB mask) L n) (nrL qs mask L n)) => leastOf_some g 0 (cntP (mtB mask) L n) c K (nrL qs mask L n) w1 h1 h20 hml hna hr.lt (fun i hi => by rw [Nat.zero_add]; exact ⟨hr.c0 hi, hr.c1 hi⟩))
  unfold nearA
  generalize cntP (mtB mask) L n = m at *
  generalize nrL qs mask L n = M at *
  obtain ⟨t, ht⟩ : ∃ t, min K m = t := ⟨_, rfl⟩
  simp only [LeastR, ht] at LO
  rw [ht]
  clear h hv rq hf hfine hna ht
  go_enter Try.func7, Try.ntmps7
  go_wp2_with fail
  refine (KQ.out _ (Below.refl _ _)).mono ?_
  rintro e w1 ⟨rfl, b1⟩
  go_wp2_with fail
  refine (KO.out _).mono ?_
  rintro e w' ⟨rfl, hw'⟩
  have hw1 := hw'.symm
  subst hw1
  have hs1 := b1.size
  have C0 : Hid (CapN w (w1.heap.size + 1) 0 (nrL qs mask L 0) ((w1.alloc (.cells #[] 47)).alloc (.cells #[.slice (some ⟨w1.heap.size, 0, none⟩) 0 0] 28))) := hide (by
    refine ⟨⟨w1.heap.size, 0, ?_, ?_⟩, by omega, (by repeat' first | with_reducible exact Below.refl _ _ | with_reducible assumption | with_reducible refine below_drewN ?_ _ | with_reducible refine balloc ?_ _ | with_reducible refine Below.drew ?_ | with_reducible refine Below.setCell ?_ (by first | (simp; done) | (simp; omega) | omega) _ | with_reducible refine bstep ?_ (by assumption))⟩
    · have := Go.Deep.blk_alloc_new (w1.alloc (.cells #[] 47)) (.cells #[.slice (some ⟨w1.heap.size, 0, none⟩) 0 0] 28)
      simp only [World.size_alloc] at this
      exact this
    · have := (RC.new w1 (nrL qs mask L 0)).below (balloc (Below.refl _ _) (.cells #[.slice (some ⟨w1.heap.size, 0, none⟩) 0 0] 28))
      exact ⟨by omega, this.2⟩)
  go_wp2_with fail
  refine (EN.out _ _ C0.out).mono ?_
  rintro e w2 ⟨rfl, hc2⟩
  obtain ⟨⟨g, c, hv2, hr2⟩, _, hb2⟩ := hc2
  have q1 := one_cell hv2
  have HR2 := hide hr2.rowl
  have HB2 := hide hb2
  clear hv2 hr2 hb2 b1
  go_wp2_with fail
  refine (LO.out _ _ _ HR2.out).mono ?_
  rintro e w3 ⟨a3, c3, rfl, hw3, hb3⟩
  have HW3 := hide hw3
  have HB3 := hide hb3
  clear hw3 hb3 q1
  go_wp2_with fail
  go_ret
  refine ⟨a3, c3, rfl, ?_, bstep HB2.out HB3.out⟩
  rcases HW3.out with h0 | ⟨b, e, hB, hr⟩
  · exact .inl h0
  · exact .inr ⟨b, e, Nat.le_trans HB2.out.size hB, hr⟩

set_option maxHeartbeats 1600000 in
theorem iNearest_no (dim : Int) (a : Option Addr) (n cap : Nat) (L : IL) (qa : Option Addr) (qn qc : Nat) (qs : List Int) (k mask : Int) (w : World) (h : IRow w a n L) (hn : n ≤ 1048576) (hv : ∀ i, i < n → (L i).vec.length ≤ 1048576) (rq : Row w qa qn qs) (hqn : qn ≤ 1048576) (hf : (formB dim n L qs && inB k 1 20) = false) (A : NL) :
    Calls Try.prog 7 #[.int .i64 dim, .slice a n cap, .slice qa qn qc, .int .i64 k, .int .i64 mask] w fun e w' => OutN w 0 A e w' := by
  have KQ := hide (fun w1 (hb : Below w.heap.size w w1) => queryOk_any dim a n cap L qa qn qc qs w1 (h.below hb) hn hv (rq.below hb) hqn)
  have KO := hide (kOk_any k)
  clear h hv rq
  cases h0 : formB dim n L qs
  · simp only [h0] at KQ
    go_enter Try.func7, Try.ntmps7
    go_wp2_with fail
    refine (KQ.out _ (Below.refl _ _)).mono ?_
    rintro e w1 ⟨rfl, b1⟩
    go_wp2_with fail
    go_ret
    exact outN_nil rfl b1
  · rw [h0, Bool.true_and] at hf
    simp only [h0] at KQ
    simp only [hf] at KO
    go_enter Try.func7, Try.ntmps7
    go_wp2_with fail
    refine (KQ.out _ (Below.refl _ _)).mono ?_
    rintro e w1 ⟨rfl, b1⟩
    go_wp2_with fail
    refine (KO.out _).mono ?_
    rintro e w' ⟨rfl, rfl⟩
    go_wp2_with fail
    go_ret
    exact outN_nil rfl b1

theorem iNearest_any (dim : Int) (a : Option Addr) (n cap : Nat) (L : IL) (qa : Option Addr) (qn qc : Nat) (qs : List Int) (k mask : Int) (w : World) (h : IRow w a n L) (hn : n ≤ 1048576) (hv : ∀ i, i < n → (L i).vec.length ≤ 1048576) (rq : Row w qa qn qs) (hqn : qn ≤ 1048576) :
    Calls Try.prog 7 #[.int .i64 dim, .slice a n cap, .slice qa qn qc, .int .i64 k, .int .i64 mask] w fun e w' => OutN w (nearM dim n L qs k mask) (nearA n L qs mask) e w' := by
  unfold nearM
  cases hf : (formB dim n L qs && inB k 1 20)
  · exact iNearest_no dim a n cap L qa qn qc qs k mask w h hn hv rq hqn hf _
  · rw [Bool.and_eq_true] at hf
    have hk := of_decide_eq_true hf.2
    obtain ⟨K, rfl⟩ : ∃ K : Nat, k = (K : Int) := ⟨k.toNat, by omega⟩
    exact iNearest_yes dim a n cap L qa qn qc qs K mask w h hv rq hqn hf.1 (by omega) (by omega)
end Go.Proofs.Ytmbncafbbpcmbaa

/- Nearest and KthOf of the model. -/
namespace Go.Proofs.Ytmbncafbbpcmbaa
open Go.RowKit
set_option maxRecDepth 8000
set_option linter.unusedSimpArgs false
set_option linter.unusedVariables false

theorem Try.elemNears : Try.prog.elem 28 = 47 := by kernel_rfl
theorem Try.underNears : Try.prog.underlying 28 = some (.slice (Try.prog.elem 28)) := by rw [Try.elemNears]; exact Try.underlying28
theorem nearSize (w : World) : (sizeOf (Try.prog.elem 28)).run Try.prog w = .ok 2 w := by
  obtain ⟨i0, hi, hz0, hz1, hz2⟩ := nearInfo2
  rw [Try.elemNears]
  simp [sizeOf, typeInfo, hi, hz1]

set_option maxHeartbeats 4000000 in
theorem sNearest_yes (dim : Int) (a : Option Addr) (n cap : Nat) (L : IL) (qa : Option Addr) (qn qc : Nat) (qs : List Int) (K : Nat) (mask : Int) (w : World) (h : IRow w a n L) (hv : ∀ i, i < n → (L i).vec.length ≤ 1048576) (rq : Row w qa qn qs) (hqn : qn ≤ 1048576) (hf : formB dim n L qs = true) (h1 : 1 ≤ K) (h20 : K ≤ 20) :
    Calls Try.prog 9 #[.int .i64 dim, .slice a n cap, .slice qa qn qc, .int .i64 K, .int .i64 mask] w fun e w' => OutN w (min K (cntP (mtB mask) L n)) (nearA n L qs mask) e w' := by
  have hfine := fine_of hf
  have hn := hfine.n60
  have KQ := hide (fun w1 (hb : Below w.heap.size w w1) => l8Form_any dim a n cap L qa qn qc qs w1 (h.below hb) (by omega) hv (rq.below hb) hqn)
  simp only [hf] at KQ
  have KO := hide (fun w1 => l1In_any (K : Int) 1 20 w1)
  rw [show inB (K : Int) 1 20 = true from decide_eq_true (by omega)] at KO
  have NR := hide (fun w1 (hb : Below w.heap.size w w1) => l8Nears_any dim a n cap L qa qn qc qs mask w1 (h.below hb) (rq.below hb) hfine)
  have hml : cntP (mtB mask) L n ≤ 60 := Nat.le_trans (cntP_le _ _ _) hn
  unfold nearA
  generalize cntP (mtB mask) L n = N at *
  generalize nrL qs mask L n = A at *
  obtain ⟨t, ht⟩ : ∃ t, min K N = t := ⟨_, rfl⟩
  have hmin : min (K : Int) (N : Int) = (t : Int) := by omega
  have htN : t ≤ N := by omega
  rw [ht]
  clear h hv rq hf hfine ht
  go_enter Try.func9, Try.ntmps9
  go_wp2_with fail
  refine (KQ.out _ (Below.refl _ _)).mono ?_
  rintro e w1 ⟨rfl, b1⟩
  go_wp2_with fail
  refine (KO.out _).mono ?_
  rintro e w' ⟨rfl, hw'⟩
  have hw1 := hw'.symm
  subst hw1
  go_wp2_with fail
  refine (NR.out _ b1).mono ?_
  rintro e w2 ⟨g2, c2, rfl, hr2, b2⟩
  have S := hide (l6Sorted_some g2 0 N c2 (fun i => (A i).1) (fun i => (A i).2) w2 hml hr2.rowl.lt (fun i hi => by rw [Nat.zero_add]; exact ⟨hr2.rowl.c0 hi, hr2.rowl.c1 hi⟩))
  have bw2 := bstep b1 b2
  clear hr2 b1 b2
  go_wp2_with fail
  refine S.out.mono ?_
  rintro e w3 ⟨g3, c3, M, rfl, hr3, hM, b3⟩
  have hcap3 : N ≤ c3 := by
    obtain ⟨_, cur, _, hk, _⟩ := hr3
    exact hk
  have HR3 := hide (hr3.rowl.congr fun i hi => (hM i hi).trans (isortL_ext N (fun i hi => listL_at hi) i hi))
  have HG3 := hide hr3.base
  have HBW := hide (bstep bw2 b3)
  have hs2 := bw2.size
  have htc : (t : Int) ≤ (c3 : Int) := by omega
  clear hr3 hM b3 bw2 S
  go_wp2_with fail
  go_ret
  exact ⟨some ⟨g3, 0, none⟩, c3, rfl, .inr ⟨g3, rfl, Nat.le_trans hs2 HG3.out, HR3.out.less htN⟩, HBW.out⟩

set_option maxHeartbeats 1600000 in
theorem sNearest_no (dim : Int) (a : Option Addr) (n cap : Nat) (L : IL) (qa : Option Addr) (qn qc : Nat) (qs : List Int) (k mask : Int) (w : World) (h : IRow w a n L) (hn : n ≤ 1048576) (hv : ∀ i, i < n → (L i).vec.length ≤ 1048576) (rq : Row w qa qn qs) (hqn : qn ≤ 1048576) (hf : (formB dim n L qs && inB k 1 20) = false) (A : NL) :
    Calls Try.prog 9 #[.int .i64 dim, .slice a n cap, .slice qa qn qc, .int .i64 k, .int .i64 mask] w fun e w' => OutN w 0 A e w' := by
  have KQ := hide (fun w1 (hb : Below w.heap.size w w1) => l8Form_any dim a n cap L qa qn qc qs w1 (h.below hb) hn hv (rq.below hb) hqn)
  have KO := hide (fun w1 => l1In_any k 1 20 w1)
  clear h hv rq
  cases h0 : formB dim n L qs
  · simp only [h0] at KQ
    go_enter Try.func9, Try.ntmps9
    go_wp2_with fail
    refine (KQ.out _ (Below.refl _ _)).mono ?_
    rintro e w1 ⟨rfl, b1⟩
    go_wp2_with fail
    go_ret
    exact outN_nil rfl b1
  · rw [h0, Bool.true_and] at hf
    simp only [h0] at KQ
    simp only [hf] at KO
    go_enter Try.func9, Try.ntmps9
    go_wp2_with fail
    refine (KQ.out _ (Below.refl _ _)).mono ?_
    rintro e w1 ⟨rfl, b1⟩
    go_wp2_with fail
    refine (KO.out _).mono ?_
    rintro e w' ⟨rfl, rfl⟩
    go_wp2_with fail
    go_ret
    exact outN_nil rfl b1

theorem sNearest_any (dim : Int) (a : Option Addr) (n cap : Nat) (L : IL) (qa : Option Addr) (qn qc : Nat) (qs : List Int) (k mask : Int) (w : World) (h : IRow w a n L) (hn : n ≤ 1048576) (hv : ∀ i, i < n → (L i).vec.length ≤ 1048576) (rq : Row w qa qn qs) (hqn : qn ≤ 1048576) :
    Calls Try.prog 9 #[.int .i64 dim, .slice a n cap, .slice qa qn qc, .int .i64 k, .int .i64 mask] w fun e w' => OutN w (nearM dim n L qs k mask) (nearA n L qs mask) e w' := by
  unfold nearM
  cases hf : (formB dim n L qs && inB k 1 20)
  · exact sNearest_no dim a n cap L qa qn qc qs k mask w h hn hv rq hqn hf _
  · rw [Bool.and_eq_true] at hf
    have hk := of_decide_eq_true hf.2
    obtain ⟨K, rfl⟩ : ∃ K : Nat, k = (K : Int) := ⟨k.toNat, by omega⟩
    exact sNearest_yes dim a n cap L qa qn qc qs K mask w h hv rq hqn hf.1 (by omega) (by omega)

/-- The answer of KthOf. -/
def kthV (m : Nat) (A : NL) : Int := if m = 0 then -1 else (A (m - 1)).2



end Go.Proofs.Ytmbncafbbpcmbaa
/- Matching of the model and of the program. -/
namespace Go.Proofs.Ytmbncafbbpcmbaa
open Go.RowKit
set_option maxRecDepth 8000
set_option linter.unusedSimpArgs false
set_option linter.unusedVariables false


/-- The answer of whoever picks items. -/
def PickR (w : World) (p : It → Bool) (n : Nat) (L : IL) (e : Ending) (w' : World) : Prop :=
  ∃ g cap V sv, e = .returned (.slice (some ⟨g, 0, none⟩) (cntP p L n) cap) ∧ GI w' w.heap.size g cap (cntP p L n) (fil p L n) V sv ∧ Below w.heap.size w w'



set_option maxHeartbeats 4000000 in
theorem iMatching_some (b off n cap : Nat) (L : IL) (mask : Int) (w : World) (hn : n ≤ 1048576) (hv : ∀ i, i < n → (L i).vec.length ≤ 1048576) (hb : b < w.heap.size) (hc : ∀ i, i < n → IAt w b (off + i * 3) (L i)) :
    Calls Try.prog 11 #[.slice (some ⟨b, off, none⟩) n cap, .int .i64 mask] w fun e w' => PickR w (mtB mask) n L e w' := by
  obtain ⟨i0, hi, hz0, hz1, hz2⟩ := itemInfo
  have HI := hide hi
  have HC := hide hc
  have HV := hide hv
  clear hc hv hi
  go_enter Try.func11, Try.ntmps11
  go_wp2_with fail
  go_loopw [5, 11] (fun s i wr => ∃ k : Nat, k ≤ n ∧ i = .int .i64 k ∧ (∃ g c V sv, s = .slice (some ⟨g, 0, none⟩) (cntP (mtB mask) L k) c ∧ GI wr w.heap.size g c (cntP (mtB mask) L k) (fil (mtB mask) L k) V sv) ∧ Below w.heap.size w wr) (fun _ i _ => n - (intOf i).toNat)
  case atStart => exact ⟨0, Nat.zero_le _, rfl, ⟨w.heap.size, 0, fun _ => 0, fun _ => .slice none 0 0, rfl, GI.new _ _ _ _⟩, (by repeat' first | with_reducible exact Below.refl _ _ | with_reducible assumption | with_reducible refine below_drewN ?_ _ | with_reducible refine balloc ?_ _ | with_reducible refine Below.drew ?_ | with_reducible refine Below.setCell ?_ (by first | (simp; done) | (simp; omega) | omega) _ | with_reducible refine bstep ?_ (by assumption))⟩
  case round =>
    obtain ⟨k, hk, rfl, ⟨g1, c1, V, sv, rfl, hgi⟩, hbel⟩ := hrel
    have HB := hide hbel
    have HG := hide hgi
    have hcl := cntP_le (mtB mask) L k
    have hsz := hbel.size
    by_cases hlt : k < n
    · obtain ⟨c0, c1', va, vn, vc, c2, vr⟩ := (HC.out k hlt).below hb hbel
      have hlt' : (k : Int) < (n : Int) := by omega
      cases hm : mtB mask (L k)
      · have MT := hide (fun w1 => matches_any mask (L k) va vn vc w1)
        simp only [hm] at MT
        have E1 := hide (cntP_no hm)
        have E2 := hide (fil_no hm)
        clear hbel hgi vr hm
        go_wp2_with fail
        refine (MT.out _).mono ?_
        rintro e w1 ⟨rfl, hb1⟩
        have bel1 : Below wr.heap.size wr w1 := (by repeat' first | with_reducible exact Below.refl _ _ | with_reducible assumption | with_reducible refine below_drewN ?_ _ | with_reducible refine balloc ?_ _ | with_reducible refine Below.drew ?_ | with_reducible refine Below.setCell ?_ (by first | (simp; done) | (simp; omega) | omega) _ | with_reducible refine bstep ?_ (by assumption))
        go_wp2_with fail
        go_roundw
        case rel => exact ⟨k + 1, by omega, by go_num, ⟨g1, c1, V, sv, by rw [E1.out], by rw [E1.out, E2.out]; exact HG.out.below bel1⟩, bstep HB.out bel1⟩
        case measure => simp [intOf]; omega
      · have MT := hide (fun w1 => matches_any mask (L k) va vn vc w1)
        simp only [hm] at MT
        have E1 := hide (cntP_yes hm)
        have E2 := hide (fil_yes hm)
        have R := hide (fun w1 (h1 : Below wr.heap.size wr w1) => copied_any (L k) va vn vc w1 (vr.below h1) (by rw [← vr.len]; exact HV.out k hlt))
        generalize cntP (mtB mask) L k = m at *
        generalize fil (mtB mask) L k = M at *
        clear hbel hgi vr hm
        go_wp2_with fail
        refine (MT.out _).mono ?_
        rintro e w0 ⟨rfl, hb0⟩
        have bel0 : Below wr.heap.size wr w0 := (by repeat' first | with_reducible exact Below.refl _ _ | with_reducible assumption | with_reducible refine below_drewN ?_ _ | with_reducible refine balloc ?_ _ | with_reducible refine Below.drew ?_ | with_reducible refine Below.setCell ?_ (by first | (simp; done) | (simp; omega) | omega) _ | with_reducible refine bstep ?_ (by assumption))
        obtain ⟨_, q1, q2, q3, _⟩ := (Tri.new wr (.int .i64 (L k).id) (.int .i64 (L k).tags) (.slice va vn vc) 55).below hb0
        have HG := hide (HG.out.below bel0)
        have HB := hide (bstep HB.out bel0)
        have hs0 := bel0.size
        go_wp2_with fail
        refine (R.out _ bel0).mono ?_
        rintro e w1 ⟨v, gv, rfl, hv1, hb1⟩
        have HV1 := hide hv1
        obtain ⟨a1, c3, rfl, _⟩ := hv1
        have hown := hide ((HG.out.below hb1).own.alloc (.cells #[.int .i64 (L k).id, .int .i64 (L k).tags, .slice a1 (L k).vec.length c3] 55))
        have hs1 := hb1.size
        go_wp2_with (at_builtin; refine wpList_append_lies _ rfl _ _ 24 rfl w.heap.size 55 i0 _ 3 40 Try.underlying24 HI.out hz0 hz1 hz2 rfl (by decide) _ _ _ rfl hown.out ⟨_, 0, none⟩ 1 1 [.int .i64 (L k).id, .int .i64 (L k).tags, .slice a1 (L k).vec.length c3] rfl rfl (three_new _ _ _ _ _) (three_one _ _ _ _ _) (by omega) (by unfold maxLen; omega) (by omega) (by simp; omega) _ rfl ?_)
        intro g5 c5 w5 hown5 hgrow hat5 hglt
        have HG5 := hide (HG.out.step (by omega) hb1 (L k) _ gv HV1.out (balloc (Below.refl _ _) _) hown5 hgrow (by rcases hat5 with h | h; exact .inl h; exact .inr (by simp [h])))
        have HB5 : Hid (Below w.heap.size w w5) := hide ((balloc (bstep HB.out hb1) (.cells #[.int .i64 (L k).id, .int .i64 (L k).tags, .slice a1 (L k).vec.length c3] 55)).grown hgrow (by simp; omega) fun k' hk' => (hown.out.lt k' hk').1)
        clear hown5 hgrow hat5 hown HB HG hb1
        go_wp2_with fail
        go_roundw
        case rel => exact ⟨k + 1, by omega, by go_num, ⟨g5, c5, _, _, by rw [E1.out], by rw [E1.out, E2.out]; exact HG5.out⟩, HB5.out⟩
        case measure => simp [intOf]; omega
    · obtain rfl : k = n := by omega
      clear hgi hbel
      go_wp2_with fail
      go_ret
      exact ⟨g1, c1, V, sv, rfl, HG.out, HB.out⟩





set_option maxHeartbeats 400000 in
theorem iMatching_none (a : Option Addr) (n cap : Nat) (L : IL) (mask : Int) (w : World) (hn : n < 1) :
    Calls Try.prog 11 #[.slice a n cap, .int .i64 mask] w fun e w' => PickR w (mtB mask) n L e w' := by
  obtain rfl : n = 0 := by omega
  go_enter Try.func11, Try.ntmps11
  go_wp2_with fail
  refine wp_loop_rounds 1 ?_
  rw [rounds_succ]
  go_wp2_with fail
  go_ret
  exact ⟨w.heap.size, 0, fun _ => 0, fun _ => .slice none 0 0, rfl, GI.new _ _ _ _, (by repeat' first | with_reducible exact Below.refl _ _ | with_reducible assumption | with_reducible refine below_drewN ?_ _ | with_reducible refine balloc ?_ _ | with_reducible refine Below.drew ?_ | with_reducible refine Below.setCell ?_ (by first | (simp; done) | (simp; omega) | omega) _ | with_reducible refine bstep ?_ (by assumption))⟩

theorem iMatching_any (a : Option Addr) (n cap : Nat) (L : IL) (mask : Int) (w : World) (h : IRow w a n L) (hn : n ≤ 1048576) (hv : ∀ i, i < n → (L i).vec.length ≤ 1048576) :
    Calls Try.prog 11 #[.slice a n cap, .int .i64 mask] w fun e w' => PickR w (mtB mask) n L e w' := by
  rcases h.lies with h0 | ⟨b, off, rfl, lt, hc⟩
  · exact iMatching_none a n cap L mask w (by omega)
  · exact iMatching_some b off n cap L mask w hn hv lt hc

end Go.Proofs.Ytmbncafbbpcmbaa

/- Items that are right, plain; those of them that are such. -/
namespace Go.Proofs.Ytmbncafbbpcmbaa
open Go.RowKit
set_option maxRecDepth 8000
set_option linter.unusedSimpArgs false
set_option linter.unusedVariables false

theorem itemsB_dim {dim : Int} {n : Nat} {L : IL} (h : itemsB dim n L = true) : inB dim 1 8 = true := by
  unfold itemsB at h
  simp only [Bool.and_eq_true] at h
  exact h.1.1
theorem itemsB_item {dim : Int} {n : Nat} {L : IL} (h : itemsB dim n L = true) {k : Nat} (hk : k < n) : itemB dim (L k) = true := by
  have := itemsB_ok h hk
  unfold okI at this
  simp only [Bool.and_eq_true] at this
  exact this.1
/-- Items are right where each is, and each id is greater than the one ahead. -/
theorem itemsB_mk {dim : Int} {n : Nat} {L : IL} (hd : inB dim 1 8 = true) (hn : n ≤ 60) (hi : ∀ k, k < n → itemB dim (L k) = true) (hr : ∀ k, k + 1 < n → (L k).id < (L (k + 1)).id) : itemsB dim n L = true := by
  unfold itemsB
  rw [hd, decide_eq_true hn, allN_yes]
  · rfl
  · intro k hk
    unfold okI
    rw [hi k hk, Bool.true_and]
    by_cases h0 : k = 0
    · simp [h0]
    · have := hr (k - 1) (by omega)
      rw [show k - 1 + 1 = k by omega] at this
      simp [h0]; omega

theorem fil_rise {dim : Int} {n : Nat} {L : IL} (h : itemsB dim n L = true) (p : It → Bool) : ∀ m, m ≤ n → ∀ k, k + 1 < cntP p L m → (fil p L m k).id < (fil p L m (k + 1)).id
  | 0, _, k, hk => absurd hk (by simp [cntP])
  | m + 1, hm, k, hk => by
    have ih := fil_rise h p m (by omega)
    cases hp : p (L m)
    · rw [cntP_no hp] at hk
      rw [fil_no hp]
      exact ih k hk
    · rw [cntP_yes hp] at hk
      rw [fil_yes hp]
      by_cases e : k + 1 = cntP p L m
      · rw [e, IL.put_at, IL.put_off _ _ (by omega)]
        obtain ⟨j, hj, ej⟩ := fil_mem p L m k (by omega)
        rw [ej]
        exact itemsB_rise h hj (by omega)
      · rw [IL.put_off _ _ (by omega), IL.put_off _ _ e]
        exact ih k (by omega)
/-- Those of right items that are such are right. -/
theorem itemsB_fil {dim : Int} {n : Nat} {L : IL} (h : itemsB dim n L = true) (p : It → Bool) : itemsB dim (cntP p L n) (fil p L n) = true :=
  itemsB_mk (itemsB_dim h) (Nat.le_trans (cntP_le p L n) (itemsB_n h)) (fun k hk => by
    obtain ⟨j, hj, e⟩ := fil_mem p L n k hk
    rw [e]; exact itemsB_item h hj) (fil_rise h p n (Nat.le_refl _))
end Go.Proofs.Ytmbncafbbpcmbaa

/- What the frame of a law tells of the bytes that came in; big. -/
namespace Go.Proofs.Ytmbncafbbpcmbaa
open Go.RowKit
set_option maxRecDepth 8000
set_option linter.unusedSimpArgs false
set_option linter.unusedVariables false

/-- What the frame of a law tells of a slice of bytes that came in. -/
def IsRow (k : IntKind) (w : World) (a : Option Addr) (len cap : Nat) (zs : List Int) : Prop :=
  (a = none ∧ len = 0 ∧ cap = 0 ∧ zs = []) ∨
  ∃ x, a = some x ∧ len ≤ cap ∧ cap ≤ maxLen ∧ zs.length = cap ∧ (∀ i, i < zs.length → w.cell? (x.add i) = some (.int k (zs.getD i 0))) ∧ ∀ n ∈ zs, (Lit.int k n).wf = true
theorem cellLt {w : World} {a : Addr} {v : Value} (h : w.cell? a = some v) : a.block < w.heap.size := by
  by_cases hlt : a.block < w.heap.size
  · exact hlt
  · simp [World.cell?, Array.getElem?_eq_none (Nat.le_of_not_lt hlt)] at h
theorem IsRow.code {w : World} {a : Option Addr} {len cap : Nat} {zs : List Int} (h : IsRow .u8 w a len cap zs) (hs : len ≤ 1048576) : Code w a len := by
  rcases h with ⟨rfl, rfl, rfl, rfl⟩ | ⟨x, rfl, hl, hm, hz, hcell, hwz⟩
  · exact ⟨hs, .inl rfl⟩
  · refine ⟨hs, ?_⟩
    by_cases h0 : len = 0
    · exact .inl h0
    · obtain ⟨b, off, spot⟩ := x
      have hc := hcell 0 (by omega)
      have hspot : spot = none := by simpa [Addr.add] using World.cell?_spot hc
      subst hspot
      refine .inr ⟨b, off, rfl, ?_, fun i hi => ?_⟩
      · have := cellLt hc
        simpa [Addr.add] using this
      · have := hcell i (by omega)
        have hb := bounds_u8 (hwz (zs.getD i 0) (by simp [show i < zs.length by omega]))
        refine ⟨zs.getD i 0, hb.1, hb.2, ?_⟩
        by_cases h00 : i = 0
        · subst h00; simpa [Addr.add] using this
        · simpa [Addr.add, h00] using this

set_option maxHeartbeats 400000 in
theorem big_any (a : Option Addr) (n c : Nat) (w : World) :
    Calls Try.prog 5 #[.slice a n c] w fun e w' => e = .returned (.bool (decide (1048576 < n))) ∧ w' = w := by
  by_cases h : 1048576 < n
  · have h' : (1048576 : Int) < n := by omega
    rw [decide_eq_true h]
    go_enter Try.func5, Try.ntmps5
    go_wp2
    go_ret
    exact ⟨by simp [h], rfl⟩
  · have h' : ¬ (1048576 : Int) < n := by omega
    rw [decide_eq_false h]
    go_enter Try.func5, Try.ntmps5
    go_wp2
    go_ret
    exact ⟨by simp [h], rfl⟩

end Go.Proofs.Ytmbncafbbpcmbaa

/- The walk of the law FnNearestMask. -/
namespace Go.Proofs.Ytmbncafbbpcmbaa
open Go.RowKit
set_option maxRecDepth 8000
set_option linter.unusedSimpArgs false
set_option linter.unusedVariables false

theorem isortL_congr {A B : NL} : ∀ n, (∀ i, i < n → A i = B i) → isortL n A = isortL n B
  | 0, _ => rfl
  | n + 1, h => by
    show insL n (isortL n A) (A n) = insL n (isortL n B) (B n)
    rw [isortL_congr n (fun i hi => h i (by omega)), h n (by omega)]
theorem mtB0 (x : It) : mtB 0 x = true := by
  have h : bits .and .i64 x.tags 0 = 0 := by simp [bits]; rfl
  unfold mtB
  rw [h]
  rfl
theorem fil0 {p : It → Bool} {L : IL} (hp : ∀ x, p x = true) : ∀ n, cntP p L n = n ∧ ∀ i, i < n → fil p L n i = L i
  | 0 => ⟨rfl, fun i hi => absurd hi (by omega)⟩
  | n + 1 => by
    obtain ⟨h1, h2⟩ := fil0 hp n
    rw [cntP_yes (hp _), fil_yes (hp _), h1]
    refine ⟨rfl, fun i hi => ?_⟩
    by_cases e : i = n
    · subst e; exact IL.put_at _ _ _
    · rw [IL.put_off _ _ e]; exact h2 i (by omega)
/-- What is nearest of those that match alone. -/
theorem near_mask {dim : Int} {n : Nat} {L : IL} {qs : List Int} {k mask : Int} (h : itemsB dim n L = true) : nearM dim (cntP (mtB mask) L n) (fil (mtB mask) L n) qs k 0 = nearM dim n L qs k mask ∧ nearA (cntP (mtB mask) L n) (fil (mtB mask) L n) qs 0 = nearA n L qs mask := by
  have hf := itemsB_fil h (mtB mask)
  have e0 := fil0 (L := fil (mtB mask) L n) mtB0 (cntP (mtB mask) L n)
  constructor
  · unfold nearM formB
    rw [hf, h, e0.1]
  · unfold nearA
    rw [e0.1]
    refine isortL_congr _ fun i hi => ?_
    unfold nrL
    rw [e0.2 i hi]
theorem fil_lenq {p : It → Bool} {L : IL} {n b : Nat} (h : ∀ i, i < n → (L i).vec.length ≤ b) : ∀ i, i < cntP p L n → (fil p L n i).vec.length ≤ b := by
  intro i hi
  obtain ⟨j, hj, e⟩ := fil_mem p L n i hi
  rw [e]; exact h j hj
theorem nearM_le (dim : Int) (n : Nat) (L : IL) (qs : List Int) (k mask : Int) : nearM dim n L qs k mask ≤ n := by
  unfold nearM
  split
  · exact Nat.le_trans (Nat.min_le_right _ _) (cntP_le _ _ _)
  · omega

set_option maxHeartbeats 8000000 in
theorem nearestMask_walk (a : Option Addr) (n cap : Nat) (zs : List Int) (w : World) (h : IsRow .u8 w a n cap zs) :
    Calls Try.prog 4 #[.slice a n cap] w fun e w' => e = .returned (.bool true) ∧ Below w.heap.size w w' := by
  have BG := hide (big_any a n cap w)
  by_cases hn : n ≤ 1048576
  · rw [decide_eq_false (show ¬ 1048576 < n by omega)] at BG
    have DR := hide (drawNearest_any a n cap w (h.code hn))
    clear h
    go_enter Try.func4, Try.ntmps4
    go_wp2_with fail
    refine BG.out.mono ?_
    rintro e w' ⟨rfl, hw⟩
    obtain rfl := hw.symm
    clear BG hw
    go_wp2_with fail
    refine DR.out.mono ?_
    rintro e w1 ⟨dim, g, m, cp, L, qa, qc, qs, k, mask, rfl, hni, rq, hql⟩
    have hm := hni.few
    have hv : ∀ i, i < m → (L i).vec.length ≤ 1048576 := fun i hi => Nat.le_trans (hni.len i hi) (by omega)
    have hql2 : qs.length ≤ 1048576 := by omega
    have IN := hide (fun w1 (h : IHi w1 w.heap.size g m L) (rq : Row w1 qa qs.length qs) => iNearest_any dim (some ⟨g, 0, none⟩) m cp L qa qs.length qc qs k mask w1 h.irow (by omega) hv rq hql2)
    have SN := hide (fun w1 (h : IHi w1 w.heap.size g m L) (rq : Row w1 qa qs.length qs) => sNearest_any dim (some ⟨g, 0, none⟩) m cp L qa qs.length qc qs k mask w1 h.irow (by omega) hv rq hql2)
    have SO := hide (fun w1 (h : IHi w1 w.heap.size g m L) => sItemsOk_any dim (some ⟨g, 0, none⟩) m cp L w1 h.irow (by omega) hv)
    have IM := hide (fun w1 (h : IHi w1 w.heap.size g m L) => iMatching_any (some ⟨g, 0, none⟩) m cp L mask w1 h.irow (by omega) hv)
    have cm := cntP_le (mtB mask) L m
    have IN0 := hide (fun g2 c2 w1 (h : IRow w1 (some ⟨g2, 0, none⟩) (cntP (mtB mask) L m) (fil (mtB mask) L m)) (rq : Row w1 qa qs.length qs) => iNearest_any dim (some ⟨g2, 0, none⟩) (cntP (mtB mask) L m) c2 (fil (mtB mask) L m) qa qs.length qc qs k 0 w1 h (by omega) (fil_lenq hv) rq hql2)
    have MK := hide (fun (h : itemsB dim m L = true) => near_mask (qs := qs) (k := k) (mask := mask) h)
    have hN := nearM_le dim m L qs k mask
    have EQ := hide (fun a1 k1 a2 k2 w1 (h : Wr w1 a1 (nearM dim m L qs k mask) (nearA m L qs mask) w.heap.size) (h' : Wr w1 a2 (nearM dim m L qs k mask) (nearA m L qs mask) w.heap.size) => sameNears_self a1 a2 (nearM dim m L qs k mask) k1 k2 (nearA m L qs mask) w1 h.prow h'.prow (by omega))
    have WM := hide (fun (w1 : World) (a1 : Option Addr) (B : Nat) (hB : w.heap.size ≤ B) (h : Wr w1 a1 (nearM dim m L qs k mask) (nearA m L qs mask) B) => show Wr w1 a1 (nearM dim m L qs k mask) (nearA m L qs mask) w.heap.size from by
      rcases h with h0 | ⟨b, e, hb, hr⟩
      · exact .inl h0
      · exact .inr ⟨b, e, by omega, hr⟩)
    have B1 := hide hni.low
    have I1 := hide hni.hi
    have R1 := hide rq
    clear hni rq DR hv
    unfold OutN at IN SN IN0
    unfold PickR at IM
    obtain ⟨N, hNe⟩ : ∃ N, nearM dim m L qs k mask = N := ⟨_, rfl⟩
    obtain ⟨A, hAe⟩ : ∃ A, nearA m L qs mask = A := ⟨_, rfl⟩
    obtain ⟨C, hCe⟩ : ∃ C, cntP (mtB mask) L m = C := ⟨_, rfl⟩
    obtain ⟨F, hFe⟩ : ∃ F, fil (mtB mask) L m = F := ⟨_, rfl⟩
    simp only [hNe, hAe, hCe, hFe] at IN SN IN0 IM MK EQ WM hN cm
    clear hNe hAe hCe hFe
    go_wp2_with fail
    refine (IN.out _ I1.out R1.out).mono ?_
    rintro e w2 ⟨a2, c2, rfl, o2, b2⟩
    have l1 := B1.out.size
    have I2 := hide (I1.out.below b2)
    have R2 := hide (R1.out.below b2)
    have O2 := hide (WM.out _ _ _ l1 o2)
    have B2 := hide (bstep B1.out b2)
    clear o2 b2 I1 R1 B1
    go_wp2_with fail
    refine (SN.out _ I2.out R2.out).mono ?_
    rintro e w3 ⟨a3, c3, rfl, o3, b3⟩
    have l2 := B2.out.size
    have I3 := hide (I2.out.below b3)
    have R3 := hide (R2.out.below b3)
    have O3 := hide (O2.out.below b3)
    have P3 := hide (WM.out _ _ _ l2 o3)
    have B3 := hide (bstep B2.out b3)
    clear o3 b3 I2 R2 O2 B2
    go_wp2_with fail
    refine (EQ.out _ _ _ _ _ O3.out P3.out).mono ?_
    rintro e w4 ⟨rfl, b4⟩
    have I4 := hide (I3.out.below b4)
    have R4 := hide (R3.out.below b4)
    have O4 := hide (O3.out.below b4)
    have B4 := hide (bstep B3.out b4)
    clear b4 I3 R3 O3 P3 B3
    go_wp2_with fail
    refine (SO.out _ I4.out).mono ?_
    rintro e w5 ⟨rfl, b5⟩
    have I5 := hide (I4.out.below b5)
    have R5 := hide (R4.out.below b5)
    have O5 := hide (O4.out.below b5)
    have B5 := hide (bstep B4.out b5)
    clear b5 I4 R4 O4 B4
    cases hib : itemsB dim m L
    · go_wp2_with fail
      refine (SN.out _ I5.out R5.out).mono ?_
      rintro e w6 ⟨a6, c6, rfl, o6, b6⟩
      have l5 := B5.out.size
      have O6 := hide (O5.out.below b6)
      have P6 := hide (WM.out _ _ _ l5 o6)
      have B6 := hide (bstep B5.out b6)
      clear o6 b6 O5 B5
      go_wp2_with fail
      refine (EQ.out _ _ _ _ _ O6.out P6.out).mono ?_
      rintro e w7 ⟨rfl, b7⟩
      have B7 := hide (bstep B6.out b7)
      clear b7
      go_wp2_with fail
      go_ret
      exact ⟨rfl, B7.out⟩
    · have mk := MK.out hib
      rw [mk.1, mk.2] at IN0
      clear mk MK hib
      go_wp2_with fail
      refine (IM.out _ I5.out).mono ?_
      rintro e w6 ⟨g6, c6, V6, s6, rfl, i6, b6⟩
      have R6 := hide (R5.out.below b6)
      have O6 := hide (O5.out.below b6)
      have B6 := hide (bstep B5.out b6)
      clear b6 R5 O5 B5
      go_wp2_with fail
      refine (IN0.out _ _ _ i6.its.irow R6.out).mono ?_
      rintro e w7 ⟨a7, c7, rfl, o7, b7⟩
      have l6 := B6.out.size
      have O7 := hide (O6.out.below b7)
      have P7 := hide (WM.out _ _ _ l6 o7)
      have B7 := hide (bstep B6.out b7)
      clear o7 b7 O6 B6 i6
      go_wp2_with fail
      refine (EQ.out _ _ _ _ _ P7.out O7.out).mono ?_
      rintro e w8 ⟨rfl, b8⟩
      have B8 := hide (bstep B7.out b8)
      clear b8
      go_wp2_with fail
      go_ret
      exact ⟨rfl, B8.out⟩
  · rw [decide_eq_true (show 1048576 < n by omega)] at BG
    go_enter Try.func4, Try.ntmps4
    go_wp2_with fail
    refine BG.out.mono ?_
    rintro e w' ⟨rfl, rfl⟩
    go_wp2
    go_ret
    exact ⟨rfl, (by repeat' first | with_reducible exact Below.refl _ _ | with_reducible assumption | with_reducible refine below_drewN ?_ _ | with_reducible refine balloc ?_ _ | with_reducible refine Below.drew ?_ | with_reducible refine Below.setCell ?_ (by first | (simp; done) | (simp; omega) | omega) _ | with_reducible refine bstep ?_ (by assumption))⟩
end Go.Proofs.Ytmbncafbbpcmbaa
