/- Nearest of the program: the closure, eachNear, the query. -/
import Derived.Test.YthhgflclljaakaaZ27
import Derived.Test.YthhgflclljaakaaZ24
import Derived.Test.YthhgflclljaakaaZ17
namespace Go.Proofs.Ythhgflclljaakaa
open Go.RowKit
set_option maxRecDepth 8000
set_option linter.unusedSimpArgs false
set_option linter.unusedVariables false

/-- What the closure of Nearest keeps: the slice that it appends to. -/
structure CapN (w0 : World) (vb : Nat) (m : Nat) (M : NL) (w : World) : Prop where
  ex : ∃ g c, w.heap[vb]? = some (.cells #[.slice (some ⟨g, 0, none⟩) m c] 28 (0, 0)) ∧ RC w w0.heap.size g c m M
  lo : w0.heap.size ≤ vb
  bel : Below w0.heap.size w0 w

theorem CapN.below {w0 : World} {vb : Nat} {m : Nat} {M : NL} {w w' : World} (h : CapN w0 vb m M w) (hb : Below w.heap.size w w') : CapN w0 vb m M w' := by
  obtain ⟨⟨g, c, h2, h3⟩, h4, h5⟩ := h
  exact ⟨⟨g, c, (hb.block vb (blkLt h2)).trans h2, h3.below hb⟩, h4, bstep h5 hb⟩

set_option maxHeartbeats 4000000 in
theorem nearest1_any (w0 : World) (vb : Nat) (m : Nat) (M : NL) (x : Int × Int) (w : World) (h : CapN w0 vb m M w) (hm : m ≤ 60) :
    Calls Try.prog 25 #[.agg #[.int .i64 x.1, .int .i64 x.2], .pointer (some ⟨vb, 0, none⟩)] w fun e w' => e = .returned (.tuple #[]) ∧ CapN w0 vb (m + 1) (M.put m x) w' := by
  have hb1 : Below w.heap.size w (w.alloc (.cells #[.int .i64 x.1, .int .i64 x.2] 52)) := balloc (Below.refl _ _) _
  obtain ⟨i0, hi, hz0, hz1, hz2⟩ := nearInfo2
  have HI := hide hi
  obtain ⟨⟨g, c, h2, h3⟩, h4, h5⟩ := h.below hb1
  have q2 := one_cell h2
  have hs0 := h5.size
  have l2 := blkLt h2
  simp only [World.size_alloc] at hs0 l2
  have hne : vb ≠ g := fun e => by
    obtain ⟨cur, hcur⟩ := h3.blk
    rw [← e, h2] at hcur
    simp at hcur
  have HRC := hide h3
  have HH2 := hide h2
  have HB5 := hide h5
  generalize hNV : nlv M m = NV at *
  have HNV := hide hNV
  have hown := hide (HRC.out.owns.alloc (.cells #[.int .i64 x.1, .int .i64 x.2] 52))
  rw [HNV.out] at hown
  have hnew := two_newAt (w.alloc (.cells #[.int .i64 x.1, .int .i64 x.2] 52)) (.int .i64 x.1) (.int .i64 x.2) 52 (w.heap.size + 1) (by simp)
  have HN := hide hnew
  clear hNV hnew h h2 h3 h5 hi hb1
  go_enter Try.func25, Try.ntmps25
  go_wp2_with (at_builtin; refine wpList_append_lies _ rfl _ _ 28 rfl w0.heap.size 52 i0 _ 2 16 Try.underlying28 HI.out hz0 hz1 hz2 rfl (by decide) _ _ _ rfl hown.out ⟨w.heap.size + 1, 0, none⟩ 1 1 [.int .i64 x.1, .int .i64 x.2] rfl rfl HN.out (two_one _ _) (by omega) (by unfold maxLen; omega) (by omega) (by simp; omega) _ rfl ?_)
  intro g5 c5 w5 hown5 hgrow hat5 hglt
  have HG5 : Hid (RC w5 w0.heap.size g5 c5 (m + 1) (M.put m x)) := hide (RC.grown (x := x.1) (y := x.2) (by rw [HNV.out]; exact hown5))
  have hvb5 : w5.heap[vb]? = some (.cells #[.slice (some ⟨g, 0, none⟩) m c] 28 (0, 0)) := by
    rw [hgrow.block vb (by simp; omega) (by simpa [Value.ownBlock] using hne)]
    exact ((balloc (Below.refl _ _) _).block vb (by simp; omega)).trans HH2.out
  have hbel5 : Below w0.heap.size w0 w5 := (balloc HB5.out (.cells #[.int .i64 x.1, .int .i64 x.2] 52)).grown hgrow (by simp; omega) fun k' hk' => (hown.out.lt k' hk').1
  have hne5 : vb ≠ g5 := by
    rcases hat5 with h | h
    · simp [Value.ownBlock] at h; omega
    · omega
  have HEND : Hid (CapN w0 vb (m + 1) (M.put m x) (w5.setCell ⟨vb, 0, none⟩ (.slice (some ⟨g5, 0, none⟩) (m + 1) c5))) := hide ⟨⟨g5, c5, by rw [heap_set hvb5]; simp, HG5.out.block (Below.heap_setCell w5 ⟨vb, 0, none⟩ _ g5 (Ne.symm hne5))⟩, h4, hbel5.setCell h4 _⟩
  have q5 := one_cell hvb5
  have q6 := one_free hvb5
  clear hown5 hgrow hat5 hown hvb5 hbel5
  go_wp2_with fail
  go_end0
  exact ⟨rfl, HEND.out⟩

set_option maxHeartbeats 8000000 in
set_option maxRecDepth 4000 in
theorem eachNear_near (w0 : World) (vb : Nat) (dim : Int) (b off n cap : Nat) (L : IL) (qa : Option Addr) (qn qc : Nat) (qs : List Int) (mask : Int) (w : World) (hb : b < w0.heap.size) (hc : ∀ i, i < n → IAt w0 b (off + i * 3) (L i)) (rq : Row w0 qa qn qs) (hqn : qn ≤ 1048576) (hf : Fine dim n L qs)
    (h : CapN w0 vb 0 (nrL qs mask L 0) w) :
    Calls Try.prog 24 #[.slice (some ⟨b, off, none⟩) n cap, .slice qa qn qc, .int .i64 mask, .func (.func 25) #[] #[.pointer (some ⟨vb, 0, none⟩)]] w fun e w' => e = .returned (.tuple #[]) ∧ CapN w0 vb (cntP (mtB mask) L n) (nrL qs mask L n) w' := by
  have hn := hf.n60
  have HF := hide hf
  have HC := hide hc
  have HRQ := hide rq
  have HCAP := hide h
  clear hf hc rq h
  go_enter Try.func24, Try.ntmps24
  go_wp2_with fail
  go_loopw [12] (fun i wr => ∃ k : Nat, k ≤ n ∧ i = .int .i64 k ∧ CapN w0 vb (cntP (mtB mask) L k) (nrL qs mask L k) wr) (fun i _ => n - (intOf i).toNat)
  case atStart => exact ⟨0, Nat.zero_le _, rfl, HCAP.out⟩
  case round =>
    obtain ⟨k, hk, rfl, hcap⟩ := hrel
    have HK := hide hcap
    have hbel := hcap.bel
    by_cases hlt : k < n
    · obtain ⟨c0, c1', va, vn, vc, c2, vr⟩ := (HC.out k hlt).below hb hbel
      have hlt' : (k : Int) < (n : Int) := by omega
      have MT := hide (fun w1 => matches_any mask (L k) va vn vc w1)
      cases hm : mtB mask (L k)
      · simp only [hm] at MT
        have E1 := hide (cntP_no hm)
        have E2 := hide (nrL_no (qs := qs) hm)
        clear hbel hcap vr hm
        go_wp2_with fail
        refine (MT.out _).mono ?_
        rintro e w1 ⟨rfl, hb1⟩
        have bel1 : Below wr.heap.size wr w1 := (by repeat' first | with_reducible exact Below.refl _ _ | with_reducible assumption | with_reducible refine below_drewN ?_ _ | with_reducible refine balloc ?_ _ | with_reducible refine Below.drew ?_ | with_reducible refine Below.setCell ?_ (by first | (simp; done) | (simp; omega) | omega) _ | with_reducible refine bstep ?_ (by assumption))
        go_wp2_with fail
        go_roundw
        case rel => exact ⟨k + 1, by omega, by go_num, by rw [E1.out, E2.out]; exact HK.out.below bel1⟩
        case measure => simp [intOf]; omega
      · simp only [hm] at MT
        have E1 := hide (cntP_yes hm)
        have E2 := hide (nrL_yes (qs := qs) hm)
        have hvl := vr.len
        have NO := hide (fun w1 (h1 : Below wr.heap.size wr w1) => nearOf_any (L k) va vn vc qa qn qc qs w1 (vr.below h1) (by have := (vecOk_all (HF.out.vi k hlt) hvl).2.1; omega) ((HRQ.out.below hbel).below h1) hqn (HF.out.vi k hlt) HF.out.vq (HF.out.li k hlt))
        have hj : cntP (mtB mask) L k ≤ 60 := Nat.le_trans (cntP_le _ _ _) (by omega)
        generalize cntP (mtB mask) L k = j at *
        generalize nrL qs mask L k = M at *
        obtain ⟨y, hy⟩ : ∃ y, nrOf qs (L k) = y := ⟨_, rfl⟩
        rw [hy] at NO E2
        have CL := hide (fun w1 (h1 : CapN w0 vb j M w1) => nearest1_any w0 vb j M y w1 h1 hj)
        clear hbel hcap vr hm hy
        go_wp2_with fail
        refine (MT.out _).mono ?_
        rintro e w1 ⟨rfl, hb1⟩
        have bel1 : Below wr.heap.size wr w1 := (by repeat' first | with_reducible exact Below.refl _ _ | with_reducible assumption | with_reducible refine below_drewN ?_ _ | with_reducible refine balloc ?_ _ | with_reducible refine Below.drew ?_ | with_reducible refine Below.setCell ?_ (by first | (simp; done) | (simp; omega) | omega) _ | with_reducible refine bstep ?_ (by assumption))
        obtain ⟨_, q1, q2, q3, _⟩ := (Tri.new wr (.int .i64 (L k).id) (.int .i64 (L k).tags) (.slice va vn vc) 37).below hb1
        go_wp2_with fail
        refine (NO.out _ bel1).mono ?_
        rintro e w2 ⟨rfl, hb2⟩
        go_wp2_with fail
        refine (CL.out _ (HK.out.below (bstep bel1 hb2))).mono ?_
        rintro e w3 ⟨rfl, hc3⟩
        have HC3 := hide hc3
        clear hc3
        go_wp2_with fail
        go_roundw
        case rel => exact ⟨k + 1, by omega, by go_num, by rw [E1.out, E2.out]; exact HC3.out⟩
        case measure => simp [intOf]; omega
    · obtain rfl : k = n := by omega
      clear hcap hbel
      go_wp2_with fail
      go_end0
      exact ⟨rfl, HK.out⟩

theorem eachNear_nearAny (w0 : World) (vb : Nat) (dim : Int) (a : Option Addr) (n cap : Nat) (L : IL) (qa : Option Addr) (qn qc : Nat) (qs : List Int) (mask : Int) (w : World) (hi : IRow w0 a n L) (rq : Row w0 qa qn qs) (hqn : qn ≤ 1048576) (hf : Fine dim n L qs)
    (h : CapN w0 vb 0 (nrL qs mask L 0) w) :
    Calls Try.prog 24 #[.slice a n cap, .slice qa qn qc, .int .i64 mask, .func (.func 25) #[] #[.pointer (some ⟨vb, 0, none⟩)]] w fun e w' => e = .returned (.tuple #[]) ∧ CapN w0 vb (cntP (mtB mask) L n) (nrL qs mask L n) w' := by
  rcases hi.lies with h0 | ⟨b, off, rfl, lt, hc⟩
  · subst h0
    exact (eachNear_zero a 0 cap _ _ mask w (by omega)).mono fun e w' ⟨he, hw⟩ => ⟨he, hw ▸ h⟩
  · exact eachNear_near w0 vb dim b off n cap L qa qn qc qs mask w lt hc rq hqn hf h

/-- The Nears of a right query are right. -/
theorem near_ok {dim : Int} {n : Nat} {L : IL} {qs : List Int} {mask : Int} (hf : formB dim n L qs = true) : ∀ t, t < cntP (mtB mask) L n → nearB (nrL qs mask L n t).1 (nrL qs mask L n t).2 = true := by
  intro t ht
  obtain ⟨j, hj, e⟩ := fil_mem (mtB mask) L n t ht
  have fine := fine_of hf
  have hid : inB (L j).id 1 9999 = true := by
    unfold formB at hf
    simp only [Bool.and_eq_true] at hf
    have h0 := hf.1.1
    unfold itemsB at h0
    simp only [Bool.and_eq_true] at h0
    have := allN_at h0.2 hj
    unfold okI itemB at this
    simp only [Bool.and_eq_true] at this
    exact this.1.1.1.1
  obtain ⟨x1, x8, xc⟩ := vecOk_all (fine.vi j hj) rfl
  obtain ⟨y1, y8, yc⟩ := vecOk_all fine.vq rfl
  have hb := dsum_bd (n := (L j).vec.length) xc (fun i hi => yc i (by rw [← fine.li j hj]; exact hi)) _ (Nat.le_refl _)
  unfold nearB nrL nrOf
  rw [e, hid]
  simp only [Bool.true_and]
  unfold inB
  exact decide_eq_true (by omega)

def nearM (dim : Int) (n : Nat) (L : IL) (qs : List Int) (k mask : Int) : Nat := if formB dim n L qs && inB k 1 20 then min k.toNat (cntP (mtB mask) L n) else 0
def nearA (n : Nat) (L : IL) (qs : List Int) (mask : Int) : NL := isortL (cntP (mtB mask) L n) (nrL qs mask L n)

/-- What is told, and where it lies, without room behind. -/
def OutC (w : World) (m : Nat) (A : NL) (e : Ending) (w' : World) : Prop :=
  ∃ b, e = .returned (.slice (some ⟨b, 0, none⟩) m m) ∧ w.heap.size ≤ b ∧ RowL w' b m A ∧ Below w.heap.size w w'

theorem OutC.n {w : World} {m : Nat} {A : NL} {e : Ending} {w' : World} (h : OutC w m A e w') : OutN w m A e w' := by
  obtain ⟨b, he, hb, hr, hl⟩ := h
  exact ⟨_, _, he, .inr ⟨b, rfl, hb, hr⟩, hl⟩

set_option maxHeartbeats 4000000 in
theorem iNearest_yesC (dim : Int) (a : Option Addr) (n cap : Nat) (L : IL) (qa : Option Addr) (qn qc : Nat) (qs : List Int) (K : Nat) (mask : Int) (w : World) (h : IRow w a n L) (hv : ∀ i, i < n → (L i).vec.length ≤ 1048576) (rq : Row w qa qn qs) (hqn : qn ≤ 1048576) (hf : formB dim n L qs = true) (h1 : 1 ≤ K) (h20 : K ≤ 20) :
    Calls Try.prog 6 #[.int .i64 dim, .slice a n cap, .slice qa qn qc, .int .i64 K, .int .i64 mask] w fun e w' => OutC w (min K (cntP (mtB mask) L n)) (nearA n L qs mask) e w' := by
  have hfine := fine_of hf
  have hn := hfine.n60
  have KQ := hide (fun w1 (hb : Below w.heap.size w w1) => queryOk_any dim a n cap L qa qn qc qs w1 (h.below hb) (by omega) hv (rq.below hb) hqn)
  simp only [hf] at KQ
  have KO := hide (kOk_any K)
  rw [show inB (K : Int) 1 20 = true from decide_eq_true (by omega)] at KO
  have EN := hide (fun vb w1 (hc : CapN w vb 0 (nrL qs mask L 0) w1) => eachNear_nearAny w vb dim a n cap L qa qn qc qs mask w1 h rq hqn hfine hc)
  have hml : cntP (mtB mask) L n ≤ 60 := Nat.le_trans (cntP_le _ _ _) hn
  have hna := near_ok (mask := mask) hf
  have LO := hide (fun g c w1 (hr : RowL w1 g (cntP (mtB mask) L n) (nrL qs mask L n)) => leastOf_someC g 0 (cntP (mtB mask) L n) c K (nrL qs mask L n) w1 h1 h20 hml hna hr.lt (fun i hi => by rw [Nat.zero_add]; exact ⟨hr.c0 hi, hr.c1 hi⟩))
  unfold nearA
  generalize cntP (mtB mask) L n = m at *
  generalize nrL qs mask L n = M at *
  obtain ⟨t, ht⟩ : ∃ t, min K m = t := ⟨_, rfl⟩
  simp only [LeastC, ht] at LO
  rw [ht]
  clear h hv rq hf hfine hna ht
  go_enter Try.func6, Try.ntmps6
  go_wp2_with fail
  refine (KQ.out _ (Below.refl _ _)).mono ?_
  rintro e w1 ⟨rfl, b1⟩
  go_wp2_with fail
  refine (KO.out _).mono ?_
  rintro e w' ⟨rfl, hw'⟩
  have hw1 := hw'.symm
  subst hw1
  have hs1 := b1.size
  have C0 : Hid (CapN w (w1.heap.size + 1) 0 (nrL qs mask L 0) ((w1.alloc (.cells #[] 52)).alloc (.cells #[.slice (some ⟨w1.heap.size, 0, none⟩) 0 0] 28))) := hide (by
    refine ⟨⟨w1.heap.size, 0, ?_, ?_⟩, by omega, (by repeat' first | with_reducible exact Below.refl _ _ | with_reducible assumption | with_reducible refine below_drewN ?_ _ | with_reducible refine balloc ?_ _ | with_reducible refine Below.drew ?_ | with_reducible refine Below.setCell ?_ (by first | (simp; done) | (simp; omega) | omega) _ | with_reducible refine bstep ?_ (by assumption))⟩
    · have := Go.Deep.blk_alloc_new (w1.alloc (.cells #[] 52)) (.cells #[.slice (some ⟨w1.heap.size, 0, none⟩) 0 0] 28)
      simp only [World.size_alloc] at this
      exact this
    · have := (RC.new w1 (nrL qs mask L 0)).below (balloc (Below.refl _ _) (.cells #[.slice (some ⟨w1.heap.size, 0, none⟩) 0 0] 28))
      exact ⟨by omega, this.2⟩)
  go_wp2_with fail
  refine (EN.out _ _ C0.out).mono ?_
  rintro e w2 ⟨rfl, hc2⟩
  obtain ⟨⟨g, c, hv2, hr2⟩, _, hb2⟩ := hc2
  have q1 := one_cell hv2
  have HR2 := hide hr2.rowl
  have HB2 := hide hb2
  clear hv2 hr2 hb2 b1
  go_wp2_with fail
  refine (LO.out _ _ _ HR2.out).mono ?_
  rintro e w3 ⟨b3, rfl, hw2, hw3, hb3⟩
  have HW3 := hide hw3
  have HB3 := hide hb3
  clear hw3 hb3 q1
  go_wp2_with fail
  go_ret
  exact ⟨b3, rfl, Nat.le_trans HB2.out.size hw2, HW3.out, bstep HB2.out HB3.out⟩

theorem iNearest_yes (dim : Int) (a : Option Addr) (n cap : Nat) (L : IL) (qa : Option Addr) (qn qc : Nat) (qs : List Int) (K : Nat) (mask : Int) (w : World) (h : IRow w a n L) (hv : ∀ i, i < n → (L i).vec.length ≤ 1048576) (rq : Row w qa qn qs) (hqn : qn ≤ 1048576) (hf : formB dim n L qs = true) (h1 : 1 ≤ K) (h20 : K ≤ 20) :
    Calls Try.prog 6 #[.int .i64 dim, .slice a n cap, .slice qa qn qc, .int .i64 K, .int .i64 mask] w fun e w' => OutN w (min K (cntP (mtB mask) L n)) (nearA n L qs mask) e w' :=
  (iNearest_yesC dim a n cap L qa qn qc qs K mask w h hv rq hqn hf h1 h20).mono fun _ _ h => h.n

set_option maxHeartbeats 1600000 in
theorem iNearest_no (dim : Int) (a : Option Addr) (n cap : Nat) (L : IL) (qa : Option Addr) (qn qc : Nat) (qs : List Int) (k mask : Int) (w : World) (h : IRow w a n L) (hn : n ≤ 1048576) (hv : ∀ i, i < n → (L i).vec.length ≤ 1048576) (rq : Row w qa qn qs) (hqn : qn ≤ 1048576) (hf : (formB dim n L qs && inB k 1 20) = false) (A : NL) :
    Calls Try.prog 6 #[.int .i64 dim, .slice a n cap, .slice qa qn qc, .int .i64 k, .int .i64 mask] w fun e w' => OutN w 0 A e w' := by
  have KQ := hide (fun w1 (hb : Below w.heap.size w w1) => queryOk_any dim a n cap L qa qn qc qs w1 (h.below hb) hn hv (rq.below hb) hqn)
  have KO := hide (kOk_any k)
  clear h hv rq
  cases h0 : formB dim n L qs
  · simp only [h0] at KQ
    go_enter Try.func6, Try.ntmps6
    go_wp2_with fail
    refine (KQ.out _ (Below.refl _ _)).mono ?_
    rintro e w1 ⟨rfl, b1⟩
    go_wp2_with fail
    go_ret
    exact outN_nil rfl b1
  · rw [h0, Bool.true_and] at hf
    simp only [h0] at KQ
    simp only [hf] at KO
    go_enter Try.func6, Try.ntmps6
    go_wp2_with fail
    refine (KQ.out _ (Below.refl _ _)).mono ?_
    rintro e w1 ⟨rfl, b1⟩
    go_wp2_with fail
    refine (KO.out _).mono ?_
    rintro e w' ⟨rfl, rfl⟩
    go_wp2_with fail
    go_ret
    exact outN_nil rfl b1

theorem iNearest_any (dim : Int) (a : Option Addr) (n cap : Nat) (L : IL) (qa : Option Addr) (qn qc : Nat) (qs : List Int) (k mask : Int) (w : World) (h : IRow w a n L) (hn : n ≤ 1048576) (hv : ∀ i, i < n → (L i).vec.length ≤ 1048576) (rq : Row w qa qn qs) (hqn : qn ≤ 1048576) :
    Calls Try.prog 6 #[.int .i64 dim, .slice a n cap, .slice qa qn qc, .int .i64 k, .int .i64 mask] w fun e w' => OutN w (nearM dim n L qs k mask) (nearA n L qs mask) e w' := by
  unfold nearM
  cases hf : (formB dim n L qs && inB k 1 20)
  · exact iNearest_no dim a n cap L qa qn qc qs k mask w h hn hv rq hqn hf _
  · rw [Bool.and_eq_true] at hf
    have hk := of_decide_eq_true hf.2
    obtain ⟨K, rfl⟩ : ∃ K : Nat, k = (K : Int) := ⟨k.toNat, by omega⟩
    exact iNearest_yes dim a n cap L qa qn qc qs K mask w h hv rq hqn hf.1 (by omega) (by omega)
end Go.Proofs.Ythhgflclljaakaa

/- Nearest and KthOf of the model. -/
namespace Go.Proofs.Ythhgflclljaakaa
open Go.RowKit
set_option maxRecDepth 8000
set_option linter.unusedSimpArgs false
set_option linter.unusedVariables false

theorem Try.elemNears : Try.prog.elem 28 = 52 := by kernel_rfl

theorem Try.underNears : Try.prog.underlying 28 = some (.slice (Try.prog.elem 28)) := by rw [Try.elemNears]; exact Try.underlying28

theorem nearSize (w : World) : (sizeOf (Try.prog.elem 28)).run Try.prog w = .ok 2 w := by
  obtain ⟨i0, hi, hz0, hz1, hz2⟩ := nearInfo2
  rw [Try.elemNears]
  simp [sizeOf, typeInfo, hi, hz1]

set_option maxHeartbeats 4000000 in
theorem sNearest_yes (dim : Int) (a : Option Addr) (n cap : Nat) (L : IL) (qa : Option Addr) (qn qc : Nat) (qs : List Int) (K : Nat) (mask : Int) (w : World) (h : IRow w a n L) (hv : ∀ i, i < n → (L i).vec.length ≤ 1048576) (rq : Row w qa qn qs) (hqn : qn ≤ 1048576) (hf : formB dim n L qs = true) (h1 : 1 ≤ K) (h20 : K ≤ 20) :
    Calls Try.prog 8 #[.int .i64 dim, .slice a n cap, .slice qa qn qc, .int .i64 K, .int .i64 mask] w fun e w' => OutN w (min K (cntP (mtB mask) L n)) (nearA n L qs mask) e w' := by
  have hfine := fine_of hf
  have hn := hfine.n60
  have KQ := hide (fun w1 (hb : Below w.heap.size w w1) => l8Form_any dim a n cap L qa qn qc qs w1 (h.below hb) (by omega) hv (rq.below hb) hqn)
  simp only [hf] at KQ
  have KO := hide (fun w1 => l1In_any (K : Int) 1 20 w1)
  rw [show inB (K : Int) 1 20 = true from decide_eq_true (by omega)] at KO
  have NR := hide (fun w1 (hb : Below w.heap.size w w1) => l8Nears_any dim a n cap L qa qn qc qs mask w1 (h.below hb) (rq.below hb) hfine)
  have hml : cntP (mtB mask) L n ≤ 60 := Nat.le_trans (cntP_le _ _ _) hn
  unfold nearA
  generalize cntP (mtB mask) L n = N at *
  generalize nrL qs mask L n = A at *
  obtain ⟨t, ht⟩ : ∃ t, min K N = t := ⟨_, rfl⟩
  have hmin : min (K : Int) (N : Int) = (t : Int) := by omega
  have htN : t ≤ N := by omega
  rw [ht]
  clear h hv rq hf hfine ht
  go_enter Try.func8, Try.ntmps8
  go_wp2_with fail
  refine (KQ.out _ (Below.refl _ _)).mono ?_
  rintro e w1 ⟨rfl, b1⟩
  go_wp2_with fail
  refine (KO.out _).mono ?_
  rintro e w' ⟨rfl, hw'⟩
  have hw1 := hw'.symm
  subst hw1
  go_wp2_with fail
  refine (NR.out _ b1).mono ?_
  rintro e w2 ⟨g2, c2, rfl, hr2, b2⟩
  have S := hide (l6Sorted_some g2 0 N c2 (fun i => (A i).1) (fun i => (A i).2) w2 hml hr2.rowl.lt (fun i hi => by rw [Nat.zero_add]; exact ⟨hr2.rowl.c0 hi, hr2.rowl.c1 hi⟩))
  have bw2 := bstep b1 b2
  clear hr2 b1 b2
  go_wp2_with fail
  refine S.out.mono ?_
  rintro e w3 ⟨g3, c3, M, rfl, hr3, hM, b3⟩
  have hcap3 : N ≤ c3 := by
    obtain ⟨_, cur, _, hk, _⟩ := hr3
    exact hk
  have HR3 := hide (hr3.rowl.congr fun i hi => (hM i hi).trans (isortL_ext N (fun i hi => listL_at hi) i hi))
  have HG3 := hide hr3.base
  have HBW := hide (bstep bw2 b3)
  have hs2 := bw2.size
  have htc : (t : Int) ≤ (c3 : Int) := by omega
  clear hr3 hM b3 bw2 S
  go_wp2_with fail
  go_ret
  exact ⟨some ⟨g3, 0, none⟩, c3, rfl, .inr ⟨g3, rfl, Nat.le_trans hs2 HG3.out, HR3.out.less htN⟩, HBW.out⟩

set_option maxHeartbeats 1600000 in
theorem sNearest_no (dim : Int) (a : Option Addr) (n cap : Nat) (L : IL) (qa : Option Addr) (qn qc : Nat) (qs : List Int) (k mask : Int) (w : World) (h : IRow w a n L) (hn : n ≤ 1048576) (hv : ∀ i, i < n → (L i).vec.length ≤ 1048576) (rq : Row w qa qn qs) (hqn : qn ≤ 1048576) (hf : (formB dim n L qs && inB k 1 20) = false) (A : NL) :
    Calls Try.prog 8 #[.int .i64 dim, .slice a n cap, .slice qa qn qc, .int .i64 k, .int .i64 mask] w fun e w' => OutN w 0 A e w' := by
  have KQ := hide (fun w1 (hb : Below w.heap.size w w1) => l8Form_any dim a n cap L qa qn qc qs w1 (h.below hb) hn hv (rq.below hb) hqn)
  have KO := hide (fun w1 => l1In_any k 1 20 w1)
  clear h hv rq
  cases h0 : formB dim n L qs
  · simp only [h0] at KQ
    go_enter Try.func8, Try.ntmps8
    go_wp2_with fail
    refine (KQ.out _ (Below.refl _ _)).mono ?_
    rintro e w1 ⟨rfl, b1⟩
    go_wp2_with fail
    go_ret
    exact outN_nil rfl b1
  · rw [h0, Bool.true_and] at hf
    simp only [h0] at KQ
    simp only [hf] at KO
    go_enter Try.func8, Try.ntmps8
    go_wp2_with fail
    refine (KQ.out _ (Below.refl _ _)).mono ?_
    rintro e w1 ⟨rfl, b1⟩
    go_wp2_with fail
    refine (KO.out _).mono ?_
    rintro e w' ⟨rfl, rfl⟩
    go_wp2_with fail
    go_ret
    exact outN_nil rfl b1

theorem sNearest_any (dim : Int) (a : Option Addr) (n cap : Nat) (L : IL) (qa : Option Addr) (qn qc : Nat) (qs : List Int) (k mask : Int) (w : World) (h : IRow w a n L) (hn : n ≤ 1048576) (hv : ∀ i, i < n → (L i).vec.length ≤ 1048576) (rq : Row w qa qn qs) (hqn : qn ≤ 1048576) :
    Calls Try.prog 8 #[.int .i64 dim, .slice a n cap, .slice qa qn qc, .int .i64 k, .int .i64 mask] w fun e w' => OutN w (nearM dim n L qs k mask) (nearA n L qs mask) e w' := by
  unfold nearM
  cases hf : (formB dim n L qs && inB k 1 20)
  · exact sNearest_no dim a n cap L qa qn qc qs k mask w h hn hv rq hqn hf _
  · rw [Bool.and_eq_true] at hf
    have hk := of_decide_eq_true hf.2
    obtain ⟨K, rfl⟩ : ∃ K : Nat, k = (K : Int) := ⟨k.toNat, by omega⟩
    exact sNearest_yes dim a n cap L qa qn qc qs K mask w h hv rq hqn hf.1 (by omega) (by omega)

/-- The answer of KthOf. -/
def kthV (m : Nat) (A : NL) : Int := if m = 0 then -1 else (A (m - 1)).2



end Go.Proofs.Ythhgflclljaakaa
/- Items that are moved by one vector, plain: they are as near as they were. -/
namespace Go.Proofs.Ythhgflclljaakaa
open Go.RowKit
set_option maxRecDepth 8000
set_option linter.unusedSimpArgs false
set_option linter.unusedVariables false

theorem addOk_partsM {xs ys : List Int} (h : addOkB xs ys = true) : vecOkB xs = true ∧ vecOkB ys = true ∧ xs.length = ys.length ∧ vecOkB (ints (sumF xs ys) xs.length) = true ∧ addL xs ys = ints (sumF xs ys) xs.length := by
  have h0 := h
  unfold addOkB at h
  simp only [Bool.and_eq_true, decide_eq_true_eq] at h
  exact ⟨h.1.1.1, h.1.1.2, h.1.2, h.2, by unfold addL; rw [h0, if_pos rfl]⟩

theorem addL_len (xs ys : List Int) : (addL xs ys).length ≤ xs.length := by
  unfold addL
  split
  · rw [ints_len]; omega
  · simp

theorem dsum_congrM {xs ys xs' ys' : List Int} {n : Nat} (h : ∀ j, j < n → (nth xs j - nth ys j) * (nth xs j - nth ys j) = (nth xs' j - nth ys' j) * (nth xs' j - nth ys' j)) : ∀ k, k ≤ n → dsum xs ys k = dsum xs' ys' k
  | 0, _ => rfl
  | k + 1, hk => by simp only [dsum]; rw [dsum_congrM h k (by omega), h k (by omega)]
/-- The items, moved. -/
def mvI (by_ : List Int) (x : It) : It := ⟨x.id, x.tags, addL x.vec by_⟩

theorem cntP_mv (p : It → Bool) (f : It → It) (hp : ∀ x, p (f x) = p x) (L M : IL) : ∀ n, (∀ i, i < n → M i = f (L i)) → cntP p M n = cntP p L n ∧ ∀ i, i < cntP p L n → fil p M n i = f (fil p L n i)
  | 0, _ => ⟨rfl, fun i hi => absurd hi (by simp [cntP])⟩
  | n + 1, h => by
    obtain ⟨e1, e2⟩ := cntP_mv p f hp L M n fun i hi => h i (by omega)
    have hn := h n (by omega)
    cases hq : p (L n)
    · have hq' : p (M n) = false := by rw [hn, hp]; exact hq
      rw [cntP_no hq, cntP_no hq', fil_no hq, fil_no hq']
      exact ⟨e1, e2⟩
    · have hq' : p (M n) = true := by rw [hn, hp]; exact hq
      rw [cntP_yes hq, cntP_yes hq', fil_yes hq, fil_yes hq', e1]
      refine ⟨rfl, fun i hi => ?_⟩
      by_cases e : i = cntP p L n
      · subst e; rw [IL.put_at, IL.put_at, hn]
      · rw [IL.put_off _ _ e, IL.put_off _ _ e, e2 i (by omega)]

theorem allN_congrM {n : Nat} {f g : Nat → Bool} (h : ∀ i, i < n → f i = g i) : allN n f = allN n g := by
  cases hf : allN n f
  · cases hg : allN n g
    · rfl
    · rw [← hf]; exact allN_yes fun i hi => by rw [h i hi]; exact allN_at hg hi
  · exact (allN_yes fun i hi => by rw [← h i hi]; exact allN_at hf hi).symm

theorem vec_mv {xs ys : List Int} (h : addOkB xs ys = true) : vecOkB (addL xs ys) = true ∧ (addL xs ys).length = xs.length := by
  obtain ⟨_, _, _, h4, h5⟩ := addOk_partsM h
  rw [h5]
  exact ⟨h4, ints_len _ _⟩

theorem form_mv {dim : Int} {n : Nat} {L M : IL} {qs bs : List Int} (hM : ∀ i, i < n → M i = mvI bs (L i)) (hq : addOkB qs bs = true) (hi : ∀ i, i < n → addOkB (L i).vec bs = true) : formB dim n M (addL qs bs) = formB dim n L qs := by
  obtain ⟨q1, q2⟩ := vec_mv hq
  obtain ⟨q3, _⟩ := addOk_partsM hq
  unfold formB itemsB
  rw [q1, q2, q3]
  have : allN n (okI dim M) = allN n (okI dim L) := allN_congrM fun i hi' => by
    obtain ⟨p1, p2⟩ := vec_mv (hi i hi')
    obtain ⟨p3, _⟩ := addOk_partsM (hi i hi')
    unfold okI itemB
    have e1 : (M (i - 1)).id = (L (i - 1)).id := by rw [hM (i - 1) (by omega)]; rfl
    rw [e1, hM i hi']
    show (inB (L i).id 1 9999 && inB (L i).tags 0 255 && vecOkB (addL (L i).vec bs) && decide (((addL (L i).vec bs).length : Int) = dim) && (decide (i = 0) || !decide ((L i).id ≤ (L (i - 1)).id))) = _
    rw [p1, p2, p3]
  rw [this]

theorem nr_mv {qs bs : List Int} {x : It} (hq : addOkB qs bs = true) (hx : addOkB x.vec bs = true) : nrOf (addL qs bs) (mvI bs x) = nrOf qs x := by
  obtain ⟨_, _, lx, _, ex⟩ := addOk_partsM hx
  obtain ⟨_, _, lq, _, eq⟩ := addOk_partsM hq
  have ll : qs.length = x.vec.length := by omega
  unfold nrOf mvI
  show (x.id, dsum (addL x.vec bs) (addL qs bs) (addL x.vec bs).length) = (x.id, dsum x.vec qs x.vec.length)
  rw [(vec_mv hx).2, ex, eq, ll]
  congr 1
  refine dsum_congrM (fun j hj => ?_) _ (Nat.le_refl _)
  rw [nth_ints _ _ j hj, nth_ints _ _ j hj]
  unfold sumF
  have : nth x.vec j + nth bs j - (nth qs j + nth bs j) = nth x.vec j - nth qs j := by omega
  rw [this]

theorem nearM_mv {dim : Int} {n : Nat} {L M : IL} {qs bs : List Int} {k mask : Int} (hM : ∀ i, i < n → M i = mvI bs (L i)) (hq : addOkB qs bs = true) (hi : ∀ i, i < n → addOkB (L i).vec bs = true) : nearM dim n M (addL qs bs) k mask = nearM dim n L qs k mask := by
  unfold nearM
  rw [form_mv hM hq hi, (cntP_mv (mtB mask) (mvI bs) (fun _ => rfl) L M n hM).1]

theorem isortL_congrM : ∀ (n : Nat) {X Y : NL}, (∀ i, i < n → X i = Y i) → isortL n X = isortL n Y
  | 0, _, _, _ => rfl
  | n + 1, X, Y, h => by simp only [isortL]; rw [isortL_congrM n fun i hi => h i (by omega), h n (by omega)]

theorem nearA_mv {n : Nat} {L M : IL} {qs bs : List Int} {mask : Int} (hM : ∀ i, i < n → M i = mvI bs (L i)) (hq : addOkB qs bs = true) (hi : ∀ i, i < n → addOkB (L i).vec bs = true) : nearA n M (addL qs bs) mask = nearA n L qs mask := by
  obtain ⟨e1, e2⟩ := cntP_mv (mtB mask) (mvI bs) (fun _ => rfl) L M n hM
  unfold nearA
  rw [e1]
  refine isortL_congrM _ fun i hi' => ?_
  unfold nrL
  rw [e2 i hi']
  obtain ⟨j, hj, e⟩ := fil_mem (mtB mask) L n i hi'
  rw [e]
  exact nr_mv hq (hi j hj)
end Go.Proofs.Ythhgflclljaakaa
