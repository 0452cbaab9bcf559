/- Nearest of the program: the closure, eachNear, the query. -/
import Derived.Test.YtjliecggfncelaaZ27
import Derived.Test.YtjliecggfncelaaZ22
import Derived.Test.YtjliecggfncelaaZ28
import Derived.Test.YtjliecggfncelaaZ19
namespace Go.Proofs.Ytjliecggfncelaa
open Go.RowKit
set_option maxRecDepth 8000
set_option linter.unusedSimpArgs false
set_option linter.unusedVariables false

/-- What the closure of Nearest keeps: the slice that it appends to. -/
structure CapN (w0 : World) (vb : Nat) (m : Nat) (M : NL) (w : World) : Prop where
  ex : ∃ g c, w.heap[vb]? = some (.cells #[.slice (some ⟨g, 0, none⟩) m c] 28 (0, 0)) ∧ RC w w0.heap.size g c m M
  lo : w0.heap.size ≤ vb
  bel : Below w0.heap.size w0 w

theorem CapN.below {w0 : World} {vb : Nat} {m : Nat} {M : NL} {w w' : World} (h : CapN w0 vb m M w) (hb : Below w.heap.size w w') : CapN w0 vb m M w' := by
  obtain ⟨⟨g, c, h2, h3⟩, h4, h5⟩ := h
  exact ⟨⟨g, c, (hb.block vb (blkLt h2)).trans h2, h3.below hb⟩, h4, bstep h5 hb⟩

set_option maxHeartbeats 4000000 in
theorem nearest1_any (w0 : World) (vb : Nat) (m : Nat) (M : NL) (x : Int × Int) (w : World) (h : CapN w0 vb m M w) (hm : m ≤ 60) :
    Calls Try.prog 34 #[.agg #[.int .i64 x.1, .int .i64 x.2], .pointer (some ⟨vb, 0, none⟩)] w fun e w' => e = .returned (.tuple #[]) ∧ CapN w0 vb (m + 1) (M.put m x) w' := by
  have hb1 : Below w.heap.size w (w.alloc (.cells #[.int .i64 x.1, .int .i64 x.2] 49)) := balloc (Below.refl _ _) _
  obtain ⟨i0, hi, hz0, hz1, hz2⟩ := nearInfo2
  have HI := hide hi
  obtain ⟨⟨g, c, h2, h3⟩, h4, h5⟩ := h.below hb1
  have q2 := one_cell h2
  have hs0 := h5.size
  have l2 := blkLt h2
  simp only [World.size_alloc] at hs0 l2
  have hne : vb ≠ g := fun e => by
    obtain ⟨cur, hcur⟩ := h3.blk
    rw [← e, h2] at hcur
    simp at hcur
  have HRC := hide h3
  have HH2 := hide h2
  have HB5 := hide h5
  generalize hNV : nlv M m = NV at *
  have HNV := hide hNV
  have hown := hide (HRC.out.owns.alloc (.cells #[.int .i64 x.1, .int .i64 x.2] 49))
  rw [HNV.out] at hown
  have hnew := two_newAt (w.alloc (.cells #[.int .i64 x.1, .int .i64 x.2] 49)) (.int .i64 x.1) (.int .i64 x.2) 49 (w.heap.size + 1) (by simp)
  have HN := hide hnew
  clear hNV hnew h h2 h3 h5 hi hb1
  go_enter Try.func34, Try.ntmps34
  go_wp2_with (at_builtin; refine wpList_append_lies _ rfl _ _ 28 rfl w0.heap.size 49 i0 _ 2 16 Try.underlying28 HI.out hz0 hz1 hz2 rfl (by decide) _ _ _ rfl hown.out ⟨w.heap.size + 1, 0, none⟩ 1 1 [.int .i64 x.1, .int .i64 x.2] rfl rfl HN.out (two_one _ _) (by omega) (by unfold maxLen; omega) (by omega) (by simp; omega) _ rfl ?_)
  intro g5 c5 w5 hown5 hgrow hat5 hglt
  have HG5 : Hid (RC w5 w0.heap.size g5 c5 (m + 1) (M.put m x)) := hide (RC.grown (x := x.1) (y := x.2) (by rw [HNV.out]; exact hown5))
  have hvb5 : w5.heap[vb]? = some (.cells #[.slice (some ⟨g, 0, none⟩) m c] 28 (0, 0)) := by
    rw [hgrow.block vb (by simp; omega) (by simpa [Value.ownBlock] using hne)]
    exact ((balloc (Below.refl _ _) _).block vb (by simp; omega)).trans HH2.out
  have hbel5 : Below w0.heap.size w0 w5 := (balloc HB5.out (.cells #[.int .i64 x.1, .int .i64 x.2] 49)).grown hgrow (by simp; omega) fun k' hk' => (hown.out.lt k' hk').1
  have hne5 : vb ≠ g5 := by
    rcases hat5 with h | h
    · simp [Value.ownBlock] at h; omega
    · omega
  have HEND : Hid (CapN w0 vb (m + 1) (M.put m x) (w5.setCell ⟨vb, 0, none⟩ (.slice (some ⟨g5, 0, none⟩) (m + 1) c5))) := hide ⟨⟨g5, c5, by rw [heap_set hvb5]; simp, HG5.out.block (Below.heap_setCell w5 ⟨vb, 0, none⟩ _ g5 (Ne.symm hne5))⟩, h4, hbel5.setCell h4 _⟩
  have q5 := one_cell hvb5
  have q6 := one_free hvb5
  clear hown5 hgrow hat5 hown hvb5 hbel5
  go_wp2_with fail
  go_end0
  exact ⟨rfl, HEND.out⟩

set_option maxHeartbeats 8000000 in
set_option maxRecDepth 4000 in
theorem eachNear_near (w0 : World) (vb : Nat) (dim : Int) (b off n cap : Nat) (L : IL) (qa : Option Addr) (qn qc : Nat) (qs : List Int) (mask : Int) (w : World) (hb : b < w0.heap.size) (hc : ∀ i, i < n → IAt w0 b (off + i * 3) (L i)) (rq : Row w0 qa qn qs) (hqn : qn ≤ 1048576) (hf : Fine dim n L qs)
    (h : CapN w0 vb 0 (nrL qs mask L 0) w) :
    Calls Try.prog 33 #[.slice (some ⟨b, off, none⟩) n cap, .slice qa qn qc, .int .i64 mask, .func (.func 34) #[] #[.pointer (some ⟨vb, 0, none⟩)]] w fun e w' => e = .returned (.tuple #[]) ∧ CapN w0 vb (cntP (mtB mask) L n) (nrL qs mask L n) w' := by
  have hn := hf.n60
  have HF := hide hf
  have HC := hide hc
  have HRQ := hide rq
  have HCAP := hide h
  clear hf hc rq h
  go_enter Try.func33, Try.ntmps33
  go_wp2_with fail
  go_loopw [12] (fun i wr => ∃ k : Nat, k ≤ n ∧ i = .int .i64 k ∧ CapN w0 vb (cntP (mtB mask) L k) (nrL qs mask L k) wr) (fun i _ => n - (intOf i).toNat)
  case atStart => exact ⟨0, Nat.zero_le _, rfl, HCAP.out⟩
  case round =>
    obtain ⟨k, hk, rfl, hcap⟩ := hrel
    have HK := hide hcap
    have hbel := hcap.bel
    by_cases hlt : k < n
    · obtain ⟨c0, c1', va, vn, vc, c2, vr⟩ := (HC.out k hlt).below hb hbel
      have hlt' : (k : Int) < (n : Int) := by omega
      have MT := hide (fun w1 => matches_any mask (L k) va vn vc w1)
      cases hm : mtB mask (L k)
      · simp only [hm] at MT
        have E1 := hide (cntP_no hm)
        have E2 := hide (nrL_no (qs := qs) hm)
        clear hbel hcap vr hm
        go_wp2_with fail
        refine (MT.out _).mono ?_
        rintro e w1 ⟨rfl, hb1⟩
        have bel1 : Below wr.heap.size wr w1 := (by repeat' first | with_reducible exact Below.refl _ _ | with_reducible assumption | with_reducible refine below_drewN ?_ _ | with_reducible refine balloc ?_ _ | with_reducible refine Below.drew ?_ | with_reducible refine Below.setCell ?_ (by first | (simp; done) | (simp; omega) | omega) _ | with_reducible refine bstep ?_ (by assumption))
        go_wp2_with fail
        go_roundw
        case rel => exact ⟨k + 1, by omega, by go_num, by rw [E1.out, E2.out]; exact HK.out.below bel1⟩
        case measure => simp [intOf]; omega
      · simp only [hm] at MT
        have E1 := hide (cntP_yes hm)
        have E2 := hide (nrL_yes (qs := qs) hm)
        have hvl := vr.len
        have NO := hide (fun w1 (h1 : Below wr.heap.size wr w1) => nearOf_any (L k) va vn vc qa qn qc qs w1 (vr.below h1) (by have := (vecOk_all (HF.out.vi k hlt) hvl).2.1; omega) ((HRQ.out.below hbel).below h1) hqn (HF.out.vi k hlt) HF.out.vq (HF.out.li k hlt))
        have hj : cntP (mtB mask) L k ≤ 60 := Nat.le_trans (cntP_le _ _ _) (by omega)
        generalize cntP (mtB mask) L k = j at *
        generalize nrL qs mask L k = M at *
        obtain ⟨y, hy⟩ : ∃ y, nrOf qs (L k) = y := ⟨_, rfl⟩
        rw [hy] at NO E2
        have CL := hide (fun w1 (h1 : CapN w0 vb j M w1) => nearest1_any w0 vb j M y w1 h1 hj)
        clear hbel hcap vr hm hy
        go_wp2_with fail
        refine (MT.out _).mono ?_
        rintro e w1 ⟨rfl, hb1⟩
        have bel1 : Below wr.heap.size wr w1 := (by repeat' first | with_reducible exact Below.refl _ _ | with_reducible assumption | with_reducible refine below_drewN ?_ _ | with_reducible refine balloc ?_ _ | with_reducible refine Below.drew ?_ | with_reducible refine Below.setCell ?_ (by first | (simp; done) | (simp; omega) | omega) _ | with_reducible refine bstep ?_ (by assumption))
        obtain ⟨_, q1, q2, q3, _⟩ := (Tri.new wr (.int .i64 (L k).id) (.int .i64 (L k).tags) (.slice va vn vc) 36).below hb1
        go_wp2_with fail
        refine (NO.out _ bel1).mono ?_
        rintro e w2 ⟨rfl, hb2⟩
        go_wp2_with fail
        refine (CL.out _ (HK.out.below (bstep bel1 hb2))).mono ?_
        rintro e w3 ⟨rfl, hc3⟩
        have HC3 := hide hc3
        clear hc3
        go_wp2_with fail
        go_roundw
        case rel => exact ⟨k + 1, by omega, by go_num, by rw [E1.out, E2.out]; exact HC3.out⟩
        case measure => simp [intOf]; omega
    · obtain rfl : k = n := by omega
      clear hcap hbel
      go_wp2_with fail
      go_end0
      exact ⟨rfl, HK.out⟩

theorem eachNear_nearAny (w0 : World) (vb : Nat) (dim : Int) (a : Option Addr) (n cap : Nat) (L : IL) (qa : Option Addr) (qn qc : Nat) (qs : List Int) (mask : Int) (w : World) (hi : IRow w0 a n L) (rq : Row w0 qa qn qs) (hqn : qn ≤ 1048576) (hf : Fine dim n L qs)
    (h : CapN w0 vb 0 (nrL qs mask L 0) w) :
    Calls Try.prog 33 #[.slice a n cap, .slice qa qn qc, .int .i64 mask, .func (.func 34) #[] #[.pointer (some ⟨vb, 0, none⟩)]] w fun e w' => e = .returned (.tuple #[]) ∧ CapN w0 vb (cntP (mtB mask) L n) (nrL qs mask L n) w' := by
  rcases hi.lies with h0 | ⟨b, off, rfl, lt, hc⟩
  · subst h0
    exact (eachNear_zero a 0 cap _ _ mask w (by omega)).mono fun e w' ⟨he, hw⟩ => ⟨he, hw ▸ h⟩
  · exact eachNear_near w0 vb dim b off n cap L qa qn qc qs mask w lt hc rq hqn hf h

/-- The Nears of a right query are right. -/
theorem near_ok {dim : Int} {n : Nat} {L : IL} {qs : List Int} {mask : Int} (hf : formB dim n L qs = true) : ∀ t, t < cntP (mtB mask) L n → nearB (nrL qs mask L n t).1 (nrL qs mask L n t).2 = true := by
  intro t ht
  obtain ⟨j, hj, e⟩ := fil_mem (mtB mask) L n t ht
  have fine := fine_of hf
  have hid : inB (L j).id 1 9999 = true := by
    unfold formB at hf
    simp only [Bool.and_eq_true] at hf
    have h0 := hf.1.1
    unfold itemsB at h0
    simp only [Bool.and_eq_true] at h0
    have := allN_at h0.2 hj
    unfold okI itemB at this
    simp only [Bool.and_eq_true] at this
    exact this.1.1.1.1
  obtain ⟨x1, x8, xc⟩ := vecOk_all (fine.vi j hj) rfl
  obtain ⟨y1, y8, yc⟩ := vecOk_all fine.vq rfl
  have hb := dsum_bd (n := (L j).vec.length) xc (fun i hi => yc i (by rw [← fine.li j hj]; exact hi)) _ (Nat.le_refl _)
  unfold nearB nrL nrOf
  rw [e, hid]
  simp only [Bool.true_and]
  unfold inB
  exact decide_eq_true (by omega)

def nearM (dim : Int) (n : Nat) (L : IL) (qs : List Int) (k mask : Int) : Nat := if formB dim n L qs && inB k 1 20 then min k.toNat (cntP (mtB mask) L n) else 0
def nearA (n : Nat) (L : IL) (qs : List Int) (mask : Int) : NL := isortL (cntP (mtB mask) L n) (nrL qs mask L n)

/-- What is told, and where it lies, without room behind. -/
def OutC (w : World) (m : Nat) (A : NL) (e : Ending) (w' : World) : Prop :=
  ∃ b, e = .returned (.slice (some ⟨b, 0, none⟩) m m) ∧ w.heap.size ≤ b ∧ RowL w' b m A ∧ Below w.heap.size w w'

theorem OutC.n {w : World} {m : Nat} {A : NL} {e : Ending} {w' : World} (h : OutC w m A e w') : OutN w m A e w' := by
  obtain ⟨b, he, hb, hr, hl⟩ := h
  exact ⟨_, _, he, .inr ⟨b, rfl, hb, hr⟩, hl⟩

set_option maxHeartbeats 4000000 in
theorem iNearest_yesC (dim : Int) (a : Option Addr) (n cap : Nat) (L : IL) (qa : Option Addr) (qn qc : Nat) (qs : List Int) (K : Nat) (mask : Int) (w : World) (h : IRow w a n L) (hv : ∀ i, i < n → (L i).vec.length ≤ 1048576) (rq : Row w qa qn qs) (hqn : qn ≤ 1048576) (hf : formB dim n L qs = true) (h1 : 1 ≤ K) (h20 : K ≤ 20) :
    Calls Try.prog 12 #[.int .i64 dim, .slice a n cap, .slice qa qn qc, .int .i64 K, .int .i64 mask] w fun e w' => OutC w (min K (cntP (mtB mask) L n)) (nearA n L qs mask) e w' := by
  have hfine := fine_of hf
  have hn := hfine.n60
  have KQ := hide (fun w1 (hb : Below w.heap.size w w1) => queryOk_any dim a n cap L qa qn qc qs w1 (h.below hb) (by omega) hv (rq.below hb) hqn)
  simp only [hf] at KQ
  have KO := hide (kOk_any K)
  rw [show inB (K : Int) 1 20 = true from decide_eq_true (by omega)] at KO
  have EN := hide (fun vb w1 (hc : CapN w vb 0 (nrL qs mask L 0) w1) => eachNear_nearAny w vb dim a n cap L qa qn qc qs mask w1 h rq hqn hfine hc)
  have hml : cntP (mtB mask) L n ≤ 60 := Nat.le_trans (cntP_le _ _ _) hn
  have hna := near_ok (mask := mask) hf
  have LO := hide (fun g c w1 (hr : RowL w1 g (cntP (mtB mask) L n) (nrL qs mask L n)) => leastOf_someC g 0 (cntP (mtB mask) L n) c K (nrL qs mask L n) w1 h1 h20 hml hna hr.lt (fun i hi => by rw [Nat.zero_add]; exact ⟨hr.c0 hi, hr.c1 hi⟩))
  unfold nearA
  generalize cntP (mtB mask) L n = m at *
  generalize nrL qs mask L n = M at *
  obtain ⟨t, ht⟩ : ∃ t, min K m = t := ⟨_, rfl⟩
  simp only [LeastC, ht] at LO
  rw [ht]
  clear h hv rq hf hfine hna ht
  go_enter Try.func12, Try.ntmps12
  go_wp2_with fail
  refine (KQ.out _ (Below.refl _ _)).mono ?_
  rintro e w1 ⟨rfl, b1⟩
  go_wp2_with fail
  refine (KO.out _).mono ?_
  rintro e w' ⟨rfl, hw'⟩
  have hw1 := hw'.symm
  subst hw1
  have hs1 := b1.size
  have C0 : Hid (CapN w (w1.heap.size + 1) 0 (nrL qs mask L 0) ((w1.alloc (.cells #[] 49)).alloc (.cells #[.slice (some ⟨w1.heap.size, 0, none⟩) 0 0] 28))) := hide (by
    refine ⟨⟨w1.heap.size, 0, ?_, ?_⟩, by omega, (by repeat' first | with_reducible exact Below.refl _ _ | with_reducible assumption | with_reducible refine below_drewN ?_ _ | with_reducible refine balloc ?_ _ | with_reducible refine Below.drew ?_ | with_reducible refine Below.setCell ?_ (by first | (simp; done) | (simp; omega) | omega) _ | with_reducible refine bstep ?_ (by assumption))⟩
    · have := Go.Deep.blk_alloc_new (w1.alloc (.cells #[] 49)) (.cells #[.slice (some ⟨w1.heap.size, 0, none⟩) 0 0] 28)
      simp only [World.size_alloc] at this
      exact this
    · have := (RC.new w1 (nrL qs mask L 0)).below (balloc (Below.refl _ _) (.cells #[.slice (some ⟨w1.heap.size, 0, none⟩) 0 0] 28))
      exact ⟨by omega, this.2⟩)
  go_wp2_with fail
  refine (EN.out _ _ C0.out).mono ?_
  rintro e w2 ⟨rfl, hc2⟩
  obtain ⟨⟨g, c, hv2, hr2⟩, _, hb2⟩ := hc2
  have q1 := one_cell hv2
  have HR2 := hide hr2.rowl
  have HB2 := hide hb2
  clear hv2 hr2 hb2 b1
  go_wp2_with fail
  refine (LO.out _ _ _ HR2.out).mono ?_
  rintro e w3 ⟨b3, rfl, hw2, hw3, hb3⟩
  have HW3 := hide hw3
  have HB3 := hide hb3
  clear hw3 hb3 q1
  go_wp2_with fail
  go_ret
  exact ⟨b3, rfl, Nat.le_trans HB2.out.size hw2, HW3.out, bstep HB2.out HB3.out⟩

theorem iNearest_yes (dim : Int) (a : Option Addr) (n cap : Nat) (L : IL) (qa : Option Addr) (qn qc : Nat) (qs : List Int) (K : Nat) (mask : Int) (w : World) (h : IRow w a n L) (hv : ∀ i, i < n → (L i).vec.length ≤ 1048576) (rq : Row w qa qn qs) (hqn : qn ≤ 1048576) (hf : formB dim n L qs = true) (h1 : 1 ≤ K) (h20 : K ≤ 20) :
    Calls Try.prog 12 #[.int .i64 dim, .slice a n cap, .slice qa qn qc, .int .i64 K, .int .i64 mask] w fun e w' => OutN w (min K (cntP (mtB mask) L n)) (nearA n L qs mask) e w' :=
  (iNearest_yesC dim a n cap L qa qn qc qs K mask w h hv rq hqn hf h1 h20).mono fun _ _ h => h.n

set_option maxHeartbeats 1600000 in
theorem iNearest_no (dim : Int) (a : Option Addr) (n cap : Nat) (L : IL) (qa : Option Addr) (qn qc : Nat) (qs : List Int) (k mask : Int) (w : World) (h : IRow w a n L) (hn : n ≤ 1048576) (hv : ∀ i, i < n → (L i).vec.length ≤ 1048576) (rq : Row w qa qn qs) (hqn : qn ≤ 1048576) (hf : (formB dim n L qs && inB k 1 20) = false) (A : NL) :
    Calls Try.prog 12 #[.int .i64 dim, .slice a n cap, .slice qa qn qc, .int .i64 k, .int .i64 mask] w fun e w' => OutN w 0 A e w' := by
  have KQ := hide (fun w1 (hb : Below w.heap.size w w1) => queryOk_any dim a n cap L qa qn qc qs w1 (h.below hb) hn hv (rq.below hb) hqn)
  have KO := hide (kOk_any k)
  clear h hv rq
  cases h0 : formB dim n L qs
  · simp only [h0] at KQ
    go_enter Try.func12, Try.ntmps12
    go_wp2_with fail
    refine (KQ.out _ (Below.refl _ _)).mono ?_
    rintro e w1 ⟨rfl, b1⟩
    go_wp2_with fail
    go_ret
    exact outN_nil rfl b1
  · rw [h0, Bool.true_and] at hf
    simp only [h0] at KQ
    simp only [hf] at KO
    go_enter Try.func12, Try.ntmps12
    go_wp2_with fail
    refine (KQ.out _ (Below.refl _ _)).mono ?_
    rintro e w1 ⟨rfl, b1⟩
    go_wp2_with fail
    refine (KO.out _).mono ?_
    rintro e w' ⟨rfl, rfl⟩
    go_wp2_with fail
    go_ret
    exact outN_nil rfl b1

theorem iNearest_any (dim : Int) (a : Option Addr) (n cap : Nat) (L : IL) (qa : Option Addr) (qn qc : Nat) (qs : List Int) (k mask : Int) (w : World) (h : IRow w a n L) (hn : n ≤ 1048576) (hv : ∀ i, i < n → (L i).vec.length ≤ 1048576) (rq : Row w qa qn qs) (hqn : qn ≤ 1048576) :
    Calls Try.prog 12 #[.int .i64 dim, .slice a n cap, .slice qa qn qc, .int .i64 k, .int .i64 mask] w fun e w' => OutN w (nearM dim n L qs k mask) (nearA n L qs mask) e w' := by
  unfold nearM
  cases hf : (formB dim n L qs && inB k 1 20)
  · exact iNearest_no dim a n cap L qa qn qc qs k mask w h hn hv rq hqn hf _
  · rw [Bool.and_eq_true] at hf
    have hk := of_decide_eq_true hf.2
    obtain ⟨K, rfl⟩ : ∃ K : Nat, k = (K : Int) := ⟨k.toNat, by omega⟩
    exact iNearest_yes dim a n cap L qa qn qc qs K mask w h hv rq hqn hf.1 (by omega) (by omega)
end Go.Proofs.Ytjliecggfncelaa

/- What is least of two parts, merged, is what is least of all: plain. -/
namespace Go.Proofs.Ytjliecggfncelaa
open Go.RowKit
set_option maxRecDepth 8000
set_option linter.unusedSimpArgs false
set_option linter.unusedVariables false

theorem eq_of_not_lt {x y : Int × Int} (h1 : lt2 x y = false) (h2 : lt2 y x = false) : x = y := by
  unfold lt2 lessB at *
  simp only [decide_eq_false_iff_not] at *
  refine Prod.ext ?_ ?_ <;> omega
/-- What holds of one holds of all that are no greater. -/
def Dn (p : Int × Int → Bool) : Prop := ∀ x y, p x = true → lt2 x y = false → p y = true

theorem dn_le (z : Int × Int) : Dn (fun y => !lt2 z y) := by
  intro x y h1 h2
  simp only [Bool.not_eq_true'] at h1 ⊢
  exact le2_trans h2 h1

theorem cntN_allU {p : Int × Int → Bool} {A : NL} : ∀ m, (∀ i, i < m → p (A i) = true) → cntN p A m = m
  | 0, _ => rfl
  | m + 1, h => by rw [cntN_yes (h m (by omega)), cntN_allU m fun i hi => h i (by omega)]

theorem cntN_monoU (p : Int × Int → Bool) (A : NL) {i j : Nat} (h : i ≤ j) : cntN p A i ≤ cntN p A j := by
  induction j with
  | zero => obtain rfl : i = 0 := by omega
            exact Nat.le_refl _
  | succ j ih =>
    by_cases e : i = j + 1
    · subst e; exact Nat.le_refl _
    · have := ih (by omega)
      rw [cntN_succ]
      omega

theorem cut_at {p : Int × Int → Bool} (hp : Dn p) {S : NL} : ∀ n, SortedP n S → ∀ i, i < n → (p (S i) = true ↔ i < cntN p S n) := by
  intro n
  induction n with
  | zero => intro _ i hi; omega
  | succ n ih =>
    intro hs i hi
    cases h : p (S n)
    · rw [cntN_no h]
      by_cases e : i = n
      · subst e
        have := cntN_le p S i
        rw [h]
        exact ⟨fun q => (by cases q), fun q => (by omega)⟩
      · exact ih (fun k hk => hs k (by omega)) i (by omega)
    · have all : ∀ k, k < n + 1 → p (S k) = true := fun k hk => hp (S n) (S k) h (sorted_last n hs k (by omega))
      rw [cntN_allU (n + 1) all]
      exact ⟨fun _ => hi, fun _ => all i hi⟩

theorem cut_pre {p : Int × Int → Bool} (hp : Dn p) {S : NL} {n m : Nat} (hs : SortedP n S) (hm : m ≤ n) : cntN p S m = min m (cntN p S n) := by
  have a := cut_at hp m (fun i hi => hs i (by omega))
  have b := cut_at hp n hs
  have e : ∀ i, i < m → (i < cntN p S m ↔ i < cntN p S n) := fun i hi => (a i hi).symm.trans (b i (by omega))
  have l := cntN_le p S m
  by_cases h : cntN p S m < m
  · have h1 := e _ h
    by_cases h2 : cntN p S n < m
    · have h3 := e _ h2; omega
    · omega
  · by_cases h2 : cntN p S n < m
    · have h3 := e _ h2; omega
    · omega

theorem mrg_l {n1 i : Nat} {f1 g1 f2 g2 : Nat → Int} (h : i < n1) : mrgA n1 f1 g1 f2 g2 i = (f1 i, g1 i) := by simp [mrgA, joinL, h]

theorem mrg_r {n1 : Nat} {f1 g1 f2 g2 : Nat → Int} (j : Nat) : mrgA n1 f1 g1 f2 g2 (n1 + j) = (f2 j, g2 j) := by
  unfold mrgA
  rw [show joinL n1 (joinL 0 (fun _ => (0, 0)) f1 g1) f2 g2 (n1 + j) = (f2 (n1 + j - n1), g2 (n1 + j - n1)) from if_neg (by omega), Nat.add_sub_cancel_left]

theorem cnt_mrg (p : Int × Int → Bool) {A B : NL} {n1 : Nat} {f1 g1 f2 g2 : Nat → Int} (hA : ∀ i, i < n1 → (f1 i, g1 i) = A i) : ∀ n2, (∀ i, i < n2 → (f2 i, g2 i) = B i) → cntN p (mrgA n1 f1 g1 f2 g2) (n1 + n2) = cntN p A n1 + cntN p B n2 := by
  intro n2
  induction n2 with
  | zero => intro _; exact cntN_congr fun i hi => (mrg_l hi).trans (hA i hi)
  | succ n ih =>
    intro hB
    rw [show n1 + (n + 1) = (n1 + n) + 1 from rfl, cntN_succ, cntN_succ, ih fun i hi => hB i (by omega), mrg_r, hB n (by omega)]
    omega
/-- THE FACT: the first k of what the first k of two parts make, sorted, are the first k of all, sorted. -/
theorem least_parts {k n1 n2 n : Nat} {P Q R : NL} (hc : ∀ p, cntN p P n1 + cntN p Q n2 = cntN p R n) {f1 g1 f2 g2 : Nat → Int}
    (h1 : ∀ i, i < min k n1 → (f1 i, g1 i) = isortL n1 P i) (h2 : ∀ i, i < min k n2 → (f2 i, g2 i) = isortL n2 Q i) :
    min k (min k n1 + min k n2) = min k n ∧ ∀ i, i < min k n → isortL (min k n1 + min k n2) (mrgA (min k n1) f1 g1 f2 g2) i = isortL n R i := by
  have hn := hc (fun _ => true)
  rw [cntN_allU _ fun _ _ => rfl, cntN_allU _ fun _ _ => rfl, cntN_allU _ fun _ _ => rfl] at hn
  refine ⟨by omega, fun i hi => ?_⟩
  obtain ⟨m, hm⟩ : ∃ m, min k n1 + min k n2 = m := ⟨_, rfl⟩
  obtain ⟨J, hJ⟩ : ∃ J, mrgA (min k n1) f1 g1 f2 g2 = J := ⟨_, rfl⟩
  have key : ∀ p, Dn p → (p (isortL m J i) = true ↔ p (isortL n R i) = true) := by
    intro p hp
    rw [cut_at hp m (isortL_sorted m J).1 i (by omega), cut_at hp n (isortL_sorted n R).1 i (by omega), cntN_sort, cntN_sort, ← hc p, ← hm, ← hJ, cnt_mrg p h1 _ h2,
      cut_pre hp (isortL_sorted n1 P).1 (by omega), cut_pre hp (isortL_sorted n2 Q).1 (by omega), cntN_sort, cntN_sort]
    have a := cntN_le p P n1
    have b := cntN_le p Q n2
    omega
  rw [hm, hJ]
  refine eq_of_not_lt ?_ ?_
  · have := (key _ (dn_le (isortL m J i))).1 (by rw [lt2_irrefl]; rfl)
    simpa using this
  · have := (key _ (dn_le (isortL n R i))).2 (by rw [lt2_irrefl]; rfl)
    simpa using this

theorem cntN_two {p : Int × Int → Bool} {A : NL} {i j m : Nat} (hj : j < i) (hi : i < m) (h1 : p (A j) = true) (h2 : p (A i) = true) : 2 ≤ cntN p A m := by
  have a := cntN_monoU p A (show i + 1 ≤ m by omega)
  have b := cntN_monoU p A (show j + 1 ≤ i by omega)
  rw [cntN_succ, h2] at a
  rw [cntN_succ, h1] at b
  simp only [if_true] at a b
  omega

theorem ap_of {J : NL} {m : Nat} (hn : ∀ i, i < m → nearB (J i).1 (J i).2 = true) (hu : ∀ d, cntN (fun x => x.1 == d) J m ≤ 1) : apB J m = true := by
  refine allN_yes fun i hi => ?_
  unfold apAt
  rw [hn i hi, hasId_no fun j hj => ?_]
  · rfl
  · cases e : (J j).1 == (J i).1
    · rfl
    · have := cntN_two (p := fun x => x.1 == (J i).1) hj hi e (by simp)
      have := hu (J i).1
      omega

theorem cnt_nr (p : Int × Int → Bool) (qs : List Int) (mask : Int) (L : IL) : ∀ n, cntN p (nrL qs mask L n) (cntP (mtB mask) L n) = cntP (fun x => mtB mask x && p (nrOf qs x)) L n := by
  intro n
  induction n with
  | zero => rfl
  | succ n ih =>
    cases h : mtB mask (L n)
    · rw [cntP_no h, cntP_no (by simp [h]), ← ih]
      exact cntN_congr fun i hi => by unfold nrL; rw [fil_no h]
    · rw [cntP_yes h, nrL_yes h, cntN_succ, put_at, cntN_congr (B := nrL qs mask L n) (fun i hi => put_off _ _ (by omega)), ih]
      simp only [cntP, h, Bool.true_and]
      split <;> rfl

theorem cntP_none {q : It → Bool} {L : IL} : ∀ m, (∀ i, i < m → q (L i) = false) → cntP q L m = 0
  | 0, _ => rfl
  | m + 1, h => by rw [cntP_no (h m (by omega)), cntP_none m fun i hi => h i (by omega)]

theorem cnt_id {dim : Int} {n : Nat} {L : IL} (h : itemsB dim n L = true) {q : It → Bool} {d : Int} (hq : ∀ x, q x = true → x.id = d) : ∀ m, m ≤ n → cntP q L m ≤ 1 := by
  intro m
  induction m with
  | zero => intro _; exact Nat.zero_le _
  | succ m ih =>
    intro hm
    cases e : q (L m)
    · rw [cntP_no e]; exact ih (by omega)
    · rw [cntP_yes e, cntP_none m fun i hi => ?_]
      · exact Nat.le_refl _
      · cases e2 : q (L i)
        · rfl
        · have a := hq _ e
          have b := hq _ e2
          have := itemsB_rise h hi (by omega)
          omega

/-- Of the first i of L these are some, in their order. -/
structure Sub (L : IL) (i na : Nat) (A : IL) : Prop where
  le : na ≤ i
  mem : ∀ k, k < na → ∃ j, j < i ∧ A k = L j
  rise : ∀ k, k + 1 < na → (A k).id < (A (k + 1)).id

theorem Sub.zero (L A : IL) : Sub L 0 0 A := ⟨Nat.le_refl _, fun k hk => absurd hk (by omega), fun k hk => absurd hk (by omega)⟩

theorem Sub.no {L : IL} {i na : Nat} {A : IL} (h : Sub L i na A) : Sub L (i + 1) na A :=
  ⟨Nat.le_succ_of_le h.le, fun k hk => by obtain ⟨j, hj, e⟩ := h.mem k hk; exact ⟨j, by omega, e⟩, h.rise⟩

theorem Sub.yes {dim : Int} {n : Nat} {L : IL} {i na : Nat} {A : IL} (h : Sub L i na A) (hI : itemsB dim n L = true) (hi : i < n) : Sub L (i + 1) (na + 1) (A.put na (L i)) := by
  refine ⟨Nat.succ_le_succ h.le, fun k hk => ?_, fun k hk => ?_⟩
  · by_cases e : k = na
    · subst e; exact ⟨i, by omega, IL.put_at _ _ _⟩
    · obtain ⟨j, hj, e2⟩ := h.mem k (by omega)
      exact ⟨j, by omega, (IL.put_off _ _ e).trans e2⟩
  · rw [IL.put_off _ _ (show k ≠ na by omega)]
    by_cases e : k + 1 = na
    · subst e
      rw [IL.put_at]
      obtain ⟨j, hj, e2⟩ := h.mem k (by omega)
      rw [e2]
      exact itemsB_rise hI hj hi
    · rw [IL.put_off _ _ e]
      exact h.rise k (by omega)

theorem cntP_congrU {q : It → Bool} {A B : IL} : ∀ m, (∀ i, i < m → A i = B i) → cntP q A m = cntP q B m
  | 0, _ => rfl
  | m + 1, h => by simp only [cntP]; rw [cntP_congrU m fun i hi => h i (by omega), h m (by omega)]

theorem cntP_put (q : It → Bool) (A : IL) (na : Nat) (x : It) : cntP q (A.put na x) (na + 1) = cntP q A na + if q x then 1 else 0 := by
  simp only [cntP]
  rw [IL.put_at, cntP_congrU (B := A) na fun i hi => IL.put_off _ _ (by omega)]
  split <;> rfl

theorem cntP_succU (q : It → Bool) (L : IL) (i : Nat) : cntP q L (i + 1) = cntP q L i + if q (L i) then 1 else 0 := by
  simp only [cntP]; split <;> rfl
/-- The two parts hold all of the first i. -/
def Parts2 (L : IL) (i na : Nat) (A : IL) (nb : Nat) (B : IL) : Prop := ∀ q, cntP q A na + cntP q B nb = cntP q L i

theorem Parts2.zero (L A B : IL) : Parts2 L 0 0 A 0 B := fun _ => rfl

theorem Parts2.one {L : IL} {i na : Nat} {A : IL} {nb : Nat} {B : IL} (h : Parts2 L i na A nb B) : Parts2 L (i + 1) (na + 1) (A.put na (L i)) nb B := by
  intro q; rw [cntP_put, cntP_succU, ← h q]; omega

theorem Parts2.two {L : IL} {i na : Nat} {A : IL} {nb : Nat} {B : IL} (h : Parts2 L i na A nb B) : Parts2 L (i + 1) na A (nb + 1) (B.put nb (L i)) := by
  intro q; rw [cntP_put, cntP_succU, ← h q]; omega

theorem Sub.items {dim : Int} {n : Nat} {L : IL} {na : Nat} {A : IL} (h : Sub L n na A) (hI : itemsB dim n L = true) : itemsB dim na A = true :=
  itemsB_mk (itemsB_dim hI) (Nat.le_trans h.le (itemsB_n hI)) (fun k hk => by obtain ⟨j, hj, e⟩ := h.mem k hk; rw [e]; exact itemsB_item hI hj) h.rise

theorem sort_near {n : Nat} {L : NL} (h : ∀ t, t < n → nearB (L t).1 (L t).2 = true) (i : Nat) (hi : i < n) : nearB (isortL n L i).1 (isortL n L i).2 = true := by
  obtain ⟨hs, hc⟩ := isortL_sorted n L
  obtain ⟨j, hj, e⟩ : ∃ j, j < n ∧ L j = isortL n L i := cnt_pos _ (by rw [← hc]; exact cnt_of (i := i) hi rfl)
  rw [← e]; exact h j hj

theorem merged_parts {dim : Int} {n : Nat} {L : IL} {qs : List Int} {K : Nat} {mask : Int} {na nb : Nat} {A B : IL} (hI : itemsB dim n L = true) (sA : Sub L n na A) (sB : Sub L n nb B) (hc : Parts2 L n na A nb B) (hk1 : 1 ≤ K) (hk20 : K ≤ 20)
    {f1 g1 f2 g2 : Nat → Int} (h1 : ∀ i, i < nearM dim na A qs K mask → (f1 i, g1 i) = nearA na A qs mask i) (h2 : ∀ i, i < nearM dim nb B qs K mask → (f2 i, g2 i) = nearA nb B qs mask i) :
    mrgM K (nearM dim na A qs K mask) (nearM dim nb B qs K mask) f1 g1 f2 g2 = nearM dim n L qs K mask ∧
    ∀ i, i < nearM dim n L qs K mask → isortL (nearM dim na A qs K mask + nearM dim nb B qs K mask) (mrgA (nearM dim na A qs K mask) f1 g1 f2 g2) i = nearA n L qs mask i := by
  have hk : inB (K : Int) 1 20 = true := decide_eq_true (by omega)
  have tn : (K : Int).toNat = K := Int.toNat_natCast K
  have fA : formB dim na A qs = formB dim n L qs := by unfold formB; rw [sA.items hI, hI]
  have fB : formB dim nb B qs = formB dim n L qs := by unfold formB; rw [sB.items hI, hI]
  cases hf : formB dim n L qs
  · have e1 : nearM dim na A qs K mask = 0 := by unfold nearM; rw [fA, hf]; rfl
    have e2 : nearM dim nb B qs K mask = 0 := by unfold nearM; rw [fB, hf]; rfl
    have e3 : nearM dim n L qs K mask = 0 := by unfold nearM; rw [hf]; rfl
    rw [e1, e2, e3]
    refine ⟨?_, fun i hi => absurd hi (by omega)⟩
    unfold mrgM
    split <;> simp
  · rw [hf] at fA fB
    have e1 : nearM dim na A qs K mask = min K (cntP (mtB mask) A na) := by unfold nearM; rw [fA, hk, tn]; rfl
    have e2 : nearM dim nb B qs K mask = min K (cntP (mtB mask) B nb) := by unfold nearM; rw [fB, hk, tn]; rfl
    have e3 : nearM dim n L qs K mask = min K (cntP (mtB mask) L n) := by unfold nearM; rw [hf, hk, tn]; rfl
    rw [e1] at h1
    rw [e2] at h2
    rw [e1, e2, e3]
    have cc : ∀ p, cntN p (nrL qs mask A na) (cntP (mtB mask) A na) + cntN p (nrL qs mask B nb) (cntP (mtB mask) B nb) = cntN p (nrL qs mask L n) (cntP (mtB mask) L n) := by
      intro p; rw [cnt_nr, cnt_nr, cnt_nr]; exact hc _
    obtain ⟨q1, q2⟩ := least_parts (k := K) cc h1 h2
    refine ⟨?_, q2⟩
    have ap : apB (mrgA (min K (cntP (mtB mask) A na)) f1 g1 f2 g2) (min K (cntP (mtB mask) A na) + min K (cntP (mtB mask) B nb)) = true := by
      refine ap_of (fun i hi => ?_) (fun d => ?_)
      · by_cases e : i < min K (cntP (mtB mask) A na)
        · rw [mrg_l e, h1 i e]
          exact sort_near (near_ok fA) i (by omega)
        · obtain ⟨j, rfl⟩ : ∃ j, i = min K (cntP (mtB mask) A na) + j := ⟨i - min K (cntP (mtB mask) A na), by omega⟩
          rw [mrg_r, h2 j (by omega)]
          exact sort_near (near_ok fB) j (by omega)
      · rw [cnt_mrg _ h1 _ h2]
        unfold nearA
        have a := cntN_monoU (fun x => x.1 == d) (isortL (cntP (mtB mask) A na) (nrL qs mask A na)) (show min K (cntP (mtB mask) A na) ≤ cntP (mtB mask) A na by omega)
        have b := cntN_monoU (fun x => x.1 == d) (isortL (cntP (mtB mask) B nb) (nrL qs mask B nb)) (show min K (cntP (mtB mask) B nb) ≤ cntP (mtB mask) B nb by omega)
        rw [cntN_sort _ _ (nrL qs mask A na)] at a
        rw [cntN_sort _ _ (nrL qs mask B nb)] at b
        have c := cc (fun x => x.1 == d)
        rw [cnt_nr _ _ _ L] at c
        have u := cnt_id hI (q := fun x => mtB mask x && (nrOf qs x).1 == d) (d := d) (fun x hx => by
          simp only [Bool.and_eq_true, beq_iff_eq] at hx; exact hx.2) n (Nat.le_refl _)
        omega
    unfold mrgM mrgB
    rw [hk, decide_eq_true (show min K (cntP (mtB mask) A na) ≤ 20 by omega), decide_eq_true (show min K (cntP (mtB mask) B nb) ≤ 20 by omega), ap, tn]
    simpa using q1
end Go.Proofs.Ytjliecggfncelaa
