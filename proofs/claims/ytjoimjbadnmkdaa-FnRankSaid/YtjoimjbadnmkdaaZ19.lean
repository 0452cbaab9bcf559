/- RankOf of the program. -/
import Derived.Test.YtjoimjbadnmkdaaZ18
import Derived.Test.YtjoimjbadnmkdaaZ17
namespace Go.Proofs.Ytjoimjbadnmkdaa
open Go.RowKit
set_option maxRecDepth 8000
set_option linter.unusedSimpArgs false
set_option linter.unusedVariables false

set_option maxHeartbeats 8000000 in
set_option maxRecDepth 4000 in
theorem eachNear_rank (w0 : World) (ob kb : Nat) (y : Int × Int) (dim : Int) (b off n cap : Nat) (L : IL) (qa : Option Addr) (qn qc : Nat) (qs : List Int) (w : World) (hb : b < w0.heap.size) (hc : ∀ i, i < n → IAt w0 b (off + i * 3) (L i)) (rq : Row w0 qa qn qs) (hqn : qn ≤ 1048576) (hf : Fine dim n L qs)
    (h : CapK w0 ob kb y 0 w) :
    Calls Try.prog 21 #[.slice (some ⟨b, off, none⟩) n cap, .slice qa qn qc, .int .i64 0, .func (.func 22) #[] #[.pointer (some ⟨ob, 0, none⟩), .pointer (some ⟨kb, 0, none⟩)]] w fun e w' => e = .returned (.tuple #[]) ∧ CapK w0 ob kb y (cntN (ltO y) (fun i => nrOf qs (L i)) n) w' := by
  have hn := hf.n60
  have HF := hide hf
  have HC := hide hc
  have HRQ := hide rq
  have HCAP := hide h
  clear hf hc rq h
  go_enter Try.func21, Try.ntmps21
  go_wp2_with fail
  go_loopw [12] (fun i wr => ∃ k : Nat, k ≤ n ∧ i = .int .i64 k ∧ CapK w0 ob kb y (cntN (ltO y) (fun i => nrOf qs (L i)) k) wr) (fun i _ => n - (intOf i).toNat)
  case atStart => exact ⟨0, Nat.zero_le _, rfl, HCAP.out⟩
  case round =>
    obtain ⟨k, hk, rfl, hcap⟩ := hrel
    have HK := hide hcap
    have hbel := hcap.bel
    by_cases hlt : k < n
    · obtain ⟨c0, c1', va, vn, vc, c2, vr⟩ := (HC.out k hlt).below hb hbel
      have hlt' : (k : Int) < (n : Int) := by omega
      have MT := hide (fun w1 => matches_any 0 (L k) va vn vc w1)
      simp only [mtB_zero] at MT
      have hvl := vr.len
      have NO := hide (fun w1 (h1 : Below wr.heap.size wr w1) => nearOf_any (L k) va vn vc qa qn qc qs w1 (vr.below h1) (by have := (vecOk_all (HF.out.vi k hlt) hvl).2.1; omega) ((HRQ.out.below hbel).below h1) hqn (HF.out.vi k hlt) HF.out.vq (HF.out.li k hlt))
      have hj : cntN (ltO y) (fun i => nrOf qs (L i)) k ≤ 60 := Nat.le_trans (cntN_le _ _ _) (by omega)
      have E1 := hide (show cntN (ltO y) (fun i => nrOf qs (L i)) (k + 1) = if ltO y (nrOf qs (L k)) then cntN (ltO y) (fun i => nrOf qs (L i)) k + 1 else cntN (ltO y) (fun i => nrOf qs (L i)) k from rfl)
      generalize cntN (ltO y) (fun i => nrOf qs (L i)) k = j at *
      obtain ⟨z, hz⟩ : ∃ z, nrOf qs (L k) = z := ⟨_, rfl⟩
      rw [hz] at NO E1
      have CL := hide (fun w1 (h1 : CapK w0 ob kb y j w1) => rankOf1_any w0 ob kb y j z w1 h1 hj)
      clear hbel hcap vr hz
      go_wp2_with fail
      refine (MT.out _).mono ?_
      rintro e w1 ⟨rfl, hb1⟩
      have bel1 : Below wr.heap.size wr w1 := (by repeat' first | with_reducible exact Below.refl _ _ | with_reducible assumption | with_reducible refine below_drewN ?_ _ | with_reducible refine balloc ?_ _ | with_reducible refine Below.drew ?_ | with_reducible refine Below.setCell ?_ (by first | (simp; done) | (simp; omega) | omega) _ | with_reducible refine bstep ?_ (by assumption))
      obtain ⟨_, q1, q2, q3, _⟩ := (Tri.new wr (.int .i64 (L k).id) (.int .i64 (L k).tags) (.slice va vn vc) 45).below hb1
      go_wp2_with fail
      refine (NO.out _ bel1).mono ?_
      rintro e w2 ⟨rfl, hb2⟩
      go_wp2_with fail
      refine (CL.out _ (HK.out.below (bstep bel1 hb2))).mono ?_
      rintro e w3 ⟨rfl, hc3⟩
      have HC3 := hide hc3
      clear hc3
      go_wp2_with fail
      go_roundw
      case rel => exact ⟨k + 1, by omega, by go_num, by rw [E1.out]; exact HC3.out⟩
      case measure => simp [intOf]; omega
    · obtain rfl : k = n := by omega
      clear hcap hbel
      go_wp2_with fail
      go_end0
      exact ⟨rfl, HK.out⟩

/-- The answer of RankOf. -/
def rankV (dim : Int) (n : Nat) (L : IL) (qs : List Int) (id : Int) : Int := if formB dim n L qs then rkF (isortL n (fun i => nrOf qs (L i))) n id else -1

theorem formB_items {dim : Int} {n : Nat} {L : IL} {qs : List Int} (h : formB dim n L qs = true) : itemsB dim n L = true := by
  unfold formB at h
  simp only [Bool.and_eq_true] at h
  exact h.1.1
theorem rank_found {dim : Int} {n : Nat} {L : IL} {qs : List Int} {id : Int} {p : Nat} (h : itemsB dim n L = true) (hp : p < n) (he : (L p).id = id) : rkF (isortL n (fun i => nrOf qs (L i))) n id = (cntN (ltO (nrOf qs (L p))) (fun i => nrOf qs (L i)) n : Int) :=
  rank_hit (A := fun i => nrOf qs (L i)) hp he fun j hj hje => by
    have hje' : (L j).id = id := hje
    rcases Nat.lt_trichotomy j p with hlt | e | hgt
    · have := itemsB_rise h hlt hp; omega
    · exact e
    · have := itemsB_rise h hgt hj; omega
theorem rank_lost {dim : Int} {n : Nat} {L : IL} {qs : List Int} {id : Int} {p : Nat} (h : itemsB dim n L = true) (hp : IsPlace n L id p) (hno : decide (p < n ∧ (L p).id = id) = false) : rkF (isortL n (fun i => nrOf qs (L i))) n id = -1 :=
  rank_miss fun j hj hje => by
    have hje' : (L j).id = id := hje
    have hno' := of_decide_eq_false hno
    rcases Nat.lt_or_ge j p with hlt | hge
    · have := hp.lo j hlt; omega
    · by_cases e : p = j
      · subst e; exact hno' ⟨hj, hje'⟩
      · have h1 := hp.hi p (Nat.le_refl _) (by omega)
        have h2 := itemsB_rise h (show p < j by omega) hj
        omega

set_option maxHeartbeats 800000 in
theorem iRankOf_no (dim : Int) (a : Option Addr) (n cap : Nat) (L : IL) (qa : Option Addr) (qn qc : Nat) (qs : List Int) (id : Int) (w : World) (h : IRow w a n L) (hn : n ≤ 1048576) (hv : ∀ i, i < n → (L i).vec.length ≤ 1048576) (rq : Row w qa qn qs) (hqn : qn ≤ 1048576) (hf : formB dim n L qs = false) :
    Calls Try.prog 7 #[.int .i64 dim, .slice a n cap, .slice qa qn qc, .int .i64 id] w fun e w' => e = .returned (.int .i64 (-1)) ∧ Below w.heap.size w w' := by
  have K := hide (fun w1 (hb : Below w.heap.size w w1) => queryOk_any dim a n cap L qa qn qc qs w1 (h.below hb) hn hv (rq.below hb) hqn)
  simp only [hf] at K
  clear h hv rq hf
  go_enter Try.func7, Try.ntmps7
  go_wp2_with fail
  refine (K.out _ (Below.refl _ _)).mono ?_
  rintro e w1 ⟨rfl, b1⟩
  go_wp2_with fail
  go_ret
  exact ⟨rfl, b1⟩

set_option maxHeartbeats 4000000 in
theorem iRankOf_yes (dim : Int) (a : Option Addr) (n cap : Nat) (L : IL) (qa : Option Addr) (qn qc : Nat) (qs : List Int) (id : Int) (w : World) (h : IRow w a n L) (hv : ∀ i, i < n → (L i).vec.length ≤ 1048576) (rq : Row w qa qn qs) (hqn : qn ≤ 1048576) (hf : formB dim n L qs = true) (u : Int) (hu : rkF (isortL n (fun i => nrOf qs (L i))) n id = u) :
    Calls Try.prog 7 #[.int .i64 dim, .slice a n cap, .slice qa qn qc, .int .i64 id] w fun e w' => e = .returned (.int .i64 u) ∧ Below w.heap.size w w' := by
  have hfine := fine_of hf
  have hn := hfine.n60
  have hit := formB_items hf
  have K := hide (fun w1 (hb : Below w.heap.size w w1) => queryOk_any dim a n cap L qa qn qc qs w1 (h.below hb) (by omega) hv (rq.below hb) hqn)
  simp only [hf] at K
  have PL := hide (fun w1 (hb : Below w.heap.size w w1) => placeOf_any a n cap L id w1 (h.below hb) hn (itemsB_le hit))
  have HU := hide hu
  have HH := hide h
  have HRQ := hide rq
  have HF := hide hfine
  have HIT := hide hit
  clear h hv rq hf hfine hu hit
  go_enter Try.func7, Try.ntmps7
  go_wp2_with fail
  refine (K.out _ (Below.refl _ _)).mono ?_
  rintro e w1 ⟨rfl, b1⟩
  go_wp2_with fail
  refine (PL.out _ b1).mono ?_
  rintro e w2 ⟨p, rfl, hp, b2⟩
  have bw2 := bstep b1 b2
  clear b1 b2 K PL
  cases hd : decide (p < n ∧ (L p).id = id)
  · have HE := hide (rank_lost (qs := qs) HIT.out hp hd)
    clear hp hd
    go_wp2_with fail
    go_ret
    exact ⟨by rw [← HU.out, HE.out]; rfl, bw2⟩
  · obtain ⟨hpn, hpe⟩ := of_decide_eq_true hd
    rcases HH.out.lies with h0 | ⟨b, off, rfl, lt, hc⟩
    · omega
    have HE := hide (rank_found (qs := qs) HIT.out hpn hpe)
    obtain ⟨c0, c1', va, vn, vc, c2, vr⟩ := (hc p hpn).below lt bw2
    have hpn' : (p : Int) < (n : Int) := by omega
    have hvl := vr.len
    have NO := hide (nearOf_any (L p) va vn vc qa qn qc qs w2 vr (by have := (vecOk_all (HF.out.vi p hpn) hvl).2.1; omega) (HRQ.out.below bw2) hqn (HF.out.vi p hpn) HF.out.vq (HF.out.li p hpn))
    have EN := hide (fun ob kb w1 (hc1 : CapK w ob kb (nrOf qs (L p)) 0 w1) => eachNear_rank w ob kb (nrOf qs (L p)) dim b off n cap L qa qn qc qs w1 lt hc HRQ.out hqn HF.out hc1)
    obtain ⟨y, hy⟩ : ∃ y, nrOf qs (L p) = y := ⟨_, rfl⟩
    rw [hy] at NO EN HE
    obtain ⟨t, ht⟩ : ∃ t, cntN (ltO y) (fun i => nrOf qs (L i)) n = t := ⟨_, rfl⟩
    rw [ht] at EN HE
    have HB2 := hide bw2
    clear hp hd hpe vr hc hy ht bw2
    go_wp2_with fail
    refine NO.out.mono ?_
    rintro e w3 ⟨rfl, b3⟩
    have bw3 := bstep HB2.out b3
    have hs3 := bw3.size
    have C0 : Hid (CapK w w3.heap.size (w3.heap.size + 1) y 0 ((w3.alloc (.cells #[.int .i64 y.1, .int .i64 y.2] 32)).alloc (.cells #[.int .i64 0] 2))) := hide (by
      refine ⟨?_, ?_, by omega, (by repeat' first | with_reducible exact Below.refl _ _ | with_reducible assumption | with_reducible refine below_drewN ?_ _ | with_reducible refine balloc ?_ _ | with_reducible refine Below.drew ?_ | with_reducible refine Below.setCell ?_ (by first | (simp; done) | (simp; omega) | omega) _ | with_reducible refine bstep ?_ (by assumption))⟩
      · rw [(balloc (Below.refl _ _) (.cells #[.int .i64 0] 2)).block _ (by simp)]
        exact Go.Deep.blk_alloc_new _ _
      · have := Go.Deep.blk_alloc_new (w3.alloc (.cells #[.int .i64 y.1, .int .i64 y.2] 32)) (.cells #[.int .i64 0] 2)
        simp only [World.size_alloc] at this
        exact this)
    clear b3 bw3 c0 c1' c2
    go_wp2_with fail
    refine (EN.out _ _ _ C0.out).mono ?_
    rintro e w4 ⟨rfl, hc4⟩
    have q1 := one_cell hc4.cnt
    have HB4 := hide hc4.bel
    clear hc4
    go_wp2_with fail
    go_ret
    exact ⟨by rw [← HU.out, HE.out]; rfl, HB4.out⟩

theorem iRankOf_any (dim : Int) (a : Option Addr) (n cap : Nat) (L : IL) (qa : Option Addr) (qn qc : Nat) (qs : List Int) (id : Int) (w : World) (h : IRow w a n L) (hn : n ≤ 1048576) (hv : ∀ i, i < n → (L i).vec.length ≤ 1048576) (rq : Row w qa qn qs) (hqn : qn ≤ 1048576) :
    Calls Try.prog 7 #[.int .i64 dim, .slice a n cap, .slice qa qn qc, .int .i64 id] w fun e w' => e = .returned (.int .i64 (rankV dim n L qs id)) ∧ Below w.heap.size w w' := by
  unfold rankV
  cases hf : formB dim n L qs
  · exact iRankOf_no dim a n cap L qa qn qc qs id w h hn hv rq hqn hf
  · exact iRankOf_yes dim a n cap L qa qn qc qs id w h hv rq hqn hf _ rfl
theorem sRankOf_any (dim : Int) (a : Option Addr) (n cap : Nat) (L : IL) (qa : Option Addr) (qn qc : Nat) (qs : List Int) (id : Int) (w : World) (h : IRow w a n L) (hn : n ≤ 1048576) (hv : ∀ i, i < n → (L i).vec.length ≤ 1048576) (rq : Row w qa qn qs) (hqn : qn ≤ 1048576) :
    Calls Try.prog 8 #[.int .i64 dim, .slice a n cap, .slice qa qn qc, .int .i64 id] w fun e w' => e = .returned (.int .i64 (rankV dim n L qs id)) ∧ Below w.heap.size w w' := by
  unfold rankV
  cases hf : formB dim n L qs
  · exact sRankOf_no dim a n cap L qa qn qc qs id w h hn hv rq hqn hf
  · exact sRankOf_yes dim a n cap L qa qn qc qs id w h hv rq hqn hf
end Go.Proofs.Ytjoimjbadnmkdaa
