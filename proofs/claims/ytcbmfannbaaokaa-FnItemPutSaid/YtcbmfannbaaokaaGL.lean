/- Items that are dropped and put again, plain; the walk of the law FnItemDrop. -/
import Derived.Test.YtcbmfannbaaokaaGE
import Derived.Test.YtcbmfannbaaokaaGF
import Derived.Test.YtcbmfannbaaokaaJC
import Derived.Test.YtcbmfannbaaokaaIY
import Derived.Test.YtcbmfannbaaokaaDP
import Derived.OpenShut
namespace Go.Proofs.Ytcbmfannbaaokaa
open Go.RowKit
set_option linter.unusedSimpArgs false
set_option linter.unusedVariables false

theorem itemsB_dim {dim : Int} {n : Nat} {L : IL} (h : itemsB dim n L = true) : inB dim 1 8 = true := by
  unfold itemsB at h
  simp only [Bool.and_eq_true] at h
  exact h.1.1
theorem itemsB_item {dim : Int} {n : Nat} {L : IL} (h : itemsB dim n L = true) {k : Nat} (hk : k < n) : itemB dim (L k) = true := by
  have := itemsB_ok h hk
  unfold okI at this
  simp only [Bool.and_eq_true] at this
  exact this.1
/-- Items are right where each is, and each id is greater than the one ahead. -/
theorem itemsB_mk {dim : Int} {n : Nat} {L : IL} (hd : inB dim 1 8 = true) (hn : n ≤ 60) (hi : ∀ k, k < n → itemB dim (L k) = true) (hr : ∀ k, k + 1 < n → (L k).id < (L (k + 1)).id) : itemsB dim n L = true := by
  unfold itemsB
  rw [hd, decide_eq_true hn, allN_yes]
  · rfl
  · intro k hk
    unfold okI
    rw [hi k hk, Bool.true_and]
    by_cases h0 : k = 0
    · simp [h0]
    · have := hr (k - 1) (by omega)
      rw [show k - 1 + 1 = k by omega] at this
      simp [h0]; omega

/-- What there is without one of them, and when it is put again. -/
structure Dropped (dim : Int) (n : Nat) (L : IL) (id : Int) (p : Nat) : Prop where
  lt : p < n
  at_ : (L p).id = id
  cnt : cntP (neB id) L n = n - 1
  find : findX n L id = (L p, true)
  miss : (findX (n - 1) (fil (neB id) L n) id).2 = false
  code : putC dim (n - 1) (fil (neB id) L n) (L p) = 0
  many : putT dim (n - 1) (fil (neB id) L n) (L p) = n
  all : ∀ j, j < n → putA (n - 1) (fil (neB id) L n) (L p) j = L j
theorem dropped {dim : Int} {n : Nat} {L : IL} {id : Int} (h : dropB dim n L id = true) : ∃ p, Dropped dim n L id p := by
  unfold dropB at h
  simp only [Bool.and_eq_true] at h
  obtain ⟨hit, hf⟩ := h
  have hp := plc_is (id := id) (itemsB_le hit)
  have hpf := (place_find hit hp).symm.trans hf
  obtain ⟨p, hpe⟩ : ∃ p, plc L id n = p := ⟨_, rfl⟩
  rw [hpe] at hp hpf
  obtain ⟨hpn, hid⟩ := of_decide_eq_true hpf
  have hne : ∀ i, i < n → i ≠ p → (L i).id ≠ id := fun i hi hne e => by
    rcases Nat.lt_or_gt_of_ne hne with hlt | hgt
    · have := hp.lo i hlt; omega
    · have := itemsB_rise hit hgt hi; omega
  obtain ⟨s1, s2⟩ := (sans_fil hpn hid hne n (Nat.le_refl _)).2 hpn
  obtain ⟨M, hM⟩ : ∃ M, fil (neB id) L n = M := ⟨_, rfl⟩
  rw [hM] at s2
  have lo : ∀ j, j < p → M j = L j := fun j hj => by rw [s2 j (by omega)]; simp [sansL, hj]
  have hi : ∀ j, p ≤ j → j < n - 1 → M j = L (j + 1) := fun j h1 h2 => by rw [s2 j h2]; simp [sansL, show ¬ j < p by omega]
  have n60 := itemsB_n hit
  have hitM : itemsB dim (n - 1) M = true := by
    refine itemsB_mk (itemsB_dim hit) (by omega) (fun k hk => ?_) (fun k hk => ?_)
    · by_cases hkp : k < p
      · rw [lo k hkp]; exact itemsB_item hit (by omega)
      · rw [hi k (by omega) hk]; exact itemsB_item hit (by omega)
    · by_cases hkp : k + 1 < p
      · rw [lo k (by omega), lo (k + 1) hkp]; exact itemsB_next hit (by omega)
      · by_cases hk2 : k < p
        · rw [lo k hk2, hi (k + 1) (by omega) hk]; exact itemsB_rise hit (by omega) (by omega)
        · rw [hi k (by omega) (by omega), hi (k + 1) (by omega) hk]; exact itemsB_next hit (by omega)
  have hpl : IsPlace (n - 1) M (L p).id p := ⟨by omega, fun i hlt => by rw [lo i hlt]; exact itemsB_rise hit hlt hpn, fun i h1 h2 => by rw [hi i h1 h2]; exact Int.le_of_lt (itemsB_rise hit (by omega) (by omega))⟩
  have hplc : plc M (L p).id (n - 1) = p := (plc_is (itemsB_le hitM)).uniq hpl
  have hisat : isAt (n - 1) M (L p).id = false := by
    unfold isAt
    rw [hplc]
    refine decide_eq_false fun hh => ?_
    rw [hi p (Nat.le_refl _) hh.1] at hh
    have := itemsB_rise hit (show p < p + 1 by omega) (by omega)
    omega
  have hputM : putM (n - 1) M (L p) = n := by unfold putM; rw [hisat]; simp; omega
  have hok : putOk dim (n - 1) M (L p) = true := by unfold putOk; rw [hitM, itemsB_item hit hpn]; rfl
  refine ⟨p, hpn, hid, s1, findX_hit hpn hid (fun j hj => by have := hp.lo j hj; omega), ?_, ?_, ?_, ?_⟩
  · rw [hM, findX_miss]
    intro j hj e
    by_cases hjp : j < p
    · rw [lo j hjp] at e; exact hne j (by omega) (by omega) e
    · rw [hi j (by omega) hj] at e; exact hne (j + 1) (by omega) (by omega) e
  · rw [hM]; unfold putC; rw [hok, hputM, if_pos rfl, if_pos n60]
  · rw [hM]; unfold putT; rw [hok, hputM, if_pos rfl, if_pos n60]
  · intro j hj
    rw [hM]
    unfold putA
    rw [hplc, hisat]
    unfold putI
    by_cases h1 : j < p
    · rw [if_pos h1, lo j h1]
    · rw [if_neg h1]
      by_cases h2 : j = p
      · rw [if_pos h2, h2]
      · rw [if_neg h2, if_neg (by simp), hi (j - 1) (by omega) (by omega), show j - 1 + 1 = j by omega]
theorem atZ {w : World} {g n : Nat} {L : IL} (h : IRow w (some ⟨g, 0, none⟩) n L) {i : Nat} (hi : i < n) : g < w.heap.size ∧ IAt w g (0 + i * 3) (L i) := by
  rcases h.lies with h0 | ⟨b, off, e, lt, hc⟩
  · omega
  · cases e
    exact ⟨lt, hc i hi⟩
theorem fil_len' {p : It → Bool} {L : IL} {n b : Nat} (h : ∀ i, i < n → (L i).vec.length ≤ b) : ∀ i, i < cntP p L n → (fil p L n i).vec.length ≤ b := by
  intro i hi
  obtain ⟨j, hj, e⟩ := fil_mem p L n i hi
  rw [e]; exact h j hj

set_option maxHeartbeats 8000000 in
set_option maxRecDepth 4000 in
theorem itemDrop_walk (a : Option Addr) (n cap : Nat) (zs : List Int) (w : World) (h : IsRow .u8 w a n cap zs) :
    Calls Try.prog 4 #[.slice a n cap] w fun e w' => e = .returned (.bool true) ∧ Below w.heap.size w w' := by
  have BG := hide (big_any a n cap w)
  by_cases hn : n ≤ 1048576
  · rw [decide_eq_false (show ¬ 1048576 < n by omega)] at BG
    have DR := hide (drawItemDrop_any a n cap w (h.code hn))
    clear h
    go_enter Try.func4, Try.ntmps4
    go_wp2_with fail
    refine BG.out.mono ?_
    rintro e w' ⟨rfl, hw⟩
    obtain rfl := hw.symm
    clear BG hw
    go_wp2_with fail
    refine DR.out.mono ?_
    rintro e w1 ⟨dim, g, m, cp, L, id, rfl, hni⟩
    have hm := hni.few
    have hcp := hni.cap_
    have hv : ∀ i, i < m → (L i).vec.length ≤ 1048576 := fun i hi => Nat.le_trans (hni.len i hi) (by omega)
    have ID := hide (fun w1 (h : IRow w1 (some ⟨g, 0, none⟩) m L) => iItemDrop_anyG dim (some ⟨g, 0, none⟩) m cp L id w1 h hcp (by omega) hv)
    have SD := hide (fun w1 (h : IRow w1 (some ⟨g, 0, none⟩) m L) => sItemDrop_any dim (some ⟨g, 0, none⟩) m cp L id w1 h (by omega) hv)
    have hdl : dropN dim m L id ≤ m := by unfold dropN; split; exact cntP_le _ _ _; omega
    have hdv : ∀ i, i < dropN dim m L id → (fil (neB id) L m i).vec.length ≤ 1048576 := fun i hi => fil_len' hv i (by unfold dropN at hi; split at hi; exact hi; omega)
    have EQ := hide (fun a1 k1 a2 k2 w1 (h : IRow w1 a1 (dropN dim m L id) (fil (neB id) L m)) (h' : IRow w1 a2 (dropN dim m L id) (fil (neB id) L m)) => sameItems_self a1 a2 (dropN dim m L id) k1 k2 (fil (neB id) L m) w1 h h' (by omega) hdv)
    have B1 := hide hni.low
    have I1 := hide hni.hi
    have HV := hide hv
    clear hni DR hdv hdl hv
    cases hdb : dropB dim m L id
    · have hd0 : dropN dim m L id = 0 := by unfold dropN; rw [hdb]; rfl
      unfold TwoG at ID
      unfold TwoR at SD
      simp only [hdb, hd0] at ID SD EQ
      go_wp2_with fail
      refine (ID.out _ I1.out.irow).mono ?_
      rintro e w2 ⟨v2, rfl, hv2, b2⟩
      obtain ⟨a2, c2, rfl⟩ : ∃ a2 c2, v2 = .slice a2 0 c2 := by
        rcases hv2 with ⟨rfl, _⟩ | ⟨g2, c2, _, _, rfl, _⟩
        · exact ⟨_, _, rfl⟩
        · exact ⟨_, _, rfl⟩
      have I2 := hide (I1.out.below b2)
      have B2 := hide (bstep B1.out b2)
      clear hv2 b2
      go_wp2_with fail
      refine (SD.out _ I2.out.irow).mono ?_
      rintro e w3 ⟨a3, c3, g3, V3, s3, rfl, i3, b3⟩
      have B3 := hide (bstep B2.out b3)
      clear b3 i3
      go_wp2_with fail
      refine (EQ.out _ _ _ _ _ ⟨.inl rfl⟩ ⟨.inl rfl⟩).mono ?_
      rintro e w4 ⟨rfl, b4⟩
      have B4 := hide (bstep B3.out b4)
      clear b4
      go_wp2_with fail
      refine (EQ.out _ _ _ _ _ ⟨.inl rfl⟩ ⟨.inl rfl⟩).mono ?_
      rintro e w5 ⟨rfl, b5⟩
      have B5 := hide (bstep B4.out b5)
      clear b5
      go_wp2_with fail
      go_ret
      exact ⟨rfl, B5.out⟩
    · obtain ⟨p, hD⟩ := dropped hdb
      have hplt := hD.lt
      have hdn : dropN dim m L id = m - 1 := by unfold dropN; rw [hdb, if_pos rfl, hD.cnt]
      have hfl : ∀ i, i < m - 1 → (fil (neB id) L m i).vec.length ≤ 1048576 := fun i hi => fil_len' HV.out i (by rw [hD.cnt]; exact hi)
      have ID := hide (fun w1 (h : IHi w1 w.heap.size g m L) => iItemDrop_yes dim g 0 m cp L id w1 hcp (by omega) HV.out h.lt h.iat hdb)
      unfold TwoGs at ID
      unfold TwoR at SD
      rw [hD.cnt] at ID
      simp only [hdb, hdn] at SD EQ
      obtain ⟨q, hq⟩ : ∃ q, m - 1 = q := ⟨_, rfl⟩
      obtain ⟨M, hM⟩ : ∃ M, fil (neB id) L m = M := ⟨_, rfl⟩
      have F1 := hide (fun w1 (h : IRow w1 (some ⟨g, 0, none⟩) m L) => iItemFind_any (some ⟨g, 0, none⟩) m cp L id w1 h (by omega) HV.out)
      have F2 := hide (fun g2 c2 w1 (h : IRow w1 (some ⟨g2, 0, none⟩) (m - 1) (fil (neB id) L m)) => iItemFind_any (some ⟨g2, 0, none⟩) (m - 1) c2 (fil (neB id) L m) id w1 h (by omega) hfl)
      have PT := hide (fun g2 c2 xa xc w1 (hg : g2 < w1.heap.size) (hc : ∀ i, i < m - 1 → IAt w1 g2 (0 + i * 3) (fil (neB id) L m i)) (hcap : m - 1 ≤ c2) (rx : Row w1 xa (L p).vec.length (L p).vec) => iItemPut_any dim g2 (m - 1) c2 (fil (neB id) L m) (L p) xa (L p).vec.length xc w1 hg hc hcap (by omega) hfl rx (HV.out p hplt))
      unfold FindR at F1 F2
      unfold PutR TwoR at PT
      have e1 := hD.find
      have e2 := hD.miss
      have e3 := hD.code
      have e4 := hD.many
      simp only [e1] at F1
      simp only [e2] at F2
      simp only [e3, e4] at PT
      have EL := hide (fun a1 k1 w1 (h : IRow w1 a1 m L) (h' : IRow w1 (some ⟨g, 0, none⟩) m L) => sameItems_self a1 (some ⟨g, 0, none⟩) m k1 cp L w1 h h' (by omega) HV.out)
      have HALL := hide hD.all
      rw [hq] at ID SD EQ F2 PT HALL
      rw [hM] at ID SD EQ F2 PT HALL
      have hqe : ((q : Int) == ((m : Int) - 1)) = true := by simp; omega
      clear hD e1 e2 e3 e4 hfl hdn hdb hq hM
      go_wp2_with fail
      refine (ID.out _ I1.out).mono ?_
      rintro e w2 ⟨v2, rfl, ⟨g2, c2, V2, s2, rfl, i2⟩, b2⟩
      have hc2 := i2.shape.2.choose_spec.2.1
      have I2 := hide (I1.out.below b2)
      have O2 := hide i2
      have B2 := hide (bstep B1.out b2)
      clear i2 b2 I1 B1
      go_wp2_with fail
      refine (SD.out _ I2.out.irow).mono ?_
      rintro e w3 ⟨a3, c3, g3, V3, s3, rfl, i3, b3⟩
      have I3 := hide (I2.out.below b3)
      have O3 := hide (O2.out.below b3)
      have B3 := hide (bstep B2.out b3)
      clear b3 I2 O2 B2
      go_wp2_with fail
      refine (EQ.out _ _ _ _ _ O3.out.its.irow i3.irow).mono ?_
      rintro e w4 ⟨rfl, b4⟩
      have I4 := hide (I3.out.below b4)
      have O4 := hide (O3.out.below b4)
      have B4 := hide (bstep B3.out b4)
      clear b4 I3 O3 B3 i3
      go_wp2_with fail
      refine (F1.out _ I4.out.irow).mono ?_
      rintro e w5 ⟨v5, g5, rfl, h5, b5⟩
      obtain ⟨a5, c5, rfl, r5⟩ := h5.row
      have bA : Below w5.heap.size w5 (w5.alloc (.cells #[.int .i64 (L p).id, .int .i64 (L p).tags, .slice a5 (L p).vec.length c5] 27)) := balloc (Below.refl _ _) _
      have T5 := hide (Tri.new w5 (.int .i64 (L p).id) (.int .i64 (L p).tags) (.slice a5 (L p).vec.length c5) 27)
      have I5 := hide ((I4.out.below b5).below bA)
      have O5 := hide ((O4.out.below b5).below bA)
      have R5 := hide (r5.below bA)
      have B5 : Hid (Below w.heap.size w (w5.alloc (.cells #[.int .i64 (L p).id, .int .i64 (L p).tags, .slice a5 (L p).vec.length c5] 27))) := hide (bstep (bstep B4.out b5) bA)
      clear bA b5 h5 r5 I4 O4 B4
      go_wp2_with fail
      refine (F2.out _ _ _ O5.out.its.irow).mono ?_
      rintro e w6 ⟨v6, g6, rfl, h6, b6⟩
      obtain ⟨a6, c6, rfl, r6⟩ := h6.row
      obtain ⟨y, hy⟩ : ∃ y, (findX q M id).1 = y := ⟨_, rfl⟩
      rw [hy]
      have bA : Below w6.heap.size w6 (w6.alloc (.cells #[.int .i64 y.id, .int .i64 y.tags, .slice a6 y.vec.length c6] 27)) := balloc (Below.refl _ _) _
      obtain ⟨_, q1, q2, q3, _, _, _⟩ := T5.out.below b6
      have I6 := hide ((I5.out.below b6).below bA)
      have O6 := hide ((O5.out.below b6).below bA)
      have R6 := hide ((R5.out.below b6).below bA)
      have B6 : Hid (Below w.heap.size w (w6.alloc (.cells #[.int .i64 y.id, .int .i64 y.tags, .slice a6 y.vec.length c6] 27))) := hide (bstep (bstep B5.out b6) bA)
      clear bA h6 r6 I5 O5 B5 R5 hy b6
      go_wp2_with fail
      refine (PT.out _ _ _ _ _ O6.out.lt (fun i hi => by obtain ⟨_, hh⟩ := atZ O6.out.its.irow hi; exact hh) hc2 R6.out).mono ?_
      rintro e w7 ⟨a7, c7, g7, V7, s7, rfl, i7, b7⟩
      have I7 := hide (I6.out.below b7)
      have B7 := hide (bstep B6.out b7)
      clear b7 O6 I6 B6 q1 q2 q3
      go_wp2_with fail
      refine (EL.out _ _ _ (i7.irow.congr HALL.out) I7.out.irow).mono ?_
      rintro e w8 ⟨rfl, b8⟩
      have B8 := hide (bstep B7.out b8)
      clear b8 i7
      go_wp2_with fail
      go_ret
      exact ⟨rfl, B8.out⟩
  · rw [decide_eq_true (show 1048576 < n by omega)] at BG
    go_enter Try.func4, Try.ntmps4
    go_wp2_with fail
    refine BG.out.mono ?_
    rintro e w' ⟨rfl, rfl⟩
    go_wp2
    go_ret
    exact ⟨rfl, (by repeat' first | with_reducible exact Below.refl _ _ | with_reducible assumption | with_reducible refine below_drewN ?_ _ | with_reducible refine balloc ?_ _ | with_reducible refine Below.drew ?_ | with_reducible refine Below.setCell ?_ (by first | (simp; done) | (simp; omega) | omega) _ | with_reducible refine bstep ?_ (by assumption))⟩
end Go.Proofs.Ytcbmfannbaaokaa
