/- ItemDrop of the model and of the program. -/
import Derived.Test.YtcbmfannbaaokaaIW
namespace Go.Proofs.Ytcbmfannbaaokaa
open Go.RowKit
set_option linter.unusedSimpArgs false
set_option linter.unusedVariables false

set_option maxHeartbeats 800000 in
theorem sItemDrop_no (dim : Int) (a : Option Addr) (n cap : Nat) (L : IL) (id : Int) (w : World) (h : IRow w a n L) (hn : n ≤ 1048576) (hv : ∀ i, i < n → (L i).vec.length ≤ 1048576) (hno : dropB dim n L id = false) :
    Calls Try.prog 16 #[.int .i64 dim, .slice a n cap, .int .i64 id] w fun e w' => TwoR w 0 (fil (neB id) L n) (.bool false) e w' := by
  have F := hide (sItemFind_any a n cap L id w h hn hv)
  have K := hide (fun w1 (hb : Below w.heap.size w w1) => sItemsOk_any dim a n cap L w1 (h.below hb) hn hv)
  have hno' : itemsB dim n L = false ∨ (itemsB dim n L = true ∧ (findX n L id).2 = false) := by
    unfold dropB at hno
    cases e : itemsB dim n L
    · exact .inl rfl
    · rw [e] at hno; exact .inr ⟨rfl, by simpa using hno⟩
  clear h hv hno
  rcases hno' with h0 | ⟨h0, h1⟩
  · simp only [h0] at K
    go_enter Try.func16, Try.ntmps16
    go_wp2_with fail
    refine F.out.mono ?_
    rintro e w1 ⟨v, g, rfl, hv1, hb1⟩
    obtain ⟨a1, c1, rfl, _⟩ := hv1
    go_wp2_with fail
    refine (K.out _ (by repeat' first | with_reducible exact Below.refl _ _ | with_reducible assumption | with_reducible refine below_drewN ?_ _ | with_reducible refine balloc ?_ _ | with_reducible refine Below.drew ?_ | with_reducible refine Below.setCell ?_ (by first | (simp; done) | (simp; omega) | omega) _ | with_reducible refine bstep ?_ (by assumption))).mono ?_
    rintro e w2 ⟨rfl, hb2⟩
    go_wp2_with fail
    go_ret2
    exact twoR_nil rfl (by repeat' first | with_reducible exact Below.refl _ _ | with_reducible assumption | with_reducible refine below_drewN ?_ _ | with_reducible refine balloc ?_ _ | with_reducible refine Below.drew ?_ | with_reducible refine Below.setCell ?_ (by first | (simp; done) | (simp; omega) | omega) _ | with_reducible refine bstep ?_ (by assumption))
  · simp only [h0] at K
    simp only [h1] at F
    go_enter Try.func16, Try.ntmps16
    go_wp2_with fail
    refine F.out.mono ?_
    rintro e w1 ⟨v, g, rfl, hv1, hb1⟩
    obtain ⟨a1, c1, rfl, _⟩ := hv1
    go_wp2_with fail
    refine (K.out _ (by repeat' first | with_reducible exact Below.refl _ _ | with_reducible assumption | with_reducible refine below_drewN ?_ _ | with_reducible refine balloc ?_ _ | with_reducible refine Below.drew ?_ | with_reducible refine Below.setCell ?_ (by first | (simp; done) | (simp; omega) | omega) _ | with_reducible refine bstep ?_ (by assumption))).mono ?_
    rintro e w2 ⟨rfl, hb2⟩
    go_wp2_with fail
    go_ret2
    exact twoR_nil rfl (by repeat' first | with_reducible exact Below.refl _ _ | with_reducible assumption | with_reducible refine below_drewN ?_ _ | with_reducible refine balloc ?_ _ | with_reducible refine Below.drew ?_ | with_reducible refine Below.setCell ?_ (by first | (simp; done) | (simp; omega) | omega) _ | with_reducible refine bstep ?_ (by assumption))

set_option maxHeartbeats 4000000 in
theorem sItemDrop_yes (dim : Int) (b off n cap : Nat) (L : IL) (id : Int) (w : World) (hn : n ≤ 1048576) (hv : ∀ i, i < n → (L i).vec.length ≤ 1048576) (hb : b < w.heap.size) (hc : ∀ i, i < n → IAt w b (off + i * 3) (L i)) (hyes : dropB dim n L id = true) :
    Calls Try.prog 16 #[.int .i64 dim, .slice (some ⟨b, off, none⟩) n cap, .int .i64 id] w fun e w' => TwoR w (cntP (neB id) L n) (fil (neB id) L n) (.bool true) e w' := by
  obtain ⟨i0, hi, hz0, hz1, hz2⟩ := itemInfo
  have h : IRow w (some ⟨b, off, none⟩) n L := ⟨.inr ⟨b, off, rfl, hb, hc⟩⟩
  have F := hide (sItemFind_any _ n cap L id w h hn hv)
  have K := hide (fun w1 (hb : Below w.heap.size w w1) => sItemsOk_any dim _ n cap L w1 (h.below hb) hn hv)
  unfold dropB at hyes
  simp only [Bool.and_eq_true] at hyes
  simp only [hyes.1] at K
  simp only [hyes.2] at F
  have HI := hide hi
  have HC := hide hc
  have HV := hide hv
  clear hc hv hi h hyes
  go_enter Try.func16, Try.ntmps16
  go_wp2_with fail
  refine F.out.mono ?_
  rintro e w1 ⟨v, g, rfl, hv1, hb1⟩
  obtain ⟨a1, c1, rfl, _⟩ := hv1
  go_wp2_with fail
  refine (K.out _ (by repeat' first | with_reducible exact Below.refl _ _ | with_reducible assumption | with_reducible refine below_drewN ?_ _ | with_reducible refine balloc ?_ _ | with_reducible refine Below.drew ?_ | with_reducible refine Below.setCell ?_ (by first | (simp; done) | (simp; omega) | omega) _ | with_reducible refine bstep ?_ (by assumption))).mono ?_
  rintro e w2 ⟨rfl, hb2⟩
  have bw2 : Below w.heap.size w w2 := (by repeat' first | with_reducible exact Below.refl _ _ | with_reducible assumption | with_reducible refine below_drewN ?_ _ | with_reducible refine balloc ?_ _ | with_reducible refine Below.drew ?_ | with_reducible refine Below.setCell ?_ (by first | (simp; done) | (simp; omega) | omega) _ | with_reducible refine bstep ?_ (by assumption))
  have HB2 := hide bw2
  clear bw2 hb1 hb2
  go_wp2_with fail
  go_loopw [10, 11] (fun s i wr => ∃ k : Nat, k ≤ n ∧ i = .int .i64 k ∧ (∃ g c V sv, s = .slice (some ⟨g, 0, none⟩) (cntP (neB id) L k) c ∧ GI wr w2.heap.size g c (cntP (neB id) L k) (fil (neB id) L k) V sv) ∧ Below w2.heap.size w2 wr) (fun _ i _ => n - (intOf i).toNat)
  case atStart => exact ⟨0, Nat.zero_le _, rfl, ⟨w2.heap.size, 0, fun _ => 0, fun _ => .slice none 0 0, rfl, GI.new _ _ _ _⟩, (by repeat' first | with_reducible exact Below.refl _ _ | with_reducible assumption | with_reducible refine below_drewN ?_ _ | with_reducible refine balloc ?_ _ | with_reducible refine Below.drew ?_ | with_reducible refine Below.setCell ?_ (by first | (simp; done) | (simp; omega) | omega) _ | with_reducible refine bstep ?_ (by assumption))⟩
  case round =>
    obtain ⟨k, hk, rfl, ⟨g1, c1, V, sv, rfl, hgi⟩, hbel⟩ := hrel
    have HB := hide hbel
    have HG := hide hgi
    have hcl := cntP_le (neB id) L k
    have hsz := hbel.size
    by_cases hlt : k < n
    · obtain ⟨c0, c1', va, vn, vc, c2, vr⟩ := (HC.out k hlt).below hb (bstep HB2.out hbel)
      have hlt' : (k : Int) < (n : Int) := by omega
      cases hm : neB id (L k)
      · have hq : ((L k).id != id) = false := hm
        have E1 := hide (cntP_no hm)
        have E2 := hide (fil_no hm)
        clear hbel hgi vr hm
        go_wp2_with fail
        go_roundw
        case rel => exact ⟨k + 1, by omega, by go_num, ⟨g1, c1, V, sv, by rw [E1.out], by rw [E1.out, E2.out]; exact HG.out⟩, HB.out⟩
        case measure => simp [intOf]; omega
      · have hq : ((L k).id != id) = true := hm
        have E1 := hide (cntP_yes hm)
        have E2 := hide (fil_yes hm)
        have R := hide (l7Copy_any (L k) va vn vc wr vr (by rw [← vr.len]; exact HV.out k hlt))
        generalize cntP (neB id) L k = m at *
        generalize fil (neB id) L k = M at *
        clear hbel hgi vr hm
        go_wp2_with fail
        refine R.out.mono ?_
        rintro e w1 ⟨v, gv, rfl, hv1, hb1⟩
        have HV1 := hide hv1
        obtain ⟨a1, c3, rfl, _⟩ := hv1
        have hown := hide ((HG.out.below hb1).own.alloc (.cells #[.int .i64 (L k).id, .int .i64 (L k).tags, .slice a1 (L k).vec.length c3] 27))
        have hs1 := hb1.size
        go_wp2_with (at_builtin; refine wpList_append_lies _ rfl _ _ 24 rfl w2.heap.size 27 i0 _ 3 40 Try.underlying24 HI.out hz0 hz1 hz2 rfl (by decide) _ _ _ rfl hown.out ⟨_, 0, none⟩ 1 1 [.int .i64 (L k).id, .int .i64 (L k).tags, .slice a1 (L k).vec.length c3] rfl rfl (three_new _ _ _ _ _) (three_one _ _ _ _ _) (by omega) (by unfold maxLen; omega) (by omega) (by simp; omega) _ rfl ?_)
        intro g5 c5 w5 hown5 hgrow hat5 hglt
        have HG5 := hide (HG.out.step hsz hb1 (L k) _ gv HV1.out (balloc (Below.refl _ _) _) hown5 hgrow (by rcases hat5 with h | h; exact .inl h; exact .inr (by simp [h])))
        have HB5 : Hid (Below w2.heap.size w2 w5) := hide ((balloc (bstep HB.out hb1) (.cells #[.int .i64 (L k).id, .int .i64 (L k).tags, .slice a1 (L k).vec.length c3] 27)).grown hgrow (by simp; omega) fun k' hk' => (hown.out.lt k' hk').1)
        clear hown5 hgrow hat5 hown HB HG hb1
        go_wp2_with fail
        go_roundw
        case rel => exact ⟨k + 1, by omega, by go_num, ⟨g5, c5, _, _, by rw [E1.out], by rw [E1.out, E2.out]; exact HG5.out⟩, HB5.out⟩
        case measure => simp [intOf]; omega
    · obtain rfl : k = n := by omega
      clear hgi hbel
      go_wp2_with fail
      go_ret2
      exact ⟨_, c1, g1, V, sv, rfl, HG.out.its.mono HB2.out.size (Nat.le_refl _), bstep HB2.out HB.out⟩

theorem sItemDrop_any (dim : Int) (a : Option Addr) (n cap : Nat) (L : IL) (id : Int) (w : World) (h : IRow w a n L) (hn : n ≤ 1048576) (hv : ∀ i, i < n → (L i).vec.length ≤ 1048576) :
    Calls Try.prog 16 #[.int .i64 dim, .slice a n cap, .int .i64 id] w fun e w' => TwoR w (dropN dim n L id) (fil (neB id) L n) (.bool (dropB dim n L id)) e w' := by
  unfold dropN
  cases e : dropB dim n L id
  · exact sItemDrop_no dim a n cap L id w h hn hv e
  · rw [if_pos rfl]
    rcases h.lies with h0 | ⟨b, off, rfl, lt, hc⟩
    · subst h0
      unfold dropB at e
      rw [findX_miss (fun j hj => absurd hj (by omega))] at e
      simp at e
    · exact sItemDrop_yes dim b off n cap L id w hn hv lt hc e
end Go.Proofs.Ytcbmfannbaaokaa
