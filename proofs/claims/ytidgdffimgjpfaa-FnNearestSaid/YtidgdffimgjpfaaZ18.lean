/- Items that are right, plain; those of them that are such. -/
import Derived.Test.YtidgdffimgjpfaaZ17
namespace Go.Proofs.Ytidgdffimgjpfaa
open Go.RowKit
set_option maxRecDepth 8000
set_option linter.unusedSimpArgs false
set_option linter.unusedVariables false

theorem itemsB_dim {dim : Int} {n : Nat} {L : IL} (h : itemsB dim n L = true) : inB dim 1 8 = true := by
  unfold itemsB at h
  simp only [Bool.and_eq_true] at h
  exact h.1.1
theorem itemsB_item {dim : Int} {n : Nat} {L : IL} (h : itemsB dim n L = true) {k : Nat} (hk : k < n) : itemB dim (L k) = true := by
  have := itemsB_ok h hk
  unfold okI at this
  simp only [Bool.and_eq_true] at this
  exact this.1
/-- Items are right where each is, and each id is greater than the one ahead. -/
theorem itemsB_mk {dim : Int} {n : Nat} {L : IL} (hd : inB dim 1 8 = true) (hn : n ≤ 60) (hi : ∀ k, k < n → itemB dim (L k) = true) (hr : ∀ k, k + 1 < n → (L k).id < (L (k + 1)).id) : itemsB dim n L = true := by
  unfold itemsB
  rw [hd, decide_eq_true hn, allN_yes]
  · rfl
  · intro k hk
    unfold okI
    rw [hi k hk, Bool.true_and]
    by_cases h0 : k = 0
    · simp [h0]
    · have := hr (k - 1) (by omega)
      rw [show k - 1 + 1 = k by omega] at this
      simp [h0]; omega

theorem fil_rise {dim : Int} {n : Nat} {L : IL} (h : itemsB dim n L = true) (p : It → Bool) : ∀ m, m ≤ n → ∀ k, k + 1 < cntP p L m → (fil p L m k).id < (fil p L m (k + 1)).id
  | 0, _, k, hk => absurd hk (by simp [cntP])
  | m + 1, hm, k, hk => by
    have ih := fil_rise h p m (by omega)
    cases hp : p (L m)
    · rw [cntP_no hp] at hk
      rw [fil_no hp]
      exact ih k hk
    · rw [cntP_yes hp] at hk
      rw [fil_yes hp]
      by_cases e : k + 1 = cntP p L m
      · rw [e, IL.put_at, IL.put_off _ _ (by omega)]
        obtain ⟨j, hj, ej⟩ := fil_mem p L m k (by omega)
        rw [ej]
        exact itemsB_rise h hj (by omega)
      · rw [IL.put_off _ _ (by omega), IL.put_off _ _ e]
        exact ih k (by omega)
/-- Those of right items that are such are right. -/
theorem itemsB_fil {dim : Int} {n : Nat} {L : IL} (h : itemsB dim n L = true) (p : It → Bool) : itemsB dim (cntP p L n) (fil p L n) = true :=
  itemsB_mk (itemsB_dim h) (Nat.le_trans (cntP_le p L n) (itemsB_n h)) (fun k hk => by
    obtain ⟨j, hj, e⟩ := fil_mem p L n k hk
    rw [e]; exact itemsB_item h hj) (fil_rise h p n (Nat.le_refl _))
end Go.Proofs.Ytidgdffimgjpfaa

/- Matching of the model and of the program. -/
namespace Go.Proofs.Ytidgdffimgjpfaa
open Go.RowKit
set_option maxRecDepth 8000
set_option linter.unusedSimpArgs false
set_option linter.unusedVariables false


/-- The answer of whoever picks items. -/
def PickR (w : World) (p : It → Bool) (n : Nat) (L : IL) (e : Ending) (w' : World) : Prop :=
  ∃ g cap V sv, e = .returned (.slice (some ⟨g, 0, none⟩) (cntP p L n) cap) ∧ GI w' w.heap.size g cap (cntP p L n) (fil p L n) V sv ∧ Below w.heap.size w w'



set_option maxHeartbeats 4000000 in
theorem iMatching_some (b off n cap : Nat) (L : IL) (mask : Int) (w : World) (hn : n ≤ 1048576) (hv : ∀ i, i < n → (L i).vec.length ≤ 1048576) (hb : b < w.heap.size) (hc : ∀ i, i < n → IAt w b (off + i * 3) (L i)) :
    Calls Try.prog 11 #[.slice (some ⟨b, off, none⟩) n cap, .int .i64 mask] w fun e w' => PickR w (mtB mask) n L e w' := by
  obtain ⟨i0, hi, hz0, hz1, hz2⟩ := itemInfo
  have HI := hide hi
  have HC := hide hc
  have HV := hide hv
  clear hc hv hi
  go_enter Try.func11, Try.ntmps11
  go_wp2_with fail
  go_loopw [5, 11] (fun s i wr => ∃ k : Nat, k ≤ n ∧ i = .int .i64 k ∧ (∃ g c V sv, s = .slice (some ⟨g, 0, none⟩) (cntP (mtB mask) L k) c ∧ GI wr w.heap.size g c (cntP (mtB mask) L k) (fil (mtB mask) L k) V sv) ∧ Below w.heap.size w wr) (fun _ i _ => n - (intOf i).toNat)
  case atStart => exact ⟨0, Nat.zero_le _, rfl, ⟨w.heap.size, 0, fun _ => 0, fun _ => .slice none 0 0, rfl, GI.new _ _ _ _⟩, (by repeat' first | with_reducible exact Below.refl _ _ | with_reducible assumption | with_reducible refine below_drewN ?_ _ | with_reducible refine balloc ?_ _ | with_reducible refine Below.drew ?_ | with_reducible refine Below.setCell ?_ (by first | (simp; done) | (simp; omega) | omega) _ | with_reducible refine bstep ?_ (by assumption))⟩
  case round =>
    obtain ⟨k, hk, rfl, ⟨g1, c1, V, sv, rfl, hgi⟩, hbel⟩ := hrel
    have HB := hide hbel
    have HG := hide hgi
    have hcl := cntP_le (mtB mask) L k
    have hsz := hbel.size
    by_cases hlt : k < n
    · obtain ⟨c0, c1', va, vn, vc, c2, vr⟩ := (HC.out k hlt).below hb hbel
      have hlt' : (k : Int) < (n : Int) := by omega
      cases hm : mtB mask (L k)
      · have MT := hide (fun w1 => matches_any mask (L k) va vn vc w1)
        simp only [hm] at MT
        have E1 := hide (cntP_no hm)
        have E2 := hide (fil_no hm)
        clear hbel hgi vr hm
        go_wp2_with fail
        refine (MT.out _).mono ?_
        rintro e w1 ⟨rfl, hb1⟩
        have bel1 : Below wr.heap.size wr w1 := (by repeat' first | with_reducible exact Below.refl _ _ | with_reducible assumption | with_reducible refine below_drewN ?_ _ | with_reducible refine balloc ?_ _ | with_reducible refine Below.drew ?_ | with_reducible refine Below.setCell ?_ (by first | (simp; done) | (simp; omega) | omega) _ | with_reducible refine bstep ?_ (by assumption))
        go_wp2_with fail
        go_roundw
        case rel => exact ⟨k + 1, by omega, by go_num, ⟨g1, c1, V, sv, by rw [E1.out], by rw [E1.out, E2.out]; exact HG.out.below bel1⟩, bstep HB.out bel1⟩
        case measure => simp [intOf]; omega
      · have MT := hide (fun w1 => matches_any mask (L k) va vn vc w1)
        simp only [hm] at MT
        have E1 := hide (cntP_yes hm)
        have E2 := hide (fil_yes hm)
        have R := hide (fun w1 (h1 : Below wr.heap.size wr w1) => copied_any (L k) va vn vc w1 (vr.below h1) (by rw [← vr.len]; exact HV.out k hlt))
        generalize cntP (mtB mask) L k = m at *
        generalize fil (mtB mask) L k = M at *
        clear hbel hgi vr hm
        go_wp2_with fail
        refine (MT.out _).mono ?_
        rintro e w0 ⟨rfl, hb0⟩
        have bel0 : Below wr.heap.size wr w0 := (by repeat' first | with_reducible exact Below.refl _ _ | with_reducible assumption | with_reducible refine below_drewN ?_ _ | with_reducible refine balloc ?_ _ | with_reducible refine Below.drew ?_ | with_reducible refine Below.setCell ?_ (by first | (simp; done) | (simp; omega) | omega) _ | with_reducible refine bstep ?_ (by assumption))
        obtain ⟨_, q1, q2, q3, _⟩ := (Tri.new wr (.int .i64 (L k).id) (.int .i64 (L k).tags) (.slice va vn vc) 35).below hb0
        have HG := hide (HG.out.below bel0)
        have HB := hide (bstep HB.out bel0)
        have hs0 := bel0.size
        go_wp2_with fail
        refine (R.out _ bel0).mono ?_
        rintro e w1 ⟨v, gv, rfl, hv1, hb1⟩
        have HV1 := hide hv1
        obtain ⟨a1, c3, rfl, _⟩ := hv1
        have hown := hide ((HG.out.below hb1).own.alloc (.cells #[.int .i64 (L k).id, .int .i64 (L k).tags, .slice a1 (L k).vec.length c3] 35))
        have hs1 := hb1.size
        go_wp2_with (at_builtin; refine wpList_append_lies _ rfl _ _ 24 rfl w.heap.size 35 i0 _ 3 40 Try.underlying24 HI.out hz0 hz1 hz2 rfl (by decide) _ _ _ rfl hown.out ⟨_, 0, none⟩ 1 1 [.int .i64 (L k).id, .int .i64 (L k).tags, .slice a1 (L k).vec.length c3] rfl rfl (three_new _ _ _ _ _) (three_one _ _ _ _ _) (by omega) (by unfold maxLen; omega) (by omega) (by simp; omega) _ rfl ?_)
        intro g5 c5 w5 hown5 hgrow hat5 hglt
        have HG5 := hide (HG.out.step (by omega) hb1 (L k) _ gv HV1.out (balloc (Below.refl _ _) _) hown5 hgrow (by rcases hat5 with h | h; exact .inl h; exact .inr (by simp [h])))
        have HB5 : Hid (Below w.heap.size w w5) := hide ((balloc (bstep HB.out hb1) (.cells #[.int .i64 (L k).id, .int .i64 (L k).tags, .slice a1 (L k).vec.length c3] 35)).grown hgrow (by simp; omega) fun k' hk' => (hown.out.lt k' hk').1)
        clear hown5 hgrow hat5 hown HB HG hb1
        go_wp2_with fail
        go_roundw
        case rel => exact ⟨k + 1, by omega, by go_num, ⟨g5, c5, _, _, by rw [E1.out], by rw [E1.out, E2.out]; exact HG5.out⟩, HB5.out⟩
        case measure => simp [intOf]; omega
    · obtain rfl : k = n := by omega
      clear hgi hbel
      go_wp2_with fail
      go_ret
      exact ⟨g1, c1, V, sv, rfl, HG.out, HB.out⟩





set_option maxHeartbeats 400000 in
theorem iMatching_none (a : Option Addr) (n cap : Nat) (L : IL) (mask : Int) (w : World) (hn : n < 1) :
    Calls Try.prog 11 #[.slice a n cap, .int .i64 mask] w fun e w' => PickR w (mtB mask) n L e w' := by
  obtain rfl : n = 0 := by omega
  go_enter Try.func11, Try.ntmps11
  go_wp2_with fail
  refine wp_loop_rounds 1 ?_
  rw [rounds_succ]
  go_wp2_with fail
  go_ret
  exact ⟨w.heap.size, 0, fun _ => 0, fun _ => .slice none 0 0, rfl, GI.new _ _ _ _, (by repeat' first | with_reducible exact Below.refl _ _ | with_reducible assumption | with_reducible refine below_drewN ?_ _ | with_reducible refine balloc ?_ _ | with_reducible refine Below.drew ?_ | with_reducible refine Below.setCell ?_ (by first | (simp; done) | (simp; omega) | omega) _ | with_reducible refine bstep ?_ (by assumption))⟩

theorem iMatching_any (a : Option Addr) (n cap : Nat) (L : IL) (mask : Int) (w : World) (h : IRow w a n L) (hn : n ≤ 1048576) (hv : ∀ i, i < n → (L i).vec.length ≤ 1048576) :
    Calls Try.prog 11 #[.slice a n cap, .int .i64 mask] w fun e w' => PickR w (mtB mask) n L e w' := by
  rcases h.lies with h0 | ⟨b, off, rfl, lt, hc⟩
  · exact iMatching_none a n cap L mask w (by omega)
  · exact iMatching_some b off n cap L mask w hn hv lt hc

end Go.Proofs.Ytidgdffimgjpfaa
