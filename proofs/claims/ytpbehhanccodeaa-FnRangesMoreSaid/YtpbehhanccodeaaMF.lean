/- Drawn lists of vectors: DrawRangesOf. -/
import Derived.Test.YtpbehhanccodeaaME
import Derived.Test.YtpbehhanccodeaaGB0
namespace Go.Proofs.Ytpbehhanccodeaa
open Go.RowKit
set_option maxRecDepth 8000
set_option linter.unusedSimpArgs false
set_option linter.unusedVariables false

/-- The first vector is hurt. -/
theorem OMat.hurt {w w' : World} {base rb g cp k : Nat} {sv : Nat → Value} {xs : Nat → List Int} {V : Nat → Nat} (h : OMat w base (.slice (some ⟨g, 0, none⟩) k cp) k sv xs V) (hk : 1 ≤ k) (hg : KpG rb (V 0) w w') (hlt : rb < base)
    {base' d' : Nat} {v' : Value} {f' : Nat → Int} (ho : w'.ownsRow base' 2 1 v' d' (vals f' d')) (hd : d' ≤ 200) :
    w'.cell? ⟨g, 0, none⟩ = some (sv 0) ∧ w'.frozen? ⟨g, 0, none⟩ = false ∧ Mat (w'.setCell ⟨g, 0, none⟩ v') (some ⟨g, 0, none⟩) k (lists (fun i => if i = 0 then ints f' d' else xs i) k) := by
  obtain ⟨n0, c0, f0, e0, ho0, _, _⟩ := h.each 0 (by omega)
  have hgV : g ≠ V 0 := fun e => owns_apartM h.own ho0 rfl (by rw [e0, e]; rfl)
  have hgb := (h.own.lt g rfl)
  have blk : w'.heap[g]? = w.heap[g]? := hg.2 g hgb.2 (by omega) hgV
  have own' : w'.ownsRow base 30 1 (.slice (some ⟨g, 0, none⟩) k cp) k (vl sv k) := by
    refine ⟨h.own.1, ?_⟩
    rcases h.own.2 with ⟨e, _⟩ | ⟨g1, c1, cur, hv, hb1, hh, rest⟩
    · cases e
    · have e1 : g1 = g := by
        simp only [Value.slice.injEq, Option.some.injEq, Addr.mk.injEq] at hv
        exact hv.1.1.symm
      exact .inr ⟨g1, c1, cur, hv, hb1, by rw [e1, blk, ← e1]; exact hh, rest⟩
  have cells : ∀ i, i < k → w'.cell? ⟨g, i, none⟩ = some (sv i) := fun i hi => by
    have := own'.cellAt i (by omega)
    rwa [vl_at sv hi] at this
  have far : ∀ {u : Value} {m : Nat} {ys : List Value} {q : Nat}, w'.ownsRow q 2 1 u m ys → (w'.setCell ⟨g, 0, none⟩ v').ownsRow q 2 1 u m ys := by
    intro u m ys q hu
    refine ⟨hu.1, ?_⟩
    rcases hu.2 with h0 | ⟨g1, c1, cur1, hv1, hb1, hh1, rest⟩
    · exact .inl h0
    · exact .inr ⟨g1, c1, cur1, hv1, hb1, (Below.heap_setCell w' ⟨g, 0, none⟩ v' g1 (fun e => owns_apartM own' hu (g := g) rfl (by rw [hv1, e]; rfl))).trans hh1, rest⟩
  refine ⟨cells 0 (by omega), ?_, lists_len _ _, .inr ⟨g, 0, rfl, by simp [World.setCell]; exact Nat.lt_of_lt_of_le hgb.2 hg.1, fun i hi => ?_⟩⟩
  · rcases own'.2 with ⟨e, _⟩ | ⟨g1, c1, cur, hv, hb1, hh, rest⟩
    · cases e
    · simp only [Value.slice.injEq, Option.some.injEq, Addr.mk.injEq] at hv
      obtain ⟨⟨rfl, _⟩, _, _⟩ := hv
      simp [World.frozen?, hh]
  · rw [row_lists _ hi, Nat.zero_add]
    by_cases e : i = 0
    · subst e
      simp only [if_true]
      obtain ⟨a', c', e', hr, _⟩ := row_of_owns (far ho)
      exact ⟨a', d', c', by rw [← e']; exact World.cell?_setCell_same _ _ _ (cells 0 (by omega)), hr, by omega⟩
    · simp only [e, if_false]
      obtain ⟨n, c, f, ei, hoi, hx, h2⟩ := h.each i hi
      have hoi' : w'.ownsRow base 2 1 (sv i) n (vals f n) := by
        refine ⟨hoi.1, ?_⟩
        rcases hoi.2 with ⟨e1, _⟩ | ⟨g1, c1, cur1, hv1, hb1, hh1, rest⟩
        · rw [ei] at e1; cases e1
        · have e1 : g1 = V i := by
            rw [ei] at hv1
            simp only [Value.slice.injEq, Option.some.injEq, Addr.mk.injEq] at hv1
            exact hv1.1.1.symm
          exact .inr ⟨g1, c1, cur1, hv1, hb1, (hg.2 g1 (Array.getElem?_eq_some_iff.1 hh1).1 (by omega) (by rw [e1]; exact fun e2 => h.sep 0 i (by omega) hi e2.symm)).trans hh1, rest⟩
      obtain ⟨a', c', e', hr, _⟩ := row_of_owns (far hoi')
      rw [hx]
      exact ⟨a', n, c', by rw [World.cell?_setCell_other _ _ _ _ (by simp; try omega), cells i hi, e'], hr, by omega⟩

def DrawMat (w : World) (e : Ending) (w' : World) : Prop :=
  ∃ a k cap xss, e = .returned (.slice a k cap) ∧ Mat w' a k xss ∧ k ≤ 100 ∧ Below w.heap.size w w'

set_option maxHeartbeats 4000000 in
theorem drawRangesOf_any (a : Option Addr) (n c : Nat) (w : World) (h : Code w a n) :
    Calls Try.prog 6 #[.slice a n c] w fun e w' => DrawMat w e w' := by
  obtain ⟨i0, hi, hz0, hz1, hz2⟩ := infoVec_parts
  have HI := hide hi
  have O := hide (open_any a n c w h)
  clear h hi
  go_enter Try.func6, Try.ntmps6
  go_wp2_with fail
  refine O.out.mono ?_
  rintro e w1 ⟨rfl, hr1, hb1, hs1⟩
  go_wp2_with fail
  refine (below_any _ _ n c a 4 w1 hr1 (by omega) (by omega)).mono ?_
  rintro e w2 ⟨v, rfl, v0, v1, hr2, hb2⟩
  obtain ⟨d, hd⟩ : ∃ d : Nat, 1 + v = (d : Int) := ⟨(1 + v).toNat, by omega⟩
  have s2 := hb2.size
  have rlt : w.heap.size < w2.heap.size := by omega
  go_wp2_with fail
  refine (vecs_any _ _ n c a d w2 hr2 (by omega) (by omega) (by omega)).mono ?_
  rintro e w3 ⟨g, cp, k, sv, xs, V, rfl, k1, k12, hO3, hX3, hr3, hb3⟩
  have BE2 := hide (hb1.trans (hb2.below (Nat.le_refl _) (by omega)))
  have B3 : Below w.heap.size w w3 := hb1.trans ((hb2.below (Nat.le_refl _) (by omega)).trans (hb3.below (Nat.le_refl _) (by omega)))
  have HO3 := hide hO3
  have HX := hide hX3
  have HR3 := hide hr3
  have HB3 := hide hb3
  have s3 := hb3.size
  have BW3 := hide B3
  clear hO3 hr3 hb3 B3 hr2 hb2 hr1 hb1 hX3
  go_wp2_with fail
  refine (below_any _ _ n c a 20 w3 HR3.out (by omega) (by omega)).mono ?_
  rintro e w4 ⟨u, rfl, u0, u1, hr4, hb4⟩
  have HO4 := hide (HO3.out.but hb4 rlt)
  have HR4 := hide hr4
  have HB4 := hide (HB3.out.trans hb4)
  have s4 := hb4.size
  have BW4 := hide (BW3.out.trans (hb4.below (Nat.le_refl _) (by omega)))
  clear HO3 HR3 HB3 BW3 hr4 hb4
  have FIN : Hid (∀ W a' k' c' xss, Mat W a' k' xss → k' ≤ 100 → Below w.heap.size w W → DrawMat w (.returned (.slice a' k' c')) W) := hide fun W a' k' c' xss h1 h2 h3 => ⟨a', k', c', xss, rfl, h1, h2, h3⟩
  by_cases e0 : u = 0
  · have b0 : (u == 0) = true := by simp [e0]
    have hk0 : (0 : Int) < (k : Int) := by omega
    have hkN : 0 < k := by omega
    obtain ⟨n0, c0, f0, ev, ho0, _, _⟩ := HO4.out.each 0 (by omega)
    have z0 : w4.cell? ⟨g, 0, none⟩ = some (.slice (some ⟨V 0, 0, none⟩) n0 c0) := by
      have := HO4.out.own.cellAt 0 (by omega)
      rw [vl_at sv (by omega), ev] at this
      exact this
    have hn0 : n0 = d := by
      obtain ⟨n1, c1, f1, ev1, _, hx1, _⟩ := HO4.out.each 0 (by omega)
      rw [ev] at ev1
      simp only [Value.slice.injEq] at ev1
      have := (HX.out 0 (by omega)).1
      rw [hx1, ints_len] at this
      omega
    subst hn0
    rw [ev] at ho0
    have HV := hide (hurtVec2_any _ _ n c a n0 c0 (V 0) f0 w2 w4 HR4.out (by omega) rlt HB4.out (by omega) (by omega) ho0)
    clear ho0
    go_wp2_with fail
    refine HV.out.mono ?_
    rintro e w5 ⟨v5, d5, f5, rfl, hd5, ho5, hr5, hb5, hk5⟩
    obtain ⟨a5, c5, rfl, _, _⟩ := row_of_owns ho5
    obtain ⟨z5, f5', hM⟩ := HO4.out.hurt (by omega) hk5 rlt ho5 hd5
    have BW5 : Below w.heap.size w w5 := by
      exact BE2.out.trans (hb5.below (Nat.le_refl _) (by omega))
    have gl := (HO4.out.own.lt g rfl).1
    have FF := hide (FIN.out _ _ _ cp _ hM (by omega) (BW5.setCell (show w.heap.size ≤ g by omega) _))
    clear ho5 hr5 hb5 hk5 hM BW5 HV
    go_wp2_with fail
    refine bodyPost_ret ?_ rfl FF.out
    simp [results, Try.results6, go_sem]
  · have b0 : (u == 0) = false := by simp [e0]
    by_cases e1 : u = 1
    · have b1 : (u == 1) = true := by simp [e1]
      have C := hide (vecR_any _ _ n c a 3 w4 HR4.out (by have := HB4.out.size; omega) (by omega))
      go_wp2_with fail
      refine C.out.mono ?_
      rintro e w5 ⟨v5, f, rfl, hf, ho5, hr5, hb5⟩
      obtain ⟨g5, c5, rfl, _, _⟩ := ho5.form (by omega)
      have HO5 := hide (HO4.out.but hb5 rlt)
      have HV5 := hide (fun i (hi : i < k) => (HO4.out.lt hi).2)
      have BW5 := hide (BW4.out.trans (hb5.below (Nat.le_refl _) (by omega)))
      have HV := hide ho5
      have hs5 := hb5.size
      have sw := HB4.out.size
      clear hr5 hb5 ho5 hf C
      have hown := hide (HO5.out.own)
      generalize hNV : vl sv k = NV at hown
      have HNV := hide hNV
      clear hNV
      go_wp2_with (at_builtin; refine wpList_append_lies _ rfl _ _ 24 rfl w2.heap.size 30 i0 _ 1 24 Try.underlying24 HI.out hz0 hz1 hz2 rfl (by decide) _ _ _ rfl (hown.out.alloc _) ⟨_, 0, none⟩ 1 1 [.slice (some ⟨g5, 0, none⟩) 3 c5] rfl rfl (one_new _ _ _) (by intro u hu; simp at hu; subst hu; rfl) (by omega) (by unfold maxLen; omega) (by omega) (by simp; omega) _ rfl ?_)
      intro g6 c6 w6 hown6 hgrow hat6 hglt
      rw [← HNV.out] at hown6
      have HO6 := hide ((HO5.out.step (w := w4) (fun i hi => HV5.out i hi) sw HV.out (by omega) hown6 hgrow).mat)
      have HB6 : Hid (Below w.heap.size w w6) := hide ((balloc BW5.out (.cells #[.slice (some ⟨g5, 0, none⟩) 3 c5] 30)).grown hgrow (by simp; omega) fun k' hk' => by have := (HO5.out.own.lt k' hk').1; omega)
      have FF := hide (FIN.out _ _ _ c6 _ HO6.out (by omega) HB6.out)
      clear hown6 hgrow hat6 hown HO5 BW5 HV HNV HO6 HB6
      go_wp2_with fail
      refine bodyPost_ret ?_ rfl FF.out
      simp [results, Try.results6, go_sem]
    · have b1 : (u == 1) = false := by simp [e1]
      by_cases e2 : u = 2
      · have b2 : (u == 2) = true := by simp [e2]
        obtain ⟨p0, hp0, hblk⟩ := HR4.out.blk
        obtain ⟨q, hq⟩ : ∃ q : Nat, (n : Int).tmod 3 = (q : Int) := ⟨((n : Int).tmod 3).toNat, by rw [Int.tmod_eq_emod_of_nonneg (by omega)]; omega⟩
        have hq3 : q ≤ 2 := by rw [Int.tmod_eq_emod_of_nonneg (by omega)] at hq; omega
        have sb4 := HB4.out.size
        clear hp0 hblk
        go_wp2_with fail
        go_loopw [4, 5] (fun v i wr => ∃ (j k' g' cp' : Nat) (sv' : Nat → Value) (xs' : Nat → List Int) (V' : Nat → Nat), j ≤ 62 ∧ k' ≤ k + j ∧ i = .int .i64 j ∧ v = .slice (some ⟨g', 0, none⟩) k' cp' ∧ OMat wr w2.heap.size (.slice (some ⟨g', 0, none⟩) k' cp') k' sv' xs' V' ∧ Rd w.heap.size wr w.heap.size a n c ∧ Below w.heap.size w wr ∧ w2.heap.size ≤ wr.heap.size) (fun _ i _ => 62 - (intOf i).toNat)
        case atStart => exact ⟨0, k, g, cp, sv, xs, V, by omega, by omega, rfl, rfl, HO4.out, HR4.out, BW4.out, by omega⟩
        case round =>
          clear HO4 HB4 BW4 HR4
          obtain ⟨j, k', g', cp', sv', xs', V', hj, hk', rfl, rfl, hO, hR, hB, hsw⟩ := hrel
          have HO := hide hO
          have HB := hide hB
          have HR := hide hR
          obtain ⟨p0, hp0, hblk⟩ := hR.blk
          have r0 := rd_cell0 hblk
          clear hO hB hR hp0 hblk
          by_cases hj62 : j < 62
          · have c1 : decide ((j : Int) < 62) = true := by simp; omega
            have c1' : (j : Int) < 62 := by omega
            by_cases hl : k' < 59 + q
            · have c2 : (k' : Int) < 59 + (q : Int) := by omega
              have hown := hide ((HO.out.but ((But.refl w.heap.size wr).alloc (.cells #[.int .i64 0, .int .i64 0] 2)) rlt))
              have ho5 : (wr.alloc (.cells #[.int .i64 0, .int .i64 0] 2)).ownsRow wr.heap.size 2 1 (.slice (some ⟨wr.heap.size, 0, none⟩) 2 2) 2 (vals (fun _ => 0) 2) :=
                ⟨by rw [vals_len], .inr ⟨wr.heap.size, 2, _, rfl, Nat.le_refl _, Go.Deep.blk_alloc_new _ _, Nat.le_refl _, by unfold maxLen; omega, rfl, rfl⟩⟩
              have HV := hide ho5
              have HVl := hide (fun i (hi : i < k') => (HO.out.lt hi).2)
              have hown2 := hide (hown.out.own)
              generalize hNV : vl sv' k' = NV at hown2
              have HNV := hide hNV
              clear hNV ho5
              have sV := HB.out.size
              have BA := hide (balloc HB.out (.cells #[.int .i64 0, .int .i64 0] 2))
              have N1 := hide (by have q := one_new (wr.alloc (.cells #[.int .i64 0, .int .i64 0] 2)) (.slice (some ⟨wr.heap.size, 0, none⟩) 2 2) 30; rw [World.size_alloc] at q; exact q : ∀ (j : Nat) (u : Value), [Value.slice (some ⟨wr.heap.size, 0, none⟩) 2 2][j]? = some u → ((wr.alloc (.cells #[.int .i64 0, .int .i64 0] 2)).alloc (.cells #[.slice (some ⟨wr.heap.size, 0, none⟩) 2 2] 30)).cell? ((⟨wr.heap.size + 1, 0, none⟩ : Addr).add j) = some u)
              have HRA := hide (HR.out.alloc (.cells #[.int .i64 0, .int .i64 0] 2))
              go_wp2_with (at_builtin; refine wpList_append_lies _ rfl _ _ 24 rfl w2.heap.size 30 i0 _ 1 24 Try.underlying24 HI.out hz0 hz1 hz2 rfl (by decide) _ _ _ rfl (hown2.out.alloc _) ⟨_, 0, none⟩ 1 1 [.slice (some ⟨wr.heap.size, 0, none⟩) 2 2] rfl rfl N1.out (by intro u hu; simp at hu; subst hu; rfl) (by omega) (by unfold maxLen; omega) (by omega) (by simp; omega) _ rfl ?_)
              intro g6 c6 w6 hown6 hgrow hat6 hglt
              rw [← HNV.out] at hown6
              have HO6 := hide (hown.out.step (w := wr) (fun i hi => HVl.out i hi) hsw HV.out (by omega) hown6 hgrow)
              have HB6 : Hid (Below w.heap.size w w6) := hide ((balloc BA.out (.cells #[.slice (some ⟨wr.heap.size, 0, none⟩) 2 2] 30)).grown hgrow (by simp; omega) fun k' hk' => by have := (hown.out.own.lt k' hk').1; omega)
              have HR6 := hide (HRA.out.app rlt (by omega) hown.out.own hgrow)
              have s6 : w2.heap.size ≤ w6.heap.size := by have := hgrow.size; simp at this; omega
              clear hown6 hgrow hat6 hown hown2 HV HNV HO HB HR BA HRA r0
              go_wp2_with fail
              go_roundw
              case rel => exact ⟨j + 1, k' + 1, g6, c6, _, _, _, by omega, by omega, by go_num, rfl, HO6.out, HR6.out, HB6.out, s6⟩
              case measure => simp [intOf]; omega
            · have c2 : ¬ ((k' : Int) < 59 + (q : Int)) := by omega
              have FF := hide (FIN.out _ _ _ cp' _ HO.out.mat (by omega) HB.out)
              go_wp2_with fail
              refine bodyPost_ret ?_ rfl FF.out
              simp [results, Try.results6, go_sem]
          · have c1 : decide ((j : Int) < 62) = false := by simp; omega
            have c1' : ¬ ((j : Int) < 62) := by omega
            have FF := hide (FIN.out _ _ _ cp' _ HO.out.mat (by omega) HB.out)
            go_wp2_with fail
            refine bodyPost_ret ?_ rfl FF.out
            simp [results, Try.results6, go_sem]
      · have b2 : (u == 2) = false := by simp [e2]
        have FF := hide (FIN.out _ _ _ cp _ HO4.out.mat (by omega) BW4.out)
        go_wp2_with fail
        refine bodyPost_ret ?_ rfl FF.out
        simp [results, Try.results6, go_sem]
end Go.Proofs.Ytpbehhanccodeaa
