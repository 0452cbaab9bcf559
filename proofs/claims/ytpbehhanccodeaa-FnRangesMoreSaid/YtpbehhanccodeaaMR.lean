/- The walk of the law FnRangesMore. -/
import Derived.Test.YtpbehhanccodeaaMG0
import Derived.Test.YtpbehhanccodeaaVT
import Derived.Test.YtpbehhanccodeaaWC
import Derived.Test.YtpbehhanccodeaaDP
import Derived.OpenShut
import Derived.Deep.AppendLies
namespace Go.Proofs.Ytpbehhanccodeaa
open Go.RowKit
set_option maxRecDepth 8000
set_option linter.unusedSimpArgs false
set_option linter.unusedVariables false

theorem addr_blk (b off j : Nat) : ((⟨b, off, none⟩ : Addr).add j).block = b := by by_cases h : j = 0 <;> simp [Addr.add, h]

theorem own_apartM {w : World} {base : Nat} {v : Value} {n : Nat} {xs : List Value} {g : Nat} {ys : List Int} (h : w.ownsRow base 30 1 v n xs) (h' : Own w g ys) (e : v.ownBlock = some g) : False := by
  rcases h.2 with ⟨rfl, _⟩ | ⟨g1, c1, cur1, rfl, _, hh1, _⟩
  · cases e
  obtain ⟨c, hh2, _⟩ := h'
  have e1 : g1 = g := by simpa [Value.ownBlock] using e
  subst e1
  rw [hh1] at hh2
  simp at hh2
/-- The headers of a list that is read. -/
theorem mat_vals {w : World} {a : Option Addr} {m : Nat} {xss : List (List Int)} (h : Mat w a m xss) (hm : 1 ≤ m) :
    ∃ (b off : Nat) (NV : List Value), a = some ⟨b, off, none⟩ ∧ b < w.heap.size ∧ NV.length = m ∧ (∀ j u, NV[j]? = some u → w.cell? ((⟨b, off, none⟩ : Addr).add j) = some u) ∧ (∀ u ∈ NV, u.oneCell' = true) ∧
      ∀ i, i < m → ∃ a' n' c', NV[i]? = some (.slice a' n' c') ∧ w.cell? ⟨b, off + i, none⟩ = some (.slice a' n' c') ∧ Row w a' n' (row xss i) ∧ n' ≤ 1048576 := by
  rcases h.lies with h0 | ⟨b, off, e, lt, hc⟩
  · omega
  · have add : ∀ j, (⟨b, off, none⟩ : Addr).add j = ⟨b, off + j, none⟩ := fun j => by by_cases h : j = 0 <;> simp [Addr.add, h]
    refine ⟨b, off, (List.range m).map fun i => (w.cell? ⟨b, off + i, none⟩).getD (.slice none 0 0), e, lt, by simp, fun j u hu => ?_, fun u hu => ?_, fun i hi => ?_⟩
    · have hj : j < m := by
        rcases Nat.lt_or_ge j m with q | q
        · exact q
        · rw [List.getElem?_eq_none (by simp; exact q)] at hu; cases hu
      obtain ⟨a', n', c', hz, _⟩ := hc j hj
      simp [hj, hz] at hu
      rw [add, hz, hu]
    · simp only [List.mem_map, List.mem_range] at hu
      obtain ⟨i, hi, rfl⟩ := hu
      obtain ⟨a', n', c', hz, _⟩ := hc i hi
      rw [hz]; rfl
    · obtain ⟨a', n', c', hz, hr, hn⟩ := hc i hi
      exact ⟨a', n', c', by simp [hi, hz], hz, hr, hn⟩

theorem row_snoc_lo {xss : List (List Int)} {ys : List Int} {i : Nat} (h : i < xss.length) : row (xss ++ [ys]) i = row xss i := by
  unfold row; rw [List.getD_eq_getElem?_getD, List.getD_eq_getElem?_getD, List.getElem?_append_left h]

theorem row_snoc_at (xss : List (List Int)) (ys : List Int) : row (xss ++ [ys]) xss.length = ys := by
  unfold row; rw [List.getD_eq_getElem?_getD, List.getElem?_append_right (Nat.le_refl _)]; simp
/-- A list with one vector more. -/
theorem mat_snoc {w0 W : World} {base g c m gv : Nat} {xss : List (List Int)} {NV : List Value} {ng : List Int} (hE : xss.length = m ∧ ∀ i, i < m → ∃ a' n' c', NV[i]? = some (.slice a' n' c') ∧ Row w0 a' n' (row xss i) ∧ n' ≤ 1048576) (hl : NV.length = m)
    (ho : W.ownsRow base 30 1 (.slice (some ⟨g, 0, none⟩) (m + 1) c) (m + 1) (NV ++ [.slice (some ⟨gv, 0, none⟩) ng.length ng.length])) (hb : Below w0.heap.size w0 W) (hg : Own W gv ng) (hn : ng.length ≤ 1048576) :
    Mat W (some ⟨g, 0, none⟩) (m + 1) (xss ++ [ng]) := by
  refine ⟨by simp [hE.1], .inr ⟨g, 0, rfl, (ho.lt g rfl).2, fun i hi => ?_⟩⟩
  have hc := ho.cellAt i (by omega)
  rw [Nat.zero_add]
  rcases Nat.lt_succ_iff_lt_or_eq.1 hi with q | q
  · obtain ⟨a', n', c', hz, hr, h1⟩ := hE.2 i q
    rw [List.getElem?_append_left (by omega), hz] at hc
    exact ⟨a', n', c', hc, by rw [row_snoc_lo (by omega)]; exact hr.below hb, h1⟩
  · subst q
    rw [List.getElem?_append_right (by omega), hl, Nat.sub_self] at hc
    have e : row (xss ++ [ng]) i = ng := by have := row_snoc_at xss ng; rwa [hE.1] at this
    exact ⟨_, _, _, hc, by rw [e]; exact hg.row, hn⟩
/-- With a vector more. -/
theorem rng_more {xss : List (List Int)} (h : rngB xss = true) (h59 : xss.length ≤ 59) : rngB (xss ++ [negL (row xss 0)]) = true ∧ rngN (xss ++ [negL (row xss 0)]) = rngN xss ∧ (negL (row xss 0)).length = (row xss 0).length := by
  obtain ⟨h1, _, ha⟩ := rng_parts h
  have v0 := (alike_at ha (k := 0) (by omega)).1
  obtain ⟨e, ok⟩ := neg_ok v0
  have hl : (negL (row xss 0)).length = (row xss 0).length := by rw [e, ints_len]
  have e0 : row (xss ++ [negL (row xss 0)]) 0 = row xss 0 := row_snoc_lo (by omega)
  have al : alikeB (xss ++ [negL (row xss 0)]) = true := by
    refine decide_eq_true fun k hk => ?_
    unfold okAt
    rw [e0]
    simp only [List.length_append, List.length_cons, List.length_nil] at hk
    rcases Nat.lt_succ_iff_lt_or_eq.1 hk with q | q
    · obtain ⟨a1, a2⟩ := alike_at ha q
      rw [row_snoc_lo q, a1, a2]; simp
    · rw [q, row_snoc_at, ok, hl]; simp
  have hb : rngB (xss ++ [negL (row xss 0)]) = true := by rw [rng_of (by simp) (by simp; omega), al]
  refine ⟨hb, ?_, hl⟩
  unfold rngN
  rw [hb, h, e0]

theorem lo_more {xss : List (List Int)} {ys : List Int} (p : Nat) : ∀ m, m ≤ xss.length → loF (xss ++ [ys]) p m = (if 1 ≤ xss.length then loF xss p m else loF (xss ++ [ys]) p m) ∧ hiF (xss ++ [ys]) p m = (if 1 ≤ xss.length then hiF xss p m else hiF (xss ++ [ys]) p m)
  | 0, _ => by
    by_cases h : 1 ≤ xss.length
    · rw [if_pos h, if_pos h]
      exact ⟨by show nth _ p = nth _ p; rw [row_snoc_lo (by omega)], by show nth _ p = nth _ p; rw [row_snoc_lo (by omega)]⟩
    · rw [if_neg h, if_neg h]; exact ⟨rfl, rfl⟩
  | m + 1, hm => by
    have ih := lo_more (xss := xss) (ys := ys) p m (by omega)
    have h : 1 ≤ xss.length := by omega
    rw [if_pos h, if_pos h] at ih ⊢
    refine ⟨?_, ?_⟩
    · show min (loF (xss ++ [ys]) p m) (nth (row (xss ++ [ys]) m) p) = min (loF xss p m) (nth (row xss m) p)
      rw [ih.1, row_snoc_lo (by omega)]
    · show max (hiF (xss ++ [ys]) p m) (nth (row (xss ++ [ys]) m) p) = max (hiF xss p m) (nth (row xss m) p)
      rw [ih.2, row_snoc_lo (by omega)]
/-- With a vector more ranges are no narrower. -/
theorem more_leq {xss : List (List Int)} (h : rngB xss = true) (h59 : xss.length ≤ 59) {p : Nat} (hp : p < rngN xss) :
    leqB (loF xss p xss.length) (hiF xss p xss.length) (loF (xss ++ [negL (row xss 0)]) p (xss ++ [negL (row xss 0)]).length) (hiF (xss ++ [negL (row xss 0)]) p (xss ++ [negL (row xss 0)]).length) = true := by
  obtain ⟨h1, _, ha⟩ := rng_parts h
  obtain ⟨hb, hN, _⟩ := rng_more h h59
  obtain ⟨k1, _, ka⟩ := rng_parts hb
  have eN : rngN xss = (row xss 0).length := by unfold rngN; rw [h]; rfl
  have eM : rngN (xss ++ [negL (row xss 0)]) = (row (xss ++ [negL (row xss 0)]) 0).length := by unfold rngN; rw [hb]; rfl
  have r1 := rng_right ha (p := p) (by omega) h1
  have r2 := rng_right ka (p := p) (by omega) k1
  have lm := lo_more (xss := xss) (ys := negL (row xss 0)) p xss.length (Nat.le_refl _)
  rw [if_pos h1, if_pos h1] at lm
  have eL : (xss ++ [negL (row xss 0)]).length = xss.length + 1 := by simp
  rw [eL] at r2 ⊢
  have l2 : loF (xss ++ [negL (row xss 0)]) p (xss.length + 1) = min (loF (xss ++ [negL (row xss 0)]) p xss.length) (nth (row (xss ++ [negL (row xss 0)]) xss.length) p) := rfl
  have u2 : hiF (xss ++ [negL (row xss 0)]) p (xss.length + 1) = max (hiF (xss ++ [negL (row xss 0)]) p xss.length) (nth (row (xss ++ [negL (row xss 0)]) xss.length) p) := rfl
  have o1 : loF xss p xss.length ≤ hiF xss p xss.length := by
    have q := r1
    unfold rightB at q
    simp only [Bool.and_eq_true, decide_eq_true_eq] at q
    exact q.2
  unfold leqB
  rw [r1, r2, decide_eq_true (by omega), decide_eq_true (by omega)]
  rfl
/-- What the longer list's ranges are. -/
def MoreR (W : World) (N : Nat) (F G : Nat → Int) (s8 s9 : Value) (wx : World) : Prop :=
  ∃ oa oc, s8 = .slice oa N oc ∧ s9 = .bool true ∧ PRow wx oa N F G ∧ Below W.heap.size W wx
/-- Two ranges that are read. -/
structure Rz2 (w : World) (b o : Nat) (l1 h1 : Int) (b' o' : Nat) (l2 h2 : Int) : Prop where
  lb : b < w.heap.size
  a0 : w.cell? ⟨b, o, none⟩ = some (.int .i64 l1)
  a1 : w.cell? ⟨b, o + 1, none⟩ = some (.int .i64 h1)
  lb' : b' < w.heap.size
  b0 : w.cell? ⟨b', o', none⟩ = some (.int .i64 l2)
  b1 : w.cell? ⟨b', o' + 1, none⟩ = some (.int .i64 h2)

theorem Rz2.below {w w' : World} {b o : Nat} {l1 h1 : Int} {b' o' : Nat} {l2 h2 : Int} (h : Rz2 w b o l1 h1 b' o' l2 h2) (hb : Below w.heap.size w w') : Rz2 w' b o l1 h1 b' o' l2 h2 :=
  ⟨Nat.lt_of_lt_of_le h.lb hb.size, (hb.cell (p := ⟨b, o, none⟩) h.lb).trans h.a0, (hb.cell (p := ⟨b, o + 1, none⟩) h.lb).trans h.a1, Nat.lt_of_lt_of_le h.lb' hb.size, (hb.cell (p := ⟨b', o', none⟩) h.lb').trans h.b0, (hb.cell (p := ⟨b', o' + 1, none⟩) h.lb').trans h.b1⟩

theorem Rz2.drew {w : World} {b o : Nat} {l1 h1 : Int} {b' o' : Nat} {l2 h2 : Int} (h : Rz2 w b o l1 h1 b' o' l2 h2) : Rz2 w.drew b o l1 h1 b' o' l2 h2 := h.below (Below.drew (Below.refl _ _))

set_option maxHeartbeats 16000000 in
theorem rangesMore_walk (a : Option Addr) (n cap : Nat) (zs : List Int) (w : World) (h : IsRow .u8 w a n cap zs) :
    Calls Try.prog 4 #[.slice a n cap] w fun e w' => e = .returned (.bool true) ∧ Below w.heap.size w w' := by
  have BG := hide (big_any a n cap w)
  by_cases hn : n ≤ 1048576
  · rw [decide_eq_false (show ¬ 1048576 < n by omega)] at BG
    have DR := hide (drawRangesOf_any a n cap w (h.code hn))
    clear h
    go_enter Try.func4, Try.ntmps4
    go_wp2_with fail
    refine BG.out.mono ?_
    rintro e w' ⟨rfl, hw⟩
    obtain rfl := hw.symm
    clear BG hw
    go_wp2_with fail
    refine DR.out.mono ?_
    rintro e w1 ⟨la, m, lc, xss, rfl, hM, hm, hb1⟩
    have IR := hide (fun w1 (h : Mat w1 la m xss) => iRangesP la m lc xss w1 h (by omega))
    have SR := hide (fun w1 (h : Mat w1 la m xss) => sRangesP la m lc xss w1 h)
    have M1 := hide hM
    have B1 := hide hb1
    have HL := hide hM.len
    clear hM hb1 DR
    go_wp2_with fail
    refine (IR.out _ M1.out).mono ?_
    rintro e w2 ⟨ra, rc, rfl, hp2, hlo2, hb2⟩
    have M2 := hide (M1.out.below hb2)
    have P2 := hide hp2
    have B2 := hide (bstep B1.out hb2)
    clear hp2 hlo2 hb2 M1 B1
    go_wp2_with fail
    refine (SR.out _ M2.out).mono ?_
    rintro e w4 ⟨sa, sc, rfl, hp3, hlo3, hb3⟩
    have M4 := hide (M2.out.below hb3)
    have P4 := hide (P2.out.below hb3)
    have B4 := hide (bstep B2.out hb3)
    clear hp3 hlo3 hb3 M2 P2 B2 IR SR
    obtain ⟨ok, hok⟩ : ∃ b, rngB xss = b := ⟨_, rfl⟩
    have FACT : Hid (rngB xss = ok) := hide hok
    simp only [hok]
    clear hok
    have t1 : (ok != ok) = false := by cases ok <;> rfl
    have t2 : (ok == ok) = true := by cases ok <;> rfl
    cases ok
    · go_wp2_with fail
      go_ret
      exact ⟨rfl, B4.out⟩
    · by_cases h60 : 60 ≤ m
      · have h60' : (60 : Int) ≤ (m : Int) := by omega
        go_wp2_with fail
        go_ret
        exact ⟨rfl, B4.out⟩
      · have h60' : ¬ ((60 : Int) ≤ (m : Int)) := by omega
        have hm1 : 0 < m := by have := (rng_parts FACT.out).1; rw [HL.out] at this; omega
        have hm1' : (0 : Int) < (m : Int) := by omega
        obtain ⟨b, off, NV, rfl, ltb, nvl, nvc, nv1, each⟩ := mat_vals M4.out (by omega)
        obtain ⟨mo1, mo2, mo3⟩ := rng_more FACT.out (by rw [HL.out]; omega)
        have hv0 := (alike_at (rng_parts FACT.out).2.2 (k := 0) (by rw [HL.out]; omega)).1
        obtain ⟨NG, hNG⟩ : ∃ L, negL (row xss 0) = L := ⟨_, rfl⟩
        obtain ⟨N, hN⟩ : ∃ N, rngN xss = N := ⟨_, rfl⟩
        have hN8 : N ≤ 8 := by rw [← hN]; exact rngN_8 xss
        rw [hNG] at mo1 mo2 mo3
        have hngl : NG.length ≤ 1048576 := by rw [mo3]; have := (vecOk_len hv0).2; omega
        have hng1 : 1 ≤ NG.length := by rw [mo3]; exact (vecOk_len hv0).1
        obtain ⟨a0, n0, c0, hn0, hc0, hr0, hs0⟩ := each 0 hm1
        obtain ⟨hv, ehv⟩ : ∃ v, Value.slice a0 n0 c0 = v := ⟨_, rfl⟩
        have T0 : Hid (S2 w4 w4 b off 0 hv hv) := hide ⟨Below.refl _ _, ltb, ehv ▸ hc0, ehv ▸ hc0⟩
        have VN := hide (fun W (q : S2 w4 W b off 0 hv hv) => show Calls Try.prog 11 #[hv] W fun e w' => ∃ gv, e = .returned (.slice (some ⟨gv, 0, none⟩) NG.length NG.length) ∧ W.heap.size ≤ gv ∧ Own w' gv NG ∧ Below W.heap.size W w' from by
          subst ehv
          refine (iVecNeg_any a0 n0 c0 (row xss 0) W (hr0.below q.bel) hs0).mono fun e w' r => ?_
          obtain ⟨v, rfl, hf, hb⟩ := r
          rw [hNG] at hf
          rcases hf with ⟨_, hx⟩ | ⟨gv, rfl, hlo, ho⟩
          · rw [hx] at hng1; simp at hng1
          · exact ⟨gv, rfl, hlo, ho, hb⟩)
        have EACH : Hid (xss.length = m ∧ ∀ i, i < m → ∃ a' n' c', NV[i]? = some (.slice a' n' c') ∧ Row w4 a' n' (row xss i) ∧ n' ≤ 1048576) := hide ⟨HL.out, fun i hi => by
          obtain ⟨a', n', c', h1, _, h2, h3⟩ := each i hi
          exact ⟨a', n', c', h1, h2, h3⟩⟩
        have LEQ := hide (fun p (hp : p < N) => more_leq FACT.out (by rw [HL.out]; omega) (p := p) (by rw [hN]; exact hp))
        have IR2 := hide (fun g8 c8 w8 (q : Mat w8 (some ⟨g8, 0, none⟩) (m + 1) (xss ++ [NG])) => iRangesP (some ⟨g8, 0, none⟩) (m + 1) c8 (xss ++ [NG]) w8 q (by omega))
        obtain ⟨F, hF⟩ : ∃ F, (fun p => loF xss p xss.length) = F := ⟨_, rfl⟩
        obtain ⟨G, hG⟩ : ∃ G, (fun p => hiF xss p xss.length) = G := ⟨_, rfl⟩
        obtain ⟨F2, hF2⟩ : ∃ F, (fun p => loF (xss ++ [NG]) p (xss ++ [NG]).length) = F := ⟨_, rfl⟩
        obtain ⟨G2, hG2⟩ : ∃ G, (fun p => hiF (xss ++ [NG]) p (xss ++ [NG]).length) = G := ⟨_, rfl⟩
        have eF : ∀ p, loF xss p xss.length = F p := fun p => by rw [← hF]
        have eG : ∀ p, hiF xss p xss.length = G p := fun p => by rw [← hG]
        have eF2 : ∀ p, loF (xss ++ [NG]) p (xss ++ [NG]).length = F2 p := fun p => by rw [← hF2]
        have eG2 : ∀ p, hiF (xss ++ [NG]) p (xss ++ [NG]).length = G2 p := fun p => by rw [← hG2]
        unfold RngP at IR2
        rw [hF, hG, hN] at P4
        simp only [hNG, eF, eG, eF2, eG2] at LEQ
        simp only [mo1, mo2, hN, hF2, hG2] at IR2
        have NVL := hide nvl
        have NVC := hide nvc
        have NV1 := hide nv1
        obtain ⟨i0, hi, hz0, hz1, hz2⟩ := infoVec_parts
        have HI := hide hi
        have hc0' := T0.out.d
        clear FACT HL M4 nvl nvc nv1 each mo1 mo2 mo3 hv0 hng1 hn0 hc0 hr0 hs0 ehv hF hG hF2 hG2 eF eG eF2 eG2 hi hNG
        simp only [hN]
        clear hN
        go_upto_region 8 with fail
        go_cut [8, 9] from 40 to 52 (fun s8 s9 wx => MoreR w4 N F2 G2 s8 s9 wx)
        case first =>
          refine wp_region_held_drew (S := fun wx => S2 w4 wx b off 0 hv hv) (by kernel_rfl) (T0.out.drew) (fun hH0 => ?_)
          refine wpAnyH_take (i := 1) (oi := { dst := some 42, op := _, type := _, pos := _, after := _, guard := _ }) (v := ?_) rfl (by kernel_rfl) (by kernel_rfl) (by kernel_rfl) (fun _ _ _ h => h) (Or.inl ⟨by rfl, ?_⟩) (hH0) ?_
          rotate_left
          · (intro wx hSw; obtain ⟨_, _, _, q1⟩ := hSw; go_simp <;> with_reducible rfl)
          simp only [Act.put, List.setIfInBounds_toArray, List.set_cons_zero, List.set_cons_succ]
          refine wpAnyH_take (i := 3) (oi := { dst := some 44, op := _, type := _, pos := _, after := _, guard := _ }) (v := ?_) rfl (by kernel_rfl) (by kernel_rfl) (by kernel_rfl) (fun _ _ _ h => h) (Or.inl ⟨by rfl, ?_⟩) (hH0) ?_
          rotate_left
          · (intro wx hSw; obtain ⟨_, _, _, q1⟩ := hSw; go_simp <;> with_reducible rfl)
          simp only [Act.put, List.setIfInBounds_toArray, List.set_cons_zero, List.set_cons_succ]
          refine wpAnyH_take (i := 4) (oi := { dst := some 45, op := _, type := _, pos := _, after := _, guard := _ }) (v := ?_) rfl (by kernel_rfl) (by kernel_rfl) (by kernel_rfl) (fun _ _ _ h => h) (Or.inl ⟨by rfl, ?_⟩) (hH0) ?_
          rotate_left
          · (intro wx hSw; obtain ⟨_, _, _, q1⟩ := hSw; go_simp <;> with_reducible rfl)
          simp only [Act.put, List.setIfInBounds_toArray, List.set_cons_zero, List.set_cons_succ]
          refine wpAnyH_take (i := 5) (oi := { dst := some 46, op := _, type := _, pos := _, after := _, guard := _ }) (v := ?_) rfl (by kernel_rfl) (by kernel_rfl) (by kernel_rfl) (fun _ _ _ h => h) (Or.inl ⟨by rfl, ?_⟩) (hH0) ?_
          rotate_left
          · (intro wx hSw; obtain ⟨_, _, _, q1⟩ := hSw; go_simp <;> with_reducible rfl)
          simp only [Act.put, List.setIfInBounds_toArray, List.set_cons_zero, List.set_cons_succ]
          -- behind it: go_wp2_with fail, then go_meet (a cut) or go_ret; the condition at the end: hH0
          refine wpAnyH_ready (rs := [0]) (by kernel_rfl) (by simp) ?_
          refine AllReadyH.cons (o := { dst := some 41, op := _, type := _, pos := _, after := _, guard := _ }) rfl (fun K hK => ?_) AllReadyH.nil
          go_simp
          refine hK.out _ _ (S2.below hH0 (balloc (Below.refl _ _) _)) (fun hH21 => ?_)
          clear hK K
          have OA := hide (by have q := World.ownsRow_made (base := w4.heap.size) (e := 30) (size := 1) (w4.drew) #[] 0 hH0.bel.size (Nat.zero_le _) rfl; (try simp only [World.size_alloc, World.size_drew] at q); exact q : ((w4.drew).alloc (.cells #[] 30)).ownsRow w4.heap.size 30 1 (.slice (some ⟨w4.heap.size, 0, none⟩) 0 0) 0 [])
          refine wpAnyH_ready (rs := [2]) (by kernel_rfl) (by simp) ?_
          refine AllReadyH.cons (o := { dst := some 43, op := _, type := _, pos := _, after := _, guard := _ }) rfl (fun K hK => ?_) AllReadyH.nil
          have CE := hide (fun j u hu => (hH21.bel.cell (p := (⟨b, off, none⟩ : Addr).add j) (by rw [addr_blk]; exact ltb)).trans (NVC.out j u hu))
          refine step_append_lies _ rfl _ _ 24 rfl w4.heap.size 30 i0 _ 1 24 Try.underlying24 HI.out hz0 hz1 hz2 rfl (by decide) _ _ _ rfl OA.out ⟨b, off, none⟩ m lc NV rfl (by rw [NVL.out, Nat.mul_one]) CE.out NV1.out hm1 (by unfold maxLen; omega) (by omega) hH21.bel.size _ rfl ?_
          intro gB cB wb2 hownB hgrow hatB hgltB
          simp only [Nat.zero_add, List.nil_append] at hownB ⊢
          have bB : Below w4.heap.size w4 wb2 := hH21.bel.grown hgrow hH21.bel.size fun k' hk' => (OA.out.lt k' hk').1
          refine hK.out _ _ (S2.below T0.out bB) (fun hH22 => ?_)
          clear hK K
          have szB := hgrow.size
          (try simp only [World.size_alloc, World.size_drew] at szB)
          have OB := hide hownB
          clear hownB hgrow hatB hgltB bB OA CE
          refine wpAnyH_ready (rs := [6]) (by kernel_rfl) (by simp) ?_
          refine AllReadyH.cons (o := { dst := some 47, op := _, type := _, pos := _, after := _, guard := _ }) rfl (fun K hK => ?_) AllReadyH.nil
          go_simp
          refine (VN.out _ hH22).mono ?_
          rintro e wc3 ⟨gv, rfl, hgv, hoC, hbC⟩
          dsimp only
          refine hK.out _ _ (S2.below hH22 hbC) (fun hH23 => ?_)
          clear hK K
          have OC := hide hoC
          have szC := hbC.size
          (try simp only [World.size_alloc, World.size_drew] at szC)
          have OB := hide (owns_below OB.out hbC)
          clear hoC hbC
          refine wpAnyH_ready (rs := [7]) (by kernel_rfl) (by simp) ?_
          refine AllReadyH.cons (o := { dst := some 48, op := _, type := _, pos := _, after := _, guard := _ }) rfl (fun K hK => ?_) AllReadyH.nil
          go_simp
          refine hK.out _ _ (S2.below hH23 (balloc (Below.refl _ _) _)) (fun hH24 => ?_)
          clear hK K
          have OD := hide (by have q := Go.Deep.blk_alloc_new (wc3) (.cells #[Value.slice (some ⟨gv, 0, none⟩) NG.length NG.length] 30); (try simp only [World.size_alloc, World.size_drew] at q); exact q : ((wc3).alloc (.cells #[Value.slice (some ⟨gv, 0, none⟩) NG.length NG.length] 30)).heap[wc3.heap.size]? = some (.cells #[Value.slice (some ⟨gv, 0, none⟩) NG.length NG.length] 30 (0, 0)))
          have OB := hide (OB.out.alloc (.cells #[Value.slice (some ⟨gv, 0, none⟩) NG.length NG.length] 30))
          have OC := hide (OC.out.below (balloc (Below.refl _ _) (.cells #[Value.slice (some ⟨gv, 0, none⟩) NG.length NG.length] 30)))
          refine wpAnyH_ready (rs := [8]) (by kernel_rfl) (by simp) ?_
          refine AllReadyH.cons (o := { dst := some 49, op := _, type := _, pos := _, after := _, guard := _ }) rfl (fun K hK => ?_) AllReadyH.nil
          refine step_append_lies _ rfl _ _ 24 rfl w4.heap.size 30 i0 _ 1 24 Try.underlying24 HI.out hz0 hz1 hz2 rfl (by decide) _ _ _ rfl OB.out ⟨wc3.heap.size, 0, none⟩ 1 1 [Value.slice (some ⟨gv, 0, none⟩) NG.length NG.length] rfl rfl (World.news_of_block OD.out) (by intro u hu; simp at hu; subst hu; rfl) (by omega) (by unfold maxLen; omega) (by omega) hH24.bel.size _ rfl ?_
          intro g8 c8 w8 hown8 hgrow hat8 hglt8
          have b8 : Below w4.heap.size w4 w8 := hH24.bel.grown hgrow hH24.bel.size fun k' hk' => (OB.out.lt k' hk').1
          refine hK.out _ _ (S2.below T0.out b8) (fun hH25 => ?_)
          clear hK K
          have o8 : Own w8 gv NG := World.rowIs.of_block OC.out (hgrow.block gv (World.rowIs.lt OC.out) (fun e => own_apartM OB.out OC.out e.symm))
          have MAT := mat_snoc EACH.out NVL.out hown8 b8 o8 hngl
          have IRX := hide (IR2.out g8 c8 w8 MAT)
          have HB8 := hide b8
          clear hown8 hgrow hat8 hglt8 b8 o8 MAT OB OC OD
          refine wpAnyH_ready (rs := [9]) (by kernel_rfl) (by simp) ?_
          refine AllReadyH.cons (o := { dst := some 50, op := _, type := _, pos := _, after := _, guard := _ }) rfl (fun K hK => ?_) AllReadyH.nil
          go_simp
          refine IRX.out.mono ?_
          rintro e w9 ⟨oa, oc, rfl, hp9, _, hb9⟩
          dsimp only
          refine hK.out _ _ (S2.below hH25 hb9) (fun hH65 => ?_)
          clear hK K
          refine wpAnyH_take (i := 10) (oi := { dst := some 40, op := _, type := _, pos := _, after := _, guard := _ }) (v := ?_) rfl (by kernel_rfl) (by kernel_rfl) (by kernel_rfl) (fun _ _ _ h => h) (Or.inl ⟨by rfl, ?_⟩) (hH65) ?_
          rotate_left
          · (intro wx hSw; obtain ⟨_, _, _, q1⟩ := hSw; go_simp <;> with_reducible rfl)
          simp only [Act.put, List.setIfInBounds_toArray, List.set_cons_zero, List.set_cons_succ]
          refine wpAnyH_take (i := 11) (oi := { dst := some 51, op := _, type := _, pos := _, after := _, guard := _ }) (v := ?_) rfl (by kernel_rfl) (by kernel_rfl) (by kernel_rfl) (fun _ _ _ h => h) (Or.inl ⟨by rfl, ?_⟩) (hH65) ?_
          rotate_left
          · (intro wx hSw; obtain ⟨_, _, _, q1⟩ := hSw; go_simp <;> with_reducible rfl)
          simp only [Act.put, List.setIfInBounds_toArray, List.set_cons_zero, List.set_cons_succ]
          refine wpAnyH_take (i := 12) (oi := { dst := some 52, op := _, type := _, pos := _, after := _, guard := _ }) (v := ?_) rfl (by kernel_rfl) (by kernel_rfl) (by kernel_rfl) (fun _ _ _ h => h) (Or.inl ⟨by rfl, ?_⟩) (hH65) ?_
          rotate_left
          · (intro wx hSw; obtain ⟨_, _, _, q1⟩ := hSw; go_simp <;> with_reducible rfl)
          simp only [Act.put, List.setIfInBounds_toArray, List.set_cons_zero, List.set_cons_succ]
          refine wpAnyH_take (i := 13) (oi := { dst := some 8, op := _, type := _, pos := _, after := _, guard := _ }) (v := ?_) rfl (by kernel_rfl) (by kernel_rfl) (by kernel_rfl) (fun _ _ _ h => h) (Or.inl ⟨by rfl, ?_⟩) (hH65) ?_
          rotate_left
          · (intro wx hSw; obtain ⟨_, _, _, q1⟩ := hSw; go_simp <;> with_reducible rfl)
          simp only [Act.put, List.setIfInBounds_toArray, List.set_cons_zero, List.set_cons_succ]
          refine wpAnyH_take (i := 14) (oi := { dst := some 9, op := _, type := _, pos := _, after := _, guard := _ }) (v := ?_) rfl (by kernel_rfl) (by kernel_rfl) (by kernel_rfl) (fun _ _ _ h => h) (Or.inl ⟨by rfl, ?_⟩) (hH65) ?_
          rotate_left
          · (intro wx hSw; obtain ⟨_, _, _, q1⟩ := hSw; go_simp <;> with_reducible rfl)
          simp only [Act.put, List.setIfInBounds_toArray, List.set_cons_zero, List.set_cons_succ]
          refine wpAnyH_done (by kernel_rfl) ?_ _
          -- behind it: go_wp2_with fail, then go_meet (a cut) or go_ret; the condition at the end: hH65
          go_wp2_with fail
          go_meet
          exact ⟨oa, oc, rfl, rfl, hp9, bstep HB8.out hb9⟩
        case rest =>
          clear VN IR2 EACH NVL NVC NV1 HI T0 hc0'
          obtain ⟨oa, oc, rfl, rfl, hp9, hb9⟩ := hcut
          have P9 := hide hp9
          have Q9 := hide (P4.out.below hb9)
          have HB9 := hide hb9
          clear hp9 hb9
          go_wp2_with fail
          go_loopw [10] (fun i wy => ∃ p : Nat, p ≤ N ∧ i = .int .i64 p ∧ PRow wy oa N F2 G2 ∧ PRow wy ra N F G ∧ Below w4.heap.size w4 wy) (fun i _ => N - (intOf i).toNat)
          case atStart => exact ⟨0, Nat.zero_le _, rfl, P9.out, Q9.out, HB9.out⟩
          case round =>
            clear P9 Q9 HB9
            obtain ⟨p, hp, rfl, hp2, hp1, hbel⟩ := hrel
            have P2 := hide hp2
            have P1 := hide hp1
            have HB := hide hbel
            clear hbel hp2 hp1
            by_cases hpl : p < N
            · have hpl' : (p : Int) < (N : Int) := by omega
              obtain ⟨b1, o1, rfl, l1, k1⟩ : ∃ b o, ra = some ⟨b, o, none⟩ ∧ b < wr.heap.size ∧ ∀ i, i < N → wr.cell? ⟨b, o + i * 2, none⟩ = some (.int .i64 (F i)) ∧ wr.cell? ⟨b, o + i * 2 + 1, none⟩ = some (.int .i64 (G i)) := by
                rcases P1.out.lies with h0 | h0
                · omega
                · exact h0
              obtain ⟨b2, o2, rfl, l2, k2⟩ : ∃ b o, oa = some ⟨b, o, none⟩ ∧ b < wr.heap.size ∧ ∀ i, i < N → wr.cell? ⟨b, o + i * 2, none⟩ = some (.int .i64 (F2 i)) ∧ wr.cell? ⟨b, o + i * 2 + 1, none⟩ = some (.int .i64 (G2 i)) := by
                rcases P2.out.lies with h0 | h0
                · omega
                · exact h0
              have T : Hid (Rz2 wr b1 (o1 + p * 2) (F p) (G p) b2 (o2 + p * 2) (F2 p) (G2 p)) := hide ⟨l1, (k1 p hpl).1, (k1 p hpl).2, l2, (k2 p hpl).1, (k2 p hpl).2⟩
              have RL := hide (fun w1 => iRangeLeq_any (F p) (G p) (F2 p) (G2 p) w1)
              rw [LEQ.out p hpl] at RL
              clear k1 k2
              go_upto_region 12 with fail
              refine wp_region_held_drew (S := fun wx => Rz2 wx b1 (o1 + p * 2) (F p) (G p) b2 (o2 + p * 2) (F2 p) (G2 p)) (by kernel_rfl) (T.out.drew) (fun hH0 => ?_)
              refine wpAnyH_take (i := 0) (oi := { dst := some 65, op := _, type := _, pos := _, after := _, guard := _ }) (v := ?_) rfl (by kernel_rfl) (by kernel_rfl) (by kernel_rfl) (fun _ _ _ h => h) (Or.inl ⟨by rfl, ?_⟩) (hH0) ?_
              rotate_left
              · (intro wx hSw; obtain ⟨_, q0, q1, _, q2, q3⟩ := hSw; go_simp <;> with_reducible rfl)
              simp only [Act.put, List.setIfInBounds_toArray, List.set_cons_zero, List.set_cons_succ]
              refine wpAnyH_take (i := 1) (oi := { dst := some 66, op := _, type := _, pos := _, after := _, guard := _ }) (v := ?_) rfl (by kernel_rfl) (by kernel_rfl) (by kernel_rfl) (fun _ _ _ h => h) (Or.inl ⟨by rfl, ?_⟩) (hH0) ?_
              rotate_left
              · (intro wx hSw; obtain ⟨_, q0, q1, _, q2, q3⟩ := hSw; go_simp <;> with_reducible rfl)
              simp only [Act.put, List.setIfInBounds_toArray, List.set_cons_zero, List.set_cons_succ]
              refine wpAnyH_take (i := 2) (oi := { dst := some 67, op := _, type := _, pos := _, after := _, guard := _ }) (v := ?_) rfl (by kernel_rfl) (by kernel_rfl) (by kernel_rfl) (fun _ _ _ h => h) (Or.inl ⟨by rfl, ?_⟩) (hH0) ?_
              rotate_left
              · (intro wx hSw; obtain ⟨_, q0, q1, _, q2, q3⟩ := hSw; go_simp <;> with_reducible rfl)
              simp only [Act.put, List.setIfInBounds_toArray, List.set_cons_zero, List.set_cons_succ]
              refine wpAnyH_take (i := 3) (oi := { dst := some 68, op := _, type := _, pos := _, after := _, guard := _ }) (v := ?_) rfl (by kernel_rfl) (by kernel_rfl) (by kernel_rfl) (fun _ _ _ h => h) (Or.inl ⟨by rfl, ?_⟩) (hH0) ?_
              rotate_left
              · (intro wx hSw; obtain ⟨_, q0, q1, _, q2, q3⟩ := hSw; go_simp <;> with_reducible rfl)
              simp only [Act.put, List.setIfInBounds_toArray, List.set_cons_zero, List.set_cons_succ]
              refine wpAnyH_take (i := 4) (oi := { dst := some 69, op := _, type := _, pos := _, after := _, guard := _ }) (v := ?_) rfl (by kernel_rfl) (by kernel_rfl) (by kernel_rfl) (fun _ _ _ h => h) (Or.inl ⟨by rfl, ?_⟩) (hH0) ?_
              rotate_left
              · (intro wx hSw; obtain ⟨_, q0, q1, _, q2, q3⟩ := hSw; go_simp <;> with_reducible rfl)
              simp only [Act.put, List.setIfInBounds_toArray, List.set_cons_zero, List.set_cons_succ]
              refine wpAnyH_take (i := 5) (oi := { dst := some 70, op := _, type := _, pos := _, after := _, guard := _ }) (v := ?_) rfl (by kernel_rfl) (by kernel_rfl) (by kernel_rfl) (fun _ _ _ h => h) (Or.inl ⟨by rfl, ?_⟩) (hH0) ?_
              rotate_left
              · (intro wx hSw; obtain ⟨_, q0, q1, _, q2, q3⟩ := hSw; go_simp <;> with_reducible rfl)
              simp only [Act.put, List.setIfInBounds_toArray, List.set_cons_zero, List.set_cons_succ]
              refine wpAnyH_take (i := 6) (oi := { dst := some 71, op := _, type := _, pos := _, after := _, guard := _ }) (v := ?_) rfl (by kernel_rfl) (by kernel_rfl) (by kernel_rfl) (fun _ _ _ h => h) (Or.inl ⟨by rfl, ?_⟩) (hH0) ?_
              rotate_left
              · (intro wx hSw; obtain ⟨_, q0, q1, _, q2, q3⟩ := hSw; go_simp <;> with_reducible rfl)
              simp only [Act.put, List.setIfInBounds_toArray, List.set_cons_zero, List.set_cons_succ]
              refine wpAnyH_take (i := 7) (oi := { dst := some 72, op := _, type := _, pos := _, after := _, guard := _ }) (v := ?_) rfl (by kernel_rfl) (by kernel_rfl) (by kernel_rfl) (fun _ _ _ h => h) (Or.inl ⟨by rfl, ?_⟩) (hH0) ?_
              rotate_left
              · (intro wx hSw; obtain ⟨_, q0, q1, _, q2, q3⟩ := hSw; go_simp <;> with_reducible rfl)
              simp only [Act.put, List.setIfInBounds_toArray, List.set_cons_zero, List.set_cons_succ]
              refine wpAnyH_ready (rs := [8]) (by kernel_rfl) (by simp) ?_
              refine AllReadyH.cons (o := { dst := some 73, op := _, type := _, pos := _, after := _, guard := _ }) rfl (fun K hK => ?_) AllReadyH.nil
              go_simp
              refine (RL.out _).mono ?_
              rintro e w_c73_1 ⟨rfl, hb_c73_1⟩
              dsimp only
              refine hK.out _ _ (Rz2.below hH0 hb_c73_1) (fun hH1 => ?_)
              clear hK K
              refine wpAnyH_take (i := 9) (oi := { dst := some 74, op := _, type := _, pos := _, after := _, guard := _ }) (v := ?_) rfl (by kernel_rfl) (by kernel_rfl) (by kernel_rfl) (fun _ _ _ h => h) (Or.inl ⟨by rfl, ?_⟩) (hH1) ?_
              rotate_left
              · (intro wx hSw; obtain ⟨_, q0, q1, _, q2, q3⟩ := hSw; go_simp <;> with_reducible rfl)
              simp only [Act.put, List.setIfInBounds_toArray, List.set_cons_zero, List.set_cons_succ]
              refine wpAnyH_done (by kernel_rfl) ?_ _
              -- behind it: go_wp2_with fail, then go_meet (a cut) or go_ret; the condition at the end: hH1
              have bb := bstep (Below.drew (Below.refl wr.heap.size wr)) hb_c73_1
              have P2' := hide (P2.out.below bb)
              have P1' := hide (P1.out.below bb)
              have HB' := hide (bstep HB.out bb)
              clear bb
              go_wp2_with fail
              go_roundw
              case rel => exact ⟨p + 1, by omega, by go_num, P2'.out, P1'.out, HB'.out⟩
              case measure => simp [intOf]; omega
            · obtain rfl : p = N := by omega
              have tN : ((p : Int) == (p : Int)) = true := by simp
              have BW := hide (bstep B4.out HB.out)
              go_wp2_with fail
              go_ret
              exact ⟨rfl, BW.out⟩
  · rw [decide_eq_true (show 1048576 < n by omega)] at BG
    go_enter Try.func4, Try.ntmps4
    go_wp2_with fail
    refine BG.out.mono ?_
    rintro e w' ⟨rfl, rfl⟩
    go_wp2
    go_ret
    exact ⟨rfl, (by repeat' first | with_reducible exact Below.refl _ _ | with_reducible assumption | with_reducible refine below_drewN ?_ _ | with_reducible refine balloc ?_ _ | with_reducible refine Below.drew ?_ | with_reducible refine Below.setCell ?_ (by first | (simp; done) | (simp; omega) | omega) _ | with_reducible refine bstep ?_ (by assumption))⟩
end Go.Proofs.Ytpbehhanccodeaa
