/- The walk of the law FnDrift. -/
import Derived.Test.YtacfmhcilifkiaaZ24
import Derived.Test.YtacfmhcilifkiaaZ22
import Derived.Test.YtacfmhcilifkiaaZ16
import Derived.OpenShut
namespace Go.Proofs.Ytacfmhcilifkiaa
open Go.RowKit
set_option maxRecDepth 8000
set_option linter.unusedSimpArgs false
set_option linter.unusedVariables false

theorem miss_has {n : Nat} {f g : Nat → Int} {xs : List Int} : ∀ k, k ≤ n → (missN f g xs k = 0 ↔ ∀ i, i < k → hasB (f i) (g i) (nth xs i) = true)
  | 0, _ => by simp [missN]
  | k + 1, h => by
    have ih := miss_has (n := n) (f := f) (g := g) (xs := xs) k (by omega)
    have e : missN f g xs (k + 1) = missN f g xs k + if hasB (f k) (g k) (nth xs k) then 0 else 1 := rfl
    constructor
    · intro q i hi
      have h1 : missN f g xs k = 0 := by omega
      cases hb : hasB (f k) (g k) (nth xs k)
      · rw [hb] at e; simp at e; omega
      · rcases Nat.lt_succ_iff_lt_or_eq.1 hi with r | r
        · exact ih.1 h1 i r
        · subst r; exact hb
    · intro q
      rw [e, ih.2 (fun i hi => q i (by omega)), q k (by omega)]
      rfl

theorem dr_box {n : Nat} {f g : Nat → Int} {xss : List (List Int)} {k : Nat} (h : formAt n f g xss k = true) : boxHasB n f g (row xss k).length (row xss k) = !driftAt f g xss k := by
  have hF : formB n f g (row xss k).length (row xss k) = true := h
  have hn := (form_parts hF).2.2
  unfold boxHasB driftAt
  rw [hF, Bool.true_and, ← hn]
  have q := miss_has (n := n) (f := f) (g := g) (xs := row xss k) n (Nat.le_refl _)
  by_cases h0 : missN f g (row xss k) n = 0
  · rw [decide_eq_false (by omega)]
    exact allN_yes (q.1 h0)
  · rw [decide_eq_true (by omega)]
    cases hh : hasN n f g (row xss k)
    · rfl
    · exact absurd (q.2 fun i hi => allN_at hh hi) h0

theorem dr_parts {n : Nat} {f g : Nat → Int} {xss : List (List Int)} (h : ¬ drV n f g xss < 0) : drV n f g xss = (drN f g xss xss.length : Int) ∧ ∀ k, k < xss.length → formAt n f g xss k = true := by
  unfold drV at h ⊢
  cases hb : drB n f g xss
  · rw [hb] at h; exact absurd (by simp) h
  · refine ⟨rfl, ?_⟩
    unfold drB at hb
    rw [Bool.and_eq_true] at hb
    exact of_decide_eq_true hb.2

theorem dr_zero {f g : Nat → Int} {xss : List (List Int)} : ∀ k, (∀ j, j < k → driftAt f g xss j = false) → drN f g xss k = 0
  | 0, _ => rfl
  | k + 1, h => by
    show drN f g xss k + _ = 0
    rw [dr_zero k (fun j hj => h j (by omega)), h k (by omega)]
    rfl
/-- None of those that ranges are of drifts. -/
theorem dr_own {xss : List (List Int)} (h : rngB xss = true) {F G : Nat → Int} (hF : ∀ p, F p = loF xss p xss.length) (hG : ∀ p, G p = hiF xss p xss.length) : drV (rngN xss) F G xss = 0 := by
  obtain ⟨h1, h60, ha⟩ := rng_parts h
  have hN : rngN xss = (row xss 0).length := by unfold rngN; rw [h]; rfl
  have v0 := vecOk_len (alike_at ha (k := 0) (by omega)).1
  have hr : ∀ i, i < rngN xss → rightB (F i) (G i) = true := fun i hi => by rw [hF, hG]; exact rng_right ha (by omega) h1
  have hb : boxB (rngN xss) F G = true := by unfold boxB; rw [decide_eq_true (by omega), allN_yes hr]; rfl
  have hf : ∀ k, k < xss.length → formAt (rngN xss) F G xss k = true := fun k hk => by
    obtain ⟨a1, a2⟩ := alike_at ha hk
    unfold formAt formB
    rw [hb, a1, decide_eq_true (by omega)]
    rfl
  rw [dr_yes hb h60 hf, dr_zero]
  · rfl
  · intro k hk
    obtain ⟨a1, a2⟩ := alike_at ha hk
    unfold driftAt
    rw [(miss_has (n := (row xss k).length) (row xss k).length (Nat.le_refl _)).2 (fun i hi => by rw [hF, hG]; exact rng_has ha (by omega) hk)]
    rfl

def DrawDr (w : World) (e : Ending) (w' : World) : Prop :=
  ∃ b off d cp F G la m lc xss, e = .returned (.tuple #[.slice (some ⟨b, off, none⟩) d cp, .slice la m lc]) ∧ 1 ≤ d ∧ d ≤ 8 ∧ PRow w' (some ⟨b, off, none⟩) d F G ∧ Mat w' la m xss ∧ m ≤ 12 ∧ Below w.heap.size w w'

set_option maxHeartbeats 2000000 in
theorem drawDriftOf_any (a : Option Addr) (n c : Nat) (w : World) (h : Code w a n) :
    Calls Try.prog 12 #[.slice a n c] w fun e w' => DrawDr w e w' := by
  have O := hide (open_any a n c w h)
  clear h
  go_enter Try.func12, Try.ntmps12
  go_wp2_with fail
  refine O.out.mono ?_
  rintro e w1 ⟨rfl, hr1, hb1, hs1⟩
  go_wp2_with fail
  refine (below_any _ _ n c a 3 w1 hr1 (by omega) (by omega)).mono ?_
  rintro e w2 ⟨v, rfl, v0, v1, hr2, hb2⟩
  obtain ⟨d, hd⟩ : ∃ d : Nat, 1 + v = (d : Int) := ⟨(1 + v).toNat, by omega⟩
  have s2 := hb2.size
  have rlt : w.heap.size < w2.heap.size := by omega
  go_wp2_with fail
  refine (book_any _ _ n c a d w2 hr2 (by omega) (by omega) (by omega)).mono ?_
  rintro e w3 ⟨b, off, cp, F, G, rfl, hp3, hrt, hlo, hbl, hr3, hb3⟩
  have s3 := hb3.size
  have B3 : Below w.heap.size w w3 := hb1.trans ((hb2.below (Nat.le_refl _) (by omega)).trans (hb3.below (Nat.le_refl _) (by omega)))
  have hne : ∀ b' off', some (⟨b, off, none⟩ : Addr) = some ⟨b', off', none⟩ → b' ≠ w.heap.size := fun b' off' e => by cases e; omega
  have B3w := hide B3
  clear hr1 hb1 hr2 hb2 hb3 O hrt
  go_wp2_with fail
  refine (vecs_any _ _ n c a d w3 hr3 (by omega) (by omega) (by omega)).mono ?_
  rintro e w4 ⟨g, gp, k, sv, xs, V, rfl, k1, k12, hO4, hX4, hr4, hb4⟩
  have s4 := hb4.size
  have P4 := hide (prow_butM hp3 hb4 hne)
  have B4 := hide (B3.trans (hb4.below (Nat.le_refl _) (by omega)))
  have HO4 := hide hO4
  have HX := hide hX4
  have HB4 := hide hb4
  clear hp3 hr3 hb4 B3 hO4 hX4
  go_wp2_with fail
  refine (once_any _ _ n c a 8 w4 hr4 (by omega) (by omega)).mono ?_
  rintro e w5 ⟨vo, rfl, hr5, hb5⟩
  have P5 := hide (prow_butM P4.out hb5 hne)
  have B5 := hide (B4.out.trans (hb5.below (Nat.le_refl _) (by omega)))
  have HO5 := hide (HO4.out.but hb5 (by omega))
  have HB5 := hide (HB4.out.trans hb5)
  have HR5 := hide hr5
  have s5 := hb5.size
  have hk0 : (0 : Int) < (k : Int) := by omega
  have hkN : 0 < k := by omega
  clear hr4 hr5 hb5 P4 B4 HO4 HB4
  cases vo
  · have FF : Hid (DrawDr w (.returned (.tuple #[.slice (some ⟨b, off, none⟩) d cp, .slice (some ⟨g, 0, none⟩) k gp])) w5) := hide ⟨b, off, d, cp, F, G, _, k, gp, _, rfl, by omega, by omega, P5.out, HO5.out.mat, by omega, B5.out⟩
    go_wp2_with fail
    refine bodyPost_ret (v := .tuple #[.slice (some ⟨b, off, none⟩) d cp, .slice (some ⟨g, 0, none⟩) k gp]) ?_ rfl FF.out
    simp [results, Try.results12, go_sem]
  · obtain ⟨n0, c0, f0, ev, ho0, hx0, _⟩ := HO5.out.each 0 (by omega)
    have z0 : w5.cell? ⟨g, 0, none⟩ = some (.slice (some ⟨V 0, 0, none⟩) n0 c0) := by
      have := HO5.out.own.cellAt 0 (by omega)
      rw [vl_at sv (by omega), ev] at this
      exact this
    have hn0 : n0 = d := by
      have := (HX.out 0 (by omega)).1
      rw [hx0, ints_len] at this
      omega
    subst hn0
    rw [ev] at ho0
    have HV := hide (hurtVec2_any _ _ n c a n0 c0 (V 0) f0 w3 w5 HR5.out (by omega) (by omega) HB5.out (by omega) (by omega) ho0)
    have gl := (HO5.out.own.lt g rfl)
    have vl := (HO5.out.lt (i := 0) (by omega))
    clear ho0 hx0
    go_wp2_with fail
    refine HV.out.mono ?_
    rintro e w6 ⟨v6, d6, f6, rfl, hd6, ho6, hr6, hb6, hk6⟩
    obtain ⟨a6, c6, rfl, _, _⟩ := row_of_owns ho6
    obtain ⟨z6, f6', hM⟩ := HO5.out.hurt (by omega) hk6 (by omega) ho6 hd6
    have P6 : PRow w6 (some ⟨b, off, none⟩) n0 F G := by
      have e2 := hk6.2 b (by rcases P5.out.lies with h0 | ⟨b', _, e', lt, _⟩; omega; cases e'; exact lt) (by omega) (by omega)
      rcases P5.out.lies with h0 | ⟨b', off', e', lt, hc⟩
      · omega
      · cases e'
        exact ⟨.inr ⟨b, off, rfl, Nat.lt_of_lt_of_le lt hk6.1, fun i hi => ⟨(World.cell?_of_block (a := ⟨b, off + i * 2, none⟩) e2).trans (hc i hi).1, (World.cell?_of_block (a := ⟨b, off + i * 2 + 1, none⟩) e2).trans (hc i hi).2⟩⟩⟩
    have PS : PRow (w6.setCell ⟨g, 0, none⟩ (.slice a6 d6 c6)) (some ⟨b, off, none⟩) n0 F G := by
      have e3 := Below.heap_setCell w6 ⟨g, 0, none⟩ (.slice a6 d6 c6) b (show b ≠ g by omega)
      rcases P6.lies with h0 | ⟨b', off', e', lt, hc⟩
      · omega
      · cases e'
        exact ⟨.inr ⟨b, off, rfl, by simpa [World.setCell] using lt, fun i hi => ⟨(World.cell?_of_block (a := ⟨b, off + i * 2, none⟩) e3).trans (hc i hi).1, (World.cell?_of_block (a := ⟨b, off + i * 2 + 1, none⟩) e3).trans (hc i hi).2⟩⟩⟩
    have BW6 : Below w.heap.size w w6 := B3w.out.trans (hb6.below (Nat.le_refl _) (by omega))
    have FF : Hid (DrawDr w (.returned (.tuple #[.slice (some ⟨b, off, none⟩) n0 cp, .slice (some ⟨g, 0, none⟩) k gp])) (w6.setCell ⟨g, 0, none⟩ (.slice a6 d6 c6))) := hide ⟨b, off, n0, cp, F, G, _, k, gp, _, rfl, by omega, by omega, PS, hM, by omega, BW6.setCell (show w.heap.size ≤ g by omega) _⟩
    clear ho6 hr6 hb6 hk6 hM P6 PS BW6 HV
    go_wp2_with fail
    refine bodyPost_ret (v := .tuple #[.slice (some ⟨b, off, none⟩) n0 cp, .slice (some ⟨g, 0, none⟩) k gp]) ?_ rfl FF.out
    simp [results, Try.results12, go_sem]
end Go.Proofs.Ytacfmhcilifkiaa

/- The walk of the law FnDrift. -/
namespace Go.Proofs.Ytacfmhcilifkiaa
open Go.RowKit
set_option maxRecDepth 8000
set_option linter.unusedSimpArgs false
set_option linter.unusedVariables false

set_option maxHeartbeats 16000000 in
theorem drift_walk (a : Option Addr) (n cap : Nat) (zs : List Int) (w : World) (h : IsRow .u8 w a n cap zs) :
    Calls Try.prog 4 #[.slice a n cap] w fun e w' => e = .returned (.bool true) ∧ Below w.heap.size w w' := by
  have BG := hide (big_any a n cap w)
  by_cases hn : n ≤ 1048576
  · rw [decide_eq_false (show ¬ 1048576 < n by omega)] at BG
    have DR := hide (drawDriftOf_any a n cap w (h.code hn))
    clear h
    go_enter Try.func4, Try.ntmps4
    go_wp2_with fail
    refine BG.out.mono ?_
    rintro e w' ⟨rfl, hw⟩
    obtain rfl := hw.symm
    clear BG hw
    go_wp2_with fail
    refine DR.out.mono ?_
    rintro e w1 ⟨b, off, d, cp, F, G, la, m, lc, xss, rfl, hd1, hd8, hp, hM, hm, hb1⟩
    have ID := hide (fun w1 hp hM => iDriftOf_any (some ⟨b, off, none⟩) d cp F G la m lc xss w1 hp hM (by omega))
    have SD := hide (fun w1 hp hM => sDriftOf_any (some ⟨b, off, none⟩) d cp F G la m lc xss w1 hp hM (by omega) (by omega))
    have IR := hide (fun w1 (h : Mat w1 la m xss) => iRangesP la m lc xss w1 h (by omega))
    obtain ⟨dv, hdv⟩ : ∃ v, drV d F G xss = v := ⟨_, rfl⟩
    simp only [hdv] at ID SD
    have FACT : Hid (drV d F G xss = dv) := hide hdv
    have P1 := hide hp
    have M1 := hide hM
    have B1 := hide hb1
    have HL := hide hM.len
    have tne : (dv != dv) = false := by simp
    have teq : (dv == dv) = true := by simp
    clear hp hM hb1 hdv DR
    go_wp2_with fail
    refine (ID.out _ P1.out M1.out).mono ?_
    rintro e w2 ⟨rfl, hb2⟩
    have P2 := hide (P1.out.below hb2)
    have M2 := hide (M1.out.below hb2)
    have B2 := hide (bstep B1.out hb2)
    clear hb2 P1 M1 B1
    go_wp2_with fail
    refine (SD.out _ P2.out M2.out).mono ?_
    rintro e w3 ⟨rfl, hb3⟩
    have P3 := hide (P2.out.below hb3)
    have M3 := hide (M2.out.below hb3)
    have B3 := hide (bstep B2.out hb3)
    clear hb3 P2 M2 B2
    by_cases hneg : dv < 0
    · go_wp2_with fail
      refine (SD.out _ P3.out M3.out).mono ?_
      rintro e w4 ⟨rfl, hb4⟩
      have B4 := hide (bstep B3.out hb4)
      clear hb4
      go_wp2_with fail
      go_ret
      exact ⟨rfl, B4.out⟩
    · have hparts := dr_parts (n := d) (f := F) (g := G) (xss := xss) (by rw [FACT.out]; exact hneg)
      have DV : Hid (dv = (drN F G xss m : Int)) := hide (by rw [← FACT.out, hparts.1, HL.out])
      have FA := hide (fun k (hk : k < m) => hparts.2 k (by rw [HL.out]; exact hk))
      clear hparts FACT SD
      have ROWS := hide (fun k (hk : k < m) => show ∃ bl ol a' c', la = some ⟨bl, ol, none⟩ ∧ w3.cell? ⟨bl, ol + k, none⟩ = some (.slice a' (row xss k).length c') ∧ bl < w3.heap.size ∧ Row w3 a' (row xss k).length (row xss k) ∧ (row xss k).length ≤ 1048576 from by
        rcases M3.out.lies with h0 | ⟨bl, ol, e, lt, hc⟩
        · omega
        · obtain ⟨a', n', c', hz, hr, hn'⟩ := hc k hk
          have e2 := hr.len
          subst e2
          exact ⟨bl, ol, a', c', e, hz, lt, hr, hn'⟩)
      go_wp2_with fail
      go_loopw [6, 7] (fun c i wr => ∃ k : Nat, k ≤ m ∧ i = .int .i64 k ∧ c = .int .i64 (drN F G xss k) ∧ Below w3.heap.size w3 wr) (fun _ i _ => m - (intOf i).toNat)
      case atStart => exact ⟨0, Nat.zero_le _, rfl, rfl, Below.refl _ _⟩
      case round =>
        obtain ⟨k, hk, rfl, rfl, hbel⟩ := hrel
        have HB := hide hbel
        clear hbel
        have hle := drN_le F G xss k
        by_cases hlt : k < m
        · have hlt' : (k : Int) < (m : Int) := by omega
          obtain ⟨bl, ol, a', c', rfl, hz, lbl, hr, hn'⟩ := ROWS.out k hlt
          have hz := (HB.out.cell (p := ⟨bl, ol + k, none⟩) lbl).trans hz
          have BH := hide (iBoxHas_any (some ⟨b, off, none⟩) a' d cp (row xss k).length c' F G (row xss k) wr (P3.out.below HB.out) (hr.below HB.out) hn')
          rw [dr_box (FA.out k hlt)] at BH
          obtain ⟨dr, hdr⟩ : ∃ v, driftAt F G xss k = v := ⟨_, rfl⟩
          have E1 : Hid (drN F G xss (k + 1) = drN F G xss k + if dr then 1 else 0) := hide (by rw [← hdr]; rfl)
          rw [hdr] at BH
          obtain ⟨ck, hck⟩ : ∃ v, drN F G xss k = v := ⟨_, rfl⟩
          rw [hck] at E1 hle ⊢
          clear hr hdr hck
          go_wp2_with fail
          refine BH.out.mono ?_
          rintro e w5 ⟨rfl, hb5⟩
          have HB5 := hide (bstep HB.out hb5)
          clear hb5 hz BH
          cases dr
          · go_wp2_with fail
            go_roundw
            case rel => exact ⟨k + 1, by omega, by go_num, by rw [E1.out]; rfl, HB5.out⟩
            case measure => simp [intOf]; omega
          · go_wp2_with fail
            go_roundw
            case rel => exact ⟨k + 1, by omega, by go_num, by rw [E1.out]; go_num, HB5.out⟩
            case measure => simp [intOf]; omega
        · obtain rfl : k = m := by omega
          have M4 := hide (M3.out.below HB.out)
          have B4 := hide (bstep B3.out HB.out)
          have IRw := hide (IR.out wr M4.out)
          obtain ⟨ok, hok⟩ : ∃ v, rngB xss = v := ⟨_, rfl⟩
          obtain ⟨F', hF'⟩ : ∃ F', (fun p => loF xss p xss.length) = F' := ⟨_, rfl⟩
          obtain ⟨G', hG'⟩ : ∃ G', (fun p => hiF xss p xss.length) = G' := ⟨_, rfl⟩
          obtain ⟨N, hN⟩ : ∃ N, rngN xss = N := ⟨_, rfl⟩
          have OWN : Hid (ok = true → drV N F' G' xss = 0) := hide (fun q => by
            rw [← hN]
            exact dr_own (hok.trans q) (fun p => by rw [← hF']) (fun p => by rw [← hG']))
          unfold RngP at IRw
          rw [hok, hF', hG', hN] at IRw
          have ed := DV.out
          have teq' : (dv == (drN F G xss k : Int)) = true := by rw [← ed]; exact teq
          clear hok hF' hG' hN HB ed DV ROWS FA IR ID M3 B3
          go_wp2_with fail
          refine IRw.out.mono ?_
          rintro e w5 ⟨oa, oc, rfl, hp5, _, hb5⟩
          have B5 := hide (bstep B4.out hb5)
          have ID5 := hide (iDriftOf_any oa N oc F' G' la k lc xss w5 hp5 (M4.out.below hb5) (by omega))
          clear hp5 hb5 M4 B4 IRw
          cases ok
          · go_wp2_with fail
            go_ret
            exact ⟨rfl, B5.out⟩
          · rw [OWN.out rfl] at ID5
            go_wp2_with fail
            refine ID5.out.mono ?_
            rintro e w6 ⟨rfl, hb6⟩
            have B6 := hide (bstep B5.out hb6)
            clear hb6
            go_wp2_with fail
            go_ret
            exact ⟨rfl, B6.out⟩
  · rw [decide_eq_true (show 1048576 < n by omega)] at BG
    go_enter Try.func4, Try.ntmps4
    go_wp2_with fail
    refine BG.out.mono ?_
    rintro e w' ⟨rfl, rfl⟩
    go_wp2
    go_ret
    exact ⟨rfl, (by repeat' first | with_reducible exact Below.refl _ _ | with_reducible assumption | with_reducible refine below_drewN ?_ _ | with_reducible refine balloc ?_ _ | with_reducible refine Below.drew ?_ | with_reducible refine Below.setCell ?_ (by first | (simp; done) | (simp; omega) | omega) _ | with_reducible refine bstep ?_ (by assumption))⟩
end Go.Proofs.Ytacfmhcilifkiaa
