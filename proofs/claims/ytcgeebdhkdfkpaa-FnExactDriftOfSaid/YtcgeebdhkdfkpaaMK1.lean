/- DriftOf of the model. -/
import Derived.Test.YtcgeebdhkdfkpaaMK
namespace Go.Proofs.Ytcgeebdhkdfkpaa
open Go.RowKit
set_option maxRecDepth 8000
set_option linter.unusedSimpArgs false
set_option linter.unusedVariables false

set_option maxHeartbeats 4000000 in
theorem sDriftOf_any (a : Option Addr) (n cap : Nat) (f g : Nat → Int) (la : Option Addr) (m lc : Nat) (xss : List (List Int)) (w : World) (h : PRow w a n f g) (hM : Mat w la m xss) (hm : m ≤ 1048576) (hn : n ≤ 1048576) :
    Calls Try.prog 6 #[.slice a n cap, .slice la m lc] w fun e w' => e = .returned (.int .i64 (drV n f g xss)) ∧ Below w.heap.size w w' := by
  have BO := hide (sBoxOk_any a n cap f g w h hn)
  have hl := hM.len
  cases hb : boxB n f g
  · rw [hb] at BO
    rw [dr_out (by rw [hb]; rfl)]
    clear h hM hl hb
    go_enter Try.func6, Try.ntmps6
    go_wp2_with fail
    refine BO.out.mono ?_
    rintro e w1 ⟨rfl, hb1⟩
    go_wp2_with fail
    go_ret
    exact ⟨rfl, (by repeat' first | with_reducible exact Below.refl _ _ | with_reducible assumption | with_reducible refine below_drewN ?_ _ | with_reducible refine balloc ?_ _ | with_reducible refine Below.drew ?_ | with_reducible refine Below.setCell ?_ (by first | (simp; done) | (simp; omega) | omega) _ | with_reducible refine bstep ?_ (by assumption))⟩
  · rw [hb] at BO
    by_cases h60 : m ≤ 60
    · have h60' : ¬ ((60 : Int) < (m : Int)) := by omega
      have PV := hide (fun k w1 (hk : k < m) (hB : Below w.heap.size w w1) => show ∃ b off a' c', la = some ⟨b, off, none⟩ ∧ b < w1.heap.size ∧ w1.cell? ⟨b, off + k, none⟩ = some (.slice a' (row xss k).length c') ∧ Row w1 a' (row xss k).length (row xss k) ∧ (row xss k).length ≤ 1048576 from by
        rcases hM.lies with h0 | ⟨b, off, rfl, lt, hc⟩
        · omega
        · obtain ⟨a', n', c', hz, hr, hn'⟩ := hc k hk
          have e := hr.len
          subst e
          exact ⟨b, off, a', c', rfl, Nat.lt_of_lt_of_le lt hB.size, (hB.cell (p := ⟨b, off + k, none⟩) lt).trans hz, hr.below hB, hn'⟩)
      have HP := hide h
      have HBX := hide hb
      have HL := hide hl
      clear h hM hl hb
      go_enter Try.func6, Try.ntmps6
      go_wp2_with fail
      refine BO.out.mono ?_
      rintro e w1 ⟨rfl, hb1⟩
      have HB1 := hide (show Below w.heap.size w w1 from (by repeat' first | with_reducible exact Below.refl _ _ | with_reducible assumption | with_reducible refine below_drewN ?_ _ | with_reducible refine balloc ?_ _ | with_reducible refine Below.drew ?_ | with_reducible refine Below.setCell ?_ (by first | (simp; done) | (simp; omega) | omega) _ | with_reducible refine bstep ?_ (by assumption)))
      clear hb1
      go_wp2_with fail
      go_loopw [5, 6] (fun c i wr => ∃ k : Nat, k ≤ m ∧ i = .int .i64 k ∧ c = .int .i64 (drN f g xss k) ∧ Hid (∀ j, j < k → formAt n f g xss j = true) ∧ Below w.heap.size w wr) (fun _ i _ => m - (intOf i).toNat)
      case atStart => exact ⟨0, Nat.zero_le _, rfl, rfl, hide (fun j hj => absurd hj (by omega)), HB1.out⟩
      case round =>
        obtain ⟨k, hk, rfl, rfl, HA, hbel⟩ := hrel
        have HB := hide hbel
        clear hbel
        by_cases hlt : k < m
        · have hlt' : (k : Int) < (m : Int) := by omega
          obtain ⟨b, off, a', c', rfl, ltb, hz, hr, hn'⟩ := PV.out k wr hlt HB.out
          have HZ := hide hz
          have HR := hide hr
          have LF := hide (l4Form_any a a' n cap _ c' f g (row xss k) wr (HP.out.below HB.out) hr hn hn')
          have HF : Hid (∀ v, formAt n f g xss k = v → formB n f g (row xss k).length (row xss k) = v) := hide fun v q => q
          cases hf : formAt n f g xss k
          · have HN := hide (dr_no (n := n) (f := f) (g := g) (xss := xss) (k := k) (by rw [HL.out]; exact hlt) hf)
            rw [HF.out _ hf] at LF
            clear hf hr
            go_wp2_with fail
            refine LF.out.mono ?_
            rintro e w2 ⟨rfl, hb2⟩
            have HB2 := hide (bstep HB.out hb2)
            clear hb2 hz
            go_wp2_with fail
            go_ret
            have hbt := HB2.out
            exact ⟨by (rw [HN.out]; try rfl), (by repeat' first | with_reducible exact Below.refl _ _ | with_reducible assumption | with_reducible refine below_drewN ?_ _ | with_reducible refine balloc ?_ _ | with_reducible refine Below.drew ?_ | with_reducible refine Below.setCell ?_ (by first | (simp; done) | (simp; omega) | omega) _ | with_reducible refine bstep ?_ (by assumption))⟩
          · have hF := HF.out _ hf
            rw [hF] at LF
            have hn8 : n = (row xss k).length ∧ n ≤ 8 := ⟨(form_parts hF).2.2, (boxB_num' (form_parts hF).1).2⟩
            have hn1 : 1 ≤ n := (boxB_num' (form_parts hF).1).1
            have hri : ∀ i, i < n → rightB (f i) (g i) = true := fun i hi => boxB_at' (form_parts hF).1 hi
            have E1 : Hid (drN f g xss (k + 1) = drN f g xss k + if driftAt f g xss k then 1 else 0) := hide rfl
            have HOut : Hid (decide ((0 : Int) < (escN (nth (ints (vcode f g (row xss k) 3) n)) n : Int)) = driftAt f g xss k) := hide (by
              unfold driftAt
              rw [← hn8.1, esc_miss hri n (Nat.le_refl _)]
              by_cases h0 : 0 < missN f g (row xss k) n
              · rw [decide_eq_true h0, decide_eq_true (by omega)]
              · rw [decide_eq_false h0, decide_eq_false (by omega)])
            have HK := hide hf
            have hxn := hn8.1.symm
            have L5 : Hid (∀ w1, Below wr.heap.size wr w1 → Calls Try.prog 16 #[.slice a n cap, .slice a' n c'] w1 fun e w' => ∃ v, e = .returned v ∧ FreshRow w1 n (vcode f g (row xss k) 1) (vcode f g (row xss k) 2) (vcode f g (row xss k) 3) v w') := hide fun w1 hB1 => by
              have P1 := (HP.out.below HB.out).below hB1
              have R1 := hr.below hB1
              rw [hxn] at R1
              rcases P1.lies with h0 | ⟨pb, po, rfl, plt, phc⟩
              · omega
              rcases R1.lies with h0 | ⟨rb, ro, rfl, rlt, rhc⟩
              · omega
              exact l5Row_some pb po n cap rb ro c' f g (row xss k) w1 hn8.2 plt rlt phc rhc
            clear hz
            rw [hxn] at LF HZ
            obtain ⟨dv, hdv⟩ : ∃ v, driftAt f g xss k = v := ⟨_, rfl⟩
            rw [hdv] at HOut E1
            obtain ⟨ck, hck⟩ : ∃ v, drN f g xss k = v := ⟨_, rfl⟩
            have hle := drN_le f g xss k
            rw [hck] at E1 hle ⊢
            have hz := HZ.out
            have h8 := hn8.2
            clear hf hF hdv hck hn8 hri HF hr hxn hn'
            go_wp2_with fail
            refine LF.out.mono ?_
            rintro e w2 ⟨rfl, hb2⟩
            have HB2 := hide (bstep HB.out hb2)
            have L5w := hide (L5.out w2 hb2)
            have hz2 := (hb2.cell (p := ⟨b, off + k, none⟩) ltb).trans HZ.out
            clear hb2 hz LF L5
            go_wp2_with fail
            refine L5w.out.mono ?_
            rintro e w3 ⟨v, rfl, s1, s2, s3, j1, j2, j3, rfl, _, _, r3, _, _, _, hb3⟩
            have HB3 := hide (bstep HB2.out hb3)
            obtain ⟨b3, o3, rfl, lt3, hc3⟩ : ∃ b3 o3, s3 = some ⟨b3, o3, none⟩ ∧ b3 < w3.heap.size ∧ ∀ i, i < n → w3.cell? ⟨b3, o3 + i, none⟩ = some (.int .i64 (nth (ints (vcode f g (row xss k) 3) n) i)) := by
              rcases r3.lies with h0 | h0
              · omega
              · exact h0
            have L6 := hide (l5Escapes_some (.slice s1 n j1) (.slice s2 n j2) b3 o3 n j3 _ w3 h8 lt3 hc3)
            obtain ⟨ev, hev⟩ : ∃ v, escN (nth (ints (vcode f g (row xss k) 3) n)) n = v := ⟨_, rfl⟩
            rw [hev] at L6 HOut
            have hO := HOut.out
            clear hb3 hz2 L5w r3 hc3 hev HOut
            go_wp2_with fail
            refine L6.out.mono ?_
            rintro e w4 ⟨rfl, hb4⟩
            have HB4 := hide (bstep HB3.out hb4)
            clear hb4 L6
            cases dv
            · have hO' : ¬ ((0 : Int) < (ev : Int)) := of_decide_eq_false hO
              go_wp2_with fail
              go_roundw
              case rel =>
                exact ⟨k + 1, by omega, by go_num, by rw [E1.out]; rfl, hide (fun j hj => by rcases Nat.lt_succ_iff_lt_or_eq.1 hj with q | q; exact HA.out j q; (subst q; exact HK.out)), HB4.out⟩
              case measure => simp [intOf]; omega
            · have hO' : (0 : Int) < (ev : Int) := of_decide_eq_true hO
              go_wp2_with fail
              go_roundw
              case rel =>
                exact ⟨k + 1, by omega, by go_num, by rw [E1.out]; go_num, hide (fun j hj => by rcases Nat.lt_succ_iff_lt_or_eq.1 hj with q | q; exact HA.out j q; (subst q; exact HK.out)), HB4.out⟩
              case measure => simp [intOf]; omega
        · obtain rfl : k = m := by omega
          have HN := hide (dr_yes HBX.out (by rw [HL.out]; exact h60) (fun j hj => HA.out j (by rw [HL.out] at hj; exact hj)))
          rw [HL.out] at HN
          go_wp2_with fail
          go_ret
          exact ⟨by (rw [HN.out]; try rfl), HB.out⟩
    · have h60' : (60 : Int) < (m : Int) := by omega
      rw [dr_out (by rw [hb, decide_eq_false (by omega)]; rfl)]
      clear h hM hl hb
      go_enter Try.func6, Try.ntmps6
      go_wp2_with fail
      refine BO.out.mono ?_
      rintro e w1 ⟨rfl, hb1⟩
      go_wp2_with fail
      go_ret
      exact ⟨rfl, (by repeat' first | with_reducible exact Below.refl _ _ | with_reducible assumption | with_reducible refine below_drewN ?_ _ | with_reducible refine balloc ?_ _ | with_reducible refine Below.drew ?_ | with_reducible refine Below.setCell ?_ (by first | (simp; done) | (simp; omega) | omega) _ | with_reducible refine bstep ?_ (by assumption))⟩
end Go.Proofs.Ytcgeebdhkdfkpaa
