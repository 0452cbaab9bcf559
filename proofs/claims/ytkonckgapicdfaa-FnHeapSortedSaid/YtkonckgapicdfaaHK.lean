/- The library's heap over the program's: up, down, Push, Pop. -/
import Derived.Test.YtkonckgapicdfaaHJ
namespace Go.Proofs.Ytkonckgapicdfaa
open Go.RowKit
set_option maxRecDepth 8000
set_option linter.unusedSimpArgs false
set_option linter.unusedVariables false



set_option maxHeartbeats 3200000 in
theorem hDown_any (c b m l cap : Nat) (L : NL) (n : Nat) (w : World) (hc : c < w.heap.size) (hcb : c ≠ b) (hv : w.cell? ⟨c, 0, none⟩ = some (.slice (some ⟨b, 0, none⟩) l cap)) (h : OwnL w b m L) (hl : l ≤ m) (hn : n ≤ l) (hm : m ≤ 1048576) :
    Calls Try.prog 24 #[.iface 37 (.pointer (some ⟨c, 0, none⟩)), .int .i64 0, .int .i64 n] w fun e w' => ∃ v, e = .returned (.bool v) ∧ But b w w' ∧ OwnL w' b m (dnL n 0 L) := by
  have HV := hide hv
  have H := hide h
  clear hv h
  go_enter Try.func24, Try.ntmps24
  go_wp2_with fail
  go_loopw [7] (fun i wr => ∃ (k : Nat) (M : NL), i = .int .i64 k ∧ (k < n ∨ k = 0) ∧ But b w wr ∧ OwnL wr b m M ∧ dnL n k M = dnL n 0 L) (fun i _ => n - (intOf i).toNat)
  case atStart => exact ⟨0, L, rfl, .inr rfl, But.refl b w, H.out, rfl⟩
  case round =>
    obtain ⟨k, M, rfl, hk, hb, hM, hup⟩ := hrel
    have HB := hide hb
    have HM := hide hM
    have HU := hide hup
    have hv : wr.cell? ⟨c, 0, none⟩ = some (.slice (some ⟨b, 0, none⟩) l cap) := (hb.cellN hc hcb).trans HV.out
    have hcr : c < wr.heap.size := Nat.lt_of_lt_of_le hc hb.size
    clear hb hM hup
    by_cases h1 : 2 * k + 1 < n
    · have h1' : 2 * (k : Int) + 1 < (n : Int) := by omega
      by_cases h2 : 2 * k + 2 < n
      · have h2' : 2 * (k : Int) + 1 + 1 < (n : Int) := by omega
        have ML := meth_Less c _ wr hv
        have LE := hide (gLess_any b m l cap M (2 * k + 2) (2 * k + 1) wr HM.out hl (by omega) (by omega))
        obtain ⟨v, hv2⟩ : ∃ v, lt2 (M (2 * k + 1)) (M (2 * k + 2)) = v := ⟨_, rfl⟩
        rw [hv2, show ((2 * k + 1 : Nat) : Int) = 2 * (k : Int) + 1 by omega, show ((2 * k + 2 : Nat) : Int) = 2 * (k : Int) + 1 + 1 by omega] at LE
        have HV2 := hide hv2
        clear hv2
        go_wp2_with fail
        refine LE.out.mono ?_
        rintro e w1 ⟨rfl, hb1⟩
        have hv1 : w1.cell? ⟨c, 0, none⟩ = some (.slice (some ⟨b, 0, none⟩) l cap) := (hb1.cell (p := ⟨c, 0, none⟩) hcr).trans hv
        have HM1 := hide (HM.out.below hb1)
        have HB1 := hide (HB.out.trans (But.ofBelow hb1))
        have hc1 : c < w1.heap.size := Nat.lt_of_lt_of_le hcr hb1.size
        clear hv ML LE HB HM hb1
        cases v
        · have hkid : kid n k M = 2 * k + 1 := by unfold kid; rw [if_neg (fun q => by rw [HV2.out] at q; exact Bool.noConfusion q.2)]
          have hQ : ((2 * k + 1 : Nat) : Int) = 2 * (k : Int) + 1 := by omega
          have ML2 := meth_Less c _ w1 hv1
          have LE2 := hide (gLess_any b m l cap M (2 * k + 1) k w1 HM1.out hl (by omega) (by omega))
          obtain ⟨u, hu⟩ : ∃ u, lt2 (M k) (M (2 * k + 1)) = u := ⟨_, rfl⟩
          rw [hu, hQ] at LE2
          have HU2 := hide hu
          clear hu
          go_wp2_with fail
          refine LE2.out.mono ?_
          rintro e w2 ⟨rfl, hb2⟩
          have hv3 : w2.cell? ⟨c, 0, none⟩ = some (.slice (some ⟨b, 0, none⟩) l cap) := (hb2.cell (p := ⟨c, 0, none⟩) hc1).trans hv1
          have HM2 := hide (HM1.out.below hb2)
          have HB2 := hide (HB1.out.trans (But.ofBelow hb2))
          clear hv1 ML2 LE2 hb2
          cases u
          · go_wp2_with fail
            go_ret
            exact ⟨_, rfl, HB2.out, by rw [← HU.out, dnL_no (by rw [hkid]; exact HU2.out)]; exact HM2.out⟩
          · have MS := meth_Swap c _ w2 hv3
            have SW := hide (gSwap_any b m l cap M k (2 * k + 1) w2 HM2.out hl (by omega) (by omega))
            rw [hQ] at SW
            go_wp2_with fail
            refine SW.out.mono ?_
            rintro e w3 ⟨rfl, hb3, hM3⟩
            have HM3 := hide hM3
            have HB3 := hide (HB2.out.trans hb3)
            clear hM3 hb3 SW MS hv3
            go_wp2_with fail
            go_roundw
            case rel => exact ⟨2 * k + 1, swp M k (2 * k + 1), by rw [hQ], .inl (by omega), HB3.out, HM3.out, by rw [← HU.out, dnL_yes h1 (by rw [hkid]; exact HU2.out), hkid]⟩
            case measure => simp [intOf]; omega
        · have hkid : kid n k M = 2 * k + 2 := by unfold kid; rw [if_pos ⟨h2, HV2.out⟩]
          have hQ : ((2 * k + 2 : Nat) : Int) = 2 * (k : Int) + 1 + 1 := by omega
          have ML2 := meth_Less c _ w1 hv1
          have LE2 := hide (gLess_any b m l cap M (2 * k + 2) k w1 HM1.out hl (by omega) (by omega))
          obtain ⟨u, hu⟩ : ∃ u, lt2 (M k) (M (2 * k + 2)) = u := ⟨_, rfl⟩
          rw [hu, hQ] at LE2
          have HU2 := hide hu
          clear hu
          go_wp2_with fail
          refine LE2.out.mono ?_
          rintro e w2 ⟨rfl, hb2⟩
          have hv3 : w2.cell? ⟨c, 0, none⟩ = some (.slice (some ⟨b, 0, none⟩) l cap) := (hb2.cell (p := ⟨c, 0, none⟩) hc1).trans hv1
          have HM2 := hide (HM1.out.below hb2)
          have HB2 := hide (HB1.out.trans (But.ofBelow hb2))
          clear hv1 ML2 LE2 hb2
          cases u
          · go_wp2_with fail
            go_ret
            exact ⟨_, rfl, HB2.out, by rw [← HU.out, dnL_no (by rw [hkid]; exact HU2.out)]; exact HM2.out⟩
          · have MS := meth_Swap c _ w2 hv3
            have SW := hide (gSwap_any b m l cap M k (2 * k + 2) w2 HM2.out hl (by omega) (by omega))
            rw [hQ] at SW
            go_wp2_with fail
            refine SW.out.mono ?_
            rintro e w3 ⟨rfl, hb3, hM3⟩
            have HM3 := hide hM3
            have HB3 := hide (HB2.out.trans hb3)
            clear hM3 hb3 SW MS hv3
            go_wp2_with fail
            go_roundw
            case rel => exact ⟨2 * k + 2, swp M k (2 * k + 2), by rw [hQ], .inl (by omega), HB3.out, HM3.out, by rw [← HU.out, dnL_yes h1 (by rw [hkid]; exact HU2.out), hkid]⟩
            case measure => simp [intOf]; omega
      · have h2' : (n : Int) ≤ 2 * (k : Int) + 1 + 1 := by omega
        have hkid : kid n k M = 2 * k + 1 := by unfold kid; rw [if_neg (fun q => h2 q.1)]
        have hQ : ((2 * k + 1 : Nat) : Int) = 2 * (k : Int) + 1 := by omega
        have ML2 := meth_Less c _ wr hv
        have LE2 := hide (gLess_any b m l cap M (2 * k + 1) k wr HM.out hl (by omega) (by omega))
        obtain ⟨u, hu⟩ : ∃ u, lt2 (M k) (M (2 * k + 1)) = u := ⟨_, rfl⟩
        rw [hu, hQ] at LE2
        have HU2 := hide hu
        clear hu
        go_wp2_with fail
        refine LE2.out.mono ?_
        rintro e w2 ⟨rfl, hb2⟩
        have hv3 : w2.cell? ⟨c, 0, none⟩ = some (.slice (some ⟨b, 0, none⟩) l cap) := (hb2.cell (p := ⟨c, 0, none⟩) hcr).trans hv
        have HM2 := hide (HM.out.below hb2)
        have HB2 := hide (HB.out.trans (But.ofBelow hb2))
        clear hv ML2 LE2 hb2
        cases u
        · go_wp2_with fail
          go_ret
          exact ⟨_, rfl, HB2.out, by rw [← HU.out, dnL_no (by rw [hkid]; exact HU2.out)]; exact HM2.out⟩
        · have MS := meth_Swap c _ w2 hv3
          have SW := hide (gSwap_any b m l cap M k (2 * k + 1) w2 HM2.out hl (by omega) (by omega))
          rw [hQ] at SW
          go_wp2_with fail
          refine SW.out.mono ?_
          rintro e w3 ⟨rfl, hb3, hM3⟩
          have HM3 := hide hM3
          have HB3 := hide (HB2.out.trans hb3)
          clear hM3 hb3 SW MS hv3
          go_wp2_with fail
          go_roundw
          case rel => exact ⟨2 * k + 1, swp M k (2 * k + 1), by rw [hQ], .inl (by omega), HB3.out, HM3.out, by rw [← HU.out, dnL_yes h1 (by rw [hkid]; exact HU2.out), hkid]⟩
          case measure => simp [intOf]; omega
    · have h1' : (n : Int) ≤ 2 * (k : Int) + 1 := by omega
      go_wp2_with fail
      go_ret
      exact ⟨_, rfl, HB.out, by rw [← HU.out, dnL_out h1]; exact HM.out⟩
end Go.Proofs.Ytkonckgapicdfaa
