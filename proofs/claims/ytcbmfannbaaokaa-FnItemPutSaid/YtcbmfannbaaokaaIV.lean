/- copiedItems of the program: items of several slices, one behind the other. -/
import Derived.Test.YtcbmfannbaaokaaIQ
namespace Go.Proofs.Ytcbmfannbaaokaa
open Go.RowKit
set_option linter.unusedSimpArgs false
set_option linter.unusedVariables false

/-- How many items the first i parts have, and these. -/
def catN (pn : Nat → Nat) : Nat → Nat
  | 0 => 0
  | i + 1 => catN pn i + pn i
def catL (pn : Nat → Nat) (PL : Nat → IL) : Nat → IL
  | 0 => fun _ => ⟨0, 0, []⟩
  | i + 1 => fun j => if j < catN pn i then catL pn PL i j else PL i (j - catN pn i)
theorem catN_mono {pn : Nat → Nat} {i j : Nat} (h : i ≤ j) : catN pn i ≤ catN pn j := by
  induction j with
  | zero => rw [show i = 0 by omega]; exact Nat.le_refl _
  | succ j ih =>
    by_cases e : i = j + 1
    · subst e; exact Nat.le_refl _
    · have := ih (by omega); show catN pn i ≤ catN pn j + _; omega
theorem GI.congr {w : World} {base g cap m : Nat} {M N : IL} {V : Nat → Nat} {sv : Nat → Value} (h : GI w base g cap m M V sv) (e : ∀ i, i < m → M i = N i) : GI w base g cap m N V sv :=
  ⟨by rw [← icl_congr e (fun _ _ => rfl)]; exact h.own, h.vecs.congr e (fun _ _ => rfl) (fun _ _ => rfl)⟩
/-- Items that grow, which are the first m of N. -/
def GIs (w : World) (base : Nat) (v : Value) (m : Nat) (N : IL) : Prop := ∃ g c V sv, v = .slice (some ⟨g, 0, none⟩) m c ∧ GI w base g c m N V sv

/-- The slices that lie in a block, one cell each. -/
structure Parts (w : World) (pb np : Nat) (pa : Nat → Option Addr) (pn pc : Nat → Nat) (PL : Nat → IL) : Prop where
  lt : pb < w.heap.size
  cell : ∀ i, i < np → w.cell? ⟨pb, i, none⟩ = some (.slice (pa i) (pn i) (pc i))
  row : ∀ i, i < np → IRow w (pa i) (pn i) (PL i)
theorem Parts.below {w w' : World} {pb np : Nat} {pa : Nat → Option Addr} {pn pc : Nat → Nat} {PL : Nat → IL} (h : Parts w pb np pa pn pc PL) (hb : Below w.heap.size w w') : Parts w' pb np pa pn pc PL :=
  ⟨Nat.lt_of_lt_of_le h.lt hb.size, fun i hi => (hb.cell (p := ⟨pb, i, none⟩) h.lt).trans (h.cell i hi), fun i hi => (h.row i hi).below hb⟩

/-- The answer of copiedItems. -/
def CatR (w : World) (m : Nat) (N : IL) (e : Ending) (w' : World) : Prop :=
  ∃ v, e = .returned v ∧ GIs w' w.heap.size v m N ∧ Below w.heap.size w w'

set_option maxHeartbeats 8000000 in
set_option maxRecDepth 4000 in
theorem copiedItems_any (pb np cap : Nat) (pa : Nat → Option Addr) (pn pc : Nat → Nat) (PL : Nat → IL) (w : World) (hp : Parts w pb np pa pn pc PL) (hnp : np ≤ 3) (hN : catN pn np ≤ 1048576) (hv : ∀ i, i < np → ∀ j, j < pn i → (PL i j).vec.length ≤ 1048576) :
    Calls Try.prog 23 #[.slice (some ⟨pb, 0, none⟩) np cap] w fun e w' => CatR w (catN pn np) (catL pn PL np) e w' := by
  obtain ⟨i0, hi, hz0, hz1, hz2⟩ := itemInfo
  have HI := hide hi
  have HP := hide hp
  have HV := hide hv
  clear hp hv hi
  go_enter Try.func23, Try.ntmps23
  go_wp2_with fail
  go_loopw [3, 11] (fun s i wr => ∃ k : Nat, k ≤ np ∧ i = .int .i64 k ∧ GIs wr w.heap.size s (catN pn k) (catL pn PL k) ∧ Below w.heap.size w wr) (fun _ i _ => np - (intOf i).toNat)
  case atStart => exact ⟨0, Nat.zero_le _, rfl, ⟨w.heap.size, 0, fun _ => 0, fun _ => .slice none 0 0, rfl, GI.new _ _ _ _⟩, (by repeat' first | with_reducible exact Below.refl _ _ | with_reducible assumption | with_reducible refine below_drewN ?_ _ | with_reducible refine balloc ?_ _ | with_reducible refine Below.drew ?_ | with_reducible refine Below.setCell ?_ (by first | (simp; done) | (simp; omega) | omega) _ | with_reducible refine bstep ?_ (by assumption))⟩
  case round =>
    obtain ⟨k, hk, rfl, hgi, hbel⟩ := hrel
    have HB := hide hbel
    have HG := hide hgi
    obtain ⟨g1, c1, V1, sv1, rfl, _⟩ := hgi
    by_cases hlt : k < np
    · have hlt' : (k : Int) < (np : Int) := by omega
      have q1 := (HP.out.below (hbel.mono (Nat.le_refl _))).cell k hlt
      have R := HP.out.row k hlt
      have hNk : catN pn k + pn k ≤ 1048576 := Nat.le_trans (catN_mono (show k + 1 ≤ np by omega)) hN
      have HR := hide R
      clear R hbel
      obtain ⟨m, hm⟩ : ∃ m, pn k = m := ⟨_, rfl⟩
      rw [hm] at q1 hNk HR
      have HM := hide hm
      rcases HR.out.lies with h0 | ⟨b, off, epa, lt, hc⟩
      · obtain rfl : m = 0 := h0
        go_wp2_with fail
        refine wp_loop_rounds 1 ?_
        rw [rounds_succ]
        go_wp2_with fail
        go_roundw
        case rel =>
          obtain ⟨g, c, V, sv, e, hg⟩ := HG.out
          exact ⟨k + 1, by omega, by go_num, ⟨g, c, V, sv, by rw [show catN pn (k + 1) = catN pn k + pn k from rfl, HM.out]; exact e, by rw [show catN pn (k + 1) = catN pn k + pn k from rfl, HM.out]; exact hg.congr fun i hi => by simp [catL, hi]⟩, HB.out⟩
        case measure => simp [intOf]; omega
      · rw [epa] at q1
        have HCC := hide hc
        clear hc epa
        go_wp2_with fail
        go_loopw [3, 17] (fun s i wv => ∃ j : Nat, j ≤ m ∧ i = .int .i64 j ∧ GIs wv w.heap.size s (catN pn k + j) (catL pn PL (k + 1)) ∧ Below w.heap.size w wv) (fun _ i _ => m - (intOf i).toNat)
        case atStart =>
          obtain ⟨g, c, V, sv, e, hg⟩ := HG.out
          exact ⟨0, Nat.zero_le _, rfl, ⟨g, c, V, sv, e, hg.congr fun i hi => by simp [catL, hi]⟩, HB.out⟩
        case round =>
          obtain ⟨j, hj, rfl, hgi2, hbel2⟩ := hrel
          have HB2 := hide hbel2
          have hsz := hbel2.size
          obtain ⟨g2, c2, V2, sv2, rfl, hg2⟩ := hgi2
          have HG2 := hide hg2
          by_cases hltj : j < m
          · have hltj' : (j : Int) < (m : Int) := by omega
            obtain ⟨d0, d1, va, vn, vc, d2, vr⟩ := (HCC.out j hltj).below lt hbel2
            have R := hide (fun w1 (h1 : Below wr.heap.size wr w1) => copied_any (PL k j) va vn vc w1 (vr.below h1) (by rw [← vr.len]; exact HV.out k hlt j (by rw [HM.out]; exact hltj)))
            clear hbel2 hg2 vr q1
            go_wp2_with fail
            refine (R.out _ (by repeat' first | with_reducible exact Below.refl _ _ | with_reducible assumption | with_reducible refine below_drewN ?_ _ | with_reducible refine balloc ?_ _ | with_reducible refine Below.drew ?_ | with_reducible refine Below.setCell ?_ (by first | (simp; done) | (simp; omega) | omega) _ | with_reducible refine bstep ?_ (by assumption))).mono ?_
            rintro e w1 ⟨v, gv, rfl, hv1, hb1⟩
            have HV1 := hide hv1
            obtain ⟨a1, c3, rfl, _⟩ := hv1
            have hb0 : Below wr.heap.size wr (wr.alloc (.cells #[.int .i64 (PL k j).id, .int .i64 (PL k j).tags, .slice va vn vc] 27)) := balloc (Below.refl _ _) _
            have HG3 := hide (HG2.out.below hb0)
            have hown := hide ((HG3.out.below hb1).own.alloc (.cells #[.int .i64 (PL k j).id, .int .i64 (PL k j).tags, .slice a1 (PL k j).vec.length c3] 27))
            have hs1 := hb1.size
            have hs0 := hb0.size
            have HB3 := hide (bstep (bstep HB2.out hb0) hb1)
            go_wp2_with (at_builtin; refine wpList_append_lies _ rfl _ _ 24 rfl w.heap.size 27 i0 _ 3 40 Try.underlying24 HI.out hz0 hz1 hz2 rfl (by decide) _ _ _ rfl hown.out ⟨_, 0, none⟩ 1 1 [.int .i64 (PL k j).id, .int .i64 (PL k j).tags, .slice a1 (PL k j).vec.length c3] rfl rfl (three_new _ _ _ _ _) (three_one _ _ _ _ _) (by omega) (by unfold maxLen; omega) (by omega) (by simp; omega) _ rfl ?_)
            intro g5 c5 w5 hown5 hgrow hat5 hglt
            have HG5 := hide (HG3.out.step (by omega) hb1 (PL k j) _ gv HV1.out (balloc (Below.refl _ _) _) hown5 hgrow (by rcases hat5 with h | h; exact .inl h; exact .inr (by simp [h])))
            have HB5 : Hid (Below w.heap.size w w5) := hide ((balloc HB3.out (.cells #[.int .i64 (PL k j).id, .int .i64 (PL k j).tags, .slice a1 (PL k j).vec.length c3] 27)).grown hgrow (by simp; omega) fun k' hk' => (hown.out.lt k' hk').1)
            clear hown5 hgrow hat5 hown HB2 HG2 hb1 hb0 HG3 HB3
            go_wp2_with fail
            go_roundw
            case rel =>
              refine ⟨j + 1, by omega, by go_num, ⟨g5, c5, _, _, rfl, HG5.out.congr fun i hi => ?_⟩, HB5.out⟩
              by_cases e : i = catN pn k + j
              · subst e
                rw [IL.put_at]
                show _ = if catN pn k + j < catN pn k then _ else PL k (catN pn k + j - catN pn k)
                rw [if_neg (by omega), Nat.add_sub_cancel_left]
              · rw [IL.put_off _ _ e]
            case measure => simp [intOf]; omega
          · obtain rfl : j = m := by omega
            clear hbel2 hg2 q1
            go_wp2_with fail
            go_roundw
            case rel => exact ⟨k + 1, by omega, by go_num, ⟨g2, c2, V2, sv2, by rw [show catN pn (k + 1) = catN pn k + pn k from rfl, HM.out], by rw [show catN pn (k + 1) = catN pn k + pn k from rfl, HM.out]; exact HG2.out⟩, HB2.out⟩
            case measure => simp [intOf]; omega
    · obtain rfl : k = np := by omega
      clear hbel
      go_wp2_with fail
      go_ret
      exact ⟨_, rfl, HG.out, HB.out⟩
end Go.Proofs.Ytcbmfannbaaokaa
