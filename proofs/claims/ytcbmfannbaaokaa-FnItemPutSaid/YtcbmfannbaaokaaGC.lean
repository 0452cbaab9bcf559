/- The reader of drawn bytes: items. -/
import Derived.Test.YtcbmfannbaaokaaGB
import Derived.Test.YtcbmfannbaaokaaJB
namespace Go.Proofs.Ytcbmfannbaaokaa
open Go.RowKit
set_option linter.unusedSimpArgs false
set_option linter.unusedVariables false

theorem VSl.but {rb : Nat} {w w' : World} {B C : Nat} {v : Value} {xs : List Int} {b : Nat} (h : VSl w B C v xs b) (hb : But rb w w') (hr : rb < B) : VSl w' B C v xs b :=
  h.keep fun k h1 _ lt => hb.block k lt (by omega)
theorem GI.but {rb : Nat} {w w' : World} {base g cap m : Nat} {M : IL} {V : Nat → Nat} {sv : Nat → Value} (h : GI w base g cap m M V sv) (hb : But rb w w') (hr : rb < base) : GI w' base g cap m M V sv := by
  obtain ⟨h1, cur, hg, h2⟩ := h.shape
  exact ⟨⟨icl_len _ _ _, .inr ⟨g, cap, cur, rfl, h1, (hb.block g h.lt (by omega)).trans hg, h2⟩⟩, fun i hi => ((h.vecs.vec i hi).but hb hr).mono (Nat.le_refl _) hb.size, h.vecs.sep⟩

theorem But.ofLow {g : Nat} {a b : World} (h : Below a.heap.size a b) : But g a b := ⟨h.os, h.tape, h.output, h.size, fun k hk _ => h.block k hk⟩
theorem putM_pos (n : Nat) (L : IL) (x : It) : 1 ≤ putM n L x := by
  unfold putM isAt
  split
  · rename_i h
    simp only [decide_eq_true_eq] at h
    omega
  · omega
theorem itemB_len {dim : Int} {x : It} (h : itemB dim x = true) : (x.vec.length : Int) = dim := by
  unfold itemB at h
  simp only [Bool.and_eq_true, decide_eq_true_eq] at h
  exact h.2
/-- What is put has vectors of that many numbers. -/
theorem put_len {d n : Nat} {L : IL} {x : It} (hL : ∀ j, j < n → (L j).vec.length = d) (hx : x.vec.length = d) (hp : plc L x.id n ≤ n) : ∀ j, j < putM n L x → (putA n L x j).vec.length = d := by
  intro j hj
  unfold putA putI
  unfold putM at hj
  by_cases h1 : j < plc L x.id n
  · rw [if_pos h1]; exact hL j (by omega)
  · rw [if_neg h1]
    by_cases h2 : j = plc L x.id n
    · rw [if_pos h2]; exact hx
    · rw [if_neg h2]
      cases hf : isAt n L x.id
      · rw [hf] at hj
        simp only [Bool.false_eq_true, if_false] at hj ⊢
        exact hL (j - 1) (by omega)
      · rw [hf] at hj
        simp only [if_true] at hj ⊢
        exact hL j hj

/-- Items that are being drawn: all in memory that is younger than w. -/
def DIt (w wr : World) (d : Nat) (v : Value) : Prop :=
  ∃ g cp m M V sv, v = .slice (some ⟨g, 0, none⟩) m cp ∧ GI wr w.heap.size g cp m M V sv ∧ m ≤ 60 ∧ ∀ j, j < m → (M j).vec.length = d
theorem plc_le (L : IL) (id : Int) (n : Nat) : plc L id n ≤ n := by
  induction n with
  | zero => exact Nat.le_refl _
  | succ n ih => unfold plc; split <;> omega

def ItemsPost (B : Nat) (w : World) (rb : Nat) (a : Option Addr) (n c d : Nat) (e : Ending) (w' : World) : Prop :=
  ∃ v, e = .returned v ∧ DIt w w' d v ∧ Rd B w' rb a n c ∧ But rb w w'

set_option maxHeartbeats 4000000 in
theorem items_any (B rb n c : Nat) (a : Option Addr) (d : Nat) (w : World) (h : Rd B w rb a n c) (hB : B ≤ w.heap.size) (d1 : 1 ≤ d) (hd : d ≤ 8) :
    Calls Try.prog 34 #[.pointer (some ⟨rb, 0, none⟩), .int .i64 d] w fun e w' => ItemsPost B w rb a n c d e w' := by
  have SZ := hide (fun w (h : Rd B w rb a n c) => size_any B rb n c a 9 22 w h (by omega) (by omega) (by omega) (by omega))
  have ON := hide (fun w (h : Rd B w rb a n c) => once_any B rb n c a 40 w h (by omega) (by omega))
  have IT := hide (fun w (h : Rd B w rb a n c) (hB : B ≤ w.heap.size) => item_any B rb n c a d w h hB d1 (by omega))
  have HR := hide h
  have hlt := h.lt
  clear h
  go_enter Try.func34, Try.ntmps34
  go_wp2_with fail
  refine (SZ.out _ (HR.out.alloc _)).mono ?_
  rintro e w1 ⟨k0, rfl, k1, k2, r1, b1⟩
  have PUT := hide (fun (g cp m : Nat) (M : IL) (i t : Int) (f : Nat → Int) (gv cv : Nat) w1 (h : IRow w1 (some ⟨g, 0, none⟩) m M) (hm : m ≤ 60) (hl : ∀ j, j < m → (M j).vec.length = d) (hr : Row w1 (some ⟨gv, 0, none⟩) d (ints f d)) => sItemPut_anyG (d : Int) (some ⟨g, 0, none⟩) m cp M ⟨i, t, ints f d⟩ (some ⟨gv, 0, none⟩) d cv w1 h (by omega) (fun j hj => by rw [hl j hj]; omega) hr (by omega))
  have HB1 := hide (((But.refl rb w).alloc (.cells #[] 27)).trans b1)
  have HD1 : Hid (DIt w w1 d (.slice (some ⟨w.heap.size, 0, none⟩) 0 0)) := hide ⟨w.heap.size, 0, 0, fun _ => ⟨0, 0, []⟩, fun _ => 0, fun _ => .slice none 0 0, rfl, (GI.new w _ _ _).but b1 hlt, by omega, fun j hj => absurd hj (by omega)⟩
  have HR1 := hide r1
  obtain ⟨k, rfl⟩ : ∃ k : Nat, k0 = (k : Int) := ⟨k0.toNat, by omega⟩
  clear b1 r1 SZ HR
  go_wp2_with fail
  go_loopw [5, 6] (fun l i wr => ∃ k : Nat, k ≤ 22 ∧ i = .int .i64 k ∧ DIt w wr d l ∧ Rd B wr rb a n c ∧ But rb w wr) (fun _ i _ => (intOf i).toNat)
  case atStart => exact ⟨k, by omega, rfl, HD1.out, HR1.out, HB1.out⟩
  case round =>
    clear HB1 HD1 HR1
    obtain ⟨k, hk, rfl, ⟨g, cp, m, M, V, sv, rfl, hg, hm, hl⟩, hr, hb⟩ := hrel
    have HG := hide hg
    have HL := hide hl
    have HR := hide hr
    have HB := hide hb
    have hs := hb.size
    clear hg hl hr hb
    by_cases h0 : 0 < k
    · have h0' : (0 : Int) < (k : Int) := by omega
      go_wp2_with fail
      refine (IT.out _ HR.out (by omega)).mono ?_
      rintro e w2 ⟨i, t, gv, cv, f, rfl, o2, r2, b2⟩
      obtain ⟨a', c', e', row, _⟩ := row_of_owns o2
      cases e'
      have HG2 := hide (HG.out.but b2 hlt)
      have HR2 := hide r2
      have HB2 := hide (HB.out.trans b2)
      have s2 := b2.size
      clear o2 r2 b2 HG HR HB
      go_wp2_with fail
      refine (PUT.out g cp m M i t f gv cv w2 HG2.out.its.irow hm HL.out row).mono ?_
      rintro e w3 ⟨v3, rfl, hv3, b3⟩
      have HR3 := hide (HR2.out.stays b3)
      have HB3 := hide (HB2.out.trans (But.ofLow b3))
      obtain ⟨q, hq⟩ : ∃ q, putC d m M ⟨i, t, ints f d⟩ = q := ⟨_, rfl⟩
      rw [hq]
      by_cases hq0 : q = 0
      · subst hq0
        have hok : putOk d m M ⟨i, t, ints f d⟩ = true ∧ putM m M ⟨i, t, ints f d⟩ ≤ 60 := by
          unfold putC at hq
          split at hq
          · rename_i h1
            split at hq
            · rename_i h2; exact ⟨h1, h2⟩
            · omega
          · omega
        have hT : putT d m M ⟨i, t, ints f d⟩ = putM m M ⟨i, t, ints f d⟩ := by unfold putT; rw [hok.1, if_pos rfl, if_pos hok.2]
        have hpos := putM_pos m M ⟨i, t, ints f d⟩
        have HD : Hid (DIt w w3 d v3) := by
          rcases hv3 with ⟨_, h0⟩ | ⟨g3, c3, V3, s3, rfl, hg3⟩
          · omega
          · rw [hT] at hg3 ⊢
            exact hide ⟨g3, c3, _, _, V3, s3, rfl, hg3.low (by omega), hok.2, put_len HL.out (ints_len f d) (plc_le _ _ _)⟩
        clear hv3 hq hok hT hpos HG2 HL b3 HR2 HB2 PUT IT row
        go_wp2_with fail
        go_roundw
        case rel => exact ⟨k - 1, by omega, by go_num, HD.out, HR3.out, HB3.out⟩
        case measure => simp [intOf]; omega
      · have hqb : (q == 0) = false := by simp [hq0]
        have HD : Hid (DIt w w3 d (.slice (some ⟨g, 0, none⟩) m cp)) := hide ⟨g, cp, m, M, V, sv, rfl, HG2.out.below b3, hm, HL.out⟩
        clear hv3 hq HG2 HL b3 HR2 HB2 PUT IT row
        go_wp2_with fail
        go_roundw
        case rel => exact ⟨k - 1, by omega, by go_num, HD.out, HR3.out, HB3.out⟩
        case measure => simp [intOf]; omega
    · obtain rfl : k = 0 := by omega
      go_wp2_with fail
      refine (ON.out _ HR.out).mono ?_
      rintro e w2 ⟨o, rfl, r2, b2⟩
      have HG2 := hide (HG.out.but b2 hlt)
      have HR2 := hide r2
      have HB2 := hide (HB.out.trans b2)
      clear r2 b2 HG HR HB
      cases o
      · go_wp2_with fail
        go_ret
        exact ⟨_, rfl, ⟨g, cp, m, M, V, sv, rfl, HG2.out, hm, HL.out⟩, HR2.out, HB2.out⟩
      · go_wp2_with fail
        go_loopw [5, 9] (fun l i wr => ∃ k : Nat, 100 ≤ k ∧ k ≤ 170 ∧ i = .int .i64 k ∧ DIt w wr d l ∧ Rd B wr rb a n c ∧ But rb w wr) (fun _ i _ => 170 - (intOf i).toNat)
        case atStart => exact ⟨100, by omega, by omega, rfl, ⟨g, cp, m, M, V, sv, rfl, HG2.out, hm, HL.out⟩, HR2.out, HB2.out⟩
        case round =>
          clear HG2 HL HR2 HB2
          obtain ⟨k, hk0, hk, rfl, ⟨g, cp, m, M, V, sv, rfl, hg, hm, hl⟩, hr, hb⟩ := hrel
          have HG := hide hg
          have HL := hide hl
          have HR := hide hr
          have HB := hide hb
          have hs := hb.size
          obtain ⟨p, hp, hblk⟩ := hr.blk
          have c0 := rd_cell0 hblk
          clear hg hl hr hb hblk
          by_cases h1 : k < 170
          · have h1' : decide ((k : Int) < 170) = true := by simp; omega
            have n0 : 0 ≤ (n : Int) % 2 := Int.emod_nonneg _ (by omega)
            have n1 : (n : Int) % 2 < 2 := Int.emod_lt_of_pos _ (by omega)
            by_cases h2 : (m : Int) < 59 + (n : Int) % 2
            · obtain ⟨i0, hi, hz0, hz1, hz2⟩ := itemInfo
              have hmk := run_make_row' (P := Try.prog) 25 2 (.int .i64 0) 8 Try.underlying25 Try.infoI64 rfl .i64 .i64 d (by omega) (by omega) wr
              obtain ⟨W, hW⟩ : ∃ W, wr.alloc (.cells (madeCells #[.int .i64 0] d) 2) = W := ⟨_, rfl⟩
              have sW : W.heap.size = wr.heap.size + 1 := by rw [← hW]; simp
              have bW : Below wr.heap.size wr W := hW ▸ balloc (Below.refl _ _) _
              have vW : VSl W wr.heap.size W.heap.size (.slice (some ⟨wr.heap.size, 0, none⟩) d d) (ints (fun _ => 0) d) wr.heap.size := by
                refine ⟨_, d, by rw [ints_len], .inr ⟨rfl, Nat.le_refl _, by omega, ?_⟩⟩
                rw [ints_len]
                obtain ⟨cs, hc, hsz, hv⟩ := World.rowIs_made wr (.int .i64 0) d 2
                rw [hW] at hc
                exact ⟨cs, hc, hsz, Nat.le_refl _, .inr rfl, fun j hj => by rw [hv j hj]; simp [intF, nth_ints _ _ _ hj]⟩
              have howns := hide ((HG.out.below bW).own.alloc (.cells #[.int .i64 k, .int .i64 0, .slice (some ⟨wr.heap.size, 0, none⟩) d d] 27))
              rw [hW] at hmk
              have HW := hide hW
              have VW := hide vW
              have BW := hide bW
              have SW := hide sW
              clear hW vW bW sW
              go_wp2_with (at_builtin; refine wpList_append_lies _ rfl _ _ 24 rfl w.heap.size 27 i0 _ 3 40 Try.underlying24 hi hz0 hz1 hz2 rfl (by decide) _ _ _ rfl howns.out ⟨_, 0, none⟩ 1 1 [.int .i64 k, .int .i64 0, .slice (some ⟨wr.heap.size, 0, none⟩) d d] rfl rfl (three_new _ _ _ _ _) (three_one _ _ _ _ _) (by omega) (by unfold maxLen; omega) (by omega) (by have := SW.out; simp; omega) _ rfl ?_)
              intro g5 c5 w5 hown5 hgrow hat5 hglt
              have sW := SW.out
              have HG5 := hide (HG.out.step hs BW.out ⟨k, 0, ints (fun _ => 0) d⟩ _ _ VW.out (balloc (Below.refl _ _) _) hown5 hgrow (by rcases hat5 with h | h; exact .inl h; exact .inr (by simp [h])))
              have HR5 := hide ((HR.out.stays BW.out).app hlt hB (HG.out.below BW.out).own hgrow)
              have HB5 := hide (but_app (HB.out.trans (But.ofLow BW.out)) (HG.out.below BW.out).own hgrow)
              have HL5 : Hid (∀ j, j < m + 1 → ((M.put m ⟨k, 0, ints (fun _ => 0) d⟩) j).vec.length = d) := hide (by
                intro j hj
                by_cases e : j = m
                · subst e; rw [IL.put_at]; exact ints_len _ _
                · rw [IL.put_off _ _ e]; exact HL.out j (by omega))
              clear hown5 hgrow hat5 hglt howns HG HR HB HL BW VW HW SW hmk
              go_wp2_with fail
              go_roundw
              case rel => exact ⟨k + 1, by omega, by omega, by go_num, ⟨g5, c5, m + 1, _, _, _, rfl, HG5.out, by omega, HL5.out⟩, HR5.out, HB5.out⟩
              case measure => simp [intOf]; omega
            · go_wp2_with fail
              go_ret
              exact ⟨_, rfl, ⟨g, cp, m, M, V, sv, rfl, HG.out, hm, HL.out⟩, HR.out, HB.out⟩
          · have h1' : decide ((k : Int) < 170) = false := by simp; omega
            go_wp2_with fail
            go_ret
            exact ⟨_, rfl, ⟨g, cp, m, M, V, sv, rfl, HG.out, hm, HL.out⟩, HR.out, HB.out⟩
end Go.Proofs.Ytcbmfannbaaokaa
