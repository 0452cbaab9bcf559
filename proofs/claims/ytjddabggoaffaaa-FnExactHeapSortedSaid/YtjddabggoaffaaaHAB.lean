/- HeapSorted by both, and the walk of FnExactHeapSorted. -/
import Derived.Test.YtjddabggoaffaaaHAA
import Derived.Test.YtjddabggoaffaaaHO
import Derived.Test.YtjddabggoaffaaaHF
import Derived.Test.YtjddabggoaffaaaHM
import Derived.Test.YtjddabggoaffaaaHZ
import Derived.Test.YtjddabggoaffaaaHR
namespace Go.Proofs.Ytjddabggoaffaaa
open Go.RowKit
set_option linter.unusedSimpArgs false
set_option linter.unusedVariables false

set_option maxHeartbeats 400000 in
theorem l6Sorted_none (a : Option Addr) (cap : Nat) (w : World) :
    Calls Try.prog 30 #[.slice a 0 cap] w fun e w' => e = .returned (.slice (some ⟨w.heap.size, 0, none⟩) 0 0) ∧ Below w.heap.size w w' := by
  go_enter Try.func30, Try.ntmps30
  go_wp2_with fail
  refine wp_loop_rounds 1 ?_
  rw [rounds_succ]
  go_wp2_with fail
  go_ret
  exact ⟨rfl, (by repeat' first | with_reducible exact Below.refl _ _ | with_reducible assumption | with_reducible refine below_drewN ?_ _ | with_reducible refine balloc ?_ _ | with_reducible refine Below.drew ?_ | with_reducible refine Below.setCell ?_ (by first | (simp; done) | (simp; omega) | omega) _ | with_reducible refine bstep ?_ (by assumption))⟩

def SortRes (w : World) (l : Nat) (L : NL) (e : Ending) (w' : World) : Prop :=
  ∃ a c, e = .returned (.slice a l c) ∧ Wr w' a l L w.heap.size ∧ Below w.heap.size w w'
def sortN (n : Nat) (ok : Bool) : Nat := if ok then n else 0

theorem l6Sorted_any (a : Option Addr) (n cap : Nat) (f g : Nat → Int) (w : World) (h : PRow w a n f g) (hn : n ≤ 20) :
    Calls Try.prog 30 #[.slice a n cap] w fun e w' => SortRes w n (isortL n (listL n f g)) e w' := by
  by_cases h0 : n = 0
  · subst h0
    exact (l6Sorted_none a cap w).mono fun e w' ⟨he, hb⟩ => ⟨_, _, he, .inl rfl, hb⟩
  · rcases h.lies with q | ⟨b, off, rfl, lt, hc⟩
    · exact absurd q h0
    · refine (l6Sorted_some b off n cap f g w (by omega) lt hc).mono fun e w' ⟨g5, c5, M, he, hrc, hM, hb⟩ => ?_
      exact ⟨_, _, he, .inr ⟨g5, rfl, hrc.base, hrc.rowl.congr hM⟩, hb⟩

theorem heapB_n {K : Int} {n : Nat} {f g : Nat → Int} (h : heapB K n f g = true) : n ≤ 20 := by
  unfold heapB inB at h
  simp only [Bool.and_eq_true, decide_eq_true_eq] at h
  omega

set_option maxHeartbeats 1600000 in
theorem sSort_any (K : Int) (a : Option Addr) (n cap : Nat) (f g : Nat → Int) (w : World) (h : PRow w a n f g) :
    Calls Try.prog 13 #[.agg #[.int .i64 K, .slice a n cap]] w fun e w' => SortRes w (sortN n (heapB K n f g)) (isortL n (listL n f g)) e w' := by
  have HO := hide (fun w1 (hb : Below w.heap.size w w1) => sHeapOk_any K a n cap f g w1 (h.below hb))
  cases hv : heapB K n f g
  · rw [hv] at HO
    clear h
    go_enter Try.func13, Try.ntmps13
    go_wp2_with fail
    refine (HO.out _ (by repeat' first | with_reducible exact Below.refl _ _ | with_reducible assumption | with_reducible refine below_drewN ?_ _ | with_reducible refine balloc ?_ _ | with_reducible refine Below.drew ?_ | with_reducible refine Below.setCell ?_ (by first | (simp; done) | (simp; omega) | omega) _ | with_reducible refine bstep ?_ (by assumption))).mono ?_
    rintro e w1 ⟨rfl, hb1⟩
    go_wp2_with fail
    go_ret
    exact ⟨none, 0, rfl, .inl rfl, (by repeat' first | with_reducible exact Below.refl _ _ | with_reducible assumption | with_reducible refine below_drewN ?_ _ | with_reducible refine balloc ?_ _ | with_reducible refine Below.drew ?_ | with_reducible refine Below.setCell ?_ (by first | (simp; done) | (simp; omega) | omega) _ | with_reducible refine bstep ?_ (by assumption))⟩
  · rw [hv] at HO
    have hn := heapB_n hv
    have LS := hide (fun w1 (hb : Below w.heap.size w w1) => l6Sorted_any a n cap f g w1 (h.below hb) hn)
    clear h hv
    go_enter Try.func13, Try.ntmps13
    go_wp2_with fail
    refine (HO.out _ (by repeat' first | with_reducible exact Below.refl _ _ | with_reducible assumption | with_reducible refine below_drewN ?_ _ | with_reducible refine balloc ?_ _ | with_reducible refine Below.drew ?_ | with_reducible refine Below.setCell ?_ (by first | (simp; done) | (simp; omega) | omega) _ | with_reducible refine bstep ?_ (by assumption))).mono ?_
    rintro e w1 ⟨rfl, hb1⟩
    have h1 : w1.cell? ⟨w.heap.size, 1, none⟩ = some (.slice a n cap) := (hb1.cell (p := ⟨w.heap.size, 1, none⟩) (by simp)).trans (by simp [go_sem])
    have B1 : Below w.heap.size w w1 := (by repeat' first | with_reducible exact Below.refl _ _ | with_reducible assumption | with_reducible refine below_drewN ?_ _ | with_reducible refine balloc ?_ _ | with_reducible refine Below.drew ?_ | with_reducible refine Below.setCell ?_ (by first | (simp; done) | (simp; omega) | omega) _ | with_reducible refine bstep ?_ (by assumption))
    have s1 := B1.size
    clear hb1
    go_wp2_with fail
    refine (LS.out _ B1).mono ?_
    rintro e w2 ⟨a2, c2, rfl, wr2, hb2⟩
    go_wp2_with fail
    go_ret
    refine ⟨a2, c2, rfl, ?_, (by repeat' first | with_reducible exact Below.refl _ _ | with_reducible assumption | with_reducible refine below_drewN ?_ _ | with_reducible refine balloc ?_ _ | with_reducible refine Below.drew ?_ | with_reducible refine Below.setCell ?_ (by first | (simp; done) | (simp; omega) | omega) _ | with_reducible refine bstep ?_ (by assumption))⟩
    rcases wr2 with h0 | ⟨b, e, hB, hr⟩
    · exact .inl h0
    · exact .inr ⟨b, e, by omega, hr⟩

theorem iSort_any (K : Int) (a : Option Addr) (n cap : Nat) (f g : Nat → Int) (w : World) (h : PRow w a n f g) :
    Calls Try.prog 14 #[.agg #[.int .i64 K, .slice a n cap]] w fun e w' => SortRes w (sortN n (heapB K n f g)) (isortL n (listL n f g)) e w' := by
  cases hv : heapB K n f g
  · exact (iHeapSorted_no K a n cap f g w h hv).mono fun e w' ⟨he, hb⟩ => ⟨none, 0, he, .inl rfl, hb⟩
  · exact (iHeapSorted_yes K a n cap f g w h hv (heapB_n hv)).mono fun e w' ⟨b, he, hB, ho, hb⟩ => ⟨_, _, he, .inr ⟨b, rfl, hB, ho.rowl.congr (sorts_alike n _ (listL_heap hv))⟩, hb⟩

theorem sortN_le {K : Int} {n : Nat} {f g : Nat → Int} : sortN n (heapB K n f g) ≤ 20 := by
  unfold sortN
  cases h : heapB K n f g
  · simp
  · exact heapB_n h

set_option maxHeartbeats 16000000 in
set_option maxRecDepth 8000 in
theorem exactHeapSorted_in (K : Int) (a : Option Addr) (n cap : Nat) (f g : Nat → Int) (w : World) (hp : PRow w a n f g) (hl : n ≤ 9223372036854775807) (hn : n ≤ 1048576)
    (lP : Nat) (LP : NL) (hlP : lP ≤ 20)
    (SP : Hid (∀ b w1, OwnN w1 b n f g → Calls Try.prog 13 #[.agg #[.int .i64 K, .slice (some ⟨b, 0, none⟩) n n]] w1 fun e w' => SortRes w1 lP LP e w'))
    (IP : Hid (∀ b w1, OwnN w1 b n f g → Calls Try.prog 14 #[.agg #[.int .i64 K, .slice (some ⟨b, 0, none⟩) n n]] w1 fun e w' => SortRes w1 lP LP e w')) :
    Calls Try.prog 4 #[.agg #[.int .i64 K, .slice a n cap]] w fun e w' => e = .returned (.bool true) ∧ Below w.heap.size w w' := by
  have SZ := hide (fun w1 => szHeap_any K a n cap 1048576 w1 (by omega) (by omega) hl)
  simp only [if_neg (show ¬ (1048576 : Int) - (n : Int) < 0 by omega)] at SZ
  have HP := hide hp
  clear hp
  have TR := hide (fun w1 (hb : Below w.heap.size w w1) => toHeap_any K a n cap f g w1 (HP.out.below hb) hn)
  have EQ := hide (fun b b' w1 (h : OwnN w1 b n f g) (h' : OwnN w1 b' n f g) => eqHeap_self K (some ⟨b, 0, none⟩) (some ⟨b', 0, none⟩) n n n f g w1 h.prow h'.prow hn)
  have EG := hide (fun a1 a2 c1 c2 w1 (h : PRow w1 a1 lP (fun i => (LP i).1) (fun i => (LP i).2)) (h' : PRow w1 a2 lP (fun i => (LP i).1) (fun i => (LP i).2)) => eqNearS_self a1 a2 lP c1 c2 _ _ w1 h h' (by omega))
  have hnl : ¬ (1048576 : Int) - (n : Int) < 0 := by omega
  go_enter Try.func4, Try.ntmps4
  go_wp2_with fail
  refine (SZ.out _).mono ?_
  rintro e w0 ⟨rfl, hb0⟩
  have A0 := (HBx.fresh w 24 K a n cap).below hb0
  have B0 : Below w.heap.size w w0 := (by repeat' first | with_reducible exact Below.refl _ _ | with_reducible assumption | with_reducible refine below_drewN ?_ _ | with_reducible refine balloc ?_ _ | with_reducible refine Below.drew ?_ | with_reducible refine Below.setCell ?_ (by first | (simp; done) | (simp; omega) | omega) _ | with_reducible refine bstep ?_ (by assumption))
  clear hb0 SZ
  have A0' := A0
  obtain ⟨l0, x0, x1⟩ := A0'
  go_wp2_with fail
  refine (TR.out _ B0).mono ?_
  rintro e wq ⟨b1, rfl, l1, o1, hb1⟩
  go_wp2_with fail
  refine (SP.out _ _ o1).mono ?_
  rintro e w1 ⟨aW, cW, rfl, wrW, hb2⟩
  have B1x : Below w.heap.size w w1 := (by repeat' first | with_reducible exact Below.refl _ _ | with_reducible assumption | with_reducible refine below_drewN ?_ _ | with_reducible refine balloc ?_ _ | with_reducible refine Below.drew ?_ | with_reducible refine Below.setCell ?_ (by first | (simp; done) | (simp; omega) | omega) _ | with_reducible refine bstep ?_ (by assumption))
  have HA1 := hide ((A0.below hb1).below hb2)
  have s1x := B1x.size
  have HR1 := hide wrW
  clear hb1 hb2 o1 l1 A0 B0 l0 x0 x1 wrW
  have q0 := HA1.out.c0
  have q1 := HA1.out.c1
  go_wp2_with fail
  refine (TR.out _ B1x).mono ?_
  rintro e w3 ⟨b3, rfl, l3, o3, hb3⟩
  clear q0 q1
  go_wp2_with fail
  generalize hw4 : w3.alloc _ = w4
  have B34 : Below w3.heap.size w3 w4 := by rw [← hw4]; exact balloc (Below.refl _ _) _
  have X4 : HBx w4 w3.heap.size K (some ⟨b3, 0, none⟩) n n := by rw [← hw4]; exact HBx.fresh _ _ _ _ _ _
  have o4 := o3.below B34
  have lt3 := o3.lt
  have K4 : Below w1.heap.size w1 w4 := bstep hb3 B34
  have s4 := K4.size
  have s34 := B34.size
  clear hw4 B34 o3 hb3
  refine (IP.out _ _ o4).mono ?_
  rintro e w5 ⟨aG, cG, rfl, wrG, hb5⟩
  have K5 := bstep K4 hb5
  have o5 := o4.below hb5
  have HX := hide (X4.below hb5)
  have HRG := hide wrG
  have s5 := hb5.size
  clear hb5 wrG K4 o4 X4
  have EG5 := hide (EG.out aG aW cG cW w5 HRG.out.prow (HR1.out.below K5).prow)
  go_wp2_with fail
  refine EG5.out.mono ?_
  rintro e w6 ⟨rfl, hb6⟩
  have K6 := bstep K5 hb6
  have o6 := o5.below hb6
  have H2 := hide (HB2.mk (HA1.out.below K6) (HX.out.below hb6))
  have HRG := hide (HRG.out.below hb6)
  have s6 := hb6.size
  clear hb6 EG5 HX K5 o5
  go_upto_region 10 with fail
  refine wp_region_held_drew (S := fun wx => HB2 wx w.heap.size K a n cap w3.heap.size (some ⟨b3, 0, none⟩) n n) (by kernel_rfl) (H2.out.drew) (fun hH0 => ?_)
  refine wpAnyH_take (i := 0) (oi := { dst := some 27, op := _, type := _, pos := _, after := _, guard := _ }) (v := ?_) rfl (by kernel_rfl) (by kernel_rfl) (by kernel_rfl) (fun _ _ _ h => h) (Or.inl ⟨by rfl, ?_⟩) (hH0) ?_
  rotate_left
  · (intro wx hSw; obtain ⟨⟨l0, q0, q1⟩, ⟨l1, q2, q3⟩⟩ := hSw; go_simp <;> with_reducible rfl)
  simp only [Act.put, List.setIfInBounds_toArray, List.set_cons_zero, List.set_cons_succ]
  refine wpAnyH_take (i := 1) (oi := { dst := some 28, op := _, type := _, pos := _, after := _, guard := _ }) (v := ?_) rfl (by kernel_rfl) (by kernel_rfl) (by kernel_rfl) (fun _ _ _ h => h) (Or.inl ⟨by rfl, ?_⟩) (hH0) ?_
  rotate_left
  · (intro wx hSw; obtain ⟨⟨l0, q0, q1⟩, ⟨l1, q2, q3⟩⟩ := hSw; go_simp <;> with_reducible rfl)
  simp only [Act.put, List.setIfInBounds_toArray, List.set_cons_zero, List.set_cons_succ]
  refine wpAnyH_ready (rs := [2]) (by kernel_rfl) (by simp) ?_
  refine AllReadyH.cons (o := { dst := some 29, op := _, type := _, pos := _, after := _, guard := _ }) rfl (fun KK hKK => ?_) AllReadyH.nil
  go_simp
  refine (TR.out _ (B1x.trans ((bstep K6 (Below.drew (Below.refl _ _))).mono s1x))).mono ?_
  rintro e w_c29_1 ⟨bq, rfl, lq, oq, hb_c29_1⟩
  dsimp only
  refine hKK.out _ _ (HB2.below hH0 hb_c29_1) (fun hH1 => ?_)
  clear hKK KK
  refine wpAnyH_ready (rs := [3]) (by kernel_rfl) (by simp) ?_
  refine AllReadyH.cons (o := { dst := some 30, op := _, type := _, pos := _, after := _, guard := _ }) rfl (fun KK hKK => ?_) AllReadyH.nil
  go_simp
  refine (EQ.out _ _ _ (o6.below (bstep (Below.drew (Below.refl _ _)) hb_c29_1)) oq).mono ?_
  rintro e w_c30_2 ⟨rfl, hb_c30_2⟩
  dsimp only
  refine hKK.out _ _ (HB2.below hH1 hb_c30_2) (fun hH2 => ?_)
  clear hKK KK
  refine wpAnyH_take (i := 4) (oi := { dst := some 31, op := _, type := _, pos := _, after := _, guard := _ }) (v := ?_) rfl (by kernel_rfl) (by kernel_rfl) (by kernel_rfl) (fun _ _ _ h => h) (Or.inl ⟨by rfl, ?_⟩) (hH2) ?_
  rotate_left
  · (intro wx hSw; obtain ⟨⟨l0, q0, q1⟩, ⟨l1, q2, q3⟩⟩ := hSw; go_simp <;> with_reducible rfl)
  simp only [Act.put, List.setIfInBounds_toArray, List.set_cons_zero, List.set_cons_succ]
  refine wpAnyH_done (by kernel_rfl) ?_ _
  -- behind it: go_wp2_with fail, then go_meet (a cut) or go_ret; the condition at the end: hH2
  have K7 := bstep K6 (bstep (bstep (Below.drew (Below.refl _ w6)) hb_c29_1) hb_c30_2)
  have L7 := bstep (bstep (Below.drew (Below.refl _ w6)) hb_c29_1) hb_c30_2
  have o7 := o6.below L7
  have HRG := hide (HRG.out.below L7)
  have X7 := hH2.two
  have s7 := L7.size
  clear hH0 hH1 hH2 hb_c29_1 hb_c30_2 oq o6 K6 L7 H2
  generalize w_c30_2 = w7 at K7 o7 HRG X7 s7 ⊢
  have MX := hide (markHeap_any K (some ⟨b3, 0, none⟩) n n w1.heap.size 1 (fun i => (f i, g i)) w7 (.inr ⟨b3, rfl, l3, o7.rowl⟩) hn (by omega) (by omega))
  have x1 := X7.c0
  have x2 := X7.c1
  go_wp2_with fail
  refine MX.out.mono ?_
  rintro e w8 ⟨rfl, _, t8⟩
  have K8 := K7.trans (t8.low (Nat.le_refl _) K7.size)
  have HRG := hide (HRG.out.turn t8 (by omega))
  have hkk : ¬ (1 + 2 * (n : Int)) < 0 := by omega
  clear x1 x2 MX t8 o7 X7 K7
  have EG8 := hide (EG.out aG aW cG cW w8 HRG.out.prow (HR1.out.below K8).prow)
  go_wp2_with fail
  refine EG8.out.mono ?_
  rintro e w9 ⟨rfl, hb9⟩
  have K9 := bstep K8 hb9
  have HRG := hide (HRG.out.below hb9)
  clear hb9 EG8 K8
  have MG := hide (markNearS_any aG lP cG w4.heap.size 1 LP w9 HRG.out (by omega) (by omega) (by omega))
  go_wp2_with fail
  refine MG.out.mono ?_
  rintro e w10 ⟨rfl, m10, t10⟩
  have K10 := K9.trans (t10.low (X := w1.heap.size) s4 K9.size)
  have HM := hide m10
  have hm0 : ¬ (1 + 2 * (lP : Int)) < 0 := by omega
  have hmm : ((1 + 2 * (lP : Int)) != (1 + 2 * (lP : Int))) = false := by simp
  clear t10 m10 MG K9 HRG
  have HL := hide (heldNearS_any aG lP cG w4.heap.size 1 w10 HM.out (by omega) (by omega) (by omega))
  go_wp2_with fail
  refine HL.out.mono ?_
  rintro e wA ⟨rfl, hwA⟩
  subst hwA
  have BA := B1x.trans (K10.mono s1x)
  have q0 := (HA1.out.below K10).c0
  have q1 := (HA1.out.below K10).c1
  clear HL
  go_wp2_with fail
  refine (TR.out _ BA).mono ?_
  rintro e wB ⟨bB, rfl, lB, oB, hbB⟩
  have KB := bstep K10 hbB
  have HM := hide (HM.out.below hbB)
  clear q0 q1 hbB K10 BA
  go_wp2_with fail
  refine (IP.out _ _ oB).mono ?_
  rintro e wC ⟨aH, cH, rfl, wrH, hbC⟩
  have KC := bstep KB hbC
  have HM := hide (HM.out.below hbC)
  have EGC := hide (EG.out aH aW cH cW wC wrH.prow (HR1.out.below KC).prow)
  clear hbC KB wrH oB
  go_wp2_with fail
  refine EGC.out.mono ?_
  rintro e wD ⟨rfl, hbD⟩
  have KD := bstep KC hbD
  have HM := hide (HM.out.below hbD)
  clear hbD KC EGC
  have HLD := hide (heldNearS_any aG lP cG w4.heap.size 1 wD HM.out (by omega) (by omega) (by omega))
  go_wp2_with fail
  refine HLD.out.mono ?_
  rintro e wE ⟨rfl, hwE⟩
  subst hwE
  go_wp2_with fail
  go_ret
  exact ⟨rfl, B1x.trans (KD.mono s1x)⟩

set_option maxHeartbeats 1600000 in
theorem exactHeapSorted_walk (K : Int) (a : Option Addr) (n cap : Nat) (f g : Nat → Int) (w : World) (h : IsPairs w a n f g) :
    Calls Try.prog 4 #[.agg #[.int .i64 K, .slice a n cap]] w fun e w' => e = .returned (.bool true) ∧ Below w.heap.size w w' := by
  obtain ⟨hp, hl⟩ := h
  by_cases hn : n ≤ 1048576
  · exact exactHeapSorted_in K a n cap f g w hp hl hn _ _ (sortN_le (K := K) (f := f) (g := g)) (hide fun b w1 h => sSort_any K (some ⟨b, 0, none⟩) n n f g w1 h.prow) (hide fun b w1 h => iSort_any K (some ⟨b, 0, none⟩) n n f g w1 h.prow)
  · have SZ := hide (fun w1 => szHeap_any K a n cap 1048576 w1 (by omega) (by omega) hl)
    simp only [if_pos (show (1048576 : Int) - (n : Int) < 0 by omega)] at SZ
    go_enter Try.func4, Try.ntmps4
    go_wp2_with fail
    refine (SZ.out _).mono ?_
    rintro e w0 ⟨rfl, hw0⟩
    go_wp2_with fail
    go_ret
    exact ⟨rfl, (by repeat' first | with_reducible exact Below.refl _ _ | with_reducible assumption | with_reducible refine below_drewN ?_ _ | with_reducible refine balloc ?_ _ | with_reducible refine Below.drew ?_ | with_reducible refine Below.setCell ?_ (by first | (simp; done) | (simp; omega) | omega) _ | with_reducible refine bstep ?_ (by assumption))⟩
end Go.Proofs.Ytjddabggoaffaaa
