/- ReadHit of the model: the walk. -/
import Derived.Test.YtecheolhmohhjaaDoorSH5
import Derived.Test.YtecheolhmohhjaaDoorSC3
namespace Go.Proofs.YtecheolhmohhjaaDoor
open Go.RowKit
set_option maxRecDepth 8000
set_option linter.unusedSimpArgs false
set_option linter.unusedVariables false

set_option maxHeartbeats 4000000 in
theorem sReadHit_any (s : ByteArray) (w : World) (hs : s.size ≤ 1048576) :
    Calls Tryd.prog 9 #[.string s] w fun e w' => e = .returned (.tuple #[.agg #[.int .i64 (rdX s.data.toList), .int .i64 (rdY s.data.toList), .int .i64 (rdZ s.data.toList)], .bool (rdHitB s.data.toList)]) ∧ Below w.heap.size w w' := by
  obtain ⟨l, hl⟩ : ∃ l, s.data.toList = l := ⟨_, rfl⟩
  have hsz : l.length = s.size := by rw [← hl, ← size_list]
  have C1 := hide (fun wx => l58_any s wx hs)
  rw [hl] at C1 ⊢
  have q1 := cut_fst 58 l; have q2 := cut_snd 58 l; have q3 := cut_fst 46 (cutL 58 l).2.1; have q4 := cut_snd 46 (cutL 58 l).2.1
  have C2 := hide (fun wx => l46_any (bs (cutL 58 l).2.1) wx (by rw [bs_size]; omega))
  rw [bs_list] at C2
  have N1 := hide (fun wx => l1Num_any (bs (cutL 58 l).1) wx (by rw [bs_size]; omega))
  have N2 := hide (fun wx => l1Num_any (bs (cutL 46 (cutL 58 l).2.1).1) wx (by rw [bs_size]; omega))
  rw [bs_list] at N1 N2
  have HL := hide hl
  by_cases h60 : 60 < s.size
  · have NO := hide (show rdHitB l = false from by
      cases q : rdHitB l
      · rfl
      · have := rdHit_len q; omega)
    clear C1 C2 N1 N2 hl hsz q1 q2 q3 q4
    go_enter Tryd.func9, Tryd.ntmps9
    go_wp2_with fail
    refine bodyPost_ret (v := .tuple #[.agg #[.int .i64 0, .int .i64 0, .int .i64 0], .bool false]) (by simp [results, Tryd.results9, go_sem]) rfl ⟨by unfold rdX rdY rdZ; rw [NO.out]; rfl, (by repeat' first | with_reducible exact Below.refl _ _ | with_reducible assumption | with_reducible refine below_drewN ?_ _ | with_reducible refine balloc ?_ _ | with_reducible refine Below.drew ?_ | with_reducible refine Below.setCell ?_ (by first | (simp; done) | (simp; omega) | omega) _ | with_reducible refine bstep ?_ (by assumption))⟩
  · obtain ⟨t, ht⟩ : ∃ t, (cutL 46 (cutL 58 l).2.1).2.1 = t := ⟨_, rfl⟩
    obtain ⟨is, his⟩ : ∃ is, (cutL 46 (cutL 58 l).2.1).2.2 = is := ⟨_, rfl⟩
    have q5 : t.length ≤ 1048576 := by rw [← ht]; omega
    obtain ⟨u, hu⟩ : ∃ u, bs t = u := ⟨_, rfl⟩
    have hus : u.size = t.length := by rw [← hu]; exact bs_size t
    have hdr : (u.extract 1 u.size).data.toList = t.drop 1 := by rw [← hu, ext_drop, bs_list, bs_list]
    have N3 := hide (fun wx => l1Num_any (u.extract 1 u.size) wx (by rw [size_list, hdr, List.length_drop]; omega))
    rw [hdr] at N3
    rw [ht, his, hu] at C2
    have hI : hId l = numV (cutL 58 l).1 := rfl
    have hLo : hLow l = numV (cutL 46 (cutL 58 l).2.1).1 := rfl
    have hH : Hid (hHigh l = if is = true ∧ 0 < t.length then numV (t.drop 1) else hLow l) := hide (by unfold hHigh hUp hBnd; rw [ht, his])
    rw [← hI] at N1
    rw [← hLo] at N2
    have Z0 := hide (f3_new w 0 0 0 25)
    have B0 : Hid (Below w.heap.size w (w.alloc (.cells #[.int .i64 0, .int .i64 0, .int .i64 0] 25))) := hide (by repeat' first | with_reducible exact Below.refl _ _ | with_reducible assumption | with_reducible refine below_drewN ?_ _ | with_reducible refine balloc ?_ _ | with_reducible refine Below.drew ?_ | with_reducible refine Below.setCell ?_ (by first | (simp; done) | (simp; omega) | omega) _ | with_reducible refine bstep ?_ (by assumption))
    generalize (numL (cutL 58 l).1).isSome = g1 at N1
    generalize (numL (cutL 46 (cutL 58 l).2.1).1).isSome = g2 at N2
    generalize (numL (t.drop 1)).isSome = g3 at N3
    have HU := hide hus
    clear hl hsz q1 q2 q3 q4 q5 ht his hI hLo hu hdr hus
    generalize (cutL 58 l).1 = a at C1 N1
    generalize (cutL 58 l).2.1 = b at C1 C2 N2
    generalize (cutL 46 b).1 = c at C2 N2
    go_enter Tryd.func9, Tryd.ntmps9
    go_wp2_with fail
    refine (C1.out _).mono ?_
    rintro e w1 ⟨rfl, hb1⟩
    have Z1 := hide (Z0.out.of_block (hb1.block _ (World.rowIs.lt Z0.out)))
    have B1 := hide (bstep B0.out hb1)
    clear Z0 B0 hb1 C1
    go_wp2_with fail
    refine (C2.out _).mono ?_
    rintro e w2 ⟨rfl, hb2⟩
    have Z2 := hide (Z1.out.of_block (hb2.block _ (World.rowIs.lt Z1.out)))
    have B2 := hide (bstep B1.out hb2)
    clear Z1 B1 hb2 C2
    have T2 : Hid (TwoH w (w2.alloc (.cells #[.int .i64 0, .int .i64 0, .int .i64 0] 25)) w2.heap.size 0 0 0) := hide ⟨World.rowIs.alloc Z2.out _, f3_new w2 0 0 0 25, World.rowIs.lt Z2.out, bstep B2.out (balloc (Below.refl _ _) _)⟩
    clear Z2 B2
    go_wp2_with fail
    refine (N1.out _).mono ?_
    rintro e w3 ⟨rfl, hb3⟩
    have T3 := hide (T2.out.below hb3)
    clear T2 hb3 N1
    obtain ⟨⟨lq, c0, c1, c2, f0, f1, f2⟩, _⟩ := T3.out.facts
    go_wp2_with fail
    refine (N2.out _).mono ?_
    rintro e w4 ⟨rfl, hb4⟩
    have T4 := hide ((T3.out.set0 (hId l)).below hb4)
    clear T3 hb4 N2 lq c0 c1 c2 f0 f1 f2
    obtain ⟨⟨lq, c0, c1, c2, f0, f1, f2⟩, _⟩ := T4.out.facts
    have T5 := hide ((T4.out.set1 (hLow l)).set2 (hLow l))
    have ways : (is = false ∧ hHigh l = hLow l) ∨ (is = true ∧ ¬ 0 < t.length ∧ hHigh l = hLow l) ∨ (is = true ∧ 0 < t.length ∧ hHigh l = numV (t.drop 1)) := by
      rw [hH.out]
      cases is
      · exact .inl ⟨rfl, by rw [if_neg (by simp)]⟩
      · by_cases e : 0 < t.length
        · exact .inr (.inr ⟨rfl, e, by rw [if_pos ⟨rfl, e⟩]⟩)
        · exact .inr (.inl ⟨rfl, e, by rw [if_neg (by simp [e])]⟩)
    rcases ways with ⟨rfl, hh⟩ | ⟨rfl, he, hh⟩ | ⟨rfl, he, hh⟩
    · clear hH T4
      have eqz : (l = [] ∧ s.toList = []) ∨ (l ≠ [] ∧ ¬ s.toList = []) := by
        by_cases e : l = []
        · exact .inl ⟨e, by rw [ByteArray.toList_eq, HL.out]; exact e⟩
        · exact .inr ⟨e, by rw [ByteArray.toList_eq, HL.out]; exact e⟩
      have HTX := hide (sHitText_any (hId l) (hLow l) (hLow l))
      obtain ⟨⟨lq, c0, c1, c2, f0, f1, f2⟩, ⟨lr, d0, d1, d2, k0, k1, k2⟩⟩ := T5.out.facts
      have eqy : ¬ s.toList = [] → (s.toList == []) = false := fun h => by simpa using h
      rcases eqz with ⟨hz, qz⟩ | ⟨hz, qz⟩
      · clear eqy
        have NO := hide (show rdHitB l = false from by rw [hz]; rfl)
        clear hz
        go_wp2_with fail
        obtain ⟨e0, e1, e2⟩ := three_set T5.out.res (.int .i64 0) (.int .i64 0) (.int .i64 0)
        refine bodyPost_ret (v := .tuple #[.agg #[.int .i64 0, .int .i64 0, .int .i64 0], .bool false]) (by simp [results, Tryd.results9, go_sem, e0, e1, e2]) rfl ⟨by unfold rdX rdY rdZ; rw [NO.out]; rfl, ((T5.out.bel.setCell (Nat.le_refl _) _).setCell (Nat.le_refl _) _).setCell (Nat.le_refl _) _⟩
      · have qy := eqy qz
        clear eqy
        have eqt : (hitTB (hId l) (hLow l) (hLow l) = l ∧ ((bs (hitTB (hId l) (hLow l) (hLow l))).toList == s.toList) = true) ∨ (hitTB (hId l) (hLow l) (hLow l) ≠ l ∧ ((bs (hitTB (hId l) (hLow l) (hLow l))).toList == s.toList) = false) := by
          by_cases e : hitTB (hId l) (hLow l) (hLow l) = l
          · exact .inl ⟨e, sEq (by rw [bs_list, HL.out]; exact e)⟩
          · exact .inr ⟨e, sNe (by rw [bs_list, HL.out]; exact e)⟩
        rcases eqt with ⟨ht, qt⟩ | ⟨ht, qt⟩
        · have YES := hide (rdHit_iff.2 ⟨hz, by rw [hh]; exact ht⟩)
          have hbe := hide (show bs (hitTB (hId l) (hLow l) (hLow l)) = s from by rw [ht, ← HL.out, bs_of])
          rw [hbe.out] at HTX qt
          clear hz ht
          go_wp2_with fail
          refine (HTX.out _).mono ?_
          rintro e w6 ⟨rfl, hb6⟩
          have T6 := hide (T5.out.below hb6)
          clear lq c0 c1 c2 f0 f1 f2 lr d0 d1 d2 k0 k1 k2 hb6
          obtain ⟨⟨lq, c0, c1, c2, f0, f1, f2⟩, ⟨lr, d0, d1, d2, k0, k1, k2⟩⟩ := T6.out.facts
          go_wp2_with fail
          obtain ⟨e0, e1, e2⟩ := three_set T6.out.res (.int .i64 (hId l)) (.int .i64 (hLow l)) (.int .i64 (hLow l))
          refine bodyPost_ret (v := .tuple #[.agg #[.int .i64 (hId l), .int .i64 (hLow l), .int .i64 (hLow l)], .bool true]) (by simp [results, Tryd.results9, go_sem, e0, e1, e2]) rfl ⟨by unfold rdX rdY rdZ; rw [YES.out, hh]; rfl, ((T6.out.bel.setCell (Nat.le_refl _) _).setCell (Nat.le_refl _) _).setCell (Nat.le_refl _) _⟩
        · have NO := hide (show rdHitB l = false from by
            cases q : rdHitB l
            · rfl
            · have := (rdHit_iff.1 q).2; rw [hh] at this; exact absurd this ht)
          clear hz ht
          go_wp2_with fail
          refine (HTX.out _).mono ?_
          rintro e w6 ⟨rfl, hb6⟩
          have T6 := hide (T5.out.below hb6)
          clear lq c0 c1 c2 f0 f1 f2 lr d0 d1 d2 k0 k1 k2 hb6
          obtain ⟨⟨lq, c0, c1, c2, f0, f1, f2⟩, ⟨lr, d0, d1, d2, k0, k1, k2⟩⟩ := T6.out.facts
          go_wp2_with fail
          obtain ⟨e0, e1, e2⟩ := three_set T6.out.res (.int .i64 0) (.int .i64 0) (.int .i64 0)
          refine bodyPost_ret (v := .tuple #[.agg #[.int .i64 0, .int .i64 0, .int .i64 0], .bool false]) (by simp [results, Tryd.results9, go_sem, e0, e1, e2]) rfl ⟨by unfold rdX rdY rdZ; rw [NO.out]; rfl, ((T6.out.bel.setCell (Nat.le_refl _) _).setCell (Nat.le_refl _) _).setCell (Nat.le_refl _) _⟩
    · have he' : ¬ (0 : Int) < (u.size : Int) := by have := HU.out; omega
      clear hH T4 he
      have eqz : (l = [] ∧ s.toList = []) ∨ (l ≠ [] ∧ ¬ s.toList = []) := by
        by_cases e : l = []
        · exact .inl ⟨e, by rw [ByteArray.toList_eq, HL.out]; exact e⟩
        · exact .inr ⟨e, by rw [ByteArray.toList_eq, HL.out]; exact e⟩
      have HTX := hide (sHitText_any (hId l) (hLow l) (hLow l))
      obtain ⟨⟨lq, c0, c1, c2, f0, f1, f2⟩, ⟨lr, d0, d1, d2, k0, k1, k2⟩⟩ := T5.out.facts
      have eqy : ¬ s.toList = [] → (s.toList == []) = false := fun h => by simpa using h
      rcases eqz with ⟨hz, qz⟩ | ⟨hz, qz⟩
      · clear eqy
        have NO := hide (show rdHitB l = false from by rw [hz]; rfl)
        clear hz
        go_wp2_with fail
        obtain ⟨e0, e1, e2⟩ := three_set T5.out.res (.int .i64 0) (.int .i64 0) (.int .i64 0)
        refine bodyPost_ret (v := .tuple #[.agg #[.int .i64 0, .int .i64 0, .int .i64 0], .bool false]) (by simp [results, Tryd.results9, go_sem, e0, e1, e2]) rfl ⟨by unfold rdX rdY rdZ; rw [NO.out]; rfl, ((T5.out.bel.setCell (Nat.le_refl _) _).setCell (Nat.le_refl _) _).setCell (Nat.le_refl _) _⟩
      · have qy := eqy qz
        clear eqy
        have eqt : (hitTB (hId l) (hLow l) (hLow l) = l ∧ ((bs (hitTB (hId l) (hLow l) (hLow l))).toList == s.toList) = true) ∨ (hitTB (hId l) (hLow l) (hLow l) ≠ l ∧ ((bs (hitTB (hId l) (hLow l) (hLow l))).toList == s.toList) = false) := by
          by_cases e : hitTB (hId l) (hLow l) (hLow l) = l
          · exact .inl ⟨e, sEq (by rw [bs_list, HL.out]; exact e)⟩
          · exact .inr ⟨e, sNe (by rw [bs_list, HL.out]; exact e)⟩
        rcases eqt with ⟨ht, qt⟩ | ⟨ht, qt⟩
        · have YES := hide (rdHit_iff.2 ⟨hz, by rw [hh]; exact ht⟩)
          have hbe := hide (show bs (hitTB (hId l) (hLow l) (hLow l)) = s from by rw [ht, ← HL.out, bs_of])
          rw [hbe.out] at HTX qt
          clear hz ht
          go_wp2_with fail
          refine (HTX.out _).mono ?_
          rintro e w6 ⟨rfl, hb6⟩
          have T6 := hide (T5.out.below hb6)
          clear lq c0 c1 c2 f0 f1 f2 lr d0 d1 d2 k0 k1 k2 hb6
          obtain ⟨⟨lq, c0, c1, c2, f0, f1, f2⟩, ⟨lr, d0, d1, d2, k0, k1, k2⟩⟩ := T6.out.facts
          go_wp2_with fail
          obtain ⟨e0, e1, e2⟩ := three_set T6.out.res (.int .i64 (hId l)) (.int .i64 (hLow l)) (.int .i64 (hLow l))
          refine bodyPost_ret (v := .tuple #[.agg #[.int .i64 (hId l), .int .i64 (hLow l), .int .i64 (hLow l)], .bool true]) (by simp [results, Tryd.results9, go_sem, e0, e1, e2]) rfl ⟨by unfold rdX rdY rdZ; rw [YES.out, hh]; rfl, ((T6.out.bel.setCell (Nat.le_refl _) _).setCell (Nat.le_refl _) _).setCell (Nat.le_refl _) _⟩
        · have NO := hide (show rdHitB l = false from by
            cases q : rdHitB l
            · rfl
            · have := (rdHit_iff.1 q).2; rw [hh] at this; exact absurd this ht)
          clear hz ht
          go_wp2_with fail
          refine (HTX.out _).mono ?_
          rintro e w6 ⟨rfl, hb6⟩
          have T6 := hide (T5.out.below hb6)
          clear lq c0 c1 c2 f0 f1 f2 lr d0 d1 d2 k0 k1 k2 hb6
          obtain ⟨⟨lq, c0, c1, c2, f0, f1, f2⟩, ⟨lr, d0, d1, d2, k0, k1, k2⟩⟩ := T6.out.facts
          go_wp2_with fail
          obtain ⟨e0, e1, e2⟩ := three_set T6.out.res (.int .i64 0) (.int .i64 0) (.int .i64 0)
          refine bodyPost_ret (v := .tuple #[.agg #[.int .i64 0, .int .i64 0, .int .i64 0], .bool false]) (by simp [results, Tryd.results9, go_sem, e0, e1, e2]) rfl ⟨by unfold rdX rdY rdZ; rw [NO.out]; rfl, ((T6.out.bel.setCell (Nat.le_refl _) _).setCell (Nat.le_refl _) _).setCell (Nat.le_refl _) _⟩
    · rw [← hh] at N3
      have hp : (0 : Int) < (u.size : Int) := by have := HU.out; omega
      have hp1 : 1 ≤ u.size := by omega
      have hp2 : (1 : Int) ≤ (u.size : Int) := by omega
      clear hh hH T4 he
      obtain ⟨U, hU⟩ : ∃ U, u.extract 1 u.size = U := ⟨_, rfl⟩
      rw [hU] at N3
      go_wp2_with fail
      refine (N3.out _).mono ?_
      rintro e w5 ⟨rfl, hb5⟩
      have T6 := hide (T5.out.below hb5)
      clear T5 hb5 N3 lq c0 c1 c2 f0 f1 f2
      obtain ⟨⟨lq, c0, c1, c2, f0, f1, f2⟩, _⟩ := T6.out.facts
      have T7 := hide (T6.out.set2 (hHigh l))
      have eqz : (l = [] ∧ s.toList = []) ∨ (l ≠ [] ∧ ¬ s.toList = []) := by
        by_cases e : l = []
        · exact .inl ⟨e, by rw [ByteArray.toList_eq, HL.out]; exact e⟩
        · exact .inr ⟨e, by rw [ByteArray.toList_eq, HL.out]; exact e⟩
      have HTX := hide (sHitText_any (hId l) (hLow l) (hHigh l))
      obtain ⟨⟨lq, c0, c1, c2, f0, f1, f2⟩, ⟨lr, d0, d1, d2, k0, k1, k2⟩⟩ := T7.out.facts
      have eqy : ¬ s.toList = [] → (s.toList == []) = false := fun h => by simpa using h
      rcases eqz with ⟨hz, qz⟩ | ⟨hz, qz⟩
      · clear eqy
        have NO := hide (show rdHitB l = false from by rw [hz]; rfl)
        clear hz
        go_wp2_with fail
        obtain ⟨e0, e1, e2⟩ := three_set T7.out.res (.int .i64 0) (.int .i64 0) (.int .i64 0)
        refine bodyPost_ret (v := .tuple #[.agg #[.int .i64 0, .int .i64 0, .int .i64 0], .bool false]) (by simp [results, Tryd.results9, go_sem, e0, e1, e2]) rfl ⟨by unfold rdX rdY rdZ; rw [NO.out]; rfl, ((T7.out.bel.setCell (Nat.le_refl _) _).setCell (Nat.le_refl _) _).setCell (Nat.le_refl _) _⟩
      · have qy := eqy qz
        clear eqy
        have eqt : (hitTB (hId l) (hLow l) (hHigh l) = l ∧ ((bs (hitTB (hId l) (hLow l) (hHigh l))).toList == s.toList) = true) ∨ (hitTB (hId l) (hLow l) (hHigh l) ≠ l ∧ ((bs (hitTB (hId l) (hLow l) (hHigh l))).toList == s.toList) = false) := by
          by_cases e : hitTB (hId l) (hLow l) (hHigh l) = l
          · exact .inl ⟨e, sEq (by rw [bs_list, HL.out]; exact e)⟩
          · exact .inr ⟨e, sNe (by rw [bs_list, HL.out]; exact e)⟩
        rcases eqt with ⟨ht, qt⟩ | ⟨ht, qt⟩
        · have YES := hide (rdHit_iff.2 ⟨hz, ht⟩)
          have hbe := hide (show bs (hitTB (hId l) (hLow l) (hHigh l)) = s from by rw [ht, ← HL.out, bs_of])
          rw [hbe.out] at HTX qt
          clear hz ht
          go_wp2_with fail
          refine (HTX.out _).mono ?_
          rintro e w6 ⟨rfl, hb6⟩
          have T8 := hide (T7.out.below hb6)
          clear lq c0 c1 c2 f0 f1 f2 lr d0 d1 d2 k0 k1 k2 hb6
          obtain ⟨⟨lq, c0, c1, c2, f0, f1, f2⟩, ⟨lr, d0, d1, d2, k0, k1, k2⟩⟩ := T8.out.facts
          go_wp2_with fail
          obtain ⟨e0, e1, e2⟩ := three_set T8.out.res (.int .i64 (hId l)) (.int .i64 (hLow l)) (.int .i64 (hHigh l))
          refine bodyPost_ret (v := .tuple #[.agg #[.int .i64 (hId l), .int .i64 (hLow l), .int .i64 (hHigh l)], .bool true]) (by simp [results, Tryd.results9, go_sem, e0, e1, e2]) rfl ⟨by unfold rdX rdY rdZ; rw [YES.out]; rfl, ((T8.out.bel.setCell (Nat.le_refl _) _).setCell (Nat.le_refl _) _).setCell (Nat.le_refl _) _⟩
        · have NO := hide (show rdHitB l = false from by
            cases q : rdHitB l
            · rfl
            · exact absurd (rdHit_iff.1 q).2 ht)
          clear hz ht
          go_wp2_with fail
          refine (HTX.out _).mono ?_
          rintro e w6 ⟨rfl, hb6⟩
          have T8 := hide (T7.out.below hb6)
          clear lq c0 c1 c2 f0 f1 f2 lr d0 d1 d2 k0 k1 k2 hb6
          obtain ⟨⟨lq, c0, c1, c2, f0, f1, f2⟩, ⟨lr, d0, d1, d2, k0, k1, k2⟩⟩ := T8.out.facts
          go_wp2_with fail
          obtain ⟨e0, e1, e2⟩ := three_set T8.out.res (.int .i64 0) (.int .i64 0) (.int .i64 0)
          refine bodyPost_ret (v := .tuple #[.agg #[.int .i64 0, .int .i64 0, .int .i64 0], .bool false]) (by simp [results, Tryd.results9, go_sem, e0, e1, e2]) rfl ⟨by unfold rdX rdY rdZ; rw [NO.out]; rfl, ((T8.out.bel.setCell (Nat.le_refl _) _).setCell (Nat.le_refl _) _).setCell (Nat.le_refl _) _⟩
end Go.Proofs.YtecheolhmohhjaaDoor
