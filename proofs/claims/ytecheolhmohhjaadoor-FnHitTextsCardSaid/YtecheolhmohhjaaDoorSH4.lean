/- ReadHit of the program. -/
import Derived.Test.YtecheolhmohhjaaDoorSH3
import Derived.Test.YtecheolhmohhjaaDoorSH2
import Derived.Test.YtecheolhmohhjaaDoorSH1
namespace Go.Proofs.YtecheolhmohhjaaDoor
open Go.RowKit
set_option maxRecDepth 8000
set_option linter.unusedSimpArgs false
set_option linter.unusedVariables false

theorem cut58_any (s : ByteArray) (w : World) (hs : s.size ≤ 1048576) :
    Calls Tryd.prog 17 #[.string s, .int .i32 58] w fun e w' => e = .returned (.tuple #[.string (bs (cutL 58 s.data.toList).1), .string (bs (cutL 58 s.data.toList).2.1)]) ∧ Below w.heap.size w w' := iCutAt_any s 58 (by decide) w (by omega)

theorem cut46_any (s : ByteArray) (w : World) (hs : s.size ≤ 1048576) :
    Calls Tryd.prog 17 #[.string s, .int .i32 46] w fun e w' => e = .returned (.tuple #[.string (bs (cutL 46 s.data.toList).1), .string (bs (cutL 46 s.data.toList).2.1)]) ∧ Below w.heap.size w w' := iCutAt_any s 46 (by decide) w (by omega)

theorem strs_three (w : World) (a b c : List UInt8) (T : TypeId) : Strs (w.alloc (.cells #[.string (bs a), .string (bs b), .string (bs c)] T)) w.heap.size 3 [a, b, c] :=
  ⟨by simp, rfl, fun j hj => by rcases (show j = 0 ∨ j = 1 ∨ j = 2 from by omega) with rfl | rfl | rfl <;> exact ⟨_, rfl, by simp⟩⟩

theorem num3_any (g : Nat) (P : List (List UInt8)) (w : World) (S : Strs w g 3 P) (hsz : ∀ x ∈ P, x.length ≤ 1048576) (V : Vars w) :
    Calls Tryd.prog 18 #[.slice (some ⟨g, 0, none⟩) 3 3, .int .i64 3] w fun e w' => INums w P e w' := iReadNumbers_any g 3 3 P w (by omega) (by omega) S hsz V

theorem cut_fst (c : UInt8) (l : List UInt8) : (cutL c l).1.length ≤ l.length := by
  have := congrArg List.length (cut_back c l).2
  rw [List.length_append] at this; omega

theorem cut_snd (c : UInt8) (l : List UInt8) : (cutL c l).2.1.length ≤ l.length := by have := cut_len c l; omega

theorem three_setA {w : World} {T : TypeId} {b : Nat} {F : Nat → Value} (h : w.rowIs b T 3 F) (v0 v1 v2 : Value) (o1 o2 : Obj) :
    (((((w.setCell ⟨b, 0, none⟩ v0).setCell ⟨b, 1, none⟩ v1).setCell ⟨b, 2, none⟩ v2).alloc o1).alloc o2).cell? ⟨b, 0, none⟩ = some v0 ∧ (((((w.setCell ⟨b, 0, none⟩ v0).setCell ⟨b, 1, none⟩ v1).setCell ⟨b, 2, none⟩ v2).alloc o1).alloc o2).cell? ⟨b, 1, none⟩ = some v1 ∧ (((((w.setCell ⟨b, 0, none⟩ v0).setCell ⟨b, 1, none⟩ v1).setCell ⟨b, 2, none⟩ v2).alloc o1).alloc o2).cell? ⟨b, 2, none⟩ = some v2 := by
  have W3 := World.rowIs.alloc (World.rowIs.alloc (World.rowIs.set (World.rowIs.set (World.rowIs.set h 0 v0) 1 v1) 2 v2) o1) o2
  have a := World.rowIs.cell W3 (show 0 < 3 by omega)
  have b := World.rowIs.cell W3 (show 1 < 3 by omega)
  have c := World.rowIs.cell W3 (show 2 < 3 by omega)
  exact ⟨a, b, c⟩

/-- The answer of ReadHit. -/
def rdX (l : List UInt8) : Int := if rdHitB l then hId l else 0
def rdY (l : List UInt8) : Int := if rdHitB l then hLow l else 0
def rdZ (l : List UInt8) : Int := if rdHitB l then hHigh l else 0

set_option maxHeartbeats 4000000 in
theorem iReadHit_any (s : ByteArray) (w : World) (hs : s.size ≤ 1048576) (V : Vars w) :
    Calls Tryd.prog 8 #[.string s] w fun e w' => e = .returned (.tuple #[.agg #[.int .i64 (rdX s.data.toList), .int .i64 (rdY s.data.toList), .int .i64 (rdZ s.data.toList)], .bool (rdHitB s.data.toList)]) ∧ Below w.heap.size w w' := by
  obtain ⟨l, hl⟩ : ∃ l, s.data.toList = l := ⟨_, rfl⟩
  have hsz : l.length ≤ 1048576 := by rw [← hl, ← size_list]; exact hs
  have C1 := hide (fun wx => cut58_any s wx hs)
  rw [hl] at C1 ⊢
  have C2 := hide (fun wx => cut46_any (bs (cutL 58 l).2.1) wx (by rw [bs_size]; have := cut_snd 58 l; omega))
  rw [bs_list] at C2
  have C3 := hide (fun wx => cut46_any (bs (cutL 46 (cutL 58 l).2.1).2.1) wx (by rw [bs_size]; have := cut_snd 58 l; have := cut_snd 46 (cutL 58 l).2.1; omega))
  rw [bs_list] at C3
  have HP : Hid (∀ x ∈ hWords l, x.length ≤ 1048576) := hide (fun x hx => by
    have q1 := cut_fst 58 l; have q2 := cut_snd 58 l; have q3 := cut_fst 46 (cutL 58 l).2.1; have q4 := cut_snd 46 (cutL 58 l).2.1; have q5 := cut_snd 46 (cutL 46 (cutL 58 l).2.1).2.1
    unfold hWords hUp hBnd at hx
    rcases List.mem_cons.1 hx with rfl | hx
    · omega
    · rcases List.mem_cons.1 hx with rfl | hx
      · omega
      · rw [List.mem_singleton.1 hx]
        split <;> omega)
  obtain ⟨a, ha⟩ : ∃ a, (cutL 58 l).1 = a := ⟨_, rfl⟩
  obtain ⟨b, hb⟩ : ∃ b, (cutL 58 l).2.1 = b := ⟨_, rfl⟩
  obtain ⟨c, hc⟩ : ∃ c, (cutL 46 b).1 = c := ⟨_, rfl⟩
  obtain ⟨d, hd⟩ : ∃ d, (cutL 46 b).2.1 = d := ⟨_, rfl⟩
  obtain ⟨f, hf⟩ : ∃ f, (cutL 46 d).1 = f := ⟨_, rfl⟩
  obtain ⟨g, hg⟩ : ∃ g, (cutL 46 d).2.1 = g := ⟨_, rfl⟩
  have HW : Hid (hWords l = [a, c, if c = b then c else g]) := hide (by unfold hWords hUp hBnd; rw [ha, hb, hc, hd, hg])
  rw [ha, hb] at C1
  rw [hb, hc, hd] at C2
  rw [hb, hd, hf, hg] at C3
  have HV := hide V
  have HL := hide hl
  clear V hl ha hb hc hd hf hg hsz
  have Z0 : Hid ((w.alloc (.cells #[.int .i64 0, .int .i64 0, .int .i64 0] 25)).rowIs w.heap.size 25 3 (fun _ => .int .i64 0)) := hide (World.rowIs_alloc w #[.int .i64 0, .int .i64 0, .int .i64 0] 25 (fun _ => .int .i64 0) (by intro i hi; rcases (show i = 0 ∨ i = 1 ∨ i = 2 from by simp at hi; omega) with rfl | rfl | rfl <;> rfl))
  have B0 : Hid (Below w.heap.size w (w.alloc (.cells #[.int .i64 0, .int .i64 0, .int .i64 0] 25))) := hide (by repeat' first | with_reducible exact Below.refl _ _ | with_reducible assumption | with_reducible refine below_drewN ?_ _ | with_reducible refine balloc ?_ _ | with_reducible refine Below.drew ?_ | with_reducible refine Below.setCell ?_ (by first | (simp; done) | (simp; omega) | omega) _ | with_reducible refine bstep ?_ (by assumption))
  have eqs : (c = b ∧ ((bs c).toList == (bs b).toList) = true) ∨ (c ≠ b ∧ ((bs c).toList == (bs b).toList) = false) := by
    by_cases e : c = b
    · exact .inl ⟨e, sEq (by rw [e])⟩
    · exact .inr ⟨e, sNe (by rw [bs_list, bs_list]; exact e)⟩
  rcases eqs with ⟨rfl, q⟩ | ⟨hcb, q⟩
  · rw [if_pos rfl] at HW
    go_enter Tryd.func8, Tryd.ntmps8
    go_wp2_with fail
    refine (C1.out _).mono ?_
    rintro e w1 ⟨rfl, hb1⟩
    have lz := World.rowIs.lt Z0.out
    have Z1 := hide (Z0.out.of_block (hb1.block _ lz))
    have B1 := hide (bstep B0.out hb1)
    clear Z0 B0 hb1 lz C1
    go_wp2_with fail
    refine (C2.out _).mono ?_
    rintro e w2 ⟨rfl, hb2⟩
    have lz := World.rowIs.lt Z1.out
    have Z2 := hide (Z1.out.of_block (hb2.block _ lz))
    have B2 := hide (bstep B1.out hb2)
    clear Z1 B1 hb2 lz C2
    go_wp2_with fail
    refine (C3.out _).mono ?_
    rintro e w3 ⟨rfl, hb3⟩
    have lz := World.rowIs.lt Z2.out
    have Z3 := hide (Z2.out.of_block (hb3.block _ lz))
    have B3 := hide (bstep B2.out hb3)
    clear Z2 B2 hb3 lz C3
    go_wp2_with fail
    have NUM := hide (num3_any w3.heap.size _ (w3.alloc (.cells #[.string (bs a), .string (bs c), .string (bs c)] 9)) (strs_three w3 a c c 9) (HW.out ▸ HP.out) (HV.out.below (bstep B3.out (balloc (Below.refl _ _) _))))
    refine NUM.out.mono ?_
    rintro e w4 ⟨x0, x1, x2, rfl, hx, hb4⟩
    have Z4 := hide ((World.rowIs.alloc Z3.out (.cells #[.string (bs a), .string (bs c), .string (bs c)] 9)).of_block (hb4.block _ (World.rowIs.lt (World.rowIs.alloc Z3.out (.cells #[.string (bs a), .string (bs c), .string (bs c)] 9)))))
    have B4 : Hid (Below w.heap.size w w4) := hide (bstep (bstep B3.out (balloc (Below.refl _ _) _)) hb4)
    rw [← HW.out] at hx
    have RW := hide (rdHit_words hx)
    rw [← HW.out]
    have lz := World.rowIs.lt Z4.out
    clear NUM hb4 hx Z3 B3
    cases hA : allNum (hWords l)
    · have NO := hide (show rdHitB l = false from by
        cases q : rdHitB l
        · rfl
        · have := (RW.out.1.2 q).1
          rw [hA] at this; cases this)
      clear hA
      have z0 := World.rowIs.cell Z4.out (show 0 < 3 by omega)
      have z1 := World.rowIs.cell Z4.out (show 1 < 3 by omega)
      have z2 := World.rowIs.cell Z4.out (show 2 < 3 by omega)
      have f0 := World.rowIs.frozen Z4.out 0
      have f1 := World.rowIs.frozen Z4.out 1
      have f2 := World.rowIs.frozen Z4.out 2
      go_wp2_with fail
      obtain ⟨e0, e1, e2⟩ := three_setA Z4.out (.int .i64 0) (.int .i64 0) (.int .i64 0) (.cells #[.int .i64 x0, .int .i64 x1, .int .i64 x2] 41) (.cells #[.int .i64 x0, .int .i64 x1, .int .i64 x2] 25)
      refine bodyPost_ret (v := .tuple #[.agg #[.int .i64 0, .int .i64 0, .int .i64 0], .bool false]) ?_ rfl ⟨by unfold rdX rdY rdZ; rw [NO.out]; rfl, ?_⟩
      · clear z0 z1 z2 f0 f1 f2
        generalize World.alloc (World.alloc _ _) _ = WW at e0 e1 e2 ⊢
        simp [results, Tryd.results8, go_sem, e0, e1, e2]
      · exact ((((B4.out.setCell (Nat.le_refl _) _).setCell (Nat.le_refl _) _).setCell (Nat.le_refl _) _).alloc (by simp [World.setCell]; omega) _).alloc (by simp [World.setCell]; omega) _
    · have B5 : Hid (Below w.heap.size w ((w4.alloc (.cells #[.int .i64 x0, .int .i64 x1, .int .i64 x2] 41)).alloc (.cells #[.int .i64 x0, .int .i64 x1, .int .i64 x2] 25))) := hide ((B4.out.alloc (by omega) _).alloc (by simp; omega) _)
      have HT := hide (iHitText_any x0 x1 x2 _ (HV.out.tab.below B5.out))
      have X5 := hide (show Box3 _ (w4.heap.size + 1) x0 x1 x2 from by simpa using Box3.new (w4.alloc (.cells #[.int .i64 x0, .int .i64 x1, .int .i64 x2] 41)) x0 x1 x2 25)
      have Z5 := hide (World.rowIs.alloc (World.rowIs.alloc Z4.out (.cells #[.int .i64 x0, .int .i64 x1, .int .i64 x2] 41)) (.cells #[.int .i64 x0, .int .i64 x1, .int .i64 x2] 25))
      have eqt : (hitTB x0 x1 x2 = l ∧ ((bs (hitTB x0 x1 x2)).toList == s.toList) = true) ∨ (hitTB x0 x1 x2 ≠ l ∧ ((bs (hitTB x0 x1 x2)).toList == s.toList) = false) := by
        by_cases e : hitTB x0 x1 x2 = l
        · exact .inl ⟨e, sEq (by rw [bs_list, HL.out]; exact e)⟩
        · exact .inr ⟨e, sNe (by rw [bs_list, HL.out]; exact e)⟩
      rcases eqt with ⟨ht, qt⟩ | ⟨ht, qt⟩
      · have YES := hide (show rdHitB l = true from RW.out.1.1 ⟨hA, ht⟩)
        have VS := hide (RW.out.2 YES.out)
        have hbe := hide (show bs (hitTB x0 x1 x2) = s from by rw [ht, ← HL.out, bs_of])
        rw [hbe.out] at HT qt
        clear hA ht
        go_wp2_with fail
        refine HT.out.mono ?_
        rintro e w5 ⟨rfl, hb5⟩
        have B6 := hide (bstep B5.out hb5)
        have lz := World.rowIs.lt Z5.out
        have Z6 := hide (Z5.out.of_block (hb5.block _ lz))
        obtain ⟨lx, x5, x6, x7⟩ := X5.out.below hb5
        have z0 := World.rowIs.cell Z6.out (show 0 < 3 by omega)
        have z1 := World.rowIs.cell Z6.out (show 1 < 3 by omega)
        have z2 := World.rowIs.cell Z6.out (show 2 < 3 by omega)
        have f0 := World.rowIs.frozen Z6.out 0
        have f1 := World.rowIs.frozen Z6.out 1
        have f2 := World.rowIs.frozen Z6.out 2
        clear hb5
        go_wp2_with fail
        obtain ⟨e0, e1, e2⟩ := three_set Z6.out (.int .i64 x0) (.int .i64 x1) (.int .i64 x2)
        refine bodyPost_ret (v := .tuple #[.agg #[.int .i64 x0, .int .i64 x1, .int .i64 x2], .bool true]) (by simp [results, Tryd.results8, go_sem, e0, e1, e2]) rfl ⟨?_, ((B6.out.setCell (Nat.le_refl _) _).setCell (Nat.le_refl _) _).setCell (Nat.le_refl _) _⟩
        obtain ⟨v0, v1, v2⟩ := VS.out
        unfold rdX rdY rdZ
        rw [YES.out, v0, v1, v2]
        rfl
      · have NO := hide (show rdHitB l = false from by
          cases q : rdHitB l
          · rfl
          · exact absurd (RW.out.1.2 q).2 ht)
        clear hA ht
        go_wp2_with fail
        refine HT.out.mono ?_
        rintro e w5 ⟨rfl, hb5⟩
        have B6 := hide (bstep B5.out hb5)
        have lz := World.rowIs.lt Z5.out
        have Z6 := hide (Z5.out.of_block (hb5.block _ lz))
        have z0 := World.rowIs.cell Z6.out (show 0 < 3 by omega)
        have z1 := World.rowIs.cell Z6.out (show 1 < 3 by omega)
        have z2 := World.rowIs.cell Z6.out (show 2 < 3 by omega)
        have f0 := World.rowIs.frozen Z6.out 0
        have f1 := World.rowIs.frozen Z6.out 1
        have f2 := World.rowIs.frozen Z6.out 2
        clear hb5
        go_wp2_with fail
        obtain ⟨e0, e1, e2⟩ := three_set Z6.out (.int .i64 0) (.int .i64 0) (.int .i64 0)
        refine bodyPost_ret (v := .tuple #[.agg #[.int .i64 0, .int .i64 0, .int .i64 0], .bool false]) (by simp [results, Tryd.results8, go_sem, e0, e1, e2]) rfl ⟨?_, ((B6.out.setCell (Nat.le_refl _) _).setCell (Nat.le_refl _) _).setCell (Nat.le_refl _) _⟩
        unfold rdX rdY rdZ
        rw [NO.out]
        rfl
  · rw [if_neg hcb] at HW
    go_enter Tryd.func8, Tryd.ntmps8
    go_wp2_with fail
    refine (C1.out _).mono ?_
    rintro e w1 ⟨rfl, hb1⟩
    have lz := World.rowIs.lt Z0.out
    have Z1 := hide (Z0.out.of_block (hb1.block _ lz))
    have B1 := hide (bstep B0.out hb1)
    clear Z0 B0 hb1 lz C1
    go_wp2_with fail
    refine (C2.out _).mono ?_
    rintro e w2 ⟨rfl, hb2⟩
    have lz := World.rowIs.lt Z1.out
    have Z2 := hide (Z1.out.of_block (hb2.block _ lz))
    have B2 := hide (bstep B1.out hb2)
    clear Z1 B1 hb2 lz C2
    go_wp2_with fail
    refine (C3.out _).mono ?_
    rintro e w3 ⟨rfl, hb3⟩
    have lz := World.rowIs.lt Z2.out
    have Z3 := hide (Z2.out.of_block (hb3.block _ lz))
    have B3 := hide (bstep B2.out hb3)
    clear Z2 B2 hb3 lz C3
    go_wp2_with fail
    have NUM := hide (num3_any w3.heap.size _ (w3.alloc (.cells #[.string (bs a), .string (bs c), .string (bs g)] 9)) (strs_three w3 a c g 9) (HW.out ▸ HP.out) (HV.out.below (bstep B3.out (balloc (Below.refl _ _) _))))
    refine NUM.out.mono ?_
    rintro e w4 ⟨x0, x1, x2, rfl, hx, hb4⟩
    have Z4 := hide ((World.rowIs.alloc Z3.out (.cells #[.string (bs a), .string (bs c), .string (bs g)] 9)).of_block (hb4.block _ (World.rowIs.lt (World.rowIs.alloc Z3.out (.cells #[.string (bs a), .string (bs c), .string (bs g)] 9)))))
    have B4 : Hid (Below w.heap.size w w4) := hide (bstep (bstep B3.out (balloc (Below.refl _ _) _)) hb4)
    rw [← HW.out] at hx
    have RW := hide (rdHit_words hx)
    rw [← HW.out]
    have lz := World.rowIs.lt Z4.out
    clear NUM hb4 hx Z3 B3
    cases hA : allNum (hWords l)
    · have NO := hide (show rdHitB l = false from by
        cases q : rdHitB l
        · rfl
        · have := (RW.out.1.2 q).1
          rw [hA] at this; cases this)
      clear hA
      have z0 := World.rowIs.cell Z4.out (show 0 < 3 by omega)
      have z1 := World.rowIs.cell Z4.out (show 1 < 3 by omega)
      have z2 := World.rowIs.cell Z4.out (show 2 < 3 by omega)
      have f0 := World.rowIs.frozen Z4.out 0
      have f1 := World.rowIs.frozen Z4.out 1
      have f2 := World.rowIs.frozen Z4.out 2
      go_wp2_with fail
      obtain ⟨e0, e1, e2⟩ := three_setA Z4.out (.int .i64 0) (.int .i64 0) (.int .i64 0) (.cells #[.int .i64 x0, .int .i64 x1, .int .i64 x2] 41) (.cells #[.int .i64 x0, .int .i64 x1, .int .i64 x2] 25)
      refine bodyPost_ret (v := .tuple #[.agg #[.int .i64 0, .int .i64 0, .int .i64 0], .bool false]) ?_ rfl ⟨by unfold rdX rdY rdZ; rw [NO.out]; rfl, ?_⟩
      · clear z0 z1 z2 f0 f1 f2
        generalize World.alloc (World.alloc _ _) _ = WW at e0 e1 e2 ⊢
        simp [results, Tryd.results8, go_sem, e0, e1, e2]
      · exact ((((B4.out.setCell (Nat.le_refl _) _).setCell (Nat.le_refl _) _).setCell (Nat.le_refl _) _).alloc (by simp [World.setCell]; omega) _).alloc (by simp [World.setCell]; omega) _
    · have B5 : Hid (Below w.heap.size w ((w4.alloc (.cells #[.int .i64 x0, .int .i64 x1, .int .i64 x2] 41)).alloc (.cells #[.int .i64 x0, .int .i64 x1, .int .i64 x2] 25))) := hide ((B4.out.alloc (by omega) _).alloc (by simp; omega) _)
      have HT := hide (iHitText_any x0 x1 x2 _ (HV.out.tab.below B5.out))
      have X5 := hide (show Box3 _ (w4.heap.size + 1) x0 x1 x2 from by simpa using Box3.new (w4.alloc (.cells #[.int .i64 x0, .int .i64 x1, .int .i64 x2] 41)) x0 x1 x2 25)
      have Z5 := hide (World.rowIs.alloc (World.rowIs.alloc Z4.out (.cells #[.int .i64 x0, .int .i64 x1, .int .i64 x2] 41)) (.cells #[.int .i64 x0, .int .i64 x1, .int .i64 x2] 25))
      have eqt : (hitTB x0 x1 x2 = l ∧ ((bs (hitTB x0 x1 x2)).toList == s.toList) = true) ∨ (hitTB x0 x1 x2 ≠ l ∧ ((bs (hitTB x0 x1 x2)).toList == s.toList) = false) := by
        by_cases e : hitTB x0 x1 x2 = l
        · exact .inl ⟨e, sEq (by rw [bs_list, HL.out]; exact e)⟩
        · exact .inr ⟨e, sNe (by rw [bs_list, HL.out]; exact e)⟩
      rcases eqt with ⟨ht, qt⟩ | ⟨ht, qt⟩
      · have YES := hide (show rdHitB l = true from RW.out.1.1 ⟨hA, ht⟩)
        have VS := hide (RW.out.2 YES.out)
        have hbe := hide (show bs (hitTB x0 x1 x2) = s from by rw [ht, ← HL.out, bs_of])
        rw [hbe.out] at HT qt
        clear hA ht
        go_wp2_with fail
        refine HT.out.mono ?_
        rintro e w5 ⟨rfl, hb5⟩
        have B6 := hide (bstep B5.out hb5)
        have lz := World.rowIs.lt Z5.out
        have Z6 := hide (Z5.out.of_block (hb5.block _ lz))
        obtain ⟨lx, x5, x6, x7⟩ := X5.out.below hb5
        have z0 := World.rowIs.cell Z6.out (show 0 < 3 by omega)
        have z1 := World.rowIs.cell Z6.out (show 1 < 3 by omega)
        have z2 := World.rowIs.cell Z6.out (show 2 < 3 by omega)
        have f0 := World.rowIs.frozen Z6.out 0
        have f1 := World.rowIs.frozen Z6.out 1
        have f2 := World.rowIs.frozen Z6.out 2
        clear hb5
        go_wp2_with fail
        obtain ⟨e0, e1, e2⟩ := three_set Z6.out (.int .i64 x0) (.int .i64 x1) (.int .i64 x2)
        refine bodyPost_ret (v := .tuple #[.agg #[.int .i64 x0, .int .i64 x1, .int .i64 x2], .bool true]) (by simp [results, Tryd.results8, go_sem, e0, e1, e2]) rfl ⟨?_, ((B6.out.setCell (Nat.le_refl _) _).setCell (Nat.le_refl _) _).setCell (Nat.le_refl _) _⟩
        obtain ⟨v0, v1, v2⟩ := VS.out
        unfold rdX rdY rdZ
        rw [YES.out, v0, v1, v2]
        rfl
      · have NO := hide (show rdHitB l = false from by
          cases q : rdHitB l
          · rfl
          · exact absurd (RW.out.1.2 q).2 ht)
        clear hA ht
        go_wp2_with fail
        refine HT.out.mono ?_
        rintro e w5 ⟨rfl, hb5⟩
        have B6 := hide (bstep B5.out hb5)
        have lz := World.rowIs.lt Z5.out
        have Z6 := hide (Z5.out.of_block (hb5.block _ lz))
        have z0 := World.rowIs.cell Z6.out (show 0 < 3 by omega)
        have z1 := World.rowIs.cell Z6.out (show 1 < 3 by omega)
        have z2 := World.rowIs.cell Z6.out (show 2 < 3 by omega)
        have f0 := World.rowIs.frozen Z6.out 0
        have f1 := World.rowIs.frozen Z6.out 1
        have f2 := World.rowIs.frozen Z6.out 2
        clear hb5
        go_wp2_with fail
        obtain ⟨e0, e1, e2⟩ := three_set Z6.out (.int .i64 0) (.int .i64 0) (.int .i64 0)
        refine bodyPost_ret (v := .tuple #[.agg #[.int .i64 0, .int .i64 0, .int .i64 0], .bool false]) (by simp [results, Tryd.results8, go_sem, e0, e1, e2]) rfl ⟨?_, ((B6.out.setCell (Nat.le_refl _) _).setCell (Nat.le_refl _) _).setCell (Nat.le_refl _) _⟩
        unfold rdX rdY rdZ
        rw [NO.out]
        rfl
end Go.Proofs.YtecheolhmohhjaaDoor
