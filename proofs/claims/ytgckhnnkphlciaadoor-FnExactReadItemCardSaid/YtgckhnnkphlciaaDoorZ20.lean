/- ReadHit of the program. -/
import Derived.Test.YtgckhnnkphlciaaDoorZ17
import Derived.Test.YtgckhnnkphlciaaDoorZ18
import Derived.Test.YtgckhnnkphlciaaDoorZ15
namespace Go.Proofs.YtgckhnnkphlciaaDoor
open Go.RowKit
set_option maxRecDepth 8000
set_option linter.unusedSimpArgs false
set_option linter.unusedVariables false

theorem cut58_any (s : ByteArray) (w : World) (hs : s.size ≤ 1048576) :
    Calls Tryd.prog 34 #[.string s, .int .i32 58] w fun e w' => e = .returned (.tuple #[.string (bs (cutL 58 s.data.toList).1), .string (bs (cutL 58 s.data.toList).2.1)]) ∧ Below w.heap.size w w' := iCutAt_any s 58 (by decide) w (by omega)

theorem cut46_any (s : ByteArray) (w : World) (hs : s.size ≤ 1048576) :
    Calls Tryd.prog 34 #[.string s, .int .i32 46] w fun e w' => e = .returned (.tuple #[.string (bs (cutL 46 s.data.toList).1), .string (bs (cutL 46 s.data.toList).2.1)]) ∧ Below w.heap.size w w' := iCutAt_any s 46 (by decide) w (by omega)

theorem strs_three (w : World) (a b c : List UInt8) (T : TypeId) : Strs (w.alloc (.cells #[.string (bs a), .string (bs b), .string (bs c)] T)) w.heap.size 3 [a, b, c] :=
  ⟨by simp, rfl, fun j hj => by rcases (show j = 0 ∨ j = 1 ∨ j = 2 from by omega) with rfl | rfl | rfl <;> exact ⟨_, rfl, by simp⟩⟩

theorem num3_any (g : Nat) (P : List (List UInt8)) (w : World) (S : Strs w g 3 P) (hsz : ∀ x ∈ P, x.length ≤ 1048576) (V : Vars w) :
    Calls Tryd.prog 35 #[.slice (some ⟨g, 0, none⟩) 3 3, .int .i64 3] w fun e w' => INums w P e w' := iReadNumbers_any g 3 3 P w (by omega) (by omega) S hsz V

theorem cut_fst (c : UInt8) (l : List UInt8) : (cutL c l).1.length ≤ l.length := by
  have := congrArg List.length (cut_back c l).2
  rw [List.length_append] at this; omega

theorem cut_snd (c : UInt8) (l : List UInt8) : (cutL c l).2.1.length ≤ l.length := by have := cut_len c l; omega

theorem three_setA {w : World} {T : TypeId} {b : Nat} {F : Nat → Value} (h : w.rowIs b T 3 F) (v0 v1 v2 : Value) (o1 o2 : Obj) :
    (((((w.setCell ⟨b, 0, none⟩ v0).setCell ⟨b, 1, none⟩ v1).setCell ⟨b, 2, none⟩ v2).alloc o1).alloc o2).cell? ⟨b, 0, none⟩ = some v0 ∧ (((((w.setCell ⟨b, 0, none⟩ v0).setCell ⟨b, 1, none⟩ v1).setCell ⟨b, 2, none⟩ v2).alloc o1).alloc o2).cell? ⟨b, 1, none⟩ = some v1 ∧ (((((w.setCell ⟨b, 0, none⟩ v0).setCell ⟨b, 1, none⟩ v1).setCell ⟨b, 2, none⟩ v2).alloc o1).alloc o2).cell? ⟨b, 2, none⟩ = some v2 := by
  have W3 := World.rowIs.alloc (World.rowIs.alloc (World.rowIs.set (World.rowIs.set (World.rowIs.set h 0 v0) 1 v1) 2 v2) o1) o2
  have a := World.rowIs.cell W3 (show 0 < 3 by omega)
  have b := World.rowIs.cell W3 (show 1 < 3 by omega)
  have c := World.rowIs.cell W3 (show 2 < 3 by omega)
  exact ⟨a, b, c⟩

/-- The answer of ReadHit. -/
def rdX (l : List UInt8) : Int := if rdHitB l then hId l else 0
def rdY (l : List UInt8) : Int := if rdHitB l then hLow l else 0
def rdZ (l : List UInt8) : Int := if rdHitB l then hHigh l else 0

set_option maxHeartbeats 4000000 in
theorem iReadHit_any (s : ByteArray) (w : World) (hs : s.size ≤ 1048576) (V : Vars w) :
    Calls Tryd.prog 20 #[.string s] w fun e w' => e = .returned (.tuple #[.agg #[.int .i64 (rdX s.data.toList), .int .i64 (rdY s.data.toList), .int .i64 (rdZ s.data.toList)], .bool (rdHitB s.data.toList)]) ∧ Below w.heap.size w w' := by
  obtain ⟨l, hl⟩ : ∃ l, s.data.toList = l := ⟨_, rfl⟩
  have hsz : l.length ≤ 1048576 := by rw [← hl, ← size_list]; exact hs
  have C1 := hide (fun wx => cut58_any s wx hs)
  rw [hl] at C1 ⊢
  have C2 := hide (fun wx => cut46_any (bs (cutL 58 l).2.1) wx (by rw [bs_size]; have := cut_snd 58 l; omega))
  rw [bs_list] at C2
  have C3 := hide (fun wx => cut46_any (bs (cutL 46 (cutL 58 l).2.1).2.1) wx (by rw [bs_size]; have := cut_snd 58 l; have := cut_snd 46 (cutL 58 l).2.1; omega))
  rw [bs_list] at C3
  have HP : Hid (∀ x ∈ hWords l, x.length ≤ 1048576) := hide (fun x hx => by
    have q1 := cut_fst 58 l; have q2 := cut_snd 58 l; have q3 := cut_fst 46 (cutL 58 l).2.1; have q4 := cut_snd 46 (cutL 58 l).2.1; have q5 := cut_snd 46 (cutL 46 (cutL 58 l).2.1).2.1
    unfold hWords hUp hBnd at hx
    rcases List.mem_cons.1 hx with rfl | hx
    · omega
    · rcases List.mem_cons.1 hx with rfl | hx
      · omega
      · rw [List.mem_singleton.1 hx]
        split <;> omega)
  obtain ⟨a, ha⟩ : ∃ a, (cutL 58 l).1 = a := ⟨_, rfl⟩
  obtain ⟨b, hb⟩ : ∃ b, (cutL 58 l).2.1 = b := ⟨_, rfl⟩
  obtain ⟨c, hc⟩ : ∃ c, (cutL 46 b).1 = c := ⟨_, rfl⟩
  obtain ⟨d, hd⟩ : ∃ d, (cutL 46 b).2.1 = d := ⟨_, rfl⟩
  obtain ⟨f, hf⟩ : ∃ f, (cutL 46 d).1 = f := ⟨_, rfl⟩
  obtain ⟨g, hg⟩ : ∃ g, (cutL 46 d).2.1 = g := ⟨_, rfl⟩
  have HW : Hid (hWords l = [a, c, if c = b then c else g]) := hide (by unfold hWords hUp hBnd; rw [ha, hb, hc, hd, hg])
  rw [ha, hb] at C1
  rw [hb, hc, hd] at C2
  rw [hb, hd, hf, hg] at C3
  have HV := hide V
  have HL := hide hl
  clear V hl ha hb hc hd hf hg hsz
  have Z0 : Hid ((w.alloc (.cells #[.int .i64 0, .int .i64 0, .int .i64 0] 38)).rowIs w.heap.size 38 3 (fun _ => .int .i64 0)) := hide (World.rowIs_alloc w #[.int .i64 0, .int .i64 0, .int .i64 0] 38 (fun _ => .int .i64 0) (by intro i hi; rcases (show i = 0 ∨ i = 1 ∨ i = 2 from by simp at hi; omega) with rfl | rfl | rfl <;> rfl))
  have B0 : Hid (Below w.heap.size w (w.alloc (.cells #[.int .i64 0, .int .i64 0, .int .i64 0] 38))) := hide (by repeat' first | with_reducible exact Below.refl _ _ | with_reducible assumption | with_reducible refine below_drewN ?_ _ | with_reducible refine balloc ?_ _ | with_reducible refine Below.drew ?_ | with_reducible refine Below.setCell ?_ (by first | (simp; done) | (simp; omega) | omega) _ | with_reducible refine bstep ?_ (by assumption))
  have eqs : (c = b ∧ ((bs c).toList == (bs b).toList) = true) ∨ (c ≠ b ∧ ((bs c).toList == (bs b).toList) = false) := by
    by_cases e : c = b
    · exact .inl ⟨e, sEq (by rw [e])⟩
    · exact .inr ⟨e, sNe (by rw [bs_list, bs_list]; exact e)⟩
  rcases eqs with ⟨rfl, q⟩ | ⟨hcb, q⟩
  · rw [if_pos rfl] at HW
    go_enter Tryd.func20, Tryd.ntmps20
    go_wp2_with fail
    refine (C1.out _).mono ?_
    rintro e w1 ⟨rfl, hb1⟩
    have lz := World.rowIs.lt Z0.out
    have Z1 := hide (Z0.out.of_block (hb1.block _ lz))
    have B1 := hide (bstep B0.out hb1)
    clear Z0 B0 hb1 lz C1
    go_wp2_with fail
    refine (C2.out _).mono ?_
    rintro e w2 ⟨rfl, hb2⟩
    have lz := World.rowIs.lt Z1.out
    have Z2 := hide (Z1.out.of_block (hb2.block _ lz))
    have B2 := hide (bstep B1.out hb2)
    clear Z1 B1 hb2 lz C2
    go_wp2_with fail
    refine (C3.out _).mono ?_
    rintro e w3 ⟨rfl, hb3⟩
    have lz := World.rowIs.lt Z2.out
    have Z3 := hide (Z2.out.of_block (hb3.block _ lz))
    have B3 := hide (bstep B2.out hb3)
    clear Z2 B2 hb3 lz C3
    go_wp2_with fail
    have NUM := hide (num3_any w3.heap.size _ (w3.alloc (.cells #[.string (bs a), .string (bs c), .string (bs c)] 9)) (strs_three w3 a c c 9) (HW.out ▸ HP.out) (HV.out.below (bstep B3.out (balloc (Below.refl _ _) _))))
    refine NUM.out.mono ?_
    rintro e w4 ⟨x0, x1, x2, rfl, hx, hb4⟩
    have Z4 := hide ((World.rowIs.alloc Z3.out (.cells #[.string (bs a), .string (bs c), .string (bs c)] 9)).of_block (hb4.block _ (World.rowIs.lt (World.rowIs.alloc Z3.out (.cells #[.string (bs a), .string (bs c), .string (bs c)] 9)))))
    have B4 : Hid (Below w.heap.size w w4) := hide (bstep (bstep B3.out (balloc (Below.refl _ _) _)) hb4)
    rw [← HW.out] at hx
    have RW := hide (rdHit_words hx)
    rw [← HW.out]
    have lz := World.rowIs.lt Z4.out
    clear NUM hb4 hx Z3 B3
    cases hA : allNum (hWords l)
    · have NO := hide (show rdHitB l = false from by
        cases q : rdHitB l
        · rfl
        · have := (RW.out.1.2 q).1
          rw [hA] at this; cases this)
      clear hA
      have z0 := World.rowIs.cell Z4.out (show 0 < 3 by omega)
      have z1 := World.rowIs.cell Z4.out (show 1 < 3 by omega)
      have z2 := World.rowIs.cell Z4.out (show 2 < 3 by omega)
      have f0 := World.rowIs.frozen Z4.out 0
      have f1 := World.rowIs.frozen Z4.out 1
      have f2 := World.rowIs.frozen Z4.out 2
      go_wp2_with fail
      obtain ⟨e0, e1, e2⟩ := three_setA Z4.out (.int .i64 0) (.int .i64 0) (.int .i64 0) (.cells #[.int .i64 x0, .int .i64 x1, .int .i64 x2] 59) (.cells #[.int .i64 x0, .int .i64 x1, .int .i64 x2] 38)
      refine bodyPost_ret (v := .tuple #[.agg #[.int .i64 0, .int .i64 0, .int .i64 0], .bool false]) ?_ rfl ⟨by unfold rdX rdY rdZ; rw [NO.out]; rfl, ?_⟩
      · clear z0 z1 z2 f0 f1 f2
        generalize World.alloc (World.alloc _ _) _ = WW at e0 e1 e2 ⊢
        simp [results, Tryd.results20, go_sem, e0, e1, e2]
      · exact ((((B4.out.setCell (Nat.le_refl _) _).setCell (Nat.le_refl _) _).setCell (Nat.le_refl _) _).alloc (by simp [World.setCell]; omega) _).alloc (by simp [World.setCell]; omega) _
    · have B5 : Hid (Below w.heap.size w ((w4.alloc (.cells #[.int .i64 x0, .int .i64 x1, .int .i64 x2] 59)).alloc (.cells #[.int .i64 x0, .int .i64 x1, .int .i64 x2] 38))) := hide ((B4.out.alloc (by omega) _).alloc (by simp; omega) _)
      have HT := hide (iHitText_any x0 x1 x2 _ (HV.out.tab.below B5.out))
      have X5 := hide (show Box3 _ (w4.heap.size + 1) x0 x1 x2 from by simpa using Box3.new (w4.alloc (.cells #[.int .i64 x0, .int .i64 x1, .int .i64 x2] 59)) x0 x1 x2 38)
      have Z5 := hide (World.rowIs.alloc (World.rowIs.alloc Z4.out (.cells #[.int .i64 x0, .int .i64 x1, .int .i64 x2] 59)) (.cells #[.int .i64 x0, .int .i64 x1, .int .i64 x2] 38))
      have eqt : (hitTB x0 x1 x2 = l ∧ ((bs (hitTB x0 x1 x2)).toList == s.toList) = true) ∨ (hitTB x0 x1 x2 ≠ l ∧ ((bs (hitTB x0 x1 x2)).toList == s.toList) = false) := by
        by_cases e : hitTB x0 x1 x2 = l
        · exact .inl ⟨e, sEq (by rw [bs_list, HL.out]; exact e)⟩
        · exact .inr ⟨e, sNe (by rw [bs_list, HL.out]; exact e)⟩
      rcases eqt with ⟨ht, qt⟩ | ⟨ht, qt⟩
      · have YES := hide (show rdHitB l = true from RW.out.1.1 ⟨hA, ht⟩)
        have VS := hide (RW.out.2 YES.out)
        have hbe := hide (show bs (hitTB x0 x1 x2) = s from by rw [ht, ← HL.out, bs_of])
        rw [hbe.out] at HT qt
        clear hA ht
        go_wp2_with fail
        refine HT.out.mono ?_
        rintro e w5 ⟨rfl, hb5⟩
        have B6 := hide (bstep B5.out hb5)
        have lz := World.rowIs.lt Z5.out
        have Z6 := hide (Z5.out.of_block (hb5.block _ lz))
        obtain ⟨lx, x5, x6, x7⟩ := X5.out.below hb5
        have z0 := World.rowIs.cell Z6.out (show 0 < 3 by omega)
        have z1 := World.rowIs.cell Z6.out (show 1 < 3 by omega)
        have z2 := World.rowIs.cell Z6.out (show 2 < 3 by omega)
        have f0 := World.rowIs.frozen Z6.out 0
        have f1 := World.rowIs.frozen Z6.out 1
        have f2 := World.rowIs.frozen Z6.out 2
        clear hb5
        go_wp2_with fail
        obtain ⟨e0, e1, e2⟩ := three_set Z6.out (.int .i64 x0) (.int .i64 x1) (.int .i64 x2)
        refine bodyPost_ret (v := .tuple #[.agg #[.int .i64 x0, .int .i64 x1, .int .i64 x2], .bool true]) (by simp [results, Tryd.results20, go_sem, e0, e1, e2]) rfl ⟨?_, ((B6.out.setCell (Nat.le_refl _) _).setCell (Nat.le_refl _) _).setCell (Nat.le_refl _) _⟩
        obtain ⟨v0, v1, v2⟩ := VS.out
        unfold rdX rdY rdZ
        rw [YES.out, v0, v1, v2]
        rfl
      · have NO := hide (show rdHitB l = false from by
          cases q : rdHitB l
          · rfl
          · exact absurd (RW.out.1.2 q).2 ht)
        clear hA ht
        go_wp2_with fail
        refine HT.out.mono ?_
        rintro e w5 ⟨rfl, hb5⟩
        have B6 := hide (bstep B5.out hb5)
        have lz := World.rowIs.lt Z5.out
        have Z6 := hide (Z5.out.of_block (hb5.block _ lz))
        have z0 := World.rowIs.cell Z6.out (show 0 < 3 by omega)
        have z1 := World.rowIs.cell Z6.out (show 1 < 3 by omega)
        have z2 := World.rowIs.cell Z6.out (show 2 < 3 by omega)
        have f0 := World.rowIs.frozen Z6.out 0
        have f1 := World.rowIs.frozen Z6.out 1
        have f2 := World.rowIs.frozen Z6.out 2
        clear hb5
        go_wp2_with fail
        obtain ⟨e0, e1, e2⟩ := three_set Z6.out (.int .i64 0) (.int .i64 0) (.int .i64 0)
        refine bodyPost_ret (v := .tuple #[.agg #[.int .i64 0, .int .i64 0, .int .i64 0], .bool false]) (by simp [results, Tryd.results20, go_sem, e0, e1, e2]) rfl ⟨?_, ((B6.out.setCell (Nat.le_refl _) _).setCell (Nat.le_refl _) _).setCell (Nat.le_refl _) _⟩
        unfold rdX rdY rdZ
        rw [NO.out]
        rfl
  · rw [if_neg hcb] at HW
    go_enter Tryd.func20, Tryd.ntmps20
    go_wp2_with fail
    refine (C1.out _).mono ?_
    rintro e w1 ⟨rfl, hb1⟩
    have lz := World.rowIs.lt Z0.out
    have Z1 := hide (Z0.out.of_block (hb1.block _ lz))
    have B1 := hide (bstep B0.out hb1)
    clear Z0 B0 hb1 lz C1
    go_wp2_with fail
    refine (C2.out _).mono ?_
    rintro e w2 ⟨rfl, hb2⟩
    have lz := World.rowIs.lt Z1.out
    have Z2 := hide (Z1.out.of_block (hb2.block _ lz))
    have B2 := hide (bstep B1.out hb2)
    clear Z1 B1 hb2 lz C2
    go_wp2_with fail
    refine (C3.out _).mono ?_
    rintro e w3 ⟨rfl, hb3⟩
    have lz := World.rowIs.lt Z2.out
    have Z3 := hide (Z2.out.of_block (hb3.block _ lz))
    have B3 := hide (bstep B2.out hb3)
    clear Z2 B2 hb3 lz C3
    go_wp2_with fail
    have NUM := hide (num3_any w3.heap.size _ (w3.alloc (.cells #[.string (bs a), .string (bs c), .string (bs g)] 9)) (strs_three w3 a c g 9) (HW.out ▸ HP.out) (HV.out.below (bstep B3.out (balloc (Below.refl _ _) _))))
    refine NUM.out.mono ?_
    rintro e w4 ⟨x0, x1, x2, rfl, hx, hb4⟩
    have Z4 := hide ((World.rowIs.alloc Z3.out (.cells #[.string (bs a), .string (bs c), .string (bs g)] 9)).of_block (hb4.block _ (World.rowIs.lt (World.rowIs.alloc Z3.out (.cells #[.string (bs a), .string (bs c), .string (bs g)] 9)))))
    have B4 : Hid (Below w.heap.size w w4) := hide (bstep (bstep B3.out (balloc (Below.refl _ _) _)) hb4)
    rw [← HW.out] at hx
    have RW := hide (rdHit_words hx)
    rw [← HW.out]
    have lz := World.rowIs.lt Z4.out
    clear NUM hb4 hx Z3 B3
    cases hA : allNum (hWords l)
    · have NO := hide (show rdHitB l = false from by
        cases q : rdHitB l
        · rfl
        · have := (RW.out.1.2 q).1
          rw [hA] at this; cases this)
      clear hA
      have z0 := World.rowIs.cell Z4.out (show 0 < 3 by omega)
      have z1 := World.rowIs.cell Z4.out (show 1 < 3 by omega)
      have z2 := World.rowIs.cell Z4.out (show 2 < 3 by omega)
      have f0 := World.rowIs.frozen Z4.out 0
      have f1 := World.rowIs.frozen Z4.out 1
      have f2 := World.rowIs.frozen Z4.out 2
      go_wp2_with fail
      obtain ⟨e0, e1, e2⟩ := three_setA Z4.out (.int .i64 0) (.int .i64 0) (.int .i64 0) (.cells #[.int .i64 x0, .int .i64 x1, .int .i64 x2] 59) (.cells #[.int .i64 x0, .int .i64 x1, .int .i64 x2] 38)
      refine bodyPost_ret (v := .tuple #[.agg #[.int .i64 0, .int .i64 0, .int .i64 0], .bool false]) ?_ rfl ⟨by unfold rdX rdY rdZ; rw [NO.out]; rfl, ?_⟩
      · clear z0 z1 z2 f0 f1 f2
        generalize World.alloc (World.alloc _ _) _ = WW at e0 e1 e2 ⊢
        simp [results, Tryd.results20, go_sem, e0, e1, e2]
      · exact ((((B4.out.setCell (Nat.le_refl _) _).setCell (Nat.le_refl _) _).setCell (Nat.le_refl _) _).alloc (by simp [World.setCell]; omega) _).alloc (by simp [World.setCell]; omega) _
    · have B5 : Hid (Below w.heap.size w ((w4.alloc (.cells #[.int .i64 x0, .int .i64 x1, .int .i64 x2] 59)).alloc (.cells #[.int .i64 x0, .int .i64 x1, .int .i64 x2] 38))) := hide ((B4.out.alloc (by omega) _).alloc (by simp; omega) _)
      have HT := hide (iHitText_any x0 x1 x2 _ (HV.out.tab.below B5.out))
      have X5 := hide (show Box3 _ (w4.heap.size + 1) x0 x1 x2 from by simpa using Box3.new (w4.alloc (.cells #[.int .i64 x0, .int .i64 x1, .int .i64 x2] 59)) x0 x1 x2 38)
      have Z5 := hide (World.rowIs.alloc (World.rowIs.alloc Z4.out (.cells #[.int .i64 x0, .int .i64 x1, .int .i64 x2] 59)) (.cells #[.int .i64 x0, .int .i64 x1, .int .i64 x2] 38))
      have eqt : (hitTB x0 x1 x2 = l ∧ ((bs (hitTB x0 x1 x2)).toList == s.toList) = true) ∨ (hitTB x0 x1 x2 ≠ l ∧ ((bs (hitTB x0 x1 x2)).toList == s.toList) = false) := by
        by_cases e : hitTB x0 x1 x2 = l
        · exact .inl ⟨e, sEq (by rw [bs_list, HL.out]; exact e)⟩
        · exact .inr ⟨e, sNe (by rw [bs_list, HL.out]; exact e)⟩
      rcases eqt with ⟨ht, qt⟩ | ⟨ht, qt⟩
      · have YES := hide (show rdHitB l = true from RW.out.1.1 ⟨hA, ht⟩)
        have VS := hide (RW.out.2 YES.out)
        have hbe := hide (show bs (hitTB x0 x1 x2) = s from by rw [ht, ← HL.out, bs_of])
        rw [hbe.out] at HT qt
        clear hA ht
        go_wp2_with fail
        refine HT.out.mono ?_
        rintro e w5 ⟨rfl, hb5⟩
        have B6 := hide (bstep B5.out hb5)
        have lz := World.rowIs.lt Z5.out
        have Z6 := hide (Z5.out.of_block (hb5.block _ lz))
        obtain ⟨lx, x5, x6, x7⟩ := X5.out.below hb5
        have z0 := World.rowIs.cell Z6.out (show 0 < 3 by omega)
        have z1 := World.rowIs.cell Z6.out (show 1 < 3 by omega)
        have z2 := World.rowIs.cell Z6.out (show 2 < 3 by omega)
        have f0 := World.rowIs.frozen Z6.out 0
        have f1 := World.rowIs.frozen Z6.out 1
        have f2 := World.rowIs.frozen Z6.out 2
        clear hb5
        go_wp2_with fail
        obtain ⟨e0, e1, e2⟩ := three_set Z6.out (.int .i64 x0) (.int .i64 x1) (.int .i64 x2)
        refine bodyPost_ret (v := .tuple #[.agg #[.int .i64 x0, .int .i64 x1, .int .i64 x2], .bool true]) (by simp [results, Tryd.results20, go_sem, e0, e1, e2]) rfl ⟨?_, ((B6.out.setCell (Nat.le_refl _) _).setCell (Nat.le_refl _) _).setCell (Nat.le_refl _) _⟩
        obtain ⟨v0, v1, v2⟩ := VS.out
        unfold rdX rdY rdZ
        rw [YES.out, v0, v1, v2]
        rfl
      · have NO := hide (show rdHitB l = false from by
          cases q : rdHitB l
          · rfl
          · exact absurd (RW.out.1.2 q).2 ht)
        clear hA ht
        go_wp2_with fail
        refine HT.out.mono ?_
        rintro e w5 ⟨rfl, hb5⟩
        have B6 := hide (bstep B5.out hb5)
        have lz := World.rowIs.lt Z5.out
        have Z6 := hide (Z5.out.of_block (hb5.block _ lz))
        have z0 := World.rowIs.cell Z6.out (show 0 < 3 by omega)
        have z1 := World.rowIs.cell Z6.out (show 1 < 3 by omega)
        have z2 := World.rowIs.cell Z6.out (show 2 < 3 by omega)
        have f0 := World.rowIs.frozen Z6.out 0
        have f1 := World.rowIs.frozen Z6.out 1
        have f2 := World.rowIs.frozen Z6.out 2
        clear hb5
        go_wp2_with fail
        obtain ⟨e0, e1, e2⟩ := three_set Z6.out (.int .i64 0) (.int .i64 0) (.int .i64 0)
        refine bodyPost_ret (v := .tuple #[.agg #[.int .i64 0, .int .i64 0, .int .i64 0], .bool false]) (by simp [results, Tryd.results20, go_sem, e0, e1, e2]) rfl ⟨?_, ((B6.out.setCell (Nat.le_refl _) _).setCell (Nat.le_refl _) _).setCell (Nat.le_refl _) _⟩
        unfold rdX rdY rdZ
        rw [NO.out]
        rfl
end Go.Proofs.YtgckhnnkphlciaaDoor

/- ReadHit of the model. -/
namespace Go.Proofs.YtgckhnnkphlciaaDoor
open Go.RowKit
set_option maxRecDepth 8000
open Go.Lib
set_option linter.unusedSimpArgs false
set_option linter.unusedVariables false

theorem l58_any (s : ByteArray) (w : World) (hs : s.size ≤ 1048576) :
    Calls Tryd.prog 31 #[.string s, .int .u8 58] w fun e w' => e = .returned (.tuple #[.string (bs (cutL 58 s.data.toList).1), .string (bs (cutL 58 s.data.toList).2.1), .bool (cutL 58 s.data.toList).2.2]) ∧ Below w.heap.size w w' := l1Cut_any s 58 w (by omega)

theorem l46_any (s : ByteArray) (w : World) (hs : s.size ≤ 1048576) :
    Calls Tryd.prog 31 #[.string s, .int .u8 46] w fun e w' => e = .returned (.tuple #[.string (bs (cutL 46 s.data.toList).1), .string (bs (cutL 46 s.data.toList).2.1), .bool (cutL 46 s.data.toList).2.2]) ∧ Below w.heap.size w w' := l1Cut_any s 46 w (by omega)

theorem mag_len (l : List UInt8) : l.length ≤ (magL l).length + 1 := by
  unfold magL
  split
  · rw [List.length_tail]; omega
  · omega

theorem itoa17 {x : Int} (h0 : 0 ≤ x) (h1 : x ≤ 9999999999999999) : (itoa x).length ≤ 17 := by
  have := ((numL_iff _ _).1 (numL_itoa (x := x) (by omega) h1)).2
  have := mag_len (itoa x)
  omega

theorem rdHit_len {l : List UInt8} (h : rdHitB l = true) : l.length ≤ 60 := by
  obtain ⟨h1, h2⟩ := rdHit_iff.1 h
  obtain ⟨q1, q2⟩ := hitTB_is h2 h1
  obtain ⟨_, a1, a2, a3, a4, a5⟩ := hit_parts q1
  have i1 := itoa17 (x := hId l) (by omega) (by omega)
  have i2 := itoa17 (x := hLow l) (by omega) (by omega)
  have i3 := itoa17 (x := hHigh l) (by omega) (by omega)
  have e := congrArg List.length q2
  unfold hitT at e
  split at e
  · simp at e; omega
  · simp at e; omega

/-- A list of three numbers, by place. -/
def f3 (a b c : Int) (j : Nat) : Value := .int .i64 (if j = 0 then a else if j = 1 then b else c)

theorem f3_new (w : World) (a b c : Int) (T : TypeId) : (w.alloc (.cells #[.int .i64 a, .int .i64 b, .int .i64 c] T)).rowIs w.heap.size T 3 (f3 a b c) :=
  World.rowIs_alloc w #[.int .i64 a, .int .i64 b, .int .i64 c] T (f3 a b c) (by intro i hi; rcases (show i = 0 ∨ i = 1 ∨ i = 2 from by simp at hi; omega) with rfl | rfl | rfl <;> rfl)

theorem f3_set0 {w : World} {q : Nat} {T : TypeId} {a b c : Int} (h : w.rowIs q T 3 (f3 a b c)) (x : Int) : (w.setCell ⟨q, 0, none⟩ (.int .i64 x)).rowIs q T 3 (f3 x b c) :=
  (World.rowIs.set h 0 _).congr fun j hj => by rcases (show j = 0 ∨ j = 1 ∨ j = 2 from by omega) with rfl | rfl | rfl <;> rfl

theorem f3_set1 {w : World} {q : Nat} {T : TypeId} {a b c : Int} (h : w.rowIs q T 3 (f3 a b c)) (x : Int) : (w.setCell ⟨q, 1, none⟩ (.int .i64 x)).rowIs q T 3 (f3 a x c) :=
  (World.rowIs.set h 1 _).congr fun j hj => by rcases (show j = 0 ∨ j = 1 ∨ j = 2 from by omega) with rfl | rfl | rfl <;> rfl

theorem f3_set2 {w : World} {q : Nat} {T : TypeId} {a b c : Int} (h : w.rowIs q T 3 (f3 a b c)) (x : Int) : (w.setCell ⟨q, 2, none⟩ (.int .i64 x)).rowIs q T 3 (f3 a b x) :=
  (World.rowIs.set h 2 _).congr fun j hj => by rcases (show j = 0 ∨ j = 1 ∨ j = 2 from by omega) with rfl | rfl | rfl <;> rfl
/-- The two boxes: the answer's, and the hit's. -/
structure TwoH (w0 w : World) (q : Nat) (a b c : Int) : Prop where
  res : w.rowIs w0.heap.size 38 3 (f3 0 0 0)
  box : w.rowIs q 38 3 (f3 a b c)
  ne : w0.heap.size < q
  bel : Below w0.heap.size w0 w

theorem TwoH.below {w0 w w' : World} {q : Nat} {a b c : Int} (h : TwoH w0 w q a b c) (hb : Below w.heap.size w w') : TwoH w0 w' q a b c :=
  ⟨h.res.of_block (hb.block _ (World.rowIs.lt h.res)), h.box.of_block (hb.block _ (World.rowIs.lt h.box)), h.ne, bstep h.bel hb⟩

theorem TwoH.set0 {w0 w : World} {q : Nat} {a b c : Int} (h : TwoH w0 w q a b c) (x : Int) : TwoH w0 (w.setCell ⟨q, 0, none⟩ (.int .i64 x)) q x b c :=
  ⟨World.rowIs.setOther h.res (by have := h.ne; simp; omega) _, f3_set0 h.box x, h.ne, h.bel.setCell (Nat.le_of_lt h.ne) _⟩

theorem TwoH.set1 {w0 w : World} {q : Nat} {a b c : Int} (h : TwoH w0 w q a b c) (x : Int) : TwoH w0 (w.setCell ⟨q, 1, none⟩ (.int .i64 x)) q a x c :=
  ⟨World.rowIs.setOther h.res (by have := h.ne; simp; omega) _, f3_set1 h.box x, h.ne, h.bel.setCell (Nat.le_of_lt h.ne) _⟩

theorem TwoH.set2 {w0 w : World} {q : Nat} {a b c : Int} (h : TwoH w0 w q a b c) (x : Int) : TwoH w0 (w.setCell ⟨q, 2, none⟩ (.int .i64 x)) q a b x :=
  ⟨World.rowIs.setOther h.res (by have := h.ne; simp; omega) _, f3_set2 h.box x, h.ne, h.bel.setCell (Nat.le_of_lt h.ne) _⟩

theorem TwoH.facts {w0 w : World} {q : Nat} {a b c : Int} (h : TwoH w0 w q a b c) :
    (q < w.heap.size ∧ w.cell? ⟨q, 0, none⟩ = some (.int .i64 a) ∧ w.cell? ⟨q, 1, none⟩ = some (.int .i64 b) ∧ w.cell? ⟨q, 2, none⟩ = some (.int .i64 c) ∧ w.frozen? ⟨q, 0, none⟩ = false ∧ w.frozen? ⟨q, 1, none⟩ = false ∧ w.frozen? ⟨q, 2, none⟩ = false) ∧
    (w0.heap.size < w.heap.size ∧ w.cell? ⟨w0.heap.size, 0, none⟩ = some (.int .i64 0) ∧ w.cell? ⟨w0.heap.size, 1, none⟩ = some (.int .i64 0) ∧ w.cell? ⟨w0.heap.size, 2, none⟩ = some (.int .i64 0) ∧ w.frozen? ⟨w0.heap.size, 0, none⟩ = false ∧ w.frozen? ⟨w0.heap.size, 1, none⟩ = false ∧ w.frozen? ⟨w0.heap.size, 2, none⟩ = false) :=
  ⟨⟨World.rowIs.lt h.box, World.rowIs.cell h.box (show 0 < 3 by omega), World.rowIs.cell h.box (show 1 < 3 by omega), World.rowIs.cell h.box (show 2 < 3 by omega), World.rowIs.frozen h.box 0, World.rowIs.frozen h.box 1, World.rowIs.frozen h.box 2⟩,
   ⟨World.rowIs.lt h.res, World.rowIs.cell h.res (show 0 < 3 by omega), World.rowIs.cell h.res (show 1 < 3 by omega), World.rowIs.cell h.res (show 2 < 3 by omega), World.rowIs.frozen h.res 0, World.rowIs.frozen h.res 1, World.rowIs.frozen h.res 2⟩⟩

end Go.Proofs.YtgckhnnkphlciaaDoor
