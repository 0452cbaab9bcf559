/- Items that are read out of a text; plain; and the two boxes of a reader of items. -/
import Derived.Test.YtecheolhmohhjaaGreatDoorZ25
import Derived.Test.YtecheolhmohhjaaGreatDoorZ16
import Derived.Test.YtecheolhmohhjaaGreatDoorZ26
import Derived.Test.YtecheolhmohhjaaGreatDoorZ21
import Derived.Test.YtecheolhmohhjaaGreatDoorZ24
import Derived.Test.YtecheolhmohhjaaGreatDoorZ19
import Derived.Test.YtecheolhmohhjaaGreatDoorZ12
namespace Go.Proofs.YtecheolhmohhjaaGreatDoor
open Go.RowKit
set_option maxRecDepth 8000
open Go.Lib
set_option linter.unusedSimpArgs false
set_option linter.unusedVariables false

/-- The item that a text is read as, before it is held against its text. -/
def iRest (l : List UInt8) : List UInt8 := (cutL 32 l).2.1
def iVecT (l : List UInt8) : List UInt8 := (cutL 32 (iRest l)).2.1
def rdIt (l : List UInt8) : It := ⟨numV (cutL 32 l).1, numV (cutL 32 (iRest l)).1, readVL (iVecT l)⟩
def rdItB (l : List UInt8) : Bool := !l.isEmpty && decide (itemTB (rdIt l) = l)
def iWords (l : List UInt8) : List (List UInt8) := [(cutL 32 l).1, (cutL 32 (iRest l)).1]
/-- The answer. -/
def rdItem (l : List UInt8) : It := if rdItB l then rdIt l else ⟨0, 0, []⟩

theorem itemTB_is {x : It} {l : List UInt8} (h : itemTB x = l) (hl : l ≠ []) : itemB x.vec.length x = true ∧ itemT x = l := by
  unfold itemTB at h
  cases q : itemB x.vec.length x
  · rw [q, if_neg (by decide)] at h; exact absurd h.symm hl
  · rw [q, if_pos rfl] at h; exact ⟨rfl, h⟩

theorem rdIt_iff {l : List UInt8} : rdItB l = true ↔ l ≠ [] ∧ itemTB (rdIt l) = l := by
  unfold rdItB
  rw [Bool.and_eq_true, decide_eq_true_eq]
  cases l <;> simp

theorem itemT_cuts {x : It} (h0 : 0 ≤ x.id) (h1 : 0 ≤ x.tags) : (cutL 32 (itemT x)).1 = itoa x.id ∧ (cutL 32 (iRest (itemT x))).1 = itoa x.tags ∧ iVecT (itemT x) = vecT x.vec := by
  have i1 := not_in_itoa (x := x.id) h0 (c := 32) (by decide)
  have i2 := not_in_itoa (x := x.tags) h1 (c := 32) (by decide)
  have e0 : itemT x = itoa x.id ++ 32 :: (itoa x.tags ++ 32 :: vecT x.vec) := by unfold itemT; simp
  have e1 : cutL 32 (itemT x) = (itoa x.id, itoa x.tags ++ 32 :: vecT x.vec, true) := by rw [e0]; exact cut_app 32 _ _ i1
  have e2 : iRest (itemT x) = itoa x.tags ++ 32 :: vecT x.vec := by unfold iRest; rw [e1]
  have e3 : cutL 32 (iRest (itemT x)) = (itoa x.tags, vecT x.vec, true) := by rw [e2]; exact cut_app 32 _ _ i2
  exact ⟨by rw [e1], by rw [e3], by unfold iVecT; rw [e3]⟩

theorem item_words {x : It} {d : Int} (h : itemB d x = true) : allNum (iWords (itemT x)) = true := by
  obtain ⟨a1, a2, a3, a4, _⟩ := item_parts h
  obtain ⟨c1, c2, _⟩ := itemT_cuts (x := x) (by omega) a3
  have n1 := numV_itoa (x := x.id) (by omega) (by omega)
  have n2 := numV_itoa (x := x.tags) (by omega) (by omega)
  unfold iWords
  rw [c1, c2]
  simp [allNum, n1.2, n2.2]
/-- What the program reads: both words are numbers, and their item's text is the text. -/
theorem rdIt_words {l : List UInt8} {x0 x1 : Int} (hx : allNum (iWords l) = true → x0 = nth ((iWords l).map numV) 0 ∧ x1 = nth ((iWords l).map numV) 1) :
    (allNum (iWords l) = true ∧ itemTB ⟨x0, x1, readVL (iVecT l)⟩ = l ↔ rdItB l = true) ∧ (rdItB l = true → x0 = (rdIt l).id ∧ x1 = (rdIt l).tags) := by
  have back : rdItB l = true → allNum (iWords l) = true := fun h => by
    obtain ⟨h1, h2⟩ := rdIt_iff.1 h
    obtain ⟨q1, q2⟩ := itemTB_is h2 h1
    have := item_words q1
    rw [q2] at this
    exact this
  have vals : allNum (iWords l) = true → x0 = (rdIt l).id ∧ x1 = (rdIt l).tags := fun h => hx h
  refine ⟨⟨fun ⟨ha, ht⟩ => ?_, fun h => ?_⟩, fun h => vals (back h)⟩
  · have hl : l ≠ [] := fun q => by
      subst q
      have : allNum (iWords []) = false := by decide
      rw [this] at ha; cases ha
    obtain ⟨v0, v1⟩ := vals ha
    rw [v0, v1] at ht
    exact rdIt_iff.2 ⟨hl, ht⟩
  · obtain ⟨v0, v1⟩ := vals (back h)
    rw [v0, v1]
    exact ⟨back h, (rdIt_iff.1 h).2⟩

theorem rdIt_len {l : List UInt8} (h : rdItB l = true) : l.length ≤ 120 := by
  obtain ⟨h1, h2⟩ := rdIt_iff.1 h
  obtain ⟨q1, q2⟩ := itemTB_is h2 h1
  obtain ⟨a1, a2, a3, a4, hv⟩ := item_parts q1
  obtain ⟨⟨n1, n8⟩, hm⟩ := vecOk_mem hv
  have i1 := itoa17 (x := (rdIt l).id) (by omega) (by omega)
  have i2 := itoa17 (x := (rdIt l).tags) (by omega) (by omega)
  have vl := vecT_len9 _ (rdIt l).vec rfl hm
  have e := congrArg List.length q2
  unfold itemT at e
  simp at e
  omega

theorem readVL_len8 (l : List UInt8) : (readVL l).length ≤ 8 := by
  unfold readVL
  split
  · rename_i h
    have h' := h
    unfold readVB at h'
    simp only [Bool.and_eq_true, decide_eq_true_eq] at h'
    by_cases hv : vecOkB (valV l) = true
    · exact (vecOk_mem hv).1.2
    · exfalso
      have e := h'.2.2
      unfold vecTB at e
      rw [if_neg hv] at e
      exact h'.1 e.symm
  · simp

/-- Three cells, by place. -/
def v3 (a b c : Value) (j : Nat) : Value := if j = 0 then a else if j = 1 then b else c

theorem v3_new (w : World) (a b c : Value) (T : TypeId) : (w.alloc (.cells #[a, b, c] T)).rowIs w.heap.size T 3 (v3 a b c) :=
  World.rowIs_alloc w #[a, b, c] T (v3 a b c) (by intro i hi; rcases (show i = 0 ∨ i = 1 ∨ i = 2 from by simp at hi; omega) with rfl | rfl | rfl <;> rfl)
/-- The two boxes: the answer's, and the item's. -/
structure TwoI (w0 w : World) (q : Nat) (a b : Int) (c : Value) : Prop where
  res : w.rowIs w0.heap.size 26 3 (v3 (.int .i64 0) (.int .i64 0) (.slice none 0 0))
  box : w.rowIs q 26 3 (v3 (.int .i64 a) (.int .i64 b) c)
  ne : w0.heap.size < q
  bel : Below w0.heap.size w0 w

theorem TwoI.below {w0 w w' : World} {q : Nat} {a b : Int} {c : Value} (h : TwoI w0 w q a b c) (hb : Below w.heap.size w w') : TwoI w0 w' q a b c :=
  ⟨h.res.of_block (hb.block _ (World.rowIs.lt h.res)), h.box.of_block (hb.block _ (World.rowIs.lt h.box)), h.ne, bstep h.bel hb⟩

theorem TwoI.set0 {w0 w : World} {q : Nat} {a b : Int} {c : Value} (h : TwoI w0 w q a b c) (x : Int) : TwoI w0 (w.setCell ⟨q, 0, none⟩ (.int .i64 x)) q x b c :=
  ⟨World.rowIs.setOther h.res (by have := h.ne; simp; omega) _, (World.rowIs.set h.box 0 _).congr fun j hj => by rcases (show j = 0 ∨ j = 1 ∨ j = 2 from by omega) with rfl | rfl | rfl <;> rfl, h.ne, h.bel.setCell (Nat.le_of_lt h.ne) _⟩

theorem TwoI.set1 {w0 w : World} {q : Nat} {a b : Int} {c : Value} (h : TwoI w0 w q a b c) (x : Int) : TwoI w0 (w.setCell ⟨q, 1, none⟩ (.int .i64 x)) q a x c :=
  ⟨World.rowIs.setOther h.res (by have := h.ne; simp; omega) _, (World.rowIs.set h.box 1 _).congr fun j hj => by rcases (show j = 0 ∨ j = 1 ∨ j = 2 from by omega) with rfl | rfl | rfl <;> rfl, h.ne, h.bel.setCell (Nat.le_of_lt h.ne) _⟩

theorem TwoI.set2 {w0 w : World} {q : Nat} {a b : Int} {c : Value} (h : TwoI w0 w q a b c) (x : Value) : TwoI w0 (w.setCell ⟨q, 2, none⟩ x) q a b x :=
  ⟨World.rowIs.setOther h.res (by have := h.ne; simp; omega) _, (World.rowIs.set h.box 2 _).congr fun j hj => by rcases (show j = 0 ∨ j = 1 ∨ j = 2 from by omega) with rfl | rfl | rfl <;> rfl, h.ne, h.bel.setCell (Nat.le_of_lt h.ne) _⟩

theorem TwoI.facts {w0 w : World} {q : Nat} {a b : Int} {c : Value} (h : TwoI w0 w q a b c) :
    (q < w.heap.size ∧ w.cell? ⟨q, 0, none⟩ = some (.int .i64 a) ∧ w.cell? ⟨q, 1, none⟩ = some (.int .i64 b) ∧ w.cell? ⟨q, 2, none⟩ = some c ∧ w.frozen? ⟨q, 0, none⟩ = false ∧ w.frozen? ⟨q, 1, none⟩ = false ∧ w.frozen? ⟨q, 2, none⟩ = false) ∧
    (w0.heap.size < w.heap.size ∧ w.cell? ⟨w0.heap.size, 0, none⟩ = some (.int .i64 0) ∧ w.cell? ⟨w0.heap.size, 1, none⟩ = some (.int .i64 0) ∧ w.cell? ⟨w0.heap.size, 2, none⟩ = some (.slice none 0 0) ∧ w.frozen? ⟨w0.heap.size, 0, none⟩ = false ∧ w.frozen? ⟨w0.heap.size, 1, none⟩ = false ∧ w.frozen? ⟨w0.heap.size, 2, none⟩ = false) :=
  ⟨⟨World.rowIs.lt h.box, World.rowIs.cell h.box (show 0 < 3 by omega), World.rowIs.cell h.box (show 1 < 3 by omega), World.rowIs.cell h.box (show 2 < 3 by omega), World.rowIs.frozen h.box 0, World.rowIs.frozen h.box 1, World.rowIs.frozen h.box 2⟩,
   ⟨World.rowIs.lt h.res, World.rowIs.cell h.res (show 0 < 3 by omega), World.rowIs.cell h.res (show 1 < 3 by omega), World.rowIs.cell h.res (show 2 < 3 by omega), World.rowIs.frozen h.res 0, World.rowIs.frozen h.res 1, World.rowIs.frozen h.res 2⟩⟩

theorem But.set3 (w : World) (b : Nat) (v0 v1 v2 : Value) : But b w (((w.setCell ⟨b, 0, none⟩ v0).setCell ⟨b, 1, none⟩ v1).setCell ⟨b, 2, none⟩ v2) := (((But.refl b w).setCell 0 v0).setCell 1 v1).setCell 2 v2

theorem set3_bel {B : Nat} {w0 w : World} (h : Below B w0 w) (v0 v1 v2 : Value) : Below B w0 (((w.setCell ⟨B, 0, none⟩ v0).setCell ⟨B, 1, none⟩ v1).setCell ⟨B, 2, none⟩ v2) :=
  ((h.setCell (Nat.le_refl _) _).setCell (Nat.le_refl _) _).setCell (Nat.le_refl _) _

theorem Mine.mono {B C : Nat} {w : World} {a : Option Addr} {n : Nat} {xs : List Int} (h : Mine C w a n xs) (hB : B ≤ C) : Mine B w a n xs := by
  refine ⟨h.len, ?_⟩
  rcases h.lies with h0 | ⟨g, e, hg, ho⟩
  · exact .inl h0
  · exact .inr ⟨g, e, Nat.le_trans hB hg, ho⟩

theorem mine_none (B : Nat) (w : World) : Mine B w none 0 [] := ⟨rfl, .inl ⟨rfl, rfl⟩⟩
end Go.Proofs.YtecheolhmohhjaaGreatDoor

/- ReadItem of the program. -/
namespace Go.Proofs.YtecheolhmohhjaaGreatDoor
open Go.RowKit
set_option maxRecDepth 8000
set_option linter.unusedSimpArgs false
set_option linter.unusedVariables false

theorem cut32_any (s : ByteArray) (w : World) (hs : s.size ≤ 1048576) :
    Calls Tryz.prog 20 #[.string s, .int .i32 32] w fun e w' => e = .returned (.tuple #[.string (bs (cutL 32 s.data.toList).1), .string (bs (cutL 32 s.data.toList).2.1)]) ∧ Below w.heap.size w w' := iCutAt_any s 32 (by decide) w (by omega)

theorem strs_two (w : World) (a b : List UInt8) (T : TypeId) : Strs (w.alloc (.cells #[.string (bs a), .string (bs b)] T)) w.heap.size 2 [a, b] :=
  ⟨by simp, rfl, fun j hj => by rcases (show j = 0 ∨ j = 1 from by omega) with rfl | rfl <;> exact ⟨_, rfl, by simp⟩⟩

theorem num2_any (g : Nat) (P : List (List UInt8)) (w : World) (S : Strs w g 2 P) (hsz : ∀ x ∈ P, x.length ≤ 1048576) (V : Vars w) :
    Calls Tryz.prog 21 #[.slice (some ⟨g, 0, none⟩) 2 2, .int .i64 2] w fun e w' => INums w P e w' := iReadNumbers_any g 2 2 P w (by omega) (by omega) S hsz V

/-- The answer of the program's ReadItem. -/
def IReadI (w : World) (l : List UInt8) (e : Ending) (w' : World) : Prop :=
  ∃ a n c, e = .returned (.tuple #[.agg #[.int .i64 (rdItem l).id, .int .i64 (rdItem l).tags, .slice a n c], .bool (rdItB l)]) ∧ Mine w.heap.size w' a n (rdItem l).vec ∧ n ≤ 8 ∧ Below w.heap.size w w'

set_option maxHeartbeats 4000000 in
theorem iReadItem_any (s : ByteArray) (w : World) (hs : s.size ≤ 1048576) (V : Vars w) (M : Mlen w) :
    Calls Tryz.prog 8 #[.string s] w fun e w' => IReadI w s.data.toList e w' := by
  obtain ⟨l, hl⟩ : ∃ l, s.data.toList = l := ⟨_, rfl⟩
  have hsz : l.length ≤ 1048576 := by rw [← hl, ← size_list]; exact hs
  have C1 := hide (fun wx => cut32_any s wx hs)
  rw [hl] at C1 ⊢
  have q1 := cut_fst 32 l; have q2 := cut_snd 32 l; have q3 := cut_fst 32 (cutL 32 l).2.1; have q4 := cut_snd 32 (cutL 32 l).2.1
  have C2 := hide (fun wx => cut32_any (bs (cutL 32 l).2.1) wx (by rw [bs_size]; omega))
  rw [bs_list] at C2
  have IR := hide (fun wx V M => iReadVec_any (bs (cutL 32 (cutL 32 l).2.1).2.1) wx (by rw [bs_size]; omega) V M)
  rw [bs_list] at IR
  have HP : Hid (∀ x ∈ iWords l, x.length ≤ 1048576) := hide (fun x hx => by
    unfold iWords iRest at hx
    rcases List.mem_cons.1 hx with rfl | hx
    · omega
    · rw [List.mem_singleton.1 hx]; omega)
  obtain ⟨a, ha⟩ : ∃ a, (cutL 32 l).1 = a := ⟨_, rfl⟩
  obtain ⟨b, hb⟩ : ∃ b, (cutL 32 l).2.1 = b := ⟨_, rfl⟩
  obtain ⟨c, hc⟩ : ∃ c, (cutL 32 b).1 = c := ⟨_, rfl⟩
  obtain ⟨g, hg⟩ : ∃ g, (cutL 32 b).2.1 = g := ⟨_, rfl⟩
  have HW : Hid (iWords l = [a, c]) := hide (by unfold iWords iRest; rw [ha, hb, hc])
  have HG : Hid (iVecT l = g) := hide (by unfold iVecT iRest; rw [hb, hg])
  rw [ha, hb] at C1
  rw [hb, hc, hg] at C2
  rw [hb, hg] at IR
  have X8 := readVL_len8 g
  unfold IRead at IR
  obtain ⟨X, hX⟩ : ∃ X, readVL g = X := ⟨_, rfl⟩
  rw [hX] at X8
  simp only [hX] at IR
  generalize readVB g = bb at IR
  have HX : Hid (readVL (iVecT l) = X) := hide (by rw [HG.out]; exact hX)
  have HV := hide V
  have HM := hide M
  have HL := hide hl
  have HX8 := hide X8
  clear V M hl ha hb hc hg hsz q1 q2 q3 q4 hX X8 HG
  have Z0 := hide (v3_new w (.int .i64 0) (.int .i64 0) (.slice none 0 0) 26)
  have B0 : Hid (Below w.heap.size w (w.alloc (.cells #[.int .i64 0, .int .i64 0, .slice none 0 0] 26))) := hide (by repeat' first | with_reducible exact Below.refl _ _ | with_reducible assumption | with_reducible refine below_drewN ?_ _ | with_reducible refine balloc ?_ _ | with_reducible refine Below.drew ?_ | with_reducible refine Below.setCell ?_ (by first | (simp; done) | (simp; omega) | omega) _ | with_reducible refine bstep ?_ (by assumption))
  go_enter Tryz.func8, Tryz.ntmps8
  go_wp2_with fail
  refine (C1.out _).mono ?_
  rintro e w1 ⟨rfl, hb1⟩
  have Z1 := hide (Z0.out.of_block (hb1.block _ (World.rowIs.lt Z0.out)))
  have B1 := hide (bstep B0.out hb1)
  clear Z0 B0 hb1 C1
  go_wp2_with fail
  refine (C2.out _).mono ?_
  rintro e w2 ⟨rfl, hb2⟩
  have Z2 := hide (Z1.out.of_block (hb2.block _ (World.rowIs.lt Z1.out)))
  have B2 := hide (bstep B1.out hb2)
  clear Z1 B1 hb2 C2
  go_wp2_with fail
  have NUM := hide (num2_any w2.heap.size _ (w2.alloc (.cells #[.string (bs a), .string (bs c)] 9)) (strs_two w2 a c 9) (HW.out ▸ HP.out) (HV.out.below (bstep B2.out (balloc (Below.refl _ _) _))))
  refine NUM.out.mono ?_
  rintro e w4 ⟨x0, x1, x2, rfl, hx, hb4⟩
  have Z4 := hide ((World.rowIs.alloc Z2.out (.cells #[.string (bs a), .string (bs c)] 9)).of_block (hb4.block _ (World.rowIs.lt (World.rowIs.alloc Z2.out (.cells #[.string (bs a), .string (bs c)] 9)))))
  have B4 : Hid (Below w.heap.size w w4) := hide (bstep (bstep B2.out (balloc (Below.refl _ _) _)) hb4)
  rw [← HW.out] at hx
  have RW := hide (rdIt_words (l := l) (x0 := x0) (x1 := x1) (fun h => ⟨(hx h).1, (hx h).2.1⟩))
  rw [HX.out] at RW
  rw [← HW.out]
  clear NUM hb4 hx Z2 B2
  have T5 : Hid (TwoI w ((w4.alloc (.cells #[.int .i64 x0, .int .i64 x1, .int .i64 x2] 45)).alloc (.cells #[.int .i64 x0, .int .i64 x1, .slice none 0 0] 26)) (w4.heap.size + 1) x0 x1 (.slice none 0 0)) := hide
    ⟨World.rowIs.alloc (World.rowIs.alloc Z4.out _) _, by simpa using v3_new (w4.alloc (.cells #[.int .i64 x0, .int .i64 x1, .int .i64 x2] 45)) (.int .i64 x0) (.int .i64 x1) (.slice none 0 0) 26, Nat.lt_succ_of_lt (World.rowIs.lt Z4.out), balloc (balloc B4.out _) _⟩
  have lz := World.rowIs.lt Z4.out
  clear Z4 B4
  go_wp2_with fail
  refine (IR.out _ (HV.out.below T5.out.bel) (HM.out.below T5.out.bel)).mono ?_
  rintro e w6 ⟨v, rfl, hf, hb6⟩
  obtain ⟨a6, c6, rfl, hm6⟩ := hf.mine
  obtain ⟨m, hm⟩ : ∃ m, X.length = m := ⟨_, rfl⟩
  rw [hm] at hm6 ⊢
  have M6 := hide hm6
  have m8 : m ≤ 8 := by have := HX8.out; omega
  have T6 := hide (T5.out.below hb6)
  have l6 := hb6.size
  obtain ⟨⟨lq, c0, c1, c2, f0, f1, f2⟩, _⟩ := T6.out.facts
  have T7 := hide (T6.out.set2 (.slice a6 m c6))
  have M7 : Hid (Mine (w4.heap.size + 1 + 1) (w6.setCell ⟨w4.heap.size + 1, 2, none⟩ (.slice a6 m c6)) a6 m X) := hide ((by simpa using M6.out : Mine (w4.heap.size + 1 + 1) w6 a6 m X).but ((But.refl (w4.heap.size + 1) w6).setCell 2 _) (Nat.lt_succ_self _))
  clear hm hf hm6 hb6 T5 T6 M6 IR HX8 l6
  obtain ⟨⟨lr, d0, d1, d2, k0, k1, k2⟩, ⟨ls, e0, e1, e2, j0, j1, j2⟩⟩ := T7.out.facts
  cases hA : allNum (iWords l)
  · have NO := hide (show rdItB l = false from by
      cases q : rdItB l
      · rfl
      · have := (RW.out.1.2 q).1
        rw [hA] at this; cases this)
    clear hA
    go_wp2_with fail
    obtain ⟨r0, r1, r2⟩ := three_set T7.out.res (.int .i64 0) (.int .i64 0) (.slice none 0 0)
    refine bodyPost_ret (v := .tuple #[.agg #[.int .i64 0, .int .i64 0, .slice none 0 0], .bool false]) (by simp [results, Tryz.results8, go_sem, r0, r1, r2]) rfl ?_
    unfold IReadI rdItem
    rw [NO.out]
    exact ⟨_, _, _, rfl, mine_none _ _, by omega, set3_bel T7.out.bel _ _ _⟩
  · have HT := hide (iItemText_any ⟨x0, x1, X⟩ a6 m c6 _ M7.out.row (by omega) (HV.out.below T7.out.bel).tab)
    have eqt : (itemTB ⟨x0, x1, X⟩ = l ∧ ((bs (itemTB ⟨x0, x1, X⟩)).toList == s.toList) = true) ∨ (itemTB ⟨x0, x1, X⟩ ≠ l ∧ ((bs (itemTB ⟨x0, x1, X⟩)).toList == s.toList) = false) := by
      by_cases e : itemTB ⟨x0, x1, X⟩ = l
      · exact .inl ⟨e, sEq (by rw [bs_list, HL.out]; exact e)⟩
      · exact .inr ⟨e, sNe (by rw [bs_list, HL.out]; exact e)⟩
    rcases eqt with ⟨ht, qt⟩ | ⟨ht, qt⟩
    · have YES := hide (show rdItB l = true from RW.out.1.1 ⟨hA, ht⟩)
      have VS := hide (RW.out.2 YES.out)
      have hbe := hide (show bs (itemTB ⟨x0, x1, X⟩) = s from by rw [ht, ← HL.out, bs_of])
      rw [hbe.out] at HT qt
      clear hA ht
      go_wp2_with fail
      refine HT.out.mono ?_
      rintro e w8 ⟨rfl, hb8⟩
      have T8 := hide (T7.out.below hb8)
      have M8 := hide (M7.out.below hb8)
      clear hb8 lq c0 c1 c2 f0 f1 f2 lr d0 d1 d2 k0 k1 k2 ls e0 e1 e2 j0 j1 j2
      obtain ⟨⟨lr, d0, d1, d2, k0, k1, k2⟩, ⟨ls, e0, e1, e2, j0, j1, j2⟩⟩ := T8.out.facts
      go_wp2_with fail
      obtain ⟨r0, r1, r2⟩ := three_set T8.out.res (.int .i64 x0) (.int .i64 x1) (.slice a6 m c6)
      refine bodyPost_ret (v := .tuple #[.agg #[.int .i64 x0, .int .i64 x1, .slice a6 m c6], .bool true]) (by simp [results, Tryz.results8, go_sem, r0, r1, r2]) rfl ?_
      obtain ⟨v0, v1⟩ := VS.out
      unfold IReadI rdItem
      rw [YES.out, if_pos rfl, ← v0, ← v1, show (rdIt l).vec = X from HX.out]
      exact ⟨_, _, _, rfl, (M8.out.but (But.set3 _ _ _ _ _) (by omega)).mono (by omega), m8, set3_bel T8.out.bel _ _ _⟩
    · have NO := hide (show rdItB l = false from by
        cases q : rdItB l
        · rfl
        · exact absurd (RW.out.1.2 q).2 ht)
      clear hA ht
      go_wp2_with fail
      refine HT.out.mono ?_
      rintro e w8 ⟨rfl, hb8⟩
      have T8 := hide (T7.out.below hb8)
      clear hb8 lq c0 c1 c2 f0 f1 f2 lr d0 d1 d2 k0 k1 k2 ls e0 e1 e2 j0 j1 j2
      obtain ⟨⟨lr, d0, d1, d2, k0, k1, k2⟩, ⟨ls, e0, e1, e2, j0, j1, j2⟩⟩ := T8.out.facts
      go_wp2_with fail
      obtain ⟨r0, r1, r2⟩ := three_set T8.out.res (.int .i64 0) (.int .i64 0) (.slice none 0 0)
      refine bodyPost_ret (v := .tuple #[.agg #[.int .i64 0, .int .i64 0, .slice none 0 0], .bool false]) (by simp [results, Tryz.results8, go_sem, r0, r1, r2]) rfl ?_
      unfold IReadI rdItem
      rw [NO.out]
      exact ⟨_, _, _, rfl, mine_none _ _, by omega, set3_bel T8.out.bel _ _ _⟩
end Go.Proofs.YtecheolhmohhjaaGreatDoor

/- ReadItem of the model. -/
namespace Go.Proofs.YtecheolhmohhjaaGreatDoor
open Go.RowKit
set_option maxRecDepth 8000
set_option linter.unusedSimpArgs false
set_option linter.unusedVariables false

theorem l32_any (s : ByteArray) (w : World) (hs : s.size ≤ 1048576) :
    Calls Tryz.prog 23 #[.string s, .int .u8 32] w fun e w' => e = .returned (.tuple #[.string (bs (cutL 32 s.data.toList).1), .string (bs (cutL 32 s.data.toList).2.1), .bool (cutL 32 s.data.toList).2.2]) ∧ Below w.heap.size w w' := l1Cut_any s 32 w (by omega)
/-- The answer of the model's ReadItem. -/
def SReadI (w : World) (l : List UInt8) (e : Ending) (w' : World) : Prop :=
  ∃ a n c, e = .returned (.tuple #[.agg #[.int .i64 (rdItem l).id, .int .i64 (rdItem l).tags, .slice a n c], .bool (rdItB l)]) ∧ Row w' a n (rdItem l).vec ∧ n ≤ 8 ∧ Below w.heap.size w w'

set_option maxHeartbeats 4000000 in
theorem sReadItem_any (s : ByteArray) (w : World) (hs : s.size ≤ 1048576) :
    Calls Tryz.prog 9 #[.string s] w fun e w' => SReadI w s.data.toList e w' := by
  obtain ⟨l, hl⟩ : ∃ l, s.data.toList = l := ⟨_, rfl⟩
  have hsz : l.length = s.size := by rw [← hl, ← size_list]
  have C1 := hide (fun wx => l32_any s wx hs)
  rw [hl] at C1 ⊢
  have q1 := cut_fst 32 l; have q2 := cut_snd 32 l; have q3 := cut_fst 32 (cutL 32 l).2.1; have q4 := cut_snd 32 (cutL 32 l).2.1
  have C2 := hide (fun wx => l32_any (bs (cutL 32 l).2.1) wx (by rw [bs_size]; omega))
  rw [bs_list] at C2
  have N1 := hide (fun wx => l1Num_any (bs (cutL 32 l).1) wx (by rw [bs_size]; omega))
  have N2 := hide (fun wx => l1Num_any (bs (cutL 32 (cutL 32 l).2.1).1) wx (by rw [bs_size]; omega))
  rw [bs_list] at N1 N2
  have SR := hide (fun wx => sReadVec_own (bs (cutL 32 (cutL 32 l).2.1).2.1) wx (by rw [bs_size]; omega))
  rw [bs_list] at SR
  unfold SReadF at SR
  have HL := hide hl
  by_cases h120 : 120 < s.size
  · have NO := hide (show rdItB l = false from by
      cases q : rdItB l
      · rfl
      · have := rdIt_len q; omega)
    clear C1 C2 N1 N2 hl hsz q1 q2 q3 q4 SR
    go_enter Tryz.func9, Tryz.ntmps9
    go_wp2_with fail
    refine bodyPost_ret (v := .tuple #[.agg #[.int .i64 0, .int .i64 0, .slice none 0 0], .bool false]) (by simp [results, Tryz.results9, go_sem]) rfl ?_
    unfold SReadI rdItem
    rw [NO.out]
    exact ⟨_, _, _, rfl, ⟨rfl, .inl rfl⟩, by omega, (by repeat' first | with_reducible exact Below.refl _ _ | with_reducible assumption | with_reducible refine below_drewN ?_ _ | with_reducible refine balloc ?_ _ | with_reducible refine Below.drew ?_ | with_reducible refine Below.setCell ?_ (by first | (simp; done) | (simp; omega) | omega) _ | with_reducible refine bstep ?_ (by assumption))⟩
  · have hx0 : Hid ((rdIt l).id = numV (cutL 32 l).1) := hide rfl
    have hx1 : Hid ((rdIt l).tags = numV (cutL 32 (cutL 32 l).2.1).1) := hide rfl
    have hX : Hid ((rdIt l).vec = readVL (cutL 32 (cutL 32 l).2.1).2.1) := hide rfl
    rw [← hx0.out] at N1
    rw [← hx1.out] at N2
    simp only [← hX.out] at SR
    clear hx0 hx1 hX
    have Z0 := hide (v3_new w (.int .i64 0) (.int .i64 0) (.slice none 0 0) 26)
    have B0 : Hid (Below w.heap.size w (w.alloc (.cells #[.int .i64 0, .int .i64 0, .slice none 0 0] 26))) := hide (by repeat' first | with_reducible exact Below.refl _ _ | with_reducible assumption | with_reducible refine below_drewN ?_ _ | with_reducible refine balloc ?_ _ | with_reducible refine Below.drew ?_ | with_reducible refine Below.setCell ?_ (by first | (simp; done) | (simp; omega) | omega) _ | with_reducible refine bstep ?_ (by assumption))
    generalize (numL (cutL 32 l).1).isSome = g1 at N1
    generalize (numL (cutL 32 (cutL 32 l).2.1).1).isSome = g2 at N2
    generalize readVB (cutL 32 (cutL 32 l).2.1).2.1 = bb at SR
    clear hl hsz q1 q2 q3 q4
    generalize (cutL 32 l).1 = a at C1 N1
    generalize (cutL 32 l).2.1 = b at C1 C2 N2 SR
    generalize (cutL 32 b).1 = c at C2 N2
    generalize (cutL 32 b).2.1 = g at C2 SR
    generalize (cutL 32 b).2.2 = is at C2
    obtain ⟨x0, hx0⟩ : ∃ x0, (rdIt l).id = x0 := ⟨_, rfl⟩
    obtain ⟨x1, hx1⟩ : ∃ x1, (rdIt l).tags = x1 := ⟨_, rfl⟩
    obtain ⟨X, hX⟩ : ∃ X, (rdIt l).vec = X := ⟨_, rfl⟩
    have HI : Hid (rdIt l = ⟨x0, x1, X⟩) := hide (by rw [← hx0, ← hx1, ← hX])
    rw [hx0] at N1
    rw [hx1] at N2
    simp only [hX] at SR
    obtain ⟨m, hm⟩ : ∃ m, X.length = m := ⟨_, rfl⟩
    simp only [hm] at SR
    clear hx0 hx1 hX hm
    go_enter Tryz.func9, Tryz.ntmps9
    go_wp2_with fail
    refine (C1.out _).mono ?_
    rintro e w1 ⟨rfl, hb1⟩
    have Z1 := hide (Z0.out.of_block (hb1.block _ (World.rowIs.lt Z0.out)))
    have B1 := hide (bstep B0.out hb1)
    clear Z0 B0 hb1 C1
    go_wp2_with fail
    refine (C2.out _).mono ?_
    rintro e w2 ⟨rfl, hb2⟩
    have Z2 := hide (Z1.out.of_block (hb2.block _ (World.rowIs.lt Z1.out)))
    have B2 := hide (bstep B1.out hb2)
    clear Z1 B1 hb2 C2
    have T2 : Hid (TwoI w (w2.alloc (.cells #[.int .i64 0, .int .i64 0, .slice none 0 0] 26)) w2.heap.size 0 0 (.slice none 0 0)) := hide ⟨World.rowIs.alloc Z2.out _, v3_new w2 (.int .i64 0) (.int .i64 0) (.slice none 0 0) 26, World.rowIs.lt Z2.out, bstep B2.out (balloc (Below.refl _ _) _)⟩
    clear Z2 B2
    go_wp2_with fail
    refine (N1.out _).mono ?_
    rintro e w3 ⟨rfl, hb3⟩
    have T3 := hide (T2.out.below hb3)
    clear T2 hb3 N1
    obtain ⟨⟨lq, c0, c1, c2, f0, f1, f2⟩, _⟩ := T3.out.facts
    go_wp2_with fail
    refine (N2.out _).mono ?_
    rintro e w4 ⟨rfl, hb4⟩
    have T4 := hide ((T3.out.set0 x0).below hb4)
    clear T3 hb4 N2 lq c0 c1 c2 f0 f1 f2
    obtain ⟨⟨lq, c0, c1, c2, f0, f1, f2⟩, _⟩ := T4.out.facts
    have T5 := hide (T4.out.set1 x1)
    go_wp2_with fail
    refine (SR.out _).mono ?_
    rintro e w5 ⟨a5, c5, rfl, hr5, hm8, hb5, hf5⟩
    have T6 := hide (T5.out.below hb5)
    have l5 : w2.heap.size < (w4.setCell ⟨w2.heap.size, 1, none⟩ (.int .i64 x1)).heap.size := by simpa [World.setCell] using lq
    have R6 : Hid (Row (w5.setCell ⟨w2.heap.size, 2, none⟩ (.slice a5 m c5)) a5 m X) := hide (((But.refl w2.heap.size w5).setCell 2 _).row hr5 fun b off e => by have := hf5 b off e; omega)
    have N6 : Hid (∀ b off, a5 = some ⟨b, off, none⟩ → b ≠ w.heap.size) := hide fun b off e => by have := hf5 b off e; have := T4.out.ne; omega
    clear T4 T5 hb5 hr5 hf5 SR lq c0 c1 c2 f0 f1 f2 l5
    obtain ⟨⟨lq, c0, c1, c2, f0, f1, f2⟩, _⟩ := T6.out.facts
    have T7 := hide (T6.out.set2 (.slice a5 m c5))
    have eqz : (l = [] ∧ s.toList = []) ∨ (l ≠ [] ∧ ¬ s.toList = []) := by
      by_cases e : l = []
      · exact .inl ⟨e, by rw [ByteArray.toList_eq, HL.out]; exact e⟩
      · exact .inr ⟨e, by rw [ByteArray.toList_eq, HL.out]; exact e⟩
    have HTX := hide (sItemText_any ⟨x0, x1, X⟩ a5 m c5 _ R6.out (by omega))
    obtain ⟨⟨lr, d0, d1, d2, k0, k1, k2⟩, ⟨ls, e0, e1, e2, j0, j1, j2⟩⟩ := T7.out.facts
    have eqy : ¬ s.toList = [] → (s.toList == []) = false := fun h => by simpa using h
    rcases eqz with ⟨hz, qz⟩ | ⟨hz, qz⟩
    · clear eqy
      have NO := hide (show rdItB l = false from by rw [hz]; rfl)
      clear hz
      go_wp2_with fail
      obtain ⟨r0, r1, r2⟩ := three_set T7.out.res (.int .i64 0) (.int .i64 0) (.slice none 0 0)
      refine bodyPost_ret (v := .tuple #[.agg #[.int .i64 0, .int .i64 0, .slice none 0 0], .bool false]) (by simp [results, Tryz.results9, go_sem, r0, r1, r2]) rfl ?_
      unfold SReadI rdItem
      rw [NO.out]
      exact ⟨_, _, _, rfl, ⟨rfl, .inl rfl⟩, by omega, set3_bel T7.out.bel _ _ _⟩
    · have qy := eqy qz
      clear eqy
      have eqt : (itemTB ⟨x0, x1, X⟩ = l ∧ ((bs (itemTB ⟨x0, x1, X⟩)).toList == s.toList) = true) ∨ (itemTB ⟨x0, x1, X⟩ ≠ l ∧ ((bs (itemTB ⟨x0, x1, X⟩)).toList == s.toList) = false) := by
        by_cases e : itemTB ⟨x0, x1, X⟩ = l
        · exact .inl ⟨e, sEq (by rw [bs_list, HL.out]; exact e)⟩
        · exact .inr ⟨e, sNe (by rw [bs_list, HL.out]; exact e)⟩
      rcases eqt with ⟨ht, qt⟩ | ⟨ht, qt⟩
      · have YES := hide (rdIt_iff.2 ⟨hz, by rw [HI.out]; exact ht⟩)
        have hbe := hide (show bs (itemTB ⟨x0, x1, X⟩) = s from by rw [ht, ← HL.out, bs_of])
        rw [hbe.out] at HTX qt
        clear hz ht
        go_wp2_with fail
        refine HTX.out.mono ?_
        rintro e w8 ⟨rfl, hb8⟩
        have T8 := hide (T7.out.below hb8)
        have R8 := hide (R6.out.below hb8)
        clear hb8 lq c0 c1 c2 f0 f1 f2 lr d0 d1 d2 k0 k1 k2 ls e0 e1 e2 j0 j1 j2
        obtain ⟨⟨lr, d0, d1, d2, k0, k1, k2⟩, ⟨ls, e0, e1, e2, j0, j1, j2⟩⟩ := T8.out.facts
        go_wp2_with fail
        obtain ⟨r0, r1, r2⟩ := three_set T8.out.res (.int .i64 x0) (.int .i64 x1) (.slice a5 m c5)
        refine bodyPost_ret (v := .tuple #[.agg #[.int .i64 x0, .int .i64 x1, .slice a5 m c5], .bool true]) (by simp [results, Tryz.results9, go_sem, r0, r1, r2]) rfl ?_
        unfold SReadI rdItem
        rw [YES.out, if_pos rfl, HI.out]
        exact ⟨_, _, _, rfl, (But.set3 _ _ _ _ _).row R8.out N6.out, hm8, set3_bel T8.out.bel _ _ _⟩
      · have NO := hide (show rdItB l = false from by
          cases q : rdItB l
          · rfl
          · have := (rdIt_iff.1 q).2; rw [HI.out] at this; exact absurd this ht)
        clear hz ht
        go_wp2_with fail
        refine HTX.out.mono ?_
        rintro e w8 ⟨rfl, hb8⟩
        have T8 := hide (T7.out.below hb8)
        clear hb8 lq c0 c1 c2 f0 f1 f2 lr d0 d1 d2 k0 k1 k2 ls e0 e1 e2 j0 j1 j2
        obtain ⟨⟨lr, d0, d1, d2, k0, k1, k2⟩, ⟨ls, e0, e1, e2, j0, j1, j2⟩⟩ := T8.out.facts
        go_wp2_with fail
        obtain ⟨r0, r1, r2⟩ := three_set T8.out.res (.int .i64 0) (.int .i64 0) (.slice none 0 0)
        refine bodyPost_ret (v := .tuple #[.agg #[.int .i64 0, .int .i64 0, .slice none 0 0], .bool false]) (by simp [results, Tryz.results9, go_sem, r0, r1, r2]) rfl ?_
        unfold SReadI rdItem
        rw [NO.out]
        exact ⟨_, _, _, rfl, ⟨rfl, .inl rfl⟩, by omega, set3_bel T8.out.bel _ _ _⟩
end Go.Proofs.YtecheolhmohhjaaGreatDoor
