/- The reader of drawn bytes: tags, item. -/
import Derived.Test.YtecheolhmohhjaaGreatDoorZ10
import Derived.Test.YtecheolhmohhjaaGreatDoorZ13
import Derived.Test.YtecheolhmohhjaaGreatDoorZ14
namespace Go.Proofs.YtecheolhmohhjaaGreatDoor
open Go.RowKit
set_option maxRecDepth 8000
set_option linter.unusedSimpArgs false
set_option linter.unusedVariables false

set_option maxHeartbeats 1000000 in
set_option maxRecDepth 8000 in
theorem tags_any (B rb n c : Nat) (a : Option Addr) (w : World) (h : Rd B w rb a n c) :
    Calls Tryz.prog 32 #[.pointer (some ⟨rb, 0, none⟩)] w fun e w' => RdPost B w rb a n c .i64 0 255 e w' := by
  have N := hide (fun w (h : Rd B w rb a n c) => below_any B rb n c a 7 w h (by omega) (by omega))
  have HR := hide h
  have hlt := h.lt
  clear h
  go_enter Tryz.func32, Tryz.ntmps32
  go_wp2_with fail
  refine (N.out _ (HR.out.alloc _)).mono ?_
  rintro e w2 ⟨u, rfl, u0, u1, hr2, hb2⟩
  have k : ∀ (o : Nat) (x : Int), (w.alloc (.cells #[.int .i64 0, .int .i64 1, .int .i64 2, .int .i64 3, .int .i64 3, .int .i64 7, .int .i64 255] 3)).cell? ⟨w.heap.size, o, none⟩ = some (.int .i64 x) → w2.cell? ⟨w.heap.size, o, none⟩ = some (.int .i64 x) := fun o x hx => (hb2.cell (p := ⟨w.heap.size, o, none⟩) (by simp) (by simp; omega)).trans hx
  have k0 := k 0 0 (by simp [go_sem])
  have k1 := k 1 1 (by simp [go_sem])
  have k2 := k 2 2 (by simp [go_sem])
  have k3 := k 3 3 (by simp [go_sem])
  have k4 := k 4 3 (by simp [go_sem])
  have k5 := k 5 7 (by simp [go_sem])
  have k6 := k 6 255 (by simp [go_sem])
  have HB2 := hide ((But.refl rb w).alloc (.cells #[.int .i64 0, .int .i64 1, .int .i64 2, .int .i64 3, .int .i64 3, .int .i64 7, .int .i64 255] 3) |>.trans hb2)
  clear hb2 k
  rcases (show u = 0 ∨ u = 1 ∨ u = 2 ∨ u = 3 ∨ u = 4 ∨ u = 5 ∨ u = 6 by omega) with rfl | rfl | rfl | rfl | rfl | rfl | rfl
  all_goals
    go_wp2
    go_ret
    exact ⟨_, rfl, by omega, by omega, hr2, HB2.out⟩

/-- What item leaves: an item, its vector owned by the call. -/
def ItemPost (B : Nat) (w : World) (rb : Nat) (a : Option Addr) (n c d : Nat) (e : Ending) (w' : World) : Prop :=
  ∃ (i t : Int) (g k : Nat) (f : Nat → Int), e = .returned (.agg #[.int .i64 i, .int .i64 t, .slice (some ⟨g, 0, none⟩) d k]) ∧ w'.ownsRow w.heap.size 2 1 (.slice (some ⟨g, 0, none⟩) d k) d (vals f d) ∧ Rd B w' rb a n c ∧ But rb w w'

theorem Tri.but {g : Nat} {w w' : World} {b : Nat} {x y z : Value} (h : Tri w b x y z) (hb : But g w w') (hne : b ≠ g) : Tri w' b x y z :=
  ⟨Nat.lt_of_lt_of_le h.lt hb.size, (hb.cell (p := ⟨b, 0, none⟩) h.lt hne).trans h.c0, (hb.cell (p := ⟨b, 1, none⟩) h.lt hne).trans h.c1, (hb.cell (p := ⟨b, 2, none⟩) h.lt hne).trans h.c2,
   (hb.frozen (p := ⟨b, 0, none⟩) h.lt hne).trans h.f0, (hb.frozen (p := ⟨b, 1, none⟩) h.lt hne).trans h.f1, (hb.frozen (p := ⟨b, 2, none⟩) h.lt hne).trans h.f2⟩

theorem owns_low {w : World} {base base' : Nat} {e : TypeId} {size : Nat} {v : Value} {n : Nat} {xs : List Value} (h : w.ownsRow base e size v n xs) (hb : base' ≤ base) : w.ownsRow base' e size v n xs := by
  refine ⟨h.1, ?_⟩
  rcases h.2 with h0 | ⟨g, cap, cur, hv, hg, hr⟩
  · exact .inl h0
  · exact .inr ⟨g, cap, cur, hv, by omega, hr⟩

set_option maxHeartbeats 1000000 in
set_option maxRecDepth 8000 in
theorem item_any (B rb n c : Nat) (a : Option Addr) (d : Nat) (w : World) (h : Rd B w rb a n c) (hB : B ≤ w.heap.size) (d1 : 1 ≤ d) (hd : d ≤ 100) :
    Calls Tryz.prog 14 #[.pointer (some ⟨rb, 0, none⟩), .int .i64 d] w fun e w' => ItemPost B w rb a n c d e w' := by
  have N := hide (fun w (h : Rd B w rb a n c) => below_any B rb n c a 14 w h (by omega) (by omega))
  have T := hide (fun w (h : Rd B w rb a n c) => tags_any B rb n c a w h)
  have V := hide (fun w (h : Rd B w rb a n c) (hB : B ≤ w.heap.size) => vec_any B rb n c a d w h hB hd)
  have HR := hide h
  have hlt := h.lt
  clear h
  go_enter Tryz.func14, Tryz.ntmps14
  go_wp2_with fail
  refine (N.out _ (HR.out.alloc _)).mono ?_
  rintro e w1 ⟨i, rfl, i0, i1, r1, b1⟩
  have t1 := (Tri.new w (.int .i64 0) (.int .i64 0) (.slice none 0 0) 26).but b1 (by omega)
  have HB1 := hide ((But.refl rb w).alloc (.cells #[.int .i64 0, .int .i64 0, .slice none 0 0] 26) |>.trans b1)
  have s1 := b1.size
  simp at s1
  obtain ⟨q0, q1, q2, q3, q4, q5, q6⟩ := t1
  clear b1
  go_wp2_with fail
  refine (T.out _ r1).mono ?_
  rintro e w2 ⟨t, rfl, t0, t1, r2, b2⟩
  have T2 := hide (Tri.but (b := w.heap.size) (x := .int .i64 0) (y := .int .i64 0) (z := .slice none 0 0) ⟨q0, q1, q2, q3, q4, q5, q6⟩ b2 (by omega))
  have HB2 := hide (HB1.out.trans b2)
  have s2 := b2.size
  clear q0 q1 q2 q3 q4 q5 q6 b2 HB1
  go_wp2_with fail
  refine (V.out _ r2 (by omega)).mono ?_
  rintro e w3 ⟨v, f, rfl, o3, r3, b3⟩
  obtain ⟨g3, c3, rfl, _, _⟩ := o3.form (by omega)
  obtain ⟨q0, q1, q2, q3, q4, q5, q6⟩ := T2.out.but b3 (by omega)
  have HO := hide o3
  have HR3 := hide r3
  have HB3 := hide (HB2.out.trans b3)
  have s3 := b3.size
  clear o3 b3 r3 r2 r1 T2 HB2 V T N
  go_wp2_with fail
  refine bodyPost_ret (v := .agg #[.int .i64 (1 + i), .int .i64 t, .slice (some ⟨g3, 0, none⟩) d c3]) ?_ rfl ?_
  · simp [results, Tryz.results14, go_sem, q1, q2, q3]
  · have bb : But w.heap.size w3 (((w3.setCell ⟨w.heap.size, 0, none⟩ (.int .i64 (1 + i))).setCell ⟨w.heap.size, 1, none⟩ (.int .i64 t)).setCell ⟨w.heap.size, 2, none⟩ (.slice (some ⟨g3, 0, none⟩) d c3)) := (((But.refl _ w3).setCell 0 _).setCell 1 _).setCell 2 _
    exact ⟨_, _, g3, c3, f, rfl, owns_low (owns_but HO.out bb (by omega)) (by omega), HR3.out.but bb hB (by omega), but_far (but_far (but_far HB3.out (Nat.le_refl _) _ _) (Nat.le_refl _) _ _) (Nat.le_refl _) _ _⟩
end Go.Proofs.YtecheolhmohhjaaGreatDoor

/- The reader of drawn bytes: hurtItem. -/
namespace Go.Proofs.YtecheolhmohhjaaGreatDoor
open Go.RowKit
set_option maxRecDepth 8000
set_option linter.unusedSimpArgs false
set_option linter.unusedVariables false

theorem Tri.kp {rb g : Nat} {w w' : World} {b : Nat} {x y z : Value} (h : Tri w b x y z) (hb : KpG rb g w w') (h1 : b ≠ rb) (h2 : b ≠ g) : Tri w' b x y z := by
  have e := hb.2 b h.lt h1 h2
  exact ⟨Nat.lt_of_lt_of_le h.lt hb.1, (World.cell?_of_block (a := ⟨b, 0, none⟩) e).trans h.c0, (World.cell?_of_block (a := ⟨b, 1, none⟩) e).trans h.c1, (World.cell?_of_block (a := ⟨b, 2, none⟩) e).trans h.c2,
    (World.frozen?_of_block (a := ⟨b, 0, none⟩) e).trans h.f0, (World.frozen?_of_block (a := ⟨b, 1, none⟩) e).trans h.f1, (World.frozen?_of_block (a := ⟨b, 2, none⟩) e).trans h.f2⟩
/-- A block of cells of items. -/
def IsBlk (w : World) (b : Nat) : Prop := ∃ c z, w.heap[b]? = some (.cells c 26 z)

theorem IsBlk.keep {w w' : World} {b : Nat} (h : IsBlk w b) (hk : w'.heap[b]? = w.heap[b]?) : IsBlk w' b := by
  obtain ⟨c, z, hc⟩ := h
  exact ⟨c, z, hk.trans hc⟩

theorem IsBlk.set {w : World} {b : Nat} (h : IsBlk w b) (p : Addr) (u : Value) (hp : p.spot = none := by rfl) : IsBlk (w.setCell p u) b := by
  obtain ⟨c, z, hc⟩ := h
  by_cases e : b = p.block
  · subst e
    have hlt := (Array.getElem?_eq_some_iff.1 hc).1
    refine ⟨c.setIfInBounds p.off u, z, ?_⟩
    simp [World.setCell, hc, hlt, hp, Array.getElem_modify, (Array.getElem?_eq_some_iff.1 hc).2]
  · exact ⟨c, z, (Below.heap_setCell w p u b e).trans hc⟩

theorem owns_item {w : World} {base : Nat} {v : Value} {n : Nat} {xs : List Value} {b : Nat} (h : w.ownsRow base 2 1 v n xs) (hb : IsBlk w b) (o : Nat) (u : Value) : (w.setCell ⟨b, o, none⟩ u).ownsRow base 2 1 v n xs := by
  refine ⟨h.1, ?_⟩
  rcases h.2 with h0 | ⟨g, cap, cur, hv, hg, hh, hr⟩
  · exact .inl h0
  · refine .inr ⟨g, cap, cur, hv, hg, ?_, hr⟩
    have hne : g ≠ b := by
      rintro rfl
      obtain ⟨c, z, hc⟩ := hb
      rw [hc] at hh
      simp at hh
    exact (Below.heap_setCell w ⟨b, o, none⟩ u g hne).trans hh

theorem IsBlk.but {rb : Nat} {w w' : World} {b : Nat} (h : IsBlk w b) (hb : But rb w w') (hne : b ≠ rb) : IsBlk w' b := by
  obtain ⟨c, z, hc⟩ := h
  exact ⟨c, z, (hb.block b (Array.getElem?_eq_some_iff.1 hc).1 hne).trans hc⟩

structure HIt (B : Nat) (w0 w : World) (rb g : Nat) (a : Option Addr) (n c : Nat) (v : Value) (d : Nat) (f : Nat → Int) (W : World) : Prop where
  own : W.ownsRow w0.heap.size 2 1 v d (vals f d)
  rd : Rd B W rb a n c
  but : But rb w0 W
  kp : KpG rb g w W

theorem HIt.set {B : Nat} {w0 w : World} {rb g : Nat} {a : Option Addr} {n c : Nat} {v : Value} {d : Nat} {f : Nat → Int} {W : World} (h : HIt B w0 w rb g a n c v d f W) (hB : B ≤ w0.heap.size) (hw : w0.heap.size ≤ w.heap.size) (hrb : rb < w0.heap.size) {b : Nat} (hb : w.heap.size ≤ b) (hib : IsBlk W b) (o : Nat) (u : Value) :
    HIt B w0 w rb g a n c v d f (W.setCell ⟨b, o, none⟩ u) :=
  ⟨owns_item h.own hib o u, h.rd.but ((But.refl b W).setCell o u) (by omega) (by omega), but_far h.but (by omega) o u, h.kp.far b o u hb⟩
def HurtItPost (B : Nat) (w0 w : World) (rb g : Nat) (a : Option Addr) (n c : Nat) (e : Ending) (w' : World) : Prop :=
  ∃ (i t : Int) (v : Value) (d : Nat) (f : Nat → Int), e = .returned (.agg #[.int .i64 i, .int .i64 t, v]) ∧ d ≤ 200 ∧ w'.ownsRow w0.heap.size 2 1 v d (vals f d) ∧ Rd B w' rb a n c ∧ But rb w0 w' ∧ KpG rb g w w'

set_option maxHeartbeats 2000000 in
set_option maxRecDepth 8000 in
theorem hurtItem_any (B rb n c : Nat) (a : Option Addr) (i t : Int) (d cap g : Nat) (f : Nat → Int) (w0 w : World) (h : Rd B w rb a n c) (hB : B ≤ w0.heap.size) (hrb : rb < w0.heap.size) (hb : But rb w0 w) (d1 : 1 ≤ d) (d2 : d ≤ 100) (ho : w.ownsRow w0.heap.size 2 1 (.slice (some ⟨g, 0, none⟩) d cap) d (vals f d)) :
    Calls Tryz.prog 13 #[.pointer (some ⟨rb, 0, none⟩), .agg #[.int .i64 i, .int .i64 t, .slice (some ⟨g, 0, none⟩) d cap]] w fun e w' => HurtItPost B w0 w rb g a n c e w' := by
  have N := hide (fun w (h : Rd B w rb a n c) => below_any B rb n c a 24 w h (by omega) (by omega))
  have O := hide (fun (lo hi : Int) w (h : Rd B w rb a n c) (h1 : -2251799813685248 ≤ lo) (h2 : lo ≤ 2251799813685248) (h3 : -2251799813685248 ≤ hi) (h4 : hi ≤ 2251799813685248) => off_any B rb n c a lo hi w h h1 h2 h3 h4)
  have V := hide (fun w (h : Rd B w rb a n c) (hb : But rb w0 w) (ho : w.ownsRow w0.heap.size 2 1 (.slice (some ⟨g, 0, none⟩) d cap) d (vals f d)) => hurtVec2_any B rb n c a d cap g f w0 w h hB hrb hb d1 d2 ho)
  have HO := hide ho
  have HB := hide hb
  have HR := hide h
  have glt := ho.lt g rfl
  have s0 := hb.size
  clear h ho hb
  have hbw : rb < w.heap.size := by omega
  go_enter Tryz.func13, Tryz.ntmps13
  go_wp2_with fail
  refine (N.out _ ((HR.out.alloc _).alloc _)).mono ?_
  rintro e w1 ⟨v, rfl, v0, v1, r1, b1⟩
  have T1 := hide (((Tri.new w (.int .i64 i) (.int .i64 t) (.slice (some ⟨g, 0, none⟩) d cap) 26).alloc (.cells #[.int .i64 0, .int .i64 0, .slice none 0 0] 26)).but b1 (by omega))
  have U1 := hide ((Tri.newAt (w.alloc (.cells #[.int .i64 i, .int .i64 t, .slice (some ⟨g, 0, none⟩) d cap] 26)) (.int .i64 0) (.int .i64 0) (.slice none 0 0) 26 (w.heap.size + 1) (by simp)).but b1 (by omega))
  have IA := hide ((show IsBlk ((w.alloc (.cells #[.int .i64 i, .int .i64 t, .slice (some ⟨g, 0, none⟩) d cap] 26)).alloc (.cells #[.int .i64 0, .int .i64 0, .slice none 0 0] 26)) w.heap.size from ⟨_, _, (Below.heap_alloc _ _ _ (by simp)).trans (heap_alloc_new w _)⟩).but b1 (by omega))
  have IB := hide ((show IsBlk ((w.alloc (.cells #[.int .i64 i, .int .i64 t, .slice (some ⟨g, 0, none⟩) d cap] 26)).alloc (.cells #[.int .i64 0, .int .i64 0, .slice none 0 0] 26)) (w.heap.size + 1) from ⟨_, _, by have := heap_alloc_new (w.alloc (.cells #[.int .i64 i, .int .i64 t, .slice (some ⟨g, 0, none⟩) d cap] 26)) (.cells #[.int .i64 0, .int .i64 0, .slice none 0 0] 26); simpa using this⟩).but b1 (by omega))
  have HB1 := hide (((HB.out.alloc (.cells #[.int .i64 i, .int .i64 t, .slice (some ⟨g, 0, none⟩) d cap] 26)).alloc (.cells #[.int .i64 0, .int .i64 0, .slice none 0 0] 26)).trans b1)
  have HK1 := hide (((((KpG.ofBut g (But.refl rb w)).alloc (.cells #[.int .i64 i, .int .i64 t, .slice (some ⟨g, 0, none⟩) d cap] 26)).alloc (.cells #[.int .i64 0, .int .i64 0, .slice none 0 0] 26))).but b1)
  have HO1 := hide (owns_but ((HO.out.alloc (.cells #[.int .i64 i, .int .i64 t, .slice (some ⟨g, 0, none⟩) d cap] 26)).alloc (.cells #[.int .i64 0, .int .i64 0, .slice none 0 0] 26)) b1 hrb)
  have HR1 := hide r1
  have s1 := b1.size
  simp at s1
  clear b1 r1 HB HO HR N
  obtain ⟨q0, q1, q2, q3, q4, q5, q6⟩ := T1.out
  obtain ⟨p0, p1, p2, p3, p4, p5, p6⟩ := U1.out
  by_cases e0 : v = 0
  · have z0 : (v == 0) = true := by simp [e0]
    clear q0 q1 q2 q3 q4 q5 q6 p0 p1 p2 p3 p4 p5 p6
    go_wp2_with fail
    refine (O.out _ _ _ HR1.out (by omega) (by omega) (by omega) (by omega)).mono ?_
    rintro e w2 ⟨x, rfl, r2, b2⟩
    obtain ⟨q0, q1, q2, q3, q4, q5, q6⟩ := T1.out.but b2 (by omega)
    obtain ⟨p0, p1, p2, p3, p4, p5, p6⟩ := U1.out.but b2 (by omega)
    have HR2 := hide r2
    have HB2 := hide (HB1.out.trans b2)
    have HK2 := hide (HK1.out.but b2)
    have HO2 := hide (owns_but HO1.out b2 hrb)
    have IA2 := hide (IA.out.but b2 (by omega))
    have IB2 := hide (IB.out.but b2 (by omega))
    clear r2 b2 HB1 HK1 HO1 T1 U1 IA IB HR1
    go_wp2_with fail
    refine bodyPost_ret (v := .agg #[.int .i64 x, .int .i64 t, .slice (some ⟨g, 0, none⟩) d cap]) ?_ rfl ?_
    · simp [results, Tryz.results13, go_sem, p1, p2, p3]
    · have S0 : HIt B w0 w rb g a n c _ _ _ w2 := ⟨HO2.out, HR2.out, HB2.out, HK2.out⟩
      have S1 := S0.set hB s0 hrb (Nat.le_refl _) IA2.out 0 (.int .i64 x)
      have B1 := IB2.out.set ⟨w.heap.size, 0, none⟩ (.int .i64 x)
      have S2 := S1.set hB s0 hrb (Nat.le_succ _) B1 0 (.int .i64 x)
      have B2 := B1.set ⟨w.heap.size + 1, 0, none⟩ (.int .i64 x)
      have S3 := S2.set hB s0 hrb (Nat.le_succ _) B2 1 (.int .i64 t)
      have B3 := B2.set ⟨w.heap.size + 1, 1, none⟩ (.int .i64 t)
      have S4 := S3.set hB s0 hrb (Nat.le_succ _) B3 2 (.slice (some ⟨g, 0, none⟩) d cap)
      exact ⟨_, _, _, _, _, rfl, by omega, S4.own, S4.rd, S4.but, S4.kp⟩
  · have z0 : (v == 0) = false := by simp [e0]
    by_cases e1 : v = 1
    · have z1 : (v == 1) = true := by simp [e1]
      clear q0 q1 q2 q3 q4 q5 q6 p0 p1 p2 p3 p4 p5 p6
      go_wp2_with fail
      refine (O.out _ _ _ HR1.out (by omega) (by omega) (by omega) (by omega)).mono ?_
      rintro e w2 ⟨x, rfl, r2, b2⟩
      obtain ⟨q0, q1, q2, q3, q4, q5, q6⟩ := T1.out.but b2 (by omega)
      obtain ⟨p0, p1, p2, p3, p4, p5, p6⟩ := U1.out.but b2 (by omega)
      have HR2 := hide r2
      have HB2 := hide (HB1.out.trans b2)
      have HK2 := hide (HK1.out.but b2)
      have HO2 := hide (owns_but HO1.out b2 hrb)
      have IA2 := hide (IA.out.but b2 (by omega))
      have IB2 := hide (IB.out.but b2 (by omega))
      clear r2 b2 HB1 HK1 HO1 T1 U1 IA IB HR1
      go_wp2_with fail
      refine bodyPost_ret (v := .agg #[.int .i64 i, .int .i64 x, .slice (some ⟨g, 0, none⟩) d cap]) ?_ rfl ?_
      · simp [results, Tryz.results13, go_sem, p1, p2, p3]
      · have S0 : HIt B w0 w rb g a n c _ _ _ w2 := ⟨HO2.out, HR2.out, HB2.out, HK2.out⟩
        have S1 := S0.set hB s0 hrb (Nat.le_refl _) IA2.out 1 (.int .i64 x)
        have B1 := IB2.out.set ⟨w.heap.size, 1, none⟩ (.int .i64 x)
        have S2 := S1.set hB s0 hrb (Nat.le_succ _) B1 0 (.int .i64 i)
        have B2 := B1.set ⟨w.heap.size + 1, 0, none⟩ (.int .i64 i)
        have S3 := S2.set hB s0 hrb (Nat.le_succ _) B2 1 (.int .i64 x)
        have B3 := B2.set ⟨w.heap.size + 1, 1, none⟩ (.int .i64 x)
        have S4 := S3.set hB s0 hrb (Nat.le_succ _) B3 2 (.slice (some ⟨g, 0, none⟩) d cap)
        exact ⟨_, _, _, _, _, rfl, by omega, S4.own, S4.rd, S4.but, S4.kp⟩
    · have z1 : (v == 1) = false := by simp [e1]
      by_cases e2 : v = 2
      · have z2 : (v == 2) = true := by simp [e2]
        clear q0 q1 q2 q4 q5 q6 p0 p1 p2 p3 p4 p5 p6
        go_wp2_with fail
        refine (V.out _ HR1.out HB1.out HO1.out).mono ?_
        rintro e w2 ⟨v2, d2', f2, rfl, hd2, o2, r2, b2, k2⟩
        obtain ⟨a2, c2, rfl, _, _⟩ := row_of_owns o2
        obtain ⟨q0, q1, q2, q3, q4, q5, q6⟩ := T1.out.kp k2 (by omega) (by omega)
        obtain ⟨p0, p1, p2, p3, p4, p5, p6⟩ := U1.out.kp k2 (by omega) (by omega)
        have HR2 := hide r2
        have HB2 := hide b2
        have HK2 := hide (HK1.out.trans k2)
        have HO2 := hide o2
        have IA2 := hide (IA.out.keep (k2.2 _ (by omega) (by omega) (by omega)))
        have IB2 := hide (IB.out.keep (k2.2 _ (by omega) (by omega) (by omega)))
        clear r2 b2 k2 o2 HB1 HK1 HO1 T1 U1 IA IB HR1
        go_wp2_with fail
        refine bodyPost_ret (v := .agg #[.int .i64 i, .int .i64 t, .slice a2 d2' c2]) ?_ rfl ?_
        · simp [results, Tryz.results13, go_sem, p1, p2, p3]
        · have S0 : HIt B w0 w rb g a n c _ _ _ w2 := ⟨HO2.out, HR2.out, HB2.out, HK2.out⟩
          have S1 := S0.set hB s0 hrb (Nat.le_refl _) IA2.out 2 (.slice a2 d2' c2)
          have B1 := IB2.out.set ⟨w.heap.size, 2, none⟩ (.slice a2 d2' c2)
          have S2 := S1.set hB s0 hrb (Nat.le_succ _) B1 0 (.int .i64 i)
          have B2 := B1.set ⟨w.heap.size + 1, 0, none⟩ (.int .i64 i)
          have S3 := S2.set hB s0 hrb (Nat.le_succ _) B2 1 (.int .i64 t)
          have B3 := B2.set ⟨w.heap.size + 1, 1, none⟩ (.int .i64 t)
          have S4 := S3.set hB s0 hrb (Nat.le_succ _) B3 2 (.slice a2 d2' c2)
          exact ⟨_, _, _, _, _, rfl, by omega, S4.own, S4.rd, S4.but, S4.kp⟩
      · have z2 : (v == 2) = false := by simp [e2]
        have HR2 := HR1
        have HB2 := HB1
        have HK2 := HK1
        have HO2 := HO1
        have IA2 := IA
        have IB2 := IB
        go_wp2_with fail
        refine bodyPost_ret (v := .agg #[.int .i64 i, .int .i64 t, .slice (some ⟨g, 0, none⟩) d cap]) ?_ rfl ?_
        · simp [results, Tryz.results13, go_sem, p1, p2, p3]
        · have S0 : HIt B w0 w rb g a n c _ _ _ w1 := ⟨HO2.out, HR2.out, HB2.out, HK2.out⟩
          have S1 := S0
          have B1 := IB2.out
          have S2 := S1.set hB s0 hrb (Nat.le_succ _) B1 0 (.int .i64 i)
          have B2 := B1.set ⟨w.heap.size + 1, 0, none⟩ (.int .i64 i)
          have S3 := S2.set hB s0 hrb (Nat.le_succ _) B2 1 (.int .i64 t)
          have B3 := B2.set ⟨w.heap.size + 1, 1, none⟩ (.int .i64 t)
          have S4 := S3.set hB s0 hrb (Nat.le_succ _) B3 2 (.slice (some ⟨g, 0, none⟩) d cap)
          exact ⟨_, _, _, _, _, rfl, by omega, S4.own, S4.rd, S4.but, S4.kp⟩
end Go.Proofs.YtecheolhmohhjaaGreatDoor
