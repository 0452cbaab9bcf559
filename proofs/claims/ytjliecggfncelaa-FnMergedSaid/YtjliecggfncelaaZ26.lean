/- The reader of drawn bytes: tags, item. -/
import Derived.Test.YtjliecggfncelaaZ7
import Derived.Test.YtjliecggfncelaaZ13
import Derived.Test.YtjliecggfncelaaZ15
import Derived.Test.YtjliecggfncelaaZ20
namespace Go.Proofs.Ytjliecggfncelaa
open Go.RowKit
set_option maxRecDepth 8000
set_option linter.unusedSimpArgs false
set_option linter.unusedVariables false

set_option maxHeartbeats 1000000 in
set_option maxRecDepth 8000 in
theorem tags_any (B rb n c : Nat) (a : Option Addr) (w : World) (h : Rd B w rb a n c) :
    Calls Try.prog 20 #[.pointer (some ⟨rb, 0, none⟩)] w fun e w' => RdPost B w rb a n c .i64 0 255 e w' := by
  have N := hide (fun w (h : Rd B w rb a n c) => below_any B rb n c a 7 w h (by omega) (by omega))
  have HR := hide h
  have hlt := h.lt
  clear h
  go_enter Try.func20, Try.ntmps20
  go_wp2_with fail
  refine (N.out _ (HR.out.alloc _)).mono ?_
  rintro e w2 ⟨u, rfl, u0, u1, hr2, hb2⟩
  have k : ∀ (o : Nat) (x : Int), (w.alloc (.cells #[.int .i64 0, .int .i64 1, .int .i64 2, .int .i64 3, .int .i64 3, .int .i64 7, .int .i64 255] 3)).cell? ⟨w.heap.size, o, none⟩ = some (.int .i64 x) → w2.cell? ⟨w.heap.size, o, none⟩ = some (.int .i64 x) := fun o x hx => (hb2.cell (p := ⟨w.heap.size, o, none⟩) (by simp) (by simp; omega)).trans hx
  have k0 := k 0 0 (by simp [go_sem])
  have k1 := k 1 1 (by simp [go_sem])
  have k2 := k 2 2 (by simp [go_sem])
  have k3 := k 3 3 (by simp [go_sem])
  have k4 := k 4 3 (by simp [go_sem])
  have k5 := k 5 7 (by simp [go_sem])
  have k6 := k 6 255 (by simp [go_sem])
  have HB2 := hide ((But.refl rb w).alloc (.cells #[.int .i64 0, .int .i64 1, .int .i64 2, .int .i64 3, .int .i64 3, .int .i64 7, .int .i64 255] 3) |>.trans hb2)
  clear hb2 k
  rcases (show u = 0 ∨ u = 1 ∨ u = 2 ∨ u = 3 ∨ u = 4 ∨ u = 5 ∨ u = 6 by omega) with rfl | rfl | rfl | rfl | rfl | rfl | rfl
  all_goals
    go_wp2
    go_ret
    exact ⟨_, rfl, by omega, by omega, hr2, HB2.out⟩

/-- What item leaves: an item, its vector owned by the call. -/
def ItemPost (B : Nat) (w : World) (rb : Nat) (a : Option Addr) (n c d : Nat) (e : Ending) (w' : World) : Prop :=
  ∃ (i t : Int) (g k : Nat) (f : Nat → Int), e = .returned (.agg #[.int .i64 i, .int .i64 t, .slice (some ⟨g, 0, none⟩) d k]) ∧ w'.ownsRow w.heap.size 2 1 (.slice (some ⟨g, 0, none⟩) d k) d (vals f d) ∧ Rd B w' rb a n c ∧ But rb w w'

theorem Tri.but {g : Nat} {w w' : World} {b : Nat} {x y z : Value} (h : Tri w b x y z) (hb : But g w w') (hne : b ≠ g) : Tri w' b x y z :=
  ⟨Nat.lt_of_lt_of_le h.lt hb.size, (hb.cell (p := ⟨b, 0, none⟩) h.lt hne).trans h.c0, (hb.cell (p := ⟨b, 1, none⟩) h.lt hne).trans h.c1, (hb.cell (p := ⟨b, 2, none⟩) h.lt hne).trans h.c2,
   (hb.frozen (p := ⟨b, 0, none⟩) h.lt hne).trans h.f0, (hb.frozen (p := ⟨b, 1, none⟩) h.lt hne).trans h.f1, (hb.frozen (p := ⟨b, 2, none⟩) h.lt hne).trans h.f2⟩

theorem owns_low {w : World} {base base' : Nat} {e : TypeId} {size : Nat} {v : Value} {n : Nat} {xs : List Value} (h : w.ownsRow base e size v n xs) (hb : base' ≤ base) : w.ownsRow base' e size v n xs := by
  refine ⟨h.1, ?_⟩
  rcases h.2 with h0 | ⟨g, cap, cur, hv, hg, hr⟩
  · exact .inl h0
  · exact .inr ⟨g, cap, cur, hv, by omega, hr⟩

set_option maxHeartbeats 1000000 in
set_option maxRecDepth 8000 in
theorem item_any (B rb n c : Nat) (a : Option Addr) (d : Nat) (w : World) (h : Rd B w rb a n c) (hB : B ≤ w.heap.size) (d1 : 1 ≤ d) (hd : d ≤ 100) :
    Calls Try.prog 38 #[.pointer (some ⟨rb, 0, none⟩), .int .i64 d] w fun e w' => ItemPost B w rb a n c d e w' := by
  have N := hide (fun w (h : Rd B w rb a n c) => below_any B rb n c a 14 w h (by omega) (by omega))
  have T := hide (fun w (h : Rd B w rb a n c) => tags_any B rb n c a w h)
  have V := hide (fun w (h : Rd B w rb a n c) (hB : B ≤ w.heap.size) => vec_any B rb n c a d w h hB hd)
  have HR := hide h
  have hlt := h.lt
  clear h
  go_enter Try.func38, Try.ntmps38
  go_wp2_with fail
  refine (N.out _ (HR.out.alloc _)).mono ?_
  rintro e w1 ⟨i, rfl, i0, i1, r1, b1⟩
  have t1 := (Tri.new w (.int .i64 0) (.int .i64 0) (.slice none 0 0) 36).but b1 (by omega)
  have HB1 := hide ((But.refl rb w).alloc (.cells #[.int .i64 0, .int .i64 0, .slice none 0 0] 36) |>.trans b1)
  have s1 := b1.size
  simp at s1
  obtain ⟨q0, q1, q2, q3, q4, q5, q6⟩ := t1
  clear b1
  go_wp2_with fail
  refine (T.out _ r1).mono ?_
  rintro e w2 ⟨t, rfl, t0, t1, r2, b2⟩
  have T2 := hide (Tri.but (b := w.heap.size) (x := .int .i64 0) (y := .int .i64 0) (z := .slice none 0 0) ⟨q0, q1, q2, q3, q4, q5, q6⟩ b2 (by omega))
  have HB2 := hide (HB1.out.trans b2)
  have s2 := b2.size
  clear q0 q1 q2 q3 q4 q5 q6 b2 HB1
  go_wp2_with fail
  refine (V.out _ r2 (by omega)).mono ?_
  rintro e w3 ⟨v, f, rfl, o3, r3, b3⟩
  obtain ⟨g3, c3, rfl, _, _⟩ := o3.form (by omega)
  obtain ⟨q0, q1, q2, q3, q4, q5, q6⟩ := T2.out.but b3 (by omega)
  have HO := hide o3
  have HR3 := hide r3
  have HB3 := hide (HB2.out.trans b3)
  have s3 := b3.size
  clear o3 b3 r3 r2 r1 T2 HB2 V T N
  go_wp2_with fail
  refine bodyPost_ret (v := .agg #[.int .i64 (1 + i), .int .i64 t, .slice (some ⟨g3, 0, none⟩) d c3]) ?_ rfl ?_
  · simp [results, Try.results38, go_sem, q1, q2, q3]
  · have bb : But w.heap.size w3 (((w3.setCell ⟨w.heap.size, 0, none⟩ (.int .i64 (1 + i))).setCell ⟨w.heap.size, 1, none⟩ (.int .i64 t)).setCell ⟨w.heap.size, 2, none⟩ (.slice (some ⟨g3, 0, none⟩) d c3)) := (((But.refl _ w3).setCell 0 _).setCell 1 _).setCell 2 _
    exact ⟨_, _, g3, c3, f, rfl, owns_low (owns_but HO.out bb (by omega)) (by omega), HR3.out.but bb hB (by omega), but_far (but_far (but_far HB3.out (Nat.le_refl _) _ _) (Nat.le_refl _) _ _) (Nat.le_refl _) _ _⟩
end Go.Proofs.Ytjliecggfncelaa

/- The reader of drawn bytes: hurtItem. -/
namespace Go.Proofs.Ytjliecggfncelaa
open Go.RowKit
set_option maxRecDepth 8000
set_option linter.unusedSimpArgs false
set_option linter.unusedVariables false

theorem Tri.kp {rb g : Nat} {w w' : World} {b : Nat} {x y z : Value} (h : Tri w b x y z) (hb : KpG rb g w w') (h1 : b ≠ rb) (h2 : b ≠ g) : Tri w' b x y z := by
  have e := hb.2 b h.lt h1 h2
  exact ⟨Nat.lt_of_lt_of_le h.lt hb.1, (World.cell?_of_block (a := ⟨b, 0, none⟩) e).trans h.c0, (World.cell?_of_block (a := ⟨b, 1, none⟩) e).trans h.c1, (World.cell?_of_block (a := ⟨b, 2, none⟩) e).trans h.c2,
    (World.frozen?_of_block (a := ⟨b, 0, none⟩) e).trans h.f0, (World.frozen?_of_block (a := ⟨b, 1, none⟩) e).trans h.f1, (World.frozen?_of_block (a := ⟨b, 2, none⟩) e).trans h.f2⟩
/-- A block of cells of items. -/
def IsBlk (w : World) (b : Nat) : Prop := ∃ c z, w.heap[b]? = some (.cells c 36 z)

theorem IsBlk.keep {w w' : World} {b : Nat} (h : IsBlk w b) (hk : w'.heap[b]? = w.heap[b]?) : IsBlk w' b := by
  obtain ⟨c, z, hc⟩ := h
  exact ⟨c, z, hk.trans hc⟩

theorem IsBlk.set {w : World} {b : Nat} (h : IsBlk w b) (p : Addr) (u : Value) (hp : p.spot = none := by rfl) : IsBlk (w.setCell p u) b := by
  obtain ⟨c, z, hc⟩ := h
  by_cases e : b = p.block
  · subst e
    have hlt := (Array.getElem?_eq_some_iff.1 hc).1
    refine ⟨c.setIfInBounds p.off u, z, ?_⟩
    simp [World.setCell, hc, hlt, hp, Array.getElem_modify, (Array.getElem?_eq_some_iff.1 hc).2]
  · exact ⟨c, z, (Below.heap_setCell w p u b e).trans hc⟩

theorem owns_item {w : World} {base : Nat} {v : Value} {n : Nat} {xs : List Value} {b : Nat} (h : w.ownsRow base 2 1 v n xs) (hb : IsBlk w b) (o : Nat) (u : Value) : (w.setCell ⟨b, o, none⟩ u).ownsRow base 2 1 v n xs := by
  refine ⟨h.1, ?_⟩
  rcases h.2 with h0 | ⟨g, cap, cur, hv, hg, hh, hr⟩
  · exact .inl h0
  · refine .inr ⟨g, cap, cur, hv, hg, ?_, hr⟩
    have hne : g ≠ b := by
      rintro rfl
      obtain ⟨c, z, hc⟩ := hb
      rw [hc] at hh
      simp at hh
    exact (Below.heap_setCell w ⟨b, o, none⟩ u g hne).trans hh

theorem IsBlk.but {rb : Nat} {w w' : World} {b : Nat} (h : IsBlk w b) (hb : But rb w w') (hne : b ≠ rb) : IsBlk w' b := by
  obtain ⟨c, z, hc⟩ := h
  exact ⟨c, z, (hb.block b (Array.getElem?_eq_some_iff.1 hc).1 hne).trans hc⟩

structure HIt (B : Nat) (w0 w : World) (rb g : Nat) (a : Option Addr) (n c : Nat) (v : Value) (d : Nat) (f : Nat → Int) (W : World) : Prop where
  own : W.ownsRow w0.heap.size 2 1 v d (vals f d)
  rd : Rd B W rb a n c
  but : But rb w0 W
  kp : KpG rb g w W

theorem HIt.set {B : Nat} {w0 w : World} {rb g : Nat} {a : Option Addr} {n c : Nat} {v : Value} {d : Nat} {f : Nat → Int} {W : World} (h : HIt B w0 w rb g a n c v d f W) (hB : B ≤ w0.heap.size) (hw : w0.heap.size ≤ w.heap.size) (hrb : rb < w0.heap.size) {b : Nat} (hb : w.heap.size ≤ b) (hib : IsBlk W b) (o : Nat) (u : Value) :
    HIt B w0 w rb g a n c v d f (W.setCell ⟨b, o, none⟩ u) :=
  ⟨owns_item h.own hib o u, h.rd.but ((But.refl b W).setCell o u) (by omega) (by omega), but_far h.but (by omega) o u, h.kp.far b o u hb⟩
def HurtItPost (B : Nat) (w0 w : World) (rb g : Nat) (a : Option Addr) (n c : Nat) (e : Ending) (w' : World) : Prop :=
  ∃ (i t : Int) (v : Value) (d : Nat) (f : Nat → Int), e = .returned (.agg #[.int .i64 i, .int .i64 t, v]) ∧ d ≤ 200 ∧ w'.ownsRow w0.heap.size 2 1 v d (vals f d) ∧ Rd B w' rb a n c ∧ But rb w0 w' ∧ KpG rb g w w'

set_option maxHeartbeats 2000000 in
set_option maxRecDepth 8000 in
theorem hurtItem_any (B rb n c : Nat) (a : Option Addr) (i t : Int) (d cap g : Nat) (f : Nat → Int) (w0 w : World) (h : Rd B w rb a n c) (hB : B ≤ w0.heap.size) (hrb : rb < w0.heap.size) (hb : But rb w0 w) (d1 : 1 ≤ d) (d2 : d ≤ 100) (ho : w.ownsRow w0.heap.size 2 1 (.slice (some ⟨g, 0, none⟩) d cap) d (vals f d)) :
    Calls Try.prog 41 #[.pointer (some ⟨rb, 0, none⟩), .agg #[.int .i64 i, .int .i64 t, .slice (some ⟨g, 0, none⟩) d cap]] w fun e w' => HurtItPost B w0 w rb g a n c e w' := by
  have N := hide (fun w (h : Rd B w rb a n c) => below_any B rb n c a 24 w h (by omega) (by omega))
  have O := hide (fun (lo hi : Int) w (h : Rd B w rb a n c) (h1 : -2251799813685248 ≤ lo) (h2 : lo ≤ 2251799813685248) (h3 : -2251799813685248 ≤ hi) (h4 : hi ≤ 2251799813685248) => off_any B rb n c a lo hi w h h1 h2 h3 h4)
  have V := hide (fun w (h : Rd B w rb a n c) (hb : But rb w0 w) (ho : w.ownsRow w0.heap.size 2 1 (.slice (some ⟨g, 0, none⟩) d cap) d (vals f d)) => hurtVec2_any B rb n c a d cap g f w0 w h hB hrb hb d1 d2 ho)
  have HO := hide ho
  have HB := hide hb
  have HR := hide h
  have glt := ho.lt g rfl
  have s0 := hb.size
  clear h ho hb
  have hbw : rb < w.heap.size := by omega
  go_enter Try.func41, Try.ntmps41
  go_wp2_with fail
  refine (N.out _ ((HR.out.alloc _).alloc _)).mono ?_
  rintro e w1 ⟨v, rfl, v0, v1, r1, b1⟩
  have T1 := hide (((Tri.new w (.int .i64 i) (.int .i64 t) (.slice (some ⟨g, 0, none⟩) d cap) 36).alloc (.cells #[.int .i64 0, .int .i64 0, .slice none 0 0] 36)).but b1 (by omega))
  have U1 := hide ((Tri.newAt (w.alloc (.cells #[.int .i64 i, .int .i64 t, .slice (some ⟨g, 0, none⟩) d cap] 36)) (.int .i64 0) (.int .i64 0) (.slice none 0 0) 36 (w.heap.size + 1) (by simp)).but b1 (by omega))
  have IA := hide ((show IsBlk ((w.alloc (.cells #[.int .i64 i, .int .i64 t, .slice (some ⟨g, 0, none⟩) d cap] 36)).alloc (.cells #[.int .i64 0, .int .i64 0, .slice none 0 0] 36)) w.heap.size from ⟨_, _, (Below.heap_alloc _ _ _ (by simp)).trans (heap_alloc_new w _)⟩).but b1 (by omega))
  have IB := hide ((show IsBlk ((w.alloc (.cells #[.int .i64 i, .int .i64 t, .slice (some ⟨g, 0, none⟩) d cap] 36)).alloc (.cells #[.int .i64 0, .int .i64 0, .slice none 0 0] 36)) (w.heap.size + 1) from ⟨_, _, by have := heap_alloc_new (w.alloc (.cells #[.int .i64 i, .int .i64 t, .slice (some ⟨g, 0, none⟩) d cap] 36)) (.cells #[.int .i64 0, .int .i64 0, .slice none 0 0] 36); simpa using this⟩).but b1 (by omega))
  have HB1 := hide (((HB.out.alloc (.cells #[.int .i64 i, .int .i64 t, .slice (some ⟨g, 0, none⟩) d cap] 36)).alloc (.cells #[.int .i64 0, .int .i64 0, .slice none 0 0] 36)).trans b1)
  have HK1 := hide (((((KpG.ofBut g (But.refl rb w)).alloc (.cells #[.int .i64 i, .int .i64 t, .slice (some ⟨g, 0, none⟩) d cap] 36)).alloc (.cells #[.int .i64 0, .int .i64 0, .slice none 0 0] 36))).but b1)
  have HO1 := hide (owns_but ((HO.out.alloc (.cells #[.int .i64 i, .int .i64 t, .slice (some ⟨g, 0, none⟩) d cap] 36)).alloc (.cells #[.int .i64 0, .int .i64 0, .slice none 0 0] 36)) b1 hrb)
  have HR1 := hide r1
  have s1 := b1.size
  simp at s1
  clear b1 r1 HB HO HR N
  obtain ⟨q0, q1, q2, q3, q4, q5, q6⟩ := T1.out
  obtain ⟨p0, p1, p2, p3, p4, p5, p6⟩ := U1.out
  by_cases e0 : v = 0
  · have z0 : (v == 0) = true := by simp [e0]
    clear q0 q1 q2 q3 q4 q5 q6 p0 p1 p2 p3 p4 p5 p6
    go_wp2_with fail
    refine (O.out _ _ _ HR1.out (by omega) (by omega) (by omega) (by omega)).mono ?_
    rintro e w2 ⟨x, rfl, r2, b2⟩
    obtain ⟨q0, q1, q2, q3, q4, q5, q6⟩ := T1.out.but b2 (by omega)
    obtain ⟨p0, p1, p2, p3, p4, p5, p6⟩ := U1.out.but b2 (by omega)
    have HR2 := hide r2
    have HB2 := hide (HB1.out.trans b2)
    have HK2 := hide (HK1.out.but b2)
    have HO2 := hide (owns_but HO1.out b2 hrb)
    have IA2 := hide (IA.out.but b2 (by omega))
    have IB2 := hide (IB.out.but b2 (by omega))
    clear r2 b2 HB1 HK1 HO1 T1 U1 IA IB HR1
    go_wp2_with fail
    refine bodyPost_ret (v := .agg #[.int .i64 x, .int .i64 t, .slice (some ⟨g, 0, none⟩) d cap]) ?_ rfl ?_
    · simp [results, Try.results41, go_sem, p1, p2, p3]
    · have S0 : HIt B w0 w rb g a n c _ _ _ w2 := ⟨HO2.out, HR2.out, HB2.out, HK2.out⟩
      have S1 := S0.set hB s0 hrb (Nat.le_refl _) IA2.out 0 (.int .i64 x)
      have B1 := IB2.out.set ⟨w.heap.size, 0, none⟩ (.int .i64 x)
      have S2 := S1.set hB s0 hrb (Nat.le_succ _) B1 0 (.int .i64 x)
      have B2 := B1.set ⟨w.heap.size + 1, 0, none⟩ (.int .i64 x)
      have S3 := S2.set hB s0 hrb (Nat.le_succ _) B2 1 (.int .i64 t)
      have B3 := B2.set ⟨w.heap.size + 1, 1, none⟩ (.int .i64 t)
      have S4 := S3.set hB s0 hrb (Nat.le_succ _) B3 2 (.slice (some ⟨g, 0, none⟩) d cap)
      exact ⟨_, _, _, _, _, rfl, by omega, S4.own, S4.rd, S4.but, S4.kp⟩
  · have z0 : (v == 0) = false := by simp [e0]
    by_cases e1 : v = 1
    · have z1 : (v == 1) = true := by simp [e1]
      clear q0 q1 q2 q3 q4 q5 q6 p0 p1 p2 p3 p4 p5 p6
      go_wp2_with fail
      refine (O.out _ _ _ HR1.out (by omega) (by omega) (by omega) (by omega)).mono ?_
      rintro e w2 ⟨x, rfl, r2, b2⟩
      obtain ⟨q0, q1, q2, q3, q4, q5, q6⟩ := T1.out.but b2 (by omega)
      obtain ⟨p0, p1, p2, p3, p4, p5, p6⟩ := U1.out.but b2 (by omega)
      have HR2 := hide r2
      have HB2 := hide (HB1.out.trans b2)
      have HK2 := hide (HK1.out.but b2)
      have HO2 := hide (owns_but HO1.out b2 hrb)
      have IA2 := hide (IA.out.but b2 (by omega))
      have IB2 := hide (IB.out.but b2 (by omega))
      clear r2 b2 HB1 HK1 HO1 T1 U1 IA IB HR1
      go_wp2_with fail
      refine bodyPost_ret (v := .agg #[.int .i64 i, .int .i64 x, .slice (some ⟨g, 0, none⟩) d cap]) ?_ rfl ?_
      · simp [results, Try.results41, go_sem, p1, p2, p3]
      · have S0 : HIt B w0 w rb g a n c _ _ _ w2 := ⟨HO2.out, HR2.out, HB2.out, HK2.out⟩
        have S1 := S0.set hB s0 hrb (Nat.le_refl _) IA2.out 1 (.int .i64 x)
        have B1 := IB2.out.set ⟨w.heap.size, 1, none⟩ (.int .i64 x)
        have S2 := S1.set hB s0 hrb (Nat.le_succ _) B1 0 (.int .i64 i)
        have B2 := B1.set ⟨w.heap.size + 1, 0, none⟩ (.int .i64 i)
        have S3 := S2.set hB s0 hrb (Nat.le_succ _) B2 1 (.int .i64 x)
        have B3 := B2.set ⟨w.heap.size + 1, 1, none⟩ (.int .i64 x)
        have S4 := S3.set hB s0 hrb (Nat.le_succ _) B3 2 (.slice (some ⟨g, 0, none⟩) d cap)
        exact ⟨_, _, _, _, _, rfl, by omega, S4.own, S4.rd, S4.but, S4.kp⟩
    · have z1 : (v == 1) = false := by simp [e1]
      by_cases e2 : v = 2
      · have z2 : (v == 2) = true := by simp [e2]
        clear q0 q1 q2 q4 q5 q6 p0 p1 p2 p3 p4 p5 p6
        go_wp2_with fail
        refine (V.out _ HR1.out HB1.out HO1.out).mono ?_
        rintro e w2 ⟨v2, d2', f2, rfl, hd2, o2, r2, b2, k2⟩
        obtain ⟨a2, c2, rfl, _, _⟩ := row_of_owns o2
        obtain ⟨q0, q1, q2, q3, q4, q5, q6⟩ := T1.out.kp k2 (by omega) (by omega)
        obtain ⟨p0, p1, p2, p3, p4, p5, p6⟩ := U1.out.kp k2 (by omega) (by omega)
        have HR2 := hide r2
        have HB2 := hide b2
        have HK2 := hide (HK1.out.trans k2)
        have HO2 := hide o2
        have IA2 := hide (IA.out.keep (k2.2 _ (by omega) (by omega) (by omega)))
        have IB2 := hide (IB.out.keep (k2.2 _ (by omega) (by omega) (by omega)))
        clear r2 b2 k2 o2 HB1 HK1 HO1 T1 U1 IA IB HR1
        go_wp2_with fail
        refine bodyPost_ret (v := .agg #[.int .i64 i, .int .i64 t, .slice a2 d2' c2]) ?_ rfl ?_
        · simp [results, Try.results41, go_sem, p1, p2, p3]
        · have S0 : HIt B w0 w rb g a n c _ _ _ w2 := ⟨HO2.out, HR2.out, HB2.out, HK2.out⟩
          have S1 := S0.set hB s0 hrb (Nat.le_refl _) IA2.out 2 (.slice a2 d2' c2)
          have B1 := IB2.out.set ⟨w.heap.size, 2, none⟩ (.slice a2 d2' c2)
          have S2 := S1.set hB s0 hrb (Nat.le_succ _) B1 0 (.int .i64 i)
          have B2 := B1.set ⟨w.heap.size + 1, 0, none⟩ (.int .i64 i)
          have S3 := S2.set hB s0 hrb (Nat.le_succ _) B2 1 (.int .i64 t)
          have B3 := B2.set ⟨w.heap.size + 1, 1, none⟩ (.int .i64 t)
          have S4 := S3.set hB s0 hrb (Nat.le_succ _) B3 2 (.slice a2 d2' c2)
          exact ⟨_, _, _, _, _, rfl, by omega, S4.own, S4.rd, S4.but, S4.kp⟩
      · have z2 : (v == 2) = false := by simp [e2]
        have HR2 := HR1
        have HB2 := HB1
        have HK2 := HK1
        have HO2 := HO1
        have IA2 := IA
        have IB2 := IB
        go_wp2_with fail
        refine bodyPost_ret (v := .agg #[.int .i64 i, .int .i64 t, .slice (some ⟨g, 0, none⟩) d cap]) ?_ rfl ?_
        · simp [results, Try.results41, go_sem, p1, p2, p3]
        · have S0 : HIt B w0 w rb g a n c _ _ _ w1 := ⟨HO2.out, HR2.out, HB2.out, HK2.out⟩
          have S1 := S0
          have B1 := IB2.out
          have S2 := S1.set hB s0 hrb (Nat.le_succ _) B1 0 (.int .i64 i)
          have B2 := B1.set ⟨w.heap.size + 1, 0, none⟩ (.int .i64 i)
          have S3 := S2.set hB s0 hrb (Nat.le_succ _) B2 1 (.int .i64 t)
          have B3 := B2.set ⟨w.heap.size + 1, 1, none⟩ (.int .i64 t)
          have S4 := S3.set hB s0 hrb (Nat.le_succ _) B3 2 (.slice (some ⟨g, 0, none⟩) d cap)
          exact ⟨_, _, _, _, _, rfl, by omega, S4.own, S4.rd, S4.but, S4.kp⟩
end Go.Proofs.Ytjliecggfncelaa

/- The reader of drawn bytes: items. -/
namespace Go.Proofs.Ytjliecggfncelaa
open Go.RowKit
set_option maxRecDepth 8000
set_option linter.unusedSimpArgs false
set_option linter.unusedVariables false

theorem VSl.but {rb : Nat} {w w' : World} {B C : Nat} {v : Value} {xs : List Int} {b : Nat} (h : VSl w B C v xs b) (hb : But rb w w') (hr : rb < B) : VSl w' B C v xs b :=
  h.keep fun k h1 _ lt => hb.block k lt (by omega)

theorem GI.but {rb : Nat} {w w' : World} {base g cap m : Nat} {M : IL} {V : Nat → Nat} {sv : Nat → Value} (h : GI w base g cap m M V sv) (hb : But rb w w') (hr : rb < base) : GI w' base g cap m M V sv := by
  obtain ⟨h1, cur, hg, h2⟩ := h.shape
  exact ⟨⟨icl_len _ _ _, .inr ⟨g, cap, cur, rfl, h1, (hb.block g h.lt (by omega)).trans hg, h2⟩⟩, fun i hi => ((h.vecs.vec i hi).but hb hr).mono (Nat.le_refl _) hb.size, h.vecs.sep⟩

theorem But.ofLow {g : Nat} {a b : World} (h : Below a.heap.size a b) : But g a b := ⟨h.os, h.tape, h.output, h.size, fun k hk _ => h.block k hk⟩

theorem putM_pos (n : Nat) (L : IL) (x : It) : 1 ≤ putM n L x := by
  unfold putM isAt
  split
  · rename_i h
    simp only [decide_eq_true_eq] at h
    omega
  · omega

theorem itemB_len {dim : Int} {x : It} (h : itemB dim x = true) : (x.vec.length : Int) = dim := by
  unfold itemB at h
  simp only [Bool.and_eq_true, decide_eq_true_eq] at h
  exact h.2
/-- What is put has vectors of that many numbers. -/
theorem put_len {d n : Nat} {L : IL} {x : It} (hL : ∀ j, j < n → (L j).vec.length = d) (hx : x.vec.length = d) (hp : plc L x.id n ≤ n) : ∀ j, j < putM n L x → (putA n L x j).vec.length = d := by
  intro j hj
  unfold putA putI
  unfold putM at hj
  by_cases h1 : j < plc L x.id n
  · rw [if_pos h1]; exact hL j (by omega)
  · rw [if_neg h1]
    by_cases h2 : j = plc L x.id n
    · rw [if_pos h2]; exact hx
    · rw [if_neg h2]
      cases hf : isAt n L x.id
      · rw [hf] at hj
        simp only [Bool.false_eq_true, if_false] at hj ⊢
        exact hL (j - 1) (by omega)
      · rw [hf] at hj
        simp only [if_true] at hj ⊢
        exact hL j hj

/-- Items that are being drawn: all in memory that is younger than w. -/
def DIt (w wr : World) (d : Nat) (v : Value) : Prop :=
  ∃ g cp m M V sv, v = .slice (some ⟨g, 0, none⟩) m cp ∧ GI wr w.heap.size g cp m M V sv ∧ m ≤ 60 ∧ ∀ j, j < m → (M j).vec.length = d

theorem plc_le (L : IL) (id : Int) (n : Nat) : plc L id n ≤ n := by
  induction n with
  | zero => exact Nat.le_refl _
  | succ n ih => unfold plc; split <;> omega

def ItemsPost (B : Nat) (w : World) (rb : Nat) (a : Option Addr) (n c d : Nat) (e : Ending) (w' : World) : Prop :=
  ∃ v, e = .returned v ∧ DIt w w' d v ∧ Rd B w' rb a n c ∧ But rb w w'

set_option maxHeartbeats 4000000 in
set_option maxRecDepth 8000 in
theorem items_any (B rb n c : Nat) (a : Option Addr) (d : Nat) (w : World) (h : Rd B w rb a n c) (hB : B ≤ w.heap.size) (d1 : 1 ≤ d) (hd : d ≤ 8) :
    Calls Try.prog 15 #[.pointer (some ⟨rb, 0, none⟩), .int .i64 d] w fun e w' => ItemsPost B w rb a n c d e w' := by
  have SZ := hide (fun w (h : Rd B w rb a n c) => size_any B rb n c a 9 22 w h (by omega) (by omega) (by omega) (by omega))
  have ON := hide (fun w (h : Rd B w rb a n c) => once_any B rb n c a 40 w h (by omega) (by omega))
  have IT := hide (fun w (h : Rd B w rb a n c) (hB : B ≤ w.heap.size) => item_any B rb n c a d w h hB d1 (by omega))
  have HR := hide h
  have hlt := h.lt
  clear h
  go_enter Try.func15, Try.ntmps15
  go_wp2_with fail
  refine (SZ.out _ (HR.out.alloc _)).mono ?_
  rintro e w1 ⟨k0, rfl, k1, k2, r1, b1⟩
  have PUT := hide (fun (g cp m : Nat) (M : IL) (i t : Int) (f : Nat → Int) (gv cv : Nat) w1 (h : IRow w1 (some ⟨g, 0, none⟩) m M) (hm : m ≤ 60) (hl : ∀ j, j < m → (M j).vec.length = d) (hr : Row w1 (some ⟨gv, 0, none⟩) d (ints f d)) => sItemPut_anyG (d : Int) (some ⟨g, 0, none⟩) m cp M ⟨i, t, ints f d⟩ (some ⟨gv, 0, none⟩) d cv w1 h (by omega) (fun j hj => by rw [hl j hj]; omega) hr (by omega))
  have HB1 := hide (((But.refl rb w).alloc (.cells #[] 36)).trans b1)
  have HD1 : Hid (DIt w w1 d (.slice (some ⟨w.heap.size, 0, none⟩) 0 0)) := hide ⟨w.heap.size, 0, 0, fun _ => ⟨0, 0, []⟩, fun _ => 0, fun _ => .slice none 0 0, rfl, (GI.new w _ _ _).but b1 hlt, by omega, fun j hj => absurd hj (by omega)⟩
  have HR1 := hide r1
  obtain ⟨k, rfl⟩ : ∃ k : Nat, k0 = (k : Int) := ⟨k0.toNat, by omega⟩
  clear b1 r1 SZ HR
  go_wp2_with fail
  go_loopw [5, 6] (fun l i wr => ∃ k : Nat, k ≤ 22 ∧ i = .int .i64 k ∧ DIt w wr d l ∧ Rd B wr rb a n c ∧ But rb w wr) (fun _ i _ => (intOf i).toNat)
  case atStart => exact ⟨k, by omega, rfl, HD1.out, HR1.out, HB1.out⟩
  case round =>
    clear HB1 HD1 HR1
    obtain ⟨k, hk, rfl, ⟨g, cp, m, M, V, sv, rfl, hg, hm, hl⟩, hr, hb⟩ := hrel
    have HG := hide hg
    have HL := hide hl
    have HR := hide hr
    have HB := hide hb
    have hs := hb.size
    clear hg hl hr hb
    by_cases h0 : 0 < k
    · have h0' : (0 : Int) < (k : Int) := by omega
      go_wp2_with fail
      refine (IT.out _ HR.out (by omega)).mono ?_
      rintro e w2 ⟨i, t, gv, cv, f, rfl, o2, r2, b2⟩
      obtain ⟨a', c', e', row, _⟩ := row_of_owns o2
      cases e'
      have HG2 := hide (HG.out.but b2 hlt)
      have HR2 := hide r2
      have HB2 := hide (HB.out.trans b2)
      have s2 := b2.size
      clear o2 r2 b2 HG HR HB
      go_wp2_with fail
      refine (PUT.out g cp m M i t f gv cv w2 HG2.out.its.irow hm HL.out row).mono ?_
      rintro e w3 ⟨v3, rfl, hv3, b3⟩
      have HR3 := hide (HR2.out.stays b3)
      have HB3 := hide (HB2.out.trans (But.ofLow b3))
      obtain ⟨q, hq⟩ : ∃ q, putC d m M ⟨i, t, ints f d⟩ = q := ⟨_, rfl⟩
      rw [hq]
      by_cases hq0 : q = 0
      · subst hq0
        have hok : putOk d m M ⟨i, t, ints f d⟩ = true ∧ putM m M ⟨i, t, ints f d⟩ ≤ 60 := by
          unfold putC at hq
          split at hq
          · rename_i h1
            split at hq
            · rename_i h2; exact ⟨h1, h2⟩
            · omega
          · omega
        have hT : putT d m M ⟨i, t, ints f d⟩ = putM m M ⟨i, t, ints f d⟩ := by unfold putT; rw [hok.1, if_pos rfl, if_pos hok.2]
        have hpos := putM_pos m M ⟨i, t, ints f d⟩
        have HD : Hid (DIt w w3 d v3) := by
          rcases hv3 with ⟨_, h0⟩ | ⟨g3, c3, V3, s3, rfl, hg3⟩
          · omega
          · rw [hT] at hg3 ⊢
            exact hide ⟨g3, c3, _, _, V3, s3, rfl, hg3.low (by omega), hok.2, put_len HL.out (ints_len f d) (plc_le _ _ _)⟩
        clear hv3 hq hok hT hpos HG2 HL b3 HR2 HB2 PUT IT row
        go_wp2_with fail
        go_roundw
        case rel => exact ⟨k - 1, by omega, by go_num, HD.out, HR3.out, HB3.out⟩
        case measure => simp [intOf]; omega
      · have hqb : (q == 0) = false := by simp [hq0]
        have HD : Hid (DIt w w3 d (.slice (some ⟨g, 0, none⟩) m cp)) := hide ⟨g, cp, m, M, V, sv, rfl, HG2.out.below b3, hm, HL.out⟩
        clear hv3 hq HG2 HL b3 HR2 HB2 PUT IT row
        go_wp2_with fail
        go_roundw
        case rel => exact ⟨k - 1, by omega, by go_num, HD.out, HR3.out, HB3.out⟩
        case measure => simp [intOf]; omega
    · obtain rfl : k = 0 := by omega
      go_wp2_with fail
      refine (ON.out _ HR.out).mono ?_
      rintro e w2 ⟨o, rfl, r2, b2⟩
      have HG2 := hide (HG.out.but b2 hlt)
      have HR2 := hide r2
      have HB2 := hide (HB.out.trans b2)
      clear r2 b2 HG HR HB
      cases o
      · go_wp2_with fail
        go_ret
        exact ⟨_, rfl, ⟨g, cp, m, M, V, sv, rfl, HG2.out, hm, HL.out⟩, HR2.out, HB2.out⟩
      · go_wp2_with fail
        go_loopw [5, 9] (fun l i wr => ∃ k : Nat, 100 ≤ k ∧ k ≤ 170 ∧ i = .int .i64 k ∧ DIt w wr d l ∧ Rd B wr rb a n c ∧ But rb w wr) (fun _ i _ => 170 - (intOf i).toNat)
        case atStart => exact ⟨100, by omega, by omega, rfl, ⟨g, cp, m, M, V, sv, rfl, HG2.out, hm, HL.out⟩, HR2.out, HB2.out⟩
        case round =>
          clear HG2 HL HR2 HB2
          obtain ⟨k, hk0, hk, rfl, ⟨g, cp, m, M, V, sv, rfl, hg, hm, hl⟩, hr, hb⟩ := hrel
          have HG := hide hg
          have HL := hide hl
          have HR := hide hr
          have HB := hide hb
          have hs := hb.size
          obtain ⟨p, hp, hblk⟩ := hr.blk
          have c0 := rd_cell0 hblk
          clear hg hl hr hb hblk
          by_cases h1 : k < 170
          · have h1' : decide ((k : Int) < 170) = true := by simp; omega
            have n0 : 0 ≤ (n : Int) % 2 := Int.emod_nonneg _ (by omega)
            have n1 : (n : Int) % 2 < 2 := Int.emod_lt_of_pos _ (by omega)
            by_cases h2 : (m : Int) < 59 + (n : Int) % 2
            · obtain ⟨i0, hi, hz0, hz1, hz2⟩ := itemInfo
              have hmk := run_make_row' (P := Try.prog) 25 2 (.int .i64 0) 8 Try.underlying25 Try.infoI64 rfl .i64 .i64 d (by omega) (by omega) wr
              obtain ⟨W, hW⟩ : ∃ W, wr.alloc (.cells (madeCells #[.int .i64 0] d) 2) = W := ⟨_, rfl⟩
              have sW : W.heap.size = wr.heap.size + 1 := by rw [← hW]; simp
              have bW : Below wr.heap.size wr W := hW ▸ balloc (Below.refl _ _) _
              have vW : VSl W wr.heap.size W.heap.size (.slice (some ⟨wr.heap.size, 0, none⟩) d d) (ints (fun _ => 0) d) wr.heap.size := by
                refine ⟨_, d, by rw [ints_len], .inr ⟨rfl, Nat.le_refl _, by omega, ?_⟩⟩
                rw [ints_len]
                obtain ⟨cs, hc, hsz, hv⟩ := World.rowIs_made wr (.int .i64 0) d 2
                rw [hW] at hc
                exact ⟨cs, hc, hsz, Nat.le_refl _, .inr rfl, fun j hj => by rw [hv j hj]; simp [intF, nth_ints _ _ _ hj]⟩
              have howns := hide ((HG.out.below bW).own.alloc (.cells #[.int .i64 k, .int .i64 0, .slice (some ⟨wr.heap.size, 0, none⟩) d d] 36))
              rw [hW] at hmk
              have HW := hide hW
              have VW := hide vW
              have BW := hide bW
              have SW := hide sW
              clear hW vW bW sW
              go_wp2_with (at_builtin; refine wpList_append_lies _ rfl _ _ 24 rfl w.heap.size 36 i0 _ 3 40 Try.underlying24 hi hz0 hz1 hz2 rfl (by decide) _ _ _ rfl howns.out ⟨_, 0, none⟩ 1 1 [.int .i64 k, .int .i64 0, .slice (some ⟨wr.heap.size, 0, none⟩) d d] rfl rfl (three_new _ _ _ _ _) (three_one _ _ _ _ _) (by omega) (by unfold maxLen; omega) (by omega) (by have := SW.out; simp; omega) _ rfl ?_)
              intro g5 c5 w5 hown5 hgrow hat5 hglt
              have sW := SW.out
              have HG5 := hide (HG.out.step hs BW.out ⟨k, 0, ints (fun _ => 0) d⟩ _ _ VW.out (balloc (Below.refl _ _) _) hown5 hgrow (by rcases hat5 with h | h; exact .inl h; exact .inr (by simp [h])))
              have HR5 := hide ((HR.out.stays BW.out).app hlt hB (HG.out.below BW.out).own hgrow)
              have HB5 := hide (but_app (HB.out.trans (But.ofLow BW.out)) (HG.out.below BW.out).own hgrow)
              have HL5 : Hid (∀ j, j < m + 1 → ((M.put m ⟨k, 0, ints (fun _ => 0) d⟩) j).vec.length = d) := hide (by
                intro j hj
                by_cases e : j = m
                · subst e; rw [IL.put_at]; exact ints_len _ _
                · rw [IL.put_off _ _ e]; exact HL.out j (by omega))
              clear hown5 hgrow hat5 hglt howns HG HR HB HL BW VW HW SW hmk
              go_wp2_with fail
              go_roundw
              case rel => exact ⟨k + 1, by omega, by omega, by go_num, ⟨g5, c5, m + 1, _, _, _, rfl, HG5.out, by omega, HL5.out⟩, HR5.out, HB5.out⟩
              case measure => simp [intOf]; omega
            · go_wp2_with fail
              go_ret
              exact ⟨_, rfl, ⟨g, cp, m, M, V, sv, rfl, HG.out, hm, HL.out⟩, HR.out, HB.out⟩
          · have h1' : decide ((k : Int) < 170) = false := by simp; omega
            go_wp2_with fail
            go_ret
            exact ⟨_, rfl, ⟨g, cp, m, M, V, sv, rfl, HG.out, hm, HL.out⟩, HR.out, HB.out⟩
end Go.Proofs.Ytjliecggfncelaa

/- The reader of drawn bytes: hurtItems; drawn items. -/
namespace Go.Proofs.Ytjliecggfncelaa
open Go.RowKit
set_option maxRecDepth 8000
set_option linter.unusedSimpArgs false
set_option linter.unusedVariables false

/-- Items that are read, all at base or behind. -/
structure IHi (w : World) (base g n : Nat) (L : IL) : Prop where
  lo : base ≤ g
  lt : g < w.heap.size
  at_ : ∀ i, i < n → w.cell? ⟨g, i * 3, none⟩ = some (.int .i64 (L i).id) ∧ w.cell? ⟨g, i * 3 + 1, none⟩ = some (.int .i64 (L i).tags) ∧ ∃ a m c, w.cell? ⟨g, i * 3 + 2, none⟩ = some (.slice a m c) ∧ Row w a m (L i).vec ∧ ∀ b off, a = some ⟨b, off, none⟩ → base ≤ b

theorem IHi.iat {w : World} {base g n : Nat} {L : IL} (h : IHi w base g n L) : ∀ i, i < n → IAt w g (0 + i * 3) (L i) := by
  intro i hi
  obtain ⟨c0, c1, a, m, c, c2, hr, _⟩ := h.at_ i hi
  rw [Nat.zero_add]
  exact ⟨c0, c1, a, m, c, c2, hr⟩

theorem IHi.irow {w : World} {base g n : Nat} {L : IL} (h : IHi w base g n L) : IRow w (some ⟨g, 0, none⟩) n L := ⟨.inr ⟨g, 0, rfl, h.lt, h.iat⟩⟩

theorem IHi.but {rb : Nat} {w w' : World} {base g n : Nat} {L : IL} (h : IHi w base g n L) (hb : But rb w w') (hr : rb < base) : IHi w' base g n L := by
  have hne : g ≠ rb := by have := h.lo; omega
  refine ⟨h.lo, Nat.lt_of_lt_of_le h.lt hb.size, fun i hi => ?_⟩
  obtain ⟨c0, c1, a, m, c, c2, hrow, ha⟩ := h.at_ i hi
  exact ⟨(hb.cell (p := ⟨g, i * 3, none⟩) h.lt hne).trans c0, (hb.cell (p := ⟨g, i * 3 + 1, none⟩) h.lt hne).trans c1, a, m, c, (hb.cell (p := ⟨g, i * 3 + 2, none⟩) h.lt hne).trans c2, hb.row hrow (fun b off e => by have := ha b off e; omega), ha⟩

theorem IHi.below {w w' : World} {base g n : Nat} {L : IL} (h : IHi w base g n L) (hb : Below w.heap.size w w') : IHi w' base g n L := by
  refine ⟨h.lo, Nat.lt_of_lt_of_le h.lt hb.size, fun i hi => ?_⟩
  obtain ⟨c0, c1, a, m, c, c2, hrow, ha⟩ := h.at_ i hi
  exact ⟨(hb.cell (p := ⟨g, i * 3, none⟩) h.lt).trans c0, (hb.cell (p := ⟨g, i * 3 + 1, none⟩) h.lt).trans c1, a, m, c, (hb.cell (p := ⟨g, i * 3 + 2, none⟩) h.lt).trans c2, hrow.below hb, ha⟩

theorem VSl.hi {w : World} {B C : Nat} {v : Value} {xs : List Int} {b : Nat} (h : VSl w B C v xs b) (h0 : xs.length ≠ 0) : ∃ c, v = .slice (some ⟨b, 0, none⟩) xs.length c ∧ ArrC w b xs.length (intF xs) c ∧ B ≤ b := by
  obtain ⟨a, c, e, h1 | ⟨rfl, k1, k2, ha⟩⟩ := h
  · exact absurd h1 h0
  · exact ⟨c, e, ha, k1⟩

theorem own_hi {w : World} {base g n cap : Nat} {M : IL} {sv : Nat → Value} (hown : w.ownsRow base 36 3 (.slice (some ⟨g, 0, none⟩) n cap) n (icl M sv n)) (hg : base ≤ g) (hlt : g < w.heap.size)
    (hv : ∀ i, i < n → ∃ a m c, sv i = .slice a m c ∧ Row w a m (M i).vec ∧ ∀ b off, a = some ⟨b, off, none⟩ → base ≤ b) : IHi w base g n M := by
  refine ⟨hg, hlt, fun i hi => ?_⟩
  obtain ⟨a, m, c, e, hr, ha⟩ := hv i hi
  have c0 := hown.cellAt (i * 3) (by omega)
  have c1 := hown.cellAt (i * 3 + 1) (by omega)
  have c2 := hown.cellAt (i * 3 + 2) (by omega)
  rw [icl_at M sv (by omega)] at c0 c1 c2
  rw [icell_0] at c0
  rw [icell_1] at c1
  rw [icell_2, e] at c2
  exact ⟨c0, c1, a, m, c, c2, hr, ha⟩

theorem Vecs.hi {w : World} {B k : Nat} {M : IL} {V : Nat → Nat} {sv : Nat → Value} {g : Nat} (h : Vecs w B k M V sv g) {d : Nat} (d1 : 1 ≤ d) (hl : ∀ j, j < k → (M j).vec.length = d) (i : Nat) (hi : i < k) : ∃ a m c, sv i = .slice a m c ∧ Row w a m (M i).vec ∧ ∀ b off, a = some ⟨b, off, none⟩ → B ≤ b := by
  obtain ⟨c, e, ha, hb⟩ := (h.vec i hi).hi (by rw [hl i hi]; omega)
  exact ⟨_, _, c, e, ha.row, fun b off e => by cases e; exact hb⟩

theorem GI.hi {w : World} {base g cap m : Nat} {M : IL} {V : Nat → Nat} {sv : Nat → Value} (h : GI w base g cap m M V sv) {d : Nat} (d1 : 1 ≤ d) (hl : ∀ j, j < m → (M j).vec.length = d) : IHi w base g m M :=
  own_hi h.own h.shape.1 h.lt (h.vecs.hi d1 hl)

theorem ArrC.owns {w : World} {b : Nat} {xs : List Int} {cap base : Nat} (h : ArrC w b xs.length (intF xs) cap) (hb : base ≤ b) (hl : xs.length ≤ 1000) : w.ownsRow base 2 1 (.slice (some ⟨b, 0, none⟩) xs.length cap) xs.length (vals (nth xs) xs.length) := by
  obtain ⟨cur, hc, hs, hm, hcap, hv⟩ := h
  refine ⟨by simp [vals_len], .inr ⟨b, cap, cur, rfl, hb, hc, hm, ?_, by omega, ?_⟩⟩
  · rcases hcap with h | h
    · exact h
    · unfold maxLen; omega
  · refine List.ext_getElem? fun i => ?_
    by_cases hi : i < xs.length
    · rw [List.getElem?_take_of_lt (by omega), Array.getElem?_toList, hv i hi]; simp [vals, hi, intF]
    · rw [List.getElem?_eq_none (by simp; omega), List.getElem?_eq_none (by rw [vals_len]; omega)]

/-- Drawn items, right or not. -/
def DItems (base : Nat) (w' : World) (v : Value) : Prop :=
  ∃ g n cap L, v = .slice (some ⟨g, 0, none⟩) n cap ∧ n ≤ cap ∧ n ≤ 61 ∧ IHi w' base g n L ∧ ∀ i, i < n → (L i).vec.length ≤ 200
def HurtIsPost (B : Nat) (w0 : World) (rb : Nat) (a : Option Addr) (n c : Nat) (e : Ending) (w' : World) : Prop :=
  ∃ v, e = .returned v ∧ DItems w0.heap.size w' v ∧ Rd B w' rb a n c ∧ But rb w0 w'

/-- Of what was there nothing has turned but three blocks. -/
def KpI (rb g v m : Nat) (w w' : World) : Prop := ∀ k, k < w.heap.size → k ≠ rb → k ≠ g → (0 < m → k ≠ v) → w'.heap[k]? = w.heap[k]?

set_option maxHeartbeats 4000000 in
set_option maxRecDepth 8000 in
theorem hurtItems2_any (B rb n c : Nat) (a : Option Addr) (d g cp m : Nat) (M : IL) (V : Nat → Nat) (sv : Nat → Value) (w0 w : World) (h : Rd B w rb a n c) (hB : B ≤ w0.heap.size) (hrb : rb < w0.heap.size) (hb : But rb w0 w) (d1 : 1 ≤ d) (d2 : d ≤ 8) (hg : GI w w0.heap.size g cp m M V sv) (hm : m ≤ 60) (hl : ∀ j, j < m → (M j).vec.length = d) :
    Calls Try.prog 21 #[.pointer (some ⟨rb, 0, none⟩), .slice (some ⟨g, 0, none⟩) m cp] w fun e w' => HurtIsPost B w0 rb a n c e w' ∧ KpI rb g (V 0) m w w' := by
  have N := hide (fun w (h : Rd B w rb a n c) => below_any B rb n c a 24 w h (by omega) (by omega))
  have HG := hide hg
  have HL := hide hl
  have HB := hide hb
  have HR := hide h
  have s0 := hb.size
  obtain ⟨g0, cur, _, hcp, _⟩ := hg.shape
  by_cases hm0 : 0 < m
  · have hm0' : (0 : Int) < (m : Int) := by omega
    clear hg hl hb h
    go_enter Try.func21, Try.ntmps21
    go_wp2_with fail
    refine (N.out _ HR.out).mono ?_
    rintro e w1 ⟨x, rfl, x0, x1, r1, b1⟩
    have HG1 := hide (HG.out.but b1 hrb)
    have HR1 := hide r1
    have HB1 := hide (HB.out.trans b1)
    have KB1 := hide b1
    have s1 := b1.size
    clear r1 b1 HG HR HB N
    have hd0 := HL.out 0 hm0
    obtain ⟨vc, ev, ha0, hlo0⟩ := (HG1.out.vecs.vec 0 hm0).hi (by rw [hd0]; omega)
    have own0 := ha0.owns hlo0 (by rw [hd0]; omega)
    rw [hd0] at ev own0
    have k0 := HG1.out.arr.cell (j := 0) (by omega)
    have k1 := HG1.out.arr.cell (j := 1) (by omega)
    have k2 := HG1.out.arr.cell (j := 2) (by omega)
    have q0 := icell_0 M sv 0
    have q1 := icell_1 M sv 0
    have q2 := icell_2 M sv 0
    simp only [Nat.zero_mul, Nat.zero_add] at q0 q1 q2
    rw [q0] at k0
    rw [q1] at k1
    rw [q2, ev] at k2
    have EV := hide ev
    have HA0 := hide ha0
    have OW := hide own0
    clear q0 q1 q2 ev ha0 own0
    by_cases e0 : x = 0
    · have z0 : (x == 0) = true := by simp [e0]
      have HI := hide (hurtItem_any B rb n c a (M 0).id (M 0).tags d vc (V 0) (nth (M 0).vec) w0 w1 HR1.out hB hrb HB1.out d1 (by omega) OW.out)
      go_wp2_with fail
      refine HI.out.mono ?_
      rintro e w2 ⟨i2, t2, v2, d2', f2, rfl, hd2, o2, r2, b2, kp2⟩
      obtain ⟨a2, c2, rfl, _, _⟩ := row_of_owns o2
      have hsep := HG1.out.vecs.sep 0 hm0 (by rw [hd0]; omega)
      have hgb := kp2.2 g HG1.out.lt (by omega) (Ne.symm hsep.1)
      have arr2 := HG1.out.arr.block hgb
      have isb : IsBlk w2 g := by
        obtain ⟨_, cur, hc, _⟩ := HG1.out.shape
        exact ⟨cur, _, hgb.trans hc⟩
      have j0 := (arr2.cell (j := 0) (by omega))
      have j1 := (arr2.cell (j := 1) (by omega))
      have j2 := (arr2.cell (j := 2) (by omega))
      have f0 := arr2.froz 0
      have f1 := arr2.froz 1
      have f2' := arr2.froz 2
      have q0 := icell_0 M sv 0
      have q1 := icell_1 M sv 0
      have q2 := icell_2 M sv 0
      simp only [Nat.zero_mul, Nat.zero_add] at q0 q1 q2
      rw [q0] at j0
      rw [q1] at j1
      rw [q2, EV.out] at j2
      have DONE : Hid (HurtIsPost B w0 rb a n c (.returned (.slice (some ⟨g, 0, none⟩) m cp)) (((w2.setCell ⟨g, 0, none⟩ (.int .i64 i2)).setCell ⟨g, 1, none⟩ (.int .i64 t2)).setCell ⟨g, 2, none⟩ (.slice a2 d2' c2)) ∧ KpI rb g (V 0) m w (((w2.setCell ⟨g, 0, none⟩ (.int .i64 i2)).setCell ⟨g, 1, none⟩ (.int .i64 t2)).setCell ⟨g, 2, none⟩ (.slice a2 d2' c2))) := hide (by
        have arr3 := ((arr2.set 0 (.int .i64 i2)).set 1 (.int .i64 t2)).set 2 (.slice a2 d2' c2)
        have o3 := owns_item (owns_item (owns_item o2 isb 0 (.int .i64 i2)) (isb.set ⟨g, 0, none⟩ _) 1 (.int .i64 t2)) ((isb.set ⟨g, 0, none⟩ (.int .i64 i2)).set ⟨g, 1, none⟩ (.int .i64 t2)) 2 (.slice a2 d2' c2)
        obtain ⟨a3, c3, e3, row3, lo3⟩ := row_of_owns o3
        cases e3
        have bg : But g w2 (((w2.setCell ⟨g, 0, none⟩ (.int .i64 i2)).setCell ⟨g, 1, none⟩ (.int .i64 t2)).setCell ⟨g, 2, none⟩ (.slice a2 d2' c2)) := (((But.refl g w2).setCell 0 _).setCell 1 _).setCell 2 _
        refine ⟨⟨_, rfl, ⟨g, m, cp, M.put 0 ⟨i2, t2, ints f2 d2'⟩, rfl, hcp, by omega, ⟨g0, arr3.lt, fun i hi => ?_⟩, fun i hi => ?_⟩, r2.but bg (by omega) (by omega), but_far (but_far (but_far b2 g0 _ _) g0 _ _) g0 _ _⟩, fun k hk h1 h2 h3 => ?_⟩
        · have c0 := arr3.cell (j := i * 3) (by omega)
          have c1 := arr3.cell (j := i * 3 + 1) (by omega)
          have c2 := arr3.cell (j := i * 3 + 2) (by omega)
          by_cases hi0 : i = 0
          · subst hi0
            rw [IL.put_at]
            simp at c0 c1 c2
            exact ⟨by simpa using c0, by simpa using c1, _, _, _, by simpa using c2, row3, lo3⟩
          · rw [IL.put_off _ _ hi0]
            simp only [show i * 3 ≠ 0 by omega, show i * 3 ≠ 1 by omega, show i * 3 ≠ 2 by omega, if_false, icell_0] at c0
            simp only [show i * 3 + 1 ≠ 0 by omega, show i * 3 + 1 ≠ 1 by omega, show i * 3 + 1 ≠ 2 by omega, if_false, icell_1] at c1
            simp only [show i * 3 + 2 ≠ 0 by omega, show i * 3 + 2 ≠ 1 by omega, show i * 3 + 2 ≠ 2 by omega, if_false, icell_2] at c2
            have hdi := HL.out i hi
            obtain ⟨ci, ei, hai, hloi⟩ := (HG1.out.vecs.vec i hi).hi (by rw [hdi]; omega)
            rw [ei] at c2
            have hs2 := hsep.2 i hi hi0 (by rw [hdi]; omega)
            have hs3 := HG1.out.vecs.sep i hi (by rw [hdi]; omega)
            have hb1 := kp2.2 (V i) hai.lt (by omega) hs2
            have hb2 := bg.block (V i) (Nat.lt_of_lt_of_le hai.lt kp2.1) hs3.1
            exact ⟨c0, c1, _, _, _, c2, (hai.block (hb2.trans hb1)).row, fun b off e => by cases e; exact hloi⟩
        · by_cases hi0 : i = 0
          · subst hi0; rw [IL.put_at]; show (ints f2 d2').length ≤ 200; rw [ints_len]; exact hd2
          · rw [IL.put_off _ _ hi0, HL.out i hi]; omega
        · have lt1 := Nat.lt_of_lt_of_le hk KB1.out.size
          exact (bg.block k (Nat.lt_of_lt_of_le lt1 kp2.1) h2).trans ((kp2.2 k lt1 h1 (h3 hm0)).trans (KB1.out.block k hk h1)))
      clear hsep hgb arr2 isb q0 q1 q2 k0 k1 k2 o2 r2 b2 kp2 HI OW HA0 EV HG1 HR1 HB1 HL
      go_wp2_with fail
      go_ret
      exact DONE.out
    · have z0 : (x == 0) = false := by simp [e0]
      by_cases e1 : x = 1
      · have z1 : (x == 1) = true := by simp [e1]
        obtain ⟨i0, hi, hz0, hz1, hz2⟩ := itemInfo
        have howns := hide (HG1.out.own.alloc (.cells #[.int .i64 (M 0).id, .int .i64 (M 0).tags, .slice (some ⟨V 0, 0, none⟩) d vc] 36))
        go_wp2_with (at_builtin; refine wpList_append_lies _ rfl _ _ 24 rfl w0.heap.size 36 i0 _ 3 40 Try.underlying24 hi hz0 hz1 hz2 rfl (by decide) _ _ _ rfl howns.out ⟨_, 0, none⟩ 1 1 [.int .i64 (M 0).id, .int .i64 (M 0).tags, .slice (some ⟨V 0, 0, none⟩) d vc] rfl rfl (three_new _ _ _ _ _) (three_one _ _ _ _ _) (by omega) (by unfold maxLen; omega) (by omega) (by simp; omega) _ rfl ?_)
        intro g5 c5 w5 hown5 hgrow hat5 hglt
        have bA : Below w1.heap.size w1 (w1.alloc (.cells #[.int .i64 (M 0).id, .int .i64 (M 0).tags, .slice (some ⟨V 0, 0, none⟩) d vc] 36)) := balloc (Below.refl _ _) _
        have vecs5 := (HG1.out.vecs.below bA).row hgrow.size fun i hi hne => hgrow.block i hi (by simpa [Value.ownBlock] using hne)
        have r5 := HR1.out.app hrb hB HG1.out.own hgrow
        have b5 := but_app HB1.out HG1.out.own hgrow
        have DONE : Hid (HurtIsPost B w0 rb a n c (.returned (.slice (some ⟨g5, 0, none⟩) (m + 1) c5)) w5 ∧ KpI rb g (V 0) m w w5) := hide (by
          rw [← EV.out, ← icl_put M sv m (M 0) (sv 0)] at hown5
          have hsh : w0.heap.size ≤ g5 ∧ m + 1 ≤ c5 := by
            rcases hown5.2 with ⟨h0, _⟩ | ⟨g', cap', cur', hv', hb', hg', hcap', _⟩
            · cases h0
            · simp only [Value.slice.injEq, Option.some.injEq, Addr.mk.injEq] at hv'
              obtain ⟨⟨rfl, _⟩, _, rfl⟩ := hv'
              exact ⟨hb', hcap'⟩
          refine ⟨⟨_, rfl, ⟨g5, m + 1, c5, M.put m (M 0), rfl, hsh.2, by omega, own_hi hown5 hsh.1 hglt fun i hi => ?_, fun i hi => ?_⟩, r5, b5⟩, fun k hk h1 h2 h3 => ?_⟩
          · by_cases hi0 : i = m
            · subst hi0; rw [IL.put_at, putF_at]; exact vecs5.hi d1 HL.out 0 hm0
            · rw [IL.put_off _ _ hi0, putF_off _ _ hi0]; exact vecs5.hi d1 HL.out i (by omega)
          · by_cases hi0 : i = m
            · subst hi0; rw [IL.put_at, hd0]; omega
            · rw [IL.put_off _ _ hi0, HL.out i (by omega)]; omega
          · have lt1 := Nat.lt_of_lt_of_le hk KB1.out.size
            exact (hgrow.block k (by simp; omega) (by simpa [Value.ownBlock] using h2)).trans ((bA.block k lt1).trans (KB1.out.block k hk h1)))
        clear hown5 hgrow hat5 hglt howns vecs5 r5 b5 bA k0 k1 k2 OW HA0 EV HG1 HR1 HB1 HL
        go_wp2_with fail
        go_ret
        exact DONE.out
      · have z1 : (x == 1) = false := by simp [e1]
        clear k0 k1 k2
        go_wp2_with fail
        go_ret
        exact ⟨⟨_, rfl, ⟨g, m, cp, M, rfl, hcp, by omega, HG1.out.hi d1 HL.out, fun i hi => by rw [HL.out i hi]; omega⟩, HR1.out, HB1.out⟩, fun k hk h1 _ _ => KB1.out.block k hk h1⟩
  · obtain rfl : m = 0 := by omega
    clear hg hl hb h
    go_enter Try.func21, Try.ntmps21
    go_wp2_with fail
    go_ret
    exact ⟨⟨_, rfl, ⟨g, 0, cp, M, rfl, hcp, by omega, HG.out.hi d1 HL.out, fun i hi => absurd hi (by omega)⟩, HR.out, HB.out⟩, fun k hk _ _ _ => rfl⟩

theorem hurtItems_any (B rb n c : Nat) (a : Option Addr) (d : Nat) (v : Value) (w0 w : World) (h : Rd B w rb a n c) (hB : B ≤ w0.heap.size) (hrb : rb < w0.heap.size) (hb : But rb w0 w) (d1 : 1 ≤ d) (d2 : d ≤ 8) (hd : DIt w0 w d v) :
    Calls Try.prog 21 #[.pointer (some ⟨rb, 0, none⟩), v] w fun e w' => HurtIsPost B w0 rb a n c e w' := by
  obtain ⟨g, cp, m, M, V, sv, rfl, hg, hm, hl⟩ := hd
  exact (hurtItems2_any B rb n c a d g cp m M V sv w0 w h hB hrb hb d1 d2 hg hm hl).mono fun _ _ h => h.1
end Go.Proofs.Ytjliecggfncelaa

/- The reader of drawn bytes: about; drawn queries (DrawNearest). -/
namespace Go.Proofs.Ytjliecggfncelaa
open Go.RowKit
set_option maxRecDepth 8000
set_option linter.unusedSimpArgs false
set_option linter.unusedVariables false

theorem natOf {x : Int} (h : 0 ≤ x) : ∃ k : Nat, x = (k : Int) := ⟨x.toNat, by omega⟩

theorem below_lt {k m : Nat} (hm : 0 < m) (h : (k : Int) ≤ max 0 ((m : Int) - 1)) : k < m := by omega

theorem vals_setk (f : Nat → Int) (d k : Nat) (x : Int) (hk : k < d) : (vals f d).set k (.int .i64 x) = vals (fun j => if j = k then x else f j) d := by
  refine List.ext_getElem? fun i => ?_
  by_cases hi : i < d
  · by_cases h0 : i = k
    · subst h0; simp [vals, hi]
    · rw [List.getElem?_set_ne (by omega)]; simp [vals, hi, h0]
  · rw [List.getElem?_eq_none (by simp [vals_len]; omega), List.getElem?_eq_none (by simp [vals_len]; omega)]

theorem DIt.but {rb : Nat} {w w1 w2 : World} {d : Nat} {v : Value} (h : DIt w w1 d v) (hb : But rb w1 w2) (hr : rb < w.heap.size) : DIt w w2 d v := by
  obtain ⟨g, cp, m, M, V, sv, e, hg, hm, hl⟩ := h
  exact ⟨g, cp, m, M, V, sv, e, hg.but hb hr, hm, hl⟩
/-- A row that the call owns, and a row that is read, where the reader's block alone may have turned. -/
structure Ab (w : World) (base gq d cq : Nat) (f : Nat → Int) (va : Option Addr) (vn : Nat) (xs : List Int) : Prop where
  own : w.ownsRow base 2 1 (.slice (some ⟨gq, 0, none⟩) d cq) d (vals f d)
  row : Row w va vn xs

def AboutPost (B : Nat) (w : World) (rb : Nat) (a : Option Addr) (n c d : Nat) (e : Ending) (w' : World) : Prop :=
  ∃ (g k : Nat) (f : Nat → Int), e = .returned (.slice (some ⟨g, 0, none⟩) d k) ∧ w'.ownsRow w.heap.size 2 1 (.slice (some ⟨g, 0, none⟩) d k) d (vals f d) ∧ Rd B w' rb a n c ∧ But rb w w'

set_option maxHeartbeats 4000000 in
set_option maxRecDepth 8000 in
theorem about_any (B rb n c : Nat) (a : Option Addr) (d g m cp : Nat) (M : IL) (V : Nat → Nat) (sv : Nat → Value) (w0 w : World) (h : Rd B w rb a n c) (hB : B ≤ w0.heap.size) (hrb : rb < w0.heap.size) (hw : w0.heap.size ≤ w.heap.size) (d1 : 1 ≤ d) (hd : d ≤ 8) (hg : GI w w0.heap.size g cp m M V sv) (hm : m ≤ 60) (hl : ∀ j, j < m → (M j).vec.length = d) :
    Calls Try.prog 17 #[.pointer (some ⟨rb, 0, none⟩), .int .i64 d, .slice (some ⟨g, 0, none⟩) m cp] w fun e w' => AboutPost B w rb a n c d e w' := by
  have VC := hide (vec_any B rb n c a d w h (by omega) (by omega))
  have HI := hide (hg.hi d1 hl)
  have HL := hide hl
  have rlt := h.lt
  clear h hg hl
  go_enter Try.func17, Try.ntmps17
  go_wp2_with fail
  refine VC.out.mono ?_
  rintro e w1 ⟨v1, f1, rfl, o1, r1, b1⟩
  obtain ⟨gq, cq, rfl, _, _⟩ := o1.form (by omega)
  have HO1 := hide o1
  have HR1 := hide r1
  have HB1 := hide b1
  have s1 := b1.size
  clear o1 r1 b1 VC
  by_cases hm0 : 0 < m
  · have hm0' : (0 : Int) < (m : Int) := by omega
    go_wp2_with fail
    refine (once_any _ _ n c a 2 w1 HR1.out (by omega) (by omega)).mono ?_
    rintro e w2 ⟨o, rfl, r2, b2⟩
    have HO2 := hide (owns_but HO1.out b2 rlt)
    have HR2 := hide r2
    have HB2 := hide (HB1.out.trans b2)
    clear r2 b2 HO1 HR1 HB1
    cases o
    · go_wp2_with fail
      go_ret
      exact ⟨gq, cq, f1, rfl, HO2.out, HR2.out, HB2.out⟩
    · have CH := hide (fun w3 (h : Rd B w3 rb a n c) => below_all B rb n c a m w3 h (by omega))
      go_wp2_with fail
      refine (CH.out _ HR2.out).mono ?_
      rintro e w3 ⟨x, rfl, x0, x1, r3, b3⟩
      obtain ⟨k, rfl⟩ := natOf x0
      have hk := below_lt hm0 x1
      have HO3 := hide (owns_but HO2.out b3 rlt)
      have HR3 := hide r3
      have HB3 := hide (HB2.out.trans b3)
      obtain ⟨_, _, va, vn, vc, k2w, vrw, vlo⟩ := HI.out.at_ k hk
      have k2 := (HB3.out.cell (p := ⟨g, k * 3 + 2, none⟩) HI.out.lt (show g ≠ rb by have := HI.out.lo; omega)).trans k2w
      have vr := HB3.out.row vrw (fun b off e => by have := vlo b off e; omega)
      have VRW := hide vrw
      have hvl : vn = d := by rw [← vr.len]; exact HL.out k hk
      subst hvl
      have AB3 : Hid (Ab w3 w.heap.size gq vn cq f1 va vn (M k).vec) := hide ⟨HO3.out, vr⟩
      have VLO := hide vlo
      clear r3 b3 HO2 HR2 HB2 vr vlo HO3 CH x0 x1 k2w vrw
      go_wp2_with fail
      go_loopw [9] (fun i wr => ∃ (j : Nat) (f : Nat → Int), j ≤ vn ∧ i = .int .i64 j ∧ Ab wr w.heap.size gq vn cq f va vn (M k).vec ∧ Rd B wr rb a n c ∧ But rb w wr) (fun i _ => vn - (intOf i).toNat)
      case atStart => exact ⟨0, f1, Nat.zero_le _, rfl, AB3.out, HR3.out, HB3.out⟩
      case round =>
        clear AB3 HR3 HB3
        obtain ⟨j, f, hj, rfl, hab, hr, hb⟩ := hrel
        have HAB := hide hab
        have HR := hide hr
        have HB := hide hb
        have sr := hb.size
        clear hab hr hb
        by_cases hjn : j < vn
        · have hj' : (j : Int) < (vn : Int) := by omega
          rcases HAB.out.row.lies with hz | ⟨bv, ov, rfl, hbv, hcv⟩
          · omega
          · have cv := hcv j hjn
            have hlo := VLO.out bv ov rfl
            have hbw : bv < w.heap.size := by
              rcases VRW.out.lies with hz | ⟨bv', ov', e', hlt', _⟩
              · omega
              · cases e'; exact hlt'
            have CH := hide (below_any _ _ n c a 5 wr.drew (HR.out.stays (Below.drew (Below.refl _ _))) (by omega) (by omega))
            have YH := hide (fun (W : World) (hW : But rb wr.drew W) => show W.cell? ⟨bv, ov + j, none⟩ = some (.int .i64 (nth (M k).vec j)) ∧ W.cell? ⟨gq, j, none⟩ = some (.int .i64 (f j)) ∧ W.frozen? ⟨gq, j, none⟩ = false from by
              have own := owns_but (w := w) (wr := wr.drew) ⟨HAB.out.own.1, HAB.out.own.2⟩ hW (by omega)
              refine ⟨(hW.cell (p := ⟨bv, ov + j, none⟩) hbv (show bv ≠ rb by omega)).trans cv, ?_, own.frozenAt j⟩
              rw [own.cellAt j (by omega)]; simp [vals, hjn])
            have DONE := hide (fun (W : World) (hr4 : Rd B W rb a n c) (hW : But rb wr.drew W) (z : Int) => show Ab (W.setCell ⟨gq, j, none⟩ (.int .i64 z)) w.heap.size gq vn cq (fun i => if i = j then z else f i) (some ⟨bv, ov, none⟩) vn (M k).vec ∧ Rd B (W.setCell ⟨gq, j, none⟩ (.int .i64 z)) rb a n c ∧ But rb w (W.setCell ⟨gq, j, none⟩ (.int .i64 z)) from by
              have own := owns_but (w := w) (wr := wr.drew) ⟨HAB.out.own.1, HAB.out.own.2⟩ hW (by omega)
              have glt := own.lt gq rfl
              have ST := own.stored j (.int .i64 z)
              rw [vals_setk f vn j z hjn] at ST
              have bw := HB.out.drew.trans hW
              refine ⟨⟨ST.1, ?_⟩, hr4.but ((But.refl gq W).setCell j _) (by omega) (by omega), but_far bw glt.1 j _⟩
              exact (But.setCell (But.refl gq W) j (.int .i64 z)).row (hW.row (Row.below HAB.out.row (Below.drew (Below.refl _ _))) (fun b off e => by cases e; omega)) (fun b off e => by cases e; omega))
            clear HAB HR HB
            go_wp2_with fail
            go_region_with (go_at_call 14; refine CH.out.mono ?_; rintro e w4 ⟨x, rfl, x0, x1, hr4, hb4⟩; obtain ⟨y1, y2, y3⟩ := YH.out _ hb4)
            all_goals
              have DD := hide (DONE.out w4 hr4 hb4)
              clear hr4 hb4 y1 y2 y3
              go_wp2_with fail
              go_roundw
              case rel => exact ⟨j + 1, _, by omega, by go_num, (DD.out _).1, (DD.out _).2.1, (DD.out _).2.2⟩
              case measure => simp [intOf]; omega
        · obtain rfl : j = vn := by omega
          go_wp2_with fail
          go_ret
          exact ⟨gq, cq, f, rfl, HAB.out.own, HR.out, HB.out⟩
  · obtain rfl : m = 0 := by omega
    go_wp2_with fail
    go_ret
    exact ⟨gq, cq, f1, rfl, HO1.out, HR1.out, HB1.out⟩
end Go.Proofs.Ytjliecggfncelaa

/- Drawn queries: DrawNearest. -/
namespace Go.Proofs.Ytjliecggfncelaa
open Go.RowKit
set_option maxRecDepth 8000
set_option linter.unusedSimpArgs false
set_option linter.unusedVariables false

/-- Items in new memory. -/
structure NIq (w w' : World) (g n cap : Nat) (L : IL) : Prop where
  cap_ : n ≤ cap
  few : n ≤ 61
  hi : IHi w' w.heap.size g n L
  len : ∀ i, i < n → (L i).vec.length ≤ 200
  low : Below w.heap.size w w'

theorem IHi.lowq {w : World} {base base' g n : Nat} {L : IL} (h : IHi w base g n L) (hb : base' ≤ base) : IHi w base' g n L :=
  ⟨Nat.le_trans hb h.lo, h.lt, fun i hi => by
    obtain ⟨c0, c1, a', m', c', c2, hr, hlo⟩ := h.at_ i hi
    exact ⟨c0, c1, a', m', c', c2, hr, fun b off e => Nat.le_trans hb (hlo b off e)⟩⟩
/-- The answer of DrawNearest. -/
def DrawQ (w : World) (e : Ending) (w' : World) : Prop :=
  ∃ (dim : Int) (g n cap : Nat) (L : IL) (qa : Option Addr) (qc : Nat) (qs : List Int) (k mask : Int), e = .returned (.tuple #[.int .i64 dim, .slice (some ⟨g, 0, none⟩) n cap, .slice qa qs.length qc, .int .i64 k, .int .i64 mask]) ∧ NIq w w' g n cap L ∧ Row w' qa qs.length qs ∧ qs.length ≤ 200

set_option maxHeartbeats 8000000 in
theorem drawNearest_any (a : Option Addr) (n c : Nat) (w : World) (h : Code w a n) :
    Calls Try.prog 5 #[.slice a n c] w fun e w' => DrawQ w e w' := by
  have O := hide (open_any a n c w h)
  clear h
  go_enter Try.func5, Try.ntmps5
  go_wp2_with fail
  refine O.out.mono ?_
  rintro e w1 ⟨rfl, hr1, hb1, hs1⟩
  go_wp2_with fail
  refine (below_any _ _ n c a 3 w1 hr1 (by omega) (by omega)).mono ?_
  rintro e w2 ⟨v, rfl, v0, v1, hr2, hb2⟩
  obtain ⟨d, hd⟩ : ∃ d : Nat, 1 + v = (d : Int) := ⟨(1 + v).toNat, by omega⟩
  have s2 := hb2.size
  have rlt : w.heap.size < w2.heap.size := by omega
  go_wp2_with fail
  refine (items_any _ _ n c a d w2 hr2 (by omega) (by omega) (by omega)).mono ?_
  rintro e w3 ⟨v3, rfl, hd3, hr3, hb3⟩
  obtain ⟨g3, cp3, m3, M3, V3, s3, rfl, hg3, hm3, hl3⟩ := hd3
  have s3' := hb3.size
  have B2 : Hid (Below w.heap.size w w2) := hide (hb1.trans (hb2.below (Nat.le_refl _) (by omega)))
  have HG3 := hide hg3
  have HG3L := hide hg3
  have HL3 := hide hl3
  have HR3 := hide hr3
  have HB3 := hide hb3
  clear hg3 hl3 hr3 hb3 hr2 hb2 hr1 hb1 O
  go_wp2_with fail
  refine (about_any _ _ n c a d g3 m3 cp3 M3 V3 s3 w2 w3 HR3.out (by omega) rlt s3' (by omega) (by omega) HG3.out hm3 HL3.out).mono ?_
  rintro e w4 ⟨gq, cq, fq, rfl, o4, r4, b4⟩
  have HO4 := hide o4
  have HR4 := hide r4
  have HB4 := hide b4
  have s4 := b4.size
  clear o4 r4 b4
  go_wp2_with fail
  refine (hurtVec_any _ _ n c a d cq gq fq w3 w4 HR4.out (by omega) (by omega) HB4.out (by omega) (by omega) HO4.out).mono ?_
  rintro e w5 ⟨v5, d5, f5, rfl, hd5, o5, r5, b5⟩
  obtain ⟨a5, c5, rfl, row5, lo5⟩ := row_of_owns o5
  have HQ5 := hide row5
  have LO5 := hide lo5
  have HR5 := hide r5
  have HG5 := hide (HG3.out.but b5 rlt)
  have HB5 := hide (HB3.out.trans b5)
  have s5 := b5.size
  clear o5 r5 b5 row5 lo5 HO4 HR4 HB4 HG3 HB3 HR3
  go_wp2_with fail
  refine (below_any _ _ n c a 6 w5 HR5.out (by omega) (by omega)).mono ?_
  rintro e w6 ⟨v6, rfl, _, _, r6, b6⟩
  have HQ6 := hide (b6.row HQ5.out (fun b off e => by have := LO5.out b off e; omega))
  have HR6 := hide r6
  have HG6 := hide (HG5.out.but b6 rlt)
  have HB6 := hide (HB5.out.trans b6)
  clear r6 b6 HQ5 HR5 HG5 HB5
  go_wp2_with fail
  refine (once_any _ _ n c a 8 w6 HR6.out (by omega) (by omega)).mono ?_
  rintro e w7 ⟨o7, rfl, r7, b7⟩
  have HQ7 := hide (b7.row HQ6.out (fun b off e => by have := LO5.out b off e; omega))
  have HR7 := hide r7
  have HG7 := hide (HG6.out.but b7 rlt)
  have HB7 := hide (HB6.out.trans b7)
  clear r7 b7 HQ6 HR6 HG6 HB6
  have OFF := hide (fun w1 (h : Rd w.heap.size w1 w.heap.size a n c) => off_any w.heap.size w.heap.size n c a 1 20 w1 h (by omega) (by omega) (by omega) (by omega))
  have TAG := hide (fun w1 (h : Rd w.heap.size w1 w.heap.size a n c) => tags_any w.heap.size w.heap.size n c a w1 h)
  have ON2 := hide (fun w1 (h : Rd w.heap.size w1 w.heap.size a n c) => once_any w.heap.size w.heap.size n c a 2 w1 h (by omega) (by omega))
  have HIS := hide (fun w1 (h : Rd w.heap.size w1 w.heap.size a n c) (hb : But w.heap.size w2 w1) (hg : GI w1 w2.heap.size g3 cp3 m3 M3 V3 s3) => hurtItems2_any w.heap.size w.heap.size n c a d g3 cp3 m3 M3 V3 s3 w2 w1 h (by omega) rlt hb (by omega) (by omega) hg hm3 HL3.out)
  have FIN := hide (fun (k mask : Int) (w8 W : World) (g n' cap : Nat) (L : IL) (hg8 : GI w8 w2.heap.size g3 cp3 m3 M3 V3 s3) (hq : Row w8 a5 d5 (ints f5 d5)) (hcap : n' ≤ cap) (hn' : n' ≤ 61) (hi : IHi W w2.heap.size g n' L) (hl : ∀ i, i < n' → (L i).vec.length ≤ 200) (hb : But w.heap.size w2 W) (hk : KpI w.heap.size g3 (V3 0) m3 w8 W) =>
    show DrawQ w (.returned (.tuple #[.int .i64 d, .slice (some ⟨g, 0, none⟩) n' cap, .slice a5 d5 c5, .int .i64 k, .int .i64 mask])) W from by
      refine ⟨d, g, n', cap, L, a5, c5, ints f5 d5, k, mask, by rw [ints_len], ⟨hcap, hn', hi.lowq (by omega), hl, B2.out.trans (hb.below (Nat.le_refl _) (by omega))⟩, ?_, by rw [ints_len]; exact hd5⟩
      rw [ints_len]
      refine ⟨hq.len, ?_⟩
      rcases hq.lies with h0 | ⟨b, off, e, lt, hc⟩
      · exact .inl h0
      · have hlo := LO5.out b off e
        have hv0 : 0 < m3 → b ≠ V3 0 := fun hm0 => by
          have := ((HG3L.out.vecs.vec 0 hm0).lt (by rw [HL3.out 0 hm0]; omega)).2.2
          omega
        have hblk := hk b lt (by omega) (by have := HG3L.out.lt; omega) hv0
        exact .inr ⟨b, off, e, (Array.getElem?_eq_some_iff.1 (hblk.trans (Array.getElem?_eq_getElem lt))).1, fun i hi => (World.cell?_of_block (a := ⟨b, off + i, none⟩) hblk).trans (hc i hi)⟩)
  cases o7
  · go_wp2_with fail
    refine (TAG.out _ HR7.out).mono ?_
    rintro e w9 ⟨mk, rfl, _, _, r9, b9⟩
    have HQ9 := hide (b9.row HQ7.out (fun b off e => by have := LO5.out b off e; omega))
    have HR9 := hide r9
    have HG9 := hide (HG7.out.but b9 rlt)
    have HB9 := hide (HB7.out.trans b9)
    clear r9 b9 HQ7 HR7 HG7 HB7
    go_wp2_with fail
    refine (ON2.out _ HR9.out).mono ?_
    rintro e w10 ⟨o10, rfl, r10, b10⟩
    have HQ10 := hide (b10.row HQ9.out (fun b off e => by have := LO5.out b off e; omega))
    have HR10 := hide r10
    have HG10 := hide (HG9.out.but b10 rlt)
    have HB10 := hide (HB9.out.trans b10)
    clear r10 b10 HQ9 HR9 HG9 HB9
    cases o10
    · go_wp2_with fail
      refine (HIS.out _ HR10.out HB10.out HG10.out).mono ?_
      rintro e w11 ⟨⟨v11, rfl, ⟨g11, n11, cp11, L11, rfl, hc11, hn11, hi11, hl11⟩, _, hb11⟩, kp11⟩
      have s11 := hb11.size
      have DN := hide (fun k mask => FIN.out k mask w10 w11 g11 n11 cp11 L11 HG10.out HQ10.out hc11 hn11 hi11 hl11 hb11 kp11)
      clear hi11 hl11 hb11 kp11
      go_wp2_with fail
      refine bodyPost_ret (v := .tuple #[.int .i64 d, .slice (some ⟨g11, 0, none⟩) n11 cp11, .slice a5 d5 c5, .int .i64 (1 + v6), .int .i64 mk]) ?_ rfl (DN.out (1 + v6) mk)
      simp [results, Try.results5, go_sem]
    · go_wp2_with fail
      refine (HIS.out _ HR10.out HB10.out HG10.out).mono ?_
      rintro e w11 ⟨⟨v11, rfl, ⟨g11, n11, cp11, L11, rfl, hc11, hn11, hi11, hl11⟩, _, hb11⟩, kp11⟩
      have s11 := hb11.size
      have DN := hide (fun k mask => FIN.out k mask w10 w11 g11 n11 cp11 L11 HG10.out HQ10.out hc11 hn11 hi11 hl11 hb11 kp11)
      clear hi11 hl11 hb11 kp11
      go_wp2_with fail
      refine bodyPost_ret (v := .tuple #[.int .i64 d, .slice (some ⟨g11, 0, none⟩) n11 cp11, .slice a5 d5 c5, .int .i64 (1 + v6), .int .i64 0]) ?_ rfl (DN.out (1 + v6) 0)
      simp [results, Try.results5, go_sem]
  · go_wp2_with fail
    refine (OFF.out _ HR7.out).mono ?_
    rintro e w8 ⟨k8, rfl, r8, b8⟩
    have HQ8 := hide (b8.row HQ7.out (fun b off e => by have := LO5.out b off e; omega))
    have HR8 := hide r8
    have HG8 := hide (HG7.out.but b8 rlt)
    have HB8 := hide (HB7.out.trans b8)
    clear r8 b8 HQ7 HR7 HG7 HB7
    go_wp2_with fail
    refine (TAG.out _ HR8.out).mono ?_
    rintro e w9 ⟨mk, rfl, _, _, r9, b9⟩
    have HQ9 := hide (b9.row HQ8.out (fun b off e => by have := LO5.out b off e; omega))
    have HR9 := hide r9
    have HG9 := hide (HG8.out.but b9 rlt)
    have HB9 := hide (HB8.out.trans b9)
    clear r9 b9 HQ8 HR8 HG8 HB8
    go_wp2_with fail
    refine (ON2.out _ HR9.out).mono ?_
    rintro e w10 ⟨o10, rfl, r10, b10⟩
    have HQ10 := hide (b10.row HQ9.out (fun b off e => by have := LO5.out b off e; omega))
    have HR10 := hide r10
    have HG10 := hide (HG9.out.but b10 rlt)
    have HB10 := hide (HB9.out.trans b10)
    clear r10 b10 HQ9 HR9 HG9 HB9
    cases o10
    · go_wp2_with fail
      refine (HIS.out _ HR10.out HB10.out HG10.out).mono ?_
      rintro e w11 ⟨⟨v11, rfl, ⟨g11, n11, cp11, L11, rfl, hc11, hn11, hi11, hl11⟩, _, hb11⟩, kp11⟩
      have s11 := hb11.size
      have DN := hide (fun k mask => FIN.out k mask w10 w11 g11 n11 cp11 L11 HG10.out HQ10.out hc11 hn11 hi11 hl11 hb11 kp11)
      clear hi11 hl11 hb11 kp11
      go_wp2_with fail
      refine bodyPost_ret (v := .tuple #[.int .i64 d, .slice (some ⟨g11, 0, none⟩) n11 cp11, .slice a5 d5 c5, .int .i64 k8, .int .i64 mk]) ?_ rfl (DN.out k8 mk)
      simp [results, Try.results5, go_sem]
    · go_wp2_with fail
      refine (HIS.out _ HR10.out HB10.out HG10.out).mono ?_
      rintro e w11 ⟨⟨v11, rfl, ⟨g11, n11, cp11, L11, rfl, hc11, hn11, hi11, hl11⟩, _, hb11⟩, kp11⟩
      have s11 := hb11.size
      have DN := hide (fun k mask => FIN.out k mask w10 w11 g11 n11 cp11 L11 HG10.out HQ10.out hc11 hn11 hi11 hl11 hb11 kp11)
      clear hi11 hl11 hb11 kp11
      go_wp2_with fail
      refine bodyPost_ret (v := .tuple #[.int .i64 d, .slice (some ⟨g11, 0, none⟩) n11 cp11, .slice a5 d5 c5, .int .i64 k8, .int .i64 0]) ?_ rfl (DN.out k8 0)
      simp [results, Try.results5, go_sem]
end Go.Proofs.Ytjliecggfncelaa
