/- What is found: szFound, toFound, eqFound of the laws. -/
import Derived.Test.YtfjhgagpmhedfaaDoorUF0
namespace Go.Proofs.YtfjhgagpmhedfaaDoor
open Go.RowKit
set_option maxRecDepth 8000
set_option linter.unusedSimpArgs false
set_option linter.unusedVariables false

def v4 (a b c d : Value) (j : Nat) : Value := if j = 0 then a else if j = 1 then b else if j = 2 then c else d

theorem v4_new (w : World) (a b c d : Value) (T : TypeId) : (w.alloc (.cells #[a, b, c, d] T)).rowIs w.heap.size T 4 (v4 a b c d) :=
  World.rowIs_alloc w #[a, b, c, d] T (v4 a b c d) (by intro i hi; rcases (show i = 0 ∨ i = 1 ∨ i = 2 ∨ i = 3 from by simp at hi; omega) with rfl | rfl | rfl | rfl <;> rfl)

theorem v4_set0 {w : World} {q : Nat} {T : TypeId} {a b c d : Value} (h : w.rowIs q T 4 (v4 a b c d)) (x : Value) : (w.setCell ⟨q, 0, none⟩ x).rowIs q T 4 (v4 x b c d) :=
  (World.rowIs.set h 0 _).congr fun j hj => by rcases (show j = 0 ∨ j = 1 ∨ j = 2 ∨ j = 3 from by omega) with rfl | rfl | rfl | rfl <;> rfl

theorem v4_set1 {w : World} {q : Nat} {T : TypeId} {a b c d : Value} (h : w.rowIs q T 4 (v4 a b c d)) (x : Value) : (w.setCell ⟨q, 1, none⟩ x).rowIs q T 4 (v4 a x c d) :=
  (World.rowIs.set h 1 _).congr fun j hj => by rcases (show j = 0 ∨ j = 1 ∨ j = 2 ∨ j = 3 from by omega) with rfl | rfl | rfl | rfl <;> rfl

theorem v4_set2 {w : World} {q : Nat} {T : TypeId} {a b c d : Value} (h : w.rowIs q T 4 (v4 a b c d)) (x : Value) : (w.setCell ⟨q, 2, none⟩ x).rowIs q T 4 (v4 a b x d) :=
  (World.rowIs.set h 2 _).congr fun j hj => by rcases (show j = 0 ∨ j = 1 ∨ j = 2 ∨ j = 3 from by omega) with rfl | rfl | rfl | rfl <;> rfl

theorem v4_set3 {w : World} {q : Nat} {T : TypeId} {a b c d : Value} (h : w.rowIs q T 4 (v4 a b c d)) (x : Value) : (w.setCell ⟨q, 3, none⟩ x).rowIs q T 4 (v4 a b c x) :=
  (World.rowIs.set h 3 _).congr fun j hj => by rcases (show j = 0 ∨ j = 1 ∨ j = 2 ∨ j = 3 from by omega) with rfl | rfl | rfl | rfl <;> rfl

theorem v4_facts {w : World} {q : Nat} {T : TypeId} {a b c d : Value} (h : w.rowIs q T 4 (v4 a b c d)) :
    q < w.heap.size ∧ w.cell? ⟨q, 0, none⟩ = some a ∧ w.cell? ⟨q, 1, none⟩ = some b ∧ w.cell? ⟨q, 2, none⟩ = some c ∧ w.cell? ⟨q, 3, none⟩ = some d ∧ w.frozen? ⟨q, 0, none⟩ = false ∧ w.frozen? ⟨q, 1, none⟩ = false ∧ w.frozen? ⟨q, 2, none⟩ = false ∧ w.frozen? ⟨q, 3, none⟩ = false :=
  ⟨World.rowIs.lt h, World.rowIs.cell h (show 0 < 4 by omega), World.rowIs.cell h (show 1 < 4 by omega), World.rowIs.cell h (show 2 < 4 by omega), World.rowIs.cell h (show 3 < 4 by omega), World.rowIs.frozen h 0, World.rowIs.frozen h 1, World.rowIs.frozen h 2, World.rowIs.frozen h 3⟩

theorem row_below {w w' : World} {q n : Nat} {T : TypeId} {F : Nat → Value} (h : w.rowIs q T n F) (hb : Below w.heap.size w w') : w'.rowIs q T n F := h.of_block (hb.block _ (World.rowIs.lt h))

theorem rows_three {w : World} {q n : Nat} {T : TypeId} {F : Nat → Value} (h : w.rowIs q T n F) {g : Nat} (ne : q ≠ g) (x y z : Value) : (((w.setCell ⟨g, 0, none⟩ x).setCell ⟨g, 1, none⟩ y).setCell ⟨g, 2, none⟩ z).rowIs q T n F :=
  World.rowIs.setOther (World.rowIs.setOther (World.rowIs.setOther h (by simp; omega) _) (by simp; omega) _) (by simp; omega) _

theorem rows_four {w : World} {q n : Nat} {T : TypeId} {F : Nat → Value} (h : w.rowIs q T n F) {g : Nat} (ne : q ≠ g) (x y z u : Value) : ((((w.setCell ⟨g, 0, none⟩ x).setCell ⟨g, 1, none⟩ y).setCell ⟨g, 2, none⟩ z).setCell ⟨g, 3, none⟩ u).rowIs q T n F :=
  World.rowIs.setOther (rows_three h ne x y z) (by simp; omega) _

set_option maxHeartbeats 1000000 in
theorem szFound_any (ha : Option Addr) (hn hc : Nat) (ex : Bool) (rd : Int) (la : Option Addr) (ln lc : Nat) (w : World) (h1 : hn ≤ 9223372036854775807) (h2 : ln ≤ 9223372036854775807) :
    Calls Tryd.prog 5 #[.agg #[.slice ha hn hc, .bool ex, .int .i64 rd, .slice la ln lc], .int .i64 1048576] w fun e w' => (∃ r : Int, e = .returned (.int .i64 r) ∧ (r < 0 ∨ (0 ≤ r ∧ hn ≤ 1048576 ∧ ln ≤ 1048576))) ∧ Below w.heap.size w w' := by
  have SH := hide (fun w1 => szHits_any ha hn hc 1048576 w1 (by omega) (by omega) h1)
  by_cases q1 : hn ≤ 1048576
  · have e1 : szN 1048576 hn = 1048576 - (hn : Int) := by unfold szN; rw [if_neg (by omega)]
    have SL := hide (fun w1 => szInts_any la ln lc (1048576 - (hn : Int)) w1 (by omega) (by omega) h2)
    rw [e1] at SH
    by_cases q2 : ln ≤ 1048576 - hn
    · have e2 : szN (1048576 - (hn : Int)) ln = 1048576 - (hn : Int) - (ln : Int) := by unfold szN; rw [if_neg (by omega)]
      rw [e2] at SL
      have g1 : ¬ (1048576 - (hn : Int)) < 0 := by omega
      have g2 : ¬ (1048576 - (hn : Int) - (ln : Int)) < 0 := by omega
      clear e1 e2
      go_enter Tryd.func5, Tryd.ntmps5
      go_wp2_with fail
      refine (SH.out _).mono ?_
      rintro e w1 ⟨rfl, hw⟩
      obtain rfl := hw.symm
      clear hw
      go_wp2_with fail
      refine (SL.out _).mono ?_
      rintro e w2 ⟨rfl, hw⟩
      obtain rfl := hw.symm
      clear hw
      go_wp2_with fail
      go_ret
      exact ⟨⟨_, rfl, .inr ⟨by omega, by omega, by omega⟩⟩, (by repeat' first | with_reducible exact Below.refl _ _ | with_reducible assumption | with_reducible refine below_drewN ?_ _ | with_reducible refine balloc ?_ _ | with_reducible refine Below.drew ?_ | with_reducible refine Below.setCell ?_ (by first | (simp; done) | (simp; omega) | omega) _ | with_reducible refine bstep ?_ (by assumption))⟩
    · have e2 : szN (1048576 - (hn : Int)) ln = -1 := by unfold szN; rw [if_pos (by omega)]
      rw [e2] at SL
      have g1 : ¬ (1048576 - (hn : Int)) < 0 := by omega
      clear e1 e2
      go_enter Tryd.func5, Tryd.ntmps5
      go_wp2_with fail
      refine (SH.out _).mono ?_
      rintro e w1 ⟨rfl, hw⟩
      obtain rfl := hw.symm
      clear hw
      go_wp2_with fail
      refine (SL.out _).mono ?_
      rintro e w2 ⟨rfl, hw⟩
      obtain rfl := hw.symm
      clear hw
      go_wp2_with fail
      go_ret
      exact ⟨⟨-1, rfl, .inl (by omega)⟩, (by repeat' first | with_reducible exact Below.refl _ _ | with_reducible assumption | with_reducible refine below_drewN ?_ _ | with_reducible refine balloc ?_ _ | with_reducible refine Below.drew ?_ | with_reducible refine Below.setCell ?_ (by first | (simp; done) | (simp; omega) | omega) _ | with_reducible refine bstep ?_ (by assumption))⟩
  · have e1 : szN 1048576 hn = -1 := by unfold szN; rw [if_pos (by omega)]
    rw [e1] at SH
    clear e1
    go_enter Tryd.func5, Tryd.ntmps5
    go_wp2_with fail
    refine (SH.out _).mono ?_
    rintro e w1 ⟨rfl, hw⟩
    obtain rfl := hw.symm
    clear hw
    go_wp2_with fail
    go_ret
    exact ⟨⟨-1, rfl, .inl (by omega)⟩, (by repeat' first | with_reducible exact Below.refl _ _ | with_reducible assumption | with_reducible refine below_drewN ?_ _ | with_reducible refine balloc ?_ _ | with_reducible refine Below.drew ?_ | with_reducible refine Below.setCell ?_ (by first | (simp; done) | (simp; omega) | omega) _ | with_reducible refine bstep ?_ (by assumption))⟩

/-- What is found, in memory of the call's own. -/
def ToFd (w : World) (n : Nat) (H : HtL) (ex : Bool) (rd : Int) (L : List Int) (e : Ending) (w' : World) : Prop :=
  ∃ hb lb, e = .returned (.agg #[.slice (some ⟨hb, 0, none⟩) n n, .bool ex, .int .i64 rd, .slice (some ⟨lb, 0, none⟩) L.length L.length]) ∧ OwnH w' hb n H ∧ Own w' lb L ∧ Below w.heap.size w w'
structure FdS (w0 w : World) (p0 p1 p2 p3 a b c d : Value) : Prop where
  par : w.rowIs w0.heap.size 25 4 (v4 p0 p1 p2 p3)
  res : w.rowIs (w0.heap.size + 1) 30 4 (v4 (.slice none 0 0) (.bool false) (.int .i64 0) (.slice none 0 0))
  out : w.rowIs (w0.heap.size + 2) 30 4 (v4 a b c d)
  bel : Below w0.heap.size w0 w

theorem FdS.below {w0 w w' : World} {p0 p1 p2 p3 a b c d : Value} (h : FdS w0 w p0 p1 p2 p3 a b c d) (hb : Below w.heap.size w w') : FdS w0 w' p0 p1 p2 p3 a b c d :=
  ⟨row_below h.par hb, row_below h.res hb, row_below h.out hb, bstep h.bel hb⟩

theorem FdS.three {w0 w : World} {p0 p1 p2 p3 a b c d : Value} (h : FdS w0 w p0 p1 p2 p3 a b c d) (x y z : Value) : FdS w0 (((w.setCell ⟨w0.heap.size + 2, 0, none⟩ x).setCell ⟨w0.heap.size + 2, 1, none⟩ y).setCell ⟨w0.heap.size + 2, 2, none⟩ z) p0 p1 p2 p3 x y z d :=
  ⟨World.rowIs.setOther (World.rowIs.setOther (World.rowIs.setOther h.par (by simp) _) (by simp) _) (by simp) _, World.rowIs.setOther (World.rowIs.setOther (World.rowIs.setOther h.res (by simp) _) (by simp) _) (by simp) _,
   v4_set2 (v4_set1 (v4_set0 h.out x) y) z, ((h.bel.setCell (by simp) _).setCell (by simp) _).setCell (by simp) _⟩

theorem FdS.four {w0 w : World} {p0 p1 p2 p3 a b c d : Value} (h : FdS w0 w p0 p1 p2 p3 a b c d) (x : Value) : FdS w0 (w.setCell ⟨w0.heap.size + 2, 3, none⟩ x) p0 p1 p2 p3 a b c x :=
  ⟨World.rowIs.setOther h.par (by simp) _, World.rowIs.setOther h.res (by simp) _, v4_set3 h.out x, h.bel.setCell (by simp) _⟩

theorem four_set {w : World} {T : TypeId} {b : Nat} {F : Nat → Value} (h : w.rowIs b T 4 F) (x0 x1 x2 x3 : Value) :
    ((((w.setCell ⟨b, 0, none⟩ x0).setCell ⟨b, 1, none⟩ x1).setCell ⟨b, 2, none⟩ x2).setCell ⟨b, 3, none⟩ x3).rowIs b T 4 (v4 x0 x1 x2 x3) :=
  (World.rowIs.set (World.rowIs.set (World.rowIs.set (World.rowIs.set h 0 x0) 1 x1) 2 x2) 3 x3).congr fun j hj => by rcases (show j = 0 ∨ j = 1 ∨ j = 2 ∨ j = 3 from by omega) with rfl | rfl | rfl | rfl <;> rfl

set_option maxHeartbeats 4000000 in
theorem toFound_any (ha : Option Addr) (hn hc : Nat) (H : HtL) (ex : Bool) (rd : Int) (la : Option Addr) (ln lc : Nat) (L : List Int) (w : World) (rh : HtR w ha hn H) (rl : Row w la ln L) (h1 : hn ≤ 1048576) (h2 : ln ≤ 1048576) :
    Calls Tryd.prog 7 #[.agg #[.slice ha hn hc, .bool ex, .int .i64 rd, .slice la ln lc]] w fun e w' => ToFd w hn H ex rd L e w' := by
  have S0 : Hid (FdS w (((w.alloc (.cells #[.slice ha hn hc, .bool ex, .int .i64 rd, .slice la ln lc] 25)).alloc (.cells #[.slice none 0 0, .bool false, .int .i64 0, .slice none 0 0] 30)).alloc (.cells #[.slice none 0 0, .bool false, .int .i64 0, .slice none 0 0] 30)) (.slice ha hn hc) (.bool ex) (.int .i64 rd) (.slice la ln lc) (.slice none 0 0) (.bool false) (.int .i64 0) (.slice none 0 0)) := hide
    ⟨World.rowIs.alloc (World.rowIs.alloc (v4_new w _ _ _ _ _) _) _, World.rowIs.alloc (by simpa using v4_new (w.alloc (.cells #[.slice ha hn hc, .bool ex, .int .i64 rd, .slice la ln lc] 25)) (.slice none 0 0) (.bool false) (.int .i64 0) (.slice none 0 0) 30) _,
     by simpa using v4_new ((w.alloc (.cells #[.slice ha hn hc, .bool ex, .int .i64 rd, .slice la ln lc] 25)).alloc (.cells #[.slice none 0 0, .bool false, .int .i64 0, .slice none 0 0] 30)) (.slice none 0 0) (.bool false) (.int .i64 0) (.slice none 0 0) 30, balloc (balloc (balloc (Below.refl _ _) _) _) _⟩
  have TH := hide (fun w1 (s : Below w.heap.size w w1) => toHits_any ha hn hc H w1 (rh.below s) h1)
  have TL := hide (fun w1 (s : Below w.heap.size w w1) => toInts_any la ln lc L w1 (rl.below s) h2)
  have hl := rl.len
  clear rh rl
  subst hl
  go_enter Tryd.func7, Tryd.ntmps7
  go_wp2_with fail
  refine (TH.out _ S0.out.bel).mono ?_
  rintro e w1 ⟨hb, rfl, hbl, oh, hb1⟩
  have S1 := hide (S0.out.below hb1)
  have O1 := hide oh
  have ne : w.heap.size + 2 < hb := by simp at hbl; omega
  clear S0 TH oh hb1 hbl
  obtain ⟨lp, p0, p1, p2, p3, _, _, _, _⟩ := v4_facts S1.out.par
  obtain ⟨lo, o0, o1, o2, o3, f0, f1, f2, f3⟩ := v4_facts S1.out.out
  have S2 := hide (S1.out.three (.slice (some ⟨hb, 0, none⟩) hn hn) (.bool ex) (.int .i64 rd))
  have O2 : Hid (OwnH _ hb hn H) := hide (rows_three O1.out (g := w.heap.size + 2) (by omega) (.slice (some ⟨hb, 0, none⟩) hn hn) (.bool ex) (.int .i64 rd))
  clear S1 O1
  go_wp2_with fail
  refine (TL.out _ S2.out.bel).mono ?_
  rintro e w2 ⟨lb, rfl, lbl, ol, hb2⟩
  have S3 := hide (S2.out.below hb2)
  have O3 := hide (O2.out.below hb2)
  have P3 := hide ol
  have ne2 : w.heap.size + 2 < lb := by simp [World.setCell] at lbl; omega
  clear S2 O2 TL ol hb2 lbl lp p0 p1 p2 p3 lo o0 o1 o2 o3 f0 f1 f2 f3
  obtain ⟨lo, o0, o1, o2, o3, f0, f1, f2, f3⟩ := v4_facts S3.out.out
  obtain ⟨lr, r0, r1, r2, r3, k0, k1, k2, k3⟩ := v4_facts S3.out.res
  have S4 := hide (S3.out.four (.slice (some ⟨lb, 0, none⟩) L.length L.length))
  clear S3
  go_wp2_with fail
  have R5 := four_set S4.out.res (.slice (some ⟨hb, 0, none⟩) hn hn) (.bool ex) (.int .i64 rd) (.slice (some ⟨lb, 0, none⟩) L.length L.length)
  obtain ⟨_, s0, s1, s2, s3, _, _, _, _⟩ := v4_facts R5
  refine bodyPost_ret (v := .agg #[.slice (some ⟨hb, 0, none⟩) hn hn, .bool ex, .int .i64 rd, .slice (some ⟨lb, 0, none⟩) L.length L.length]) (by simp [results, Tryd.results7, go_sem, s0, s1, s2, s3]) rfl ⟨hb, lb, rfl, ?_, ?_, ?_⟩
  · exact rows_four (World.rowIs.setOther O3.out (by simp; omega) _) (by omega) _ _ _ _
  · exact rows_four (World.rowIs.setOther P3.out (by simp; omega) _) (by omega) _ _ _ _
  · exact (((S4.out.bel.setCell (by simp) _).setCell (by simp) _).setCell (by simp) _).setCell (by simp) _

/-- Two that were found are the same. -/
structure FdE (w0 w : World) (a b c d a' b' c' d' : Value) : Prop where
  one : w.rowIs w0.heap.size 30 4 (v4 a b c d)
  two : w.rowIs (w0.heap.size + 1) 30 4 (v4 a' b' c' d')
  bel : Below w0.heap.size w0 w

theorem FdE.below {w0 w w' : World} {a b c d a' b' c' d' : Value} (h : FdE w0 w a b c d a' b' c' d') (hb : Below w.heap.size w w') : FdE w0 w' a b c d a' b' c' d' :=
  ⟨row_below h.one hb, row_below h.two hb, bstep h.bel hb⟩

set_option maxHeartbeats 2000000 in
theorem eqFound_self (ha : Option Addr) (hn hc : Nat) (H : HtL) (ex : Bool) (rd : Int) (la : Option Addr) (ln lc : Nat) (L : List Int) (ha' : Option Addr) (hc' : Nat) (la' : Option Addr) (lc' : Nat) (w : World)
    (rh : HtR w ha hn H) (rl : Row w la ln L) (rh' : HtR w ha' hn H) (rl' : Row w la' ln L) (h1 : hn ≤ 1048576) (h2 : ln ≤ 1048576) :
    Calls Tryd.prog 9 #[.agg #[.slice ha hn hc, .bool ex, .int .i64 rd, .slice la ln lc], .agg #[.slice ha' hn hc', .bool ex, .int .i64 rd, .slice la' ln lc']] w fun e w' => e = .returned (.bool true) ∧ Below w.heap.size w w' := by
  have E0 : Hid (FdE w ((w.alloc (.cells #[.slice ha hn hc, .bool ex, .int .i64 rd, .slice la ln lc] 30)).alloc (.cells #[.slice ha' hn hc', .bool ex, .int .i64 rd, .slice la' ln lc'] 30)) (.slice ha hn hc) (.bool ex) (.int .i64 rd) (.slice la ln lc) (.slice ha' hn hc') (.bool ex) (.int .i64 rd) (.slice la' ln lc')) := hide
    ⟨World.rowIs.alloc (v4_new w _ _ _ _ _) _, by simpa using v4_new (w.alloc (.cells #[.slice ha hn hc, .bool ex, .int .i64 rd, .slice la ln lc] 30)) (.slice ha' hn hc') (.bool ex) (.int .i64 rd) (.slice la' ln lc') 30, balloc (balloc (Below.refl _ _) _) _⟩
  have EH := hide (fun w1 (s : Below w.heap.size w w1) => eqHits_self ha ha' hn hc hc' H w1 (rh.below s) (rh'.below s) h1)
  have EL := hide (fun w1 (s : Below w.heap.size w w1) => eqInts_any la la' ln lc ln lc' L L w1 (rl.below s) (rl'.below s) h2)
  have t1 : (ex != ex) = false := by cases ex <;> rfl
  have t2 : (rd != rd) = false := by simp
  clear rh rl rh' rl'
  obtain ⟨_, p0, p1, p2, p3, _, _, _, _⟩ := v4_facts E0.out.one
  obtain ⟨_, q0, q1, q2, q3, _, _, _, _⟩ := v4_facts E0.out.two
  go_enter Tryd.func9, Tryd.ntmps9
  go_wp2_with fail
  refine (EH.out _ E0.out.bel).mono ?_
  rintro e w1 ⟨rfl, hb1⟩
  have E1 := hide (E0.out.below hb1)
  clear p0 p1 p2 p3 q0 q1 q2 q3 E0 hb1 EH
  obtain ⟨_, p0, p1, p2, p3, _, _, _, _⟩ := v4_facts E1.out.one
  obtain ⟨_, q0, q1, q2, q3, _, _, _, _⟩ := v4_facts E1.out.two
  go_wp2_with fail
  refine (EL.out _ E1.out.bel).mono ?_
  rintro e w2 ⟨rfl, hb2⟩
  rw [show decide True = true from rfl]
  have B2 := hide (bstep E1.out.bel hb2)
  clear hb2
  go_wp2_with fail
  go_ret
  exact ⟨rfl, B2.out⟩
end Go.Proofs.YtfjhgagpmhedfaaDoor
