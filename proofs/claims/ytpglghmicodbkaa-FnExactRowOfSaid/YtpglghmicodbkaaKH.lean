/- The walk of FnExactRowOf. -/
import Derived.Test.YtpglghmicodbkaaKG
import Derived.Test.YtpglghmicodbkaaBC
import Derived.Test.YtpglghmicodbkaaVD0
namespace Go.Proofs.Ytpglghmicodbkaa
open Go.RowKit
set_option linter.unusedSimpArgs false
set_option linter.unusedVariables false

theorem TriW.far {w w' : World} {b B C : Nat} {v0 v1 v2 : Value} (h : TriW w b v0 v1 v2) (hf : Far B C w w') (hne : b < B ∨ C ≤ b) : TriW w' b v0 v1 v2 := by
  have e := hf.block b h.lt hne
  obtain ⟨h0, h1, h2, h3, f0, f1, f2⟩ := h
  refine ⟨Nat.lt_of_lt_of_le h0 hf.size, ?_, ?_, ?_, ?_, ?_, ?_⟩ <;> simp only [World.cell?, World.frozen?, e] at * <;> assumption
theorem Row.far {w w' : World} {B C : Nat} {a : Option Addr} {n : Nat} {xs : List Int} (h : Row w a n xs) (hf : Far B C w w') (hne : ∀ b off, a = some ⟨b, off, none⟩ → 0 < n → b < B ∨ C ≤ b) : Row w' a n xs := by
  refine ⟨h.len, ?_⟩
  rcases h.lies with h0 | ⟨b, off, e, lt, hc⟩
  · exact .inl h0
  · by_cases hn : n = 0
    · exact .inl hn
    · exact .inr ⟨b, off, e, Nat.lt_of_lt_of_le lt hf.size, fun i hi => (World.cell?_of_block (w := w) (hf.block b lt (hne b off e (by omega)))).trans (hc i hi)⟩
theorem OwnP.far {w w' : World} {B C b n : Nat} {f g : Nat → Int} (h : OwnP w b n f g) (hf : Far B C w w') (hne : b < B ∨ C ≤ b) : OwnP w' b n f g := World.rowIs.of_block h (hf.block b (World.rowIs.lt h) hne)
theorem Own.far {w w' : World} {B C b : Nat} {xs : List Int} (h : Own w b xs) (hf : Far B C w w') (hne : b < B ∨ C ≤ b) : Own w' b xs := World.rowIs.of_block h (hf.block b (World.rowIs.lt h) hne)

/-- What lies there once both have answered: the model's lists and their box t, the program's lists between B and C and their box at C. -/
structure RS (w0 W : World) (t B C : Nat) (s1 s2 s3 a1 a2 a3 : Option Addr) (m q1 q2 q3 k1 k2 k3 : Nat) (S1 S2 S3 L1 L2 L3 : List Int) : Prop where
  bel : Below w0.heap.size w0 W
  r1 : Row W s1 m S1
  r2 : Row W s2 m S2
  r3 : Row W s3 m S3
  e1 : ∀ b off, s1 = some ⟨b, off, none⟩ → 0 < m → b < t
  e2 : ∀ b off, s2 = some ⟨b, off, none⟩ → 0 < m → b < t
  e3 : ∀ b off, s3 = some ⟨b, off, none⟩ → 0 < m → b < t
  bx : TriW W t (.slice s1 m q1) (.slice s2 m q2) (.slice s3 m q3)
  by' : TriW W C (.slice a1 m k1) (.slice a2 m k2) (.slice a3 m k3)
  o : Row3 B C W a1 a2 a3 m L1 L2 L3
  lo : w0.heap.size ≤ t
  tB : t < B
  BC : B ≤ C
theorem RS.below {w0 W W' : World} {t B C : Nat} {s1 s2 s3 a1 a2 a3 : Option Addr} {m q1 q2 q3 k1 k2 k3 : Nat} {S1 S2 S3 L1 L2 L3 : List Int} (h : RS w0 W t B C s1 s2 s3 a1 a2 a3 m q1 q2 q3 k1 k2 k3 S1 S2 S3 L1 L2 L3) (hb : Below W.heap.size W W') : RS w0 W' t B C s1 s2 s3 a1 a2 a3 m q1 q2 q3 k1 k2 k3 S1 S2 S3 L1 L2 L3 :=
  ⟨bstep h.bel hb, h.r1.below hb, h.r2.below hb, h.r3.below hb, h.e1, h.e2, h.e3, h.bx.below hb, h.by'.below hb, h.o.below hb, h.lo, h.tB, h.BC⟩
theorem RS.far {w0 W W' : World} {t B C B' C' : Nat} {s1 s2 s3 a1 a2 a3 : Option Addr} {m q1 q2 q3 k1 k2 k3 : Nat} {S1 S2 S3 L1 L2 L3 : List Int} (h : RS w0 W t B C s1 s2 s3 a1 a2 a3 m q1 q2 q3 k1 k2 k3 S1 S2 S3 L1 L2 L3) (hf : Far B' C' W W') (h1 : t < B') (h2 : C' ≤ B) : RS w0 W' t B C s1 s2 s3 a1 a2 a3 m q1 q2 q3 k1 k2 k3 S1 S2 S3 L1 L2 L3 :=
  ⟨h.bel.trans (hf.below (by have := h.lo; omega) h.bel.size), h.r1.far hf (fun b off e p => by have := h.e1 b off e p; omega), h.r2.far hf (fun b off e p => by have := h.e2 b off e p; omega), h.r3.far hf (fun b off e p => by have := h.e3 b off e p; omega), h.e1, h.e2, h.e3, h.bx.far hf (by omega), h.by'.far hf (by have := h.BC; omega), h.o.far hf (by omega), h.lo, h.tB, h.BC⟩
theorem RS.mark {w0 W W' : World} {t B C : Nat} {s1 s2 s3 a1 a2 a3 : Option Addr} {m q1 q2 q3 k1 k2 k3 : Nat} {S1 S2 S3 L1 L2 L3 M1 M2 M3 : List Int} (h : RS w0 W t B C s1 s2 s3 a1 a2 a3 m q1 q2 q3 k1 k2 k3 S1 S2 S3 L1 L2 L3) (hf : Far B C W W') (ho : Row3 B C W' a1 a2 a3 m M1 M2 M3) : RS w0 W' t B C s1 s2 s3 a1 a2 a3 m q1 q2 q3 k1 k2 k3 S1 S2 S3 M1 M2 M3 :=
  ⟨h.bel.trans (hf.below (by have := h.lo; have := h.tB; omega) h.bel.size), h.r1.far hf (fun b off e p => by have := h.e1 b off e p; have := h.tB; omega), h.r2.far hf (fun b off e p => by have := h.e2 b off e p; have := h.tB; omega), h.r3.far hf (fun b off e p => by have := h.e3 b off e p; have := h.tB; omega), h.e1, h.e2, h.e3, h.bx.far hf (by have := h.tB; omega), h.by'.far hf (by omega), ho, h.lo, h.tB, h.BC⟩

set_option maxHeartbeats 8000000 in
set_option maxRecDepth 4000 in
theorem exactRowOf_walk (a : Option Addr) (n cap : Nat) (f g : Nat → Int) (a' : Option Addr) (n' cap' : Nat) (zs : List Int) (w : World) (h : IsPairs w a n f g) (h' : IsRow .i64 w a' n' cap' zs) :
    Calls Try.prog 3 #[.slice a n cap, .slice a' n' cap'] w fun e w' => e = .returned (.bool true) ∧ Below w.heap.size w w' := by
  by_cases hn' : n' ≤ 1048576
  · have hv := h'.row
    generalize zs.take n' = xs at hv
    clear h'
    obtain ⟨hp, hl⟩ := h
    have SZ := hide (szRangeS_any a n cap 1048576 w (by omega) (by omega) hl)
    have hnl' : ¬ (1048576 : Int) < (n' : Int) := by omega
    have hxl := hv.len
    subst hxl
    by_cases hn : n ≤ 1048576
    · rw [if_neg (show ¬ (1048576 : Int) - (n : Int) < 0 by omega)] at SZ
      have hnl : ¬ (1048576 : Int) - (n : Int) < 0 := by omega
      have TR := hide (fun w1 (hb : Below w.heap.size w w1) => toRangeS_any a n cap f g w1 (hp.below hb) hn)
      have TV := hide (fun w1 (hb : Below w.heap.size w w1) => toInts_any a' xs.length cap' xs w1 (hv.below hb) hn')
      have SR := hide (fun b g' w1 (o : OwnP w1 b n f g) (o' : Own w1 g' xs) => sRowOf_any (some ⟨b, 0, none⟩) (some ⟨g', 0, none⟩) n n xs.length xs.length f g xs w1 o.prow o'.row hn hn')
      have IR := hide (fun b g' w1 (o : OwnP w1 b n f g) (o' : Own w1 g' xs) => iRowOf_any (some ⟨b, 0, none⟩) (some ⟨g', 0, none⟩) n n xs.length xs.length f g xs w1 o.prow o'.row hn')
      have EQ := hide (fun b b' w1 (o : OwnP w1 b n f g) (o' : OwnP w1 b' n f g) => eqRangeS_self (some ⟨b, 0, none⟩) (some ⟨b', 0, none⟩) n n n f g w1 o.prow o'.prow hn)
      have EV := hide (fun b b' w1 (o : Own w1 b xs) (o' : Own w1 b' xs) => eqInts_any (some ⟨b, 0, none⟩) (some ⟨b', 0, none⟩) xs.length xs.length xs.length xs.length xs xs w1 o.row o'.row hn')
      rw [decide_eq_true rfl] at EV
      have h8 : (if formB n f g xs.length xs then n else 0) ≤ 8 := by
        cases hF : formB n f g xs.length xs
        · simp
        · simp only [formB, Bool.and_eq_true] at hF
          simpa using (boxB_num' hF.1.1).2
      generalize vcode f g xs 1 = c1 at SR IR
      generalize vcode f g xs 2 = c2 at SR IR
      generalize vcode f g xs 3 = c3 at SR IR
      generalize formB n f g xs.length xs = F at SR IR h8
      have hFF : (F != F) = false := by simp
      clear hp hv hl
      go_enter Try.func3, Try.ntmps3
      go_wp2_with fail
      refine SZ.out.mono ?_
      rintro e w0 ⟨rfl, hw0⟩
      obtain rfl := hw0.symm
      clear hw0
      go_wp2_with fail
      refine (TR.out _ (by repeat' first | with_reducible exact Below.refl _ _ | with_reducible assumption | with_reducible refine below_drewN ?_ _ | with_reducible refine balloc ?_ _ | with_reducible refine Below.drew ?_ | with_reducible refine Below.setCell ?_ (by first | (simp; done) | (simp; omega) | omega) _ | with_reducible refine bstep ?_ (by assumption))).mono ?_
      rintro e w1 ⟨b1, rfl, l1, o1, hb1⟩
      go_wp2_with fail
      refine (TV.out _ hb1).mono ?_
      rintro e w2 ⟨g2, rfl, l2, o2, hb2⟩
      have B2 := bstep hb1 hb2
      have o1 := o1.below hb2
      go_wp2_with fail
      refine (SR.out _ _ _ o1 o2).mono ?_
      rintro e w3 ⟨v3, rfl, s1, s2, s3, q1, q2, q3, rfl, r1, r2, r3, hb3⟩
      have B3 := bstep B2 hb3
      clear hb1 hb2 hb3 o1 o2 l1 l2 B2
      obtain ⟨m, hm⟩ : ∃ m, (if F then n else 0) = m := ⟨_, rfl⟩
      rw [hm] at r1 r2 r3 h8 ⊢
      have HM := hide hm
      clear hm
      have R1 := hide r1
      have R2 := hide r2
      have R3 := hide r3
      clear r1 r2 r3
      go_wp2_with fail
      have ba3 : Below w3.heap.size w3 (w3.alloc (.cells #[.slice s1 m q1, .slice s2 m q2, .slice s3 m q3] 26)) := (by repeat' first | with_reducible exact Below.refl _ _ | with_reducible assumption | with_reducible refine below_drewN ?_ _ | with_reducible refine balloc ?_ _ | with_reducible refine Below.drew ?_ | with_reducible refine Below.setCell ?_ (by first | (simp; done) | (simp; omega) | omega) _ | with_reducible refine bstep ?_ (by assumption))
      have T3 := TriW.new w3 (.slice s1 m q1) (.slice s2 m q2) (.slice s3 m q3) 26 _ rfl
      refine (TR.out _ (bstep B3 ba3)).mono ?_
      rintro e w4 ⟨b4, rfl, l4, o4, hb4⟩
      have s44 : b4 < w4.heap.size := World.rowIs.lt o4
      go_wp2_with fail
      refine (TV.out _ (bstep (bstep B3 ba3) hb4)).mono ?_
      rintro e w5 ⟨g5, rfl, l5, o5, hb5⟩
      have o4 := o4.below hb5
      go_wp2_with fail
      refine (IR.out _ _ _ o4 o5).mono ?_
      rintro e w6 ⟨m6, a1, a2, a3, k1, k2, k3, rfl, hm6, o6, hb6⟩
      rw [HM.out] at hm6
      subst hm6
      have T6 := ((T3.below hb4).below hb5).below hb6
      have bc : Below w3.heap.size w3 w6 := bstep (bstep (bstep ba3 hb4) hb5) hb6
      have s4 := World.rowIs.lt o4
      have s5 := World.rowIs.lt o5
      have s6 := hb6.size
      simp only [World.size_alloc] at l4
      have z4 : w3.heap.size + 1 ≤ w4.heap.size := by have := hb4.size; simpa using this
      have z5 := hb5.size
      have RS6 : RS w (w6.alloc (.cells #[.slice a1 m6 k1, .slice a2 m6 k2, .slice a3 m6 k3] 26)) w3.heap.size w5.heap.size w6.heap.size s1 s2 s3 a1 a2 a3 m6 q1 q2 q3 k1 k2 k3 (ints c1 m6) (ints c2 m6) (ints c3 m6) (ints c1 m6) (ints c2 m6) (ints c3 m6) :=
        ⟨bstep (bstep B3 bc) (balloc (Below.refl _ _) _), (R1.out.below bc).below (balloc (Below.refl _ _) _), (R2.out.below bc).below (balloc (Below.refl _ _) _), (R3.out.below bc).below (balloc (Below.refl _ _) _),
          fun b off e p => R1.out.lt p b off e, fun b off e p => R2.out.lt p b off e, fun b off e p => R3.out.lt p b off e, T6.alloc _, TriW.new _ _ _ _ _ _ rfl, o6.below (balloc (Below.refl _ _) _), B3.size, by omega, s6⟩
      have o4 := (o4.below hb6).below (balloc (Below.refl _ _) (.cells #[.slice a1 m6 k1, .slice a2 m6 k2, .slice a3 m6 k3] 26))
      have o5 := (o5.below hb6).below (balloc (Below.refl _ _) (.cells #[.slice a1 m6 k1, .slice a2 m6 k2, .slice a3 m6 k3] 26))
      have H6 := hide RS6
      have O4 := hide o4
      have O5 := hide o5
      obtain ⟨_, t0, t1, t2, _, _, _⟩ := T6
      clear RS6 o4 o5 o6 hb4 hb5 hb6 T3 bc ba3 R1 R2 R3 SR B3
      have ER := hide (fun W (h : RS w W w3.heap.size w5.heap.size w6.heap.size s1 s2 s3 a1 a2 a3 m6 q1 q2 q3 k1 k2 k3 (ints c1 m6) (ints c2 m6) (ints c3 m6) (ints c1 m6) (ints c2 m6) (ints c3 m6)) =>
        eqRow_same a1 a2 a3 s1 s2 s3 m6 k1 k2 k3 q1 q2 q3 _ _ _ W (by omega) h.o.rows.1 h.o.rows.2.1 h.o.rows.2.2 h.r1 h.r2 h.r3)
      go_wp2_with fail
      refine (ER.out _ H6.out).mono ?_
      rintro e w7 ⟨rfl, hb7⟩
      have H7 := hide (H6.out.below hb7)
      have O4 := hide (O4.out.below hb7)
      have O5 := hide (O5.out.below hb7)
      clear hb7 H6 t0 t1 t2
      go_wp2_with fail
      refine (TR.out _ H7.out.bel).mono ?_
      rintro e w8 ⟨b8, rfl, l8, o8, hb8⟩
      have H8 := hide (H7.out.below hb8)
      have O4 := hide (O4.out.below hb8)
      have O5 := hide (O5.out.below hb8)
      clear hb8 H7
      go_wp2_with fail
      refine (EQ.out _ _ _ O4.out o8).mono ?_
      rintro e w9 ⟨rfl, hb9⟩
      have H9 := hide (H8.out.below hb9)
      have O4 := hide (O4.out.below hb9)
      have O5 := hide (O5.out.below hb9)
      clear hb9 H8 o8 l8
      go_wp2_with fail
      refine (TV.out _ H9.out.bel).mono ?_
      rintro e w10 ⟨g10, rfl, l10, o10, hb10⟩
      have H10 := hide (H9.out.below hb10)
      have O4 := hide (O4.out.below hb10)
      have O5 := hide (O5.out.below hb10)
      clear hb10 H9
      go_wp2_with fail
      refine (EV.out _ _ _ O5.out o10).mono ?_
      rintro e w11 ⟨rfl, hb11⟩
      have H11 := hide (H10.out.below hb11)
      have O4 := hide (O4.out.below hb11)
      have O5 := hide (O5.out.below hb11)
      clear hb11 H10 o10 l10
      go_wp2_with fail
      refine (markRangeS_own b4 n n 1 f g _ O4.out hn (by omega) (by omega)).mono ?_
      rintro e w12 ⟨rfl, _, hb12⟩
      have H12 := hide (H11.out.far (Far.ofBut (B := b4) (C := b4 + 1) hb12 (by omega) (by omega)) (by omega) (by omega))
      have O5 := hide (hb12.own O5.out (by omega))
      clear hb12 H11 O4
      go_wp2_with fail
      refine (markInts_any g5 xs.length xs.length _ xs _ O5.out rfl hn' (by omega) (by omega)).mono ?_
      rintro e w13 ⟨rfl, _, hb13⟩
      have H13 := hide (H12.out.far (Far.ofBut (B := g5) (C := g5 + 1) hb13 (by omega) (by omega)) (by omega) (by omega))
      clear hb13 H12 O5
      obtain ⟨_, t0, t1, t2, _, _, _⟩ := H13.out.bx
      obtain ⟨_, u0, u1, u2, _, _, _⟩ := H13.out.by'
      have hk0 : ¬ ((1 : Int) + 2 * (n : Int) + (xs.length : Int) < 0) := by omega
      go_wp2_with fail
      refine (ER.out _ H13.out).mono ?_
      rintro e w14 ⟨rfl, hb14⟩
      have H14 := hide (H13.out.below hb14)
      clear hb14 H13 t0 t1 t2 u0 u1 u2
      obtain ⟨_, u0, u1, u2, _, _, _⟩ := H14.out.by'
      go_wp2_with fail
      refine (markRow_any w5.heap.size w6.heap.size a1 a2 a3 m6 k1 k2 k3 1 _ _ _ _ h8 (by omega) (by omega) H14.out.o).mono ?_
      rintro e w15 ⟨rfl, hr15, hf15⟩
      have H15 := hide (H14.out.mark hf15 hr15)
      clear hr15 hf15 H14 u0 u1 u2
      obtain ⟨_, u0, u1, u2, _, _, _⟩ := H15.out.by'
      go_wp2_with fail
      refine (heldRow_any w5.heap.size w6.heap.size a1 a2 a3 m6 k1 k2 k3 1 _ h8 (by omega) (by omega) H15.out.o).mono ?_
      rintro e w16 ⟨rfl, hb16⟩
      have H16 := hide (H15.out.below hb16)
      clear hb16 H15 u0 u1 u2
      have hk1 : ¬ ((1 : Int) + (m6 : Int) + (m6 : Int) + (m6 : Int) < 0) := by omega
      have hk2 : ((1 : Int) + (m6 : Int) + (m6 : Int) + (m6 : Int) != (1 : Int) + (m6 : Int) + (m6 : Int) + (m6 : Int)) = false := by simp
      go_wp2_with fail
      refine (TR.out _ H16.out.bel).mono ?_
      rintro e w17 ⟨b17, rfl, l17, o17, hb17⟩
      have H17 := hide (H16.out.below hb17)
      clear hb17 H16
      go_wp2_with fail
      refine (TV.out _ H17.out.bel).mono ?_
      rintro e w18 ⟨g18, rfl, l18, o18, hb18⟩
      have H18 := hide (H17.out.below hb18)
      have o17 := o17.below hb18
      clear hb18 H17
      go_wp2_with fail
      refine (IR.out _ _ _ o17 o18).mono ?_
      rintro e w19 ⟨m9, d1, d2, d3, p1, p2, p3, rfl, hm9, o19, hb19⟩
      rw [HM.out] at hm9
      subst hm9
      have H19 := hide (H18.out.below hb19)
      have O19 := hide o19
      clear hb19 H18 o17 o18 l17 l18 o19
      obtain ⟨_, t0, t1, t2, _, _, _⟩ := H19.out.bx
      have ba : Below w19.heap.size w19 (w19.alloc (.cells #[.slice d1 m9 p1, .slice d2 m9 p2, .slice d3 m9 p3] 26)) := (by repeat' first | with_reducible exact Below.refl _ _ | with_reducible assumption | with_reducible refine below_drewN ?_ _ | with_reducible refine balloc ?_ _ | with_reducible refine Below.drew ?_ | with_reducible refine Below.setCell ?_ (by first | (simp; done) | (simp; omega) | omega) _ | with_reducible refine bstep ?_ (by assumption))
      have H20 := hide (H19.out.below ba)
      have O20 := hide (O19.out.below ba)
      clear H19 O19 ba
      go_wp2_with fail
      refine (eqRow_same d1 d2 d3 s1 s2 s3 m9 p1 p2 p3 q1 q2 q3 _ _ _ _ (by omega) O20.out.rows.1 O20.out.rows.2.1 O20.out.rows.2.2 H20.out.r1 H20.out.r2 H20.out.r3).mono ?_
      rintro e w21 ⟨rfl, hb21⟩
      have H21 := hide (H20.out.below hb21)
      clear hb21 H20 O20 t0 t1 t2
      obtain ⟨_, u0, u1, u2, _, _, _⟩ := H21.out.by'
      go_wp2_with fail
      refine (heldRow_any w5.heap.size w6.heap.size a1 a2 a3 m9 k1 k2 k3 1 _ h8 (by omega) (by omega) H21.out.o).mono ?_
      rintro e w22 ⟨rfl, hb22⟩
      have B22 := hide (H21.out.below hb22).bel
      clear hb22 H21 u0 u1 u2
      go_wp2_with fail
      go_ret
      exact ⟨rfl, B22.out⟩
    · rw [if_pos (show (1048576 : Int) - (n : Int) < 0 by omega)] at SZ
      clear hp hv
      go_enter Try.func3, Try.ntmps3
      go_wp2_with fail
      refine SZ.out.mono ?_
      rintro e w0 ⟨rfl, hw0⟩
      obtain rfl := hw0.symm
      go_wp2_with fail
      go_ret
      exact ⟨rfl, (by repeat' first | with_reducible exact Below.refl _ _ | with_reducible assumption | with_reducible refine below_drewN ?_ _ | with_reducible refine balloc ?_ _ | with_reducible refine Below.drew ?_ | with_reducible refine Below.setCell ?_ (by first | (simp; done) | (simp; omega) | omega) _ | with_reducible refine bstep ?_ (by assumption))⟩
  · have hn2 : (1048576 : Int) < n' := by omega
    clear h h'
    go_enter Try.func3, Try.ntmps3
    go_wp2_with fail
    go_ret
    exact ⟨rfl, (by repeat' first | with_reducible exact Below.refl _ _ | with_reducible assumption | with_reducible refine below_drewN ?_ _ | with_reducible refine balloc ?_ _ | with_reducible refine Below.drew ?_ | with_reducible refine Below.setCell ?_ (by first | (simp; done) | (simp; omega) | omega) _ | with_reducible refine bstep ?_ (by assumption))⟩
end Go.Proofs.Ytpglghmicodbkaa
