/- Drawn rows: DrawRowOk. -/
import Derived.Test.YtoiaamcnmpdglaaZ24
import Derived.Test.YtoiaamcnmpdglaaZ23
import Derived.Deep.RegionHeld3
import Derived.Laws.OwnMore
import Derived.Test.YtoiaamcnmpdglaaZ12
namespace Go.Proofs.Ytoiaamcnmpdglaa
open Go.RowKit
set_option maxRecDepth 8000
set_option linter.unusedSimpArgs false
set_option linter.unusedVariables false

theorem Row.alloc {w : World} {a : Option Addr} {n : Nat} {xs : List Int} (h : Row w a n xs) (o : Obj) : Row (w.alloc o) a n xs := h.below (balloc (Below.refl _ _) o)

theorem new_one (w : World) : Row (w.alloc (.cells #[.int .i64 0] 2)) (some ⟨w.heap.size, 0, none⟩) 1 [0] := by
  refine ⟨rfl, .inr ⟨w.heap.size, 0, rfl, by simp, fun i hi => ?_⟩⟩
  obtain rfl : i = 0 := by omega
  simp [nth]

theorem prow_triX {w : World} {a : Option Addr} {n q : Nat} {f g : Nat → Int} (h : PRow w a n f g) (hne : ∀ b off, a = some ⟨b, off, none⟩ → b ≠ q) (u v x : Value) :
    PRow (((w.setCell ⟨q, 0, none⟩ u).setCell ⟨q, 1, none⟩ v).setCell ⟨q, 2, none⟩ x) a n f g :=
  prow_butM h ((((But.refl q w).setCell 0 u).setCell 1 v).setCell 2 x) hne

theorem owns_butX {base : Nat} {wr w1 : World} {rb : Nat} {e : TypeId} {size : Nat} {v : Value} {k : Nat} {xs : List Value} (h : wr.ownsRow base e size v k xs) (hb : But rb wr w1) (hlt : rb < base) : w1.ownsRow base e size v k xs := by
  refine ⟨h.1, ?_⟩
  rcases h.2 with h0 | ⟨g, cap, cur, hv, hg, hh, rest⟩
  · exact .inl h0
  · exact .inr ⟨g, cap, cur, hv, hg, (hb.block g (Array.getElem?_eq_some_iff.1 hh).1 (by omega)).trans hh, rest⟩
/-- What is kept while the row is hurt. -/
structure XS (w0 W : World) (q : Nat) (a : Option Addr) (n c b off d : Nat) (F G : Nat → Int) (bs g1 k1 g2 k2 g3 k3 C2 C3 : Nat) (c1 c2 c3 : Nat → Int) : Prop where
  box : TriW W q (.slice (some ⟨g1, 0, none⟩) d k1) (.slice (some ⟨g2, 0, none⟩) d k2) (.slice (some ⟨g3, 0, none⟩) d k3)
  res : TriW W w0.heap.size (.slice none 0 0) (.slice none 0 0) (.slice none 0 0)
  rd : Rd (w0.heap.size + 1) W (w0.heap.size + 1) a n c
  own : Own3 W bs d (.slice (some ⟨g1, 0, none⟩) d k1) (.slice (some ⟨g2, 0, none⟩) d k2) (.slice (some ⟨g3, 0, none⟩) d k3) C2 C3 c1 c2 c3
  book : PRow W (some ⟨b, off, none⟩) d F G
  bel : Below w0.heap.size w0 W
  hq : w0.heap.size + 1 < q
  hbs : w0.heap.size + 1 < bs
  hb : w0.heap.size + 1 < b

theorem XS.but {w0 W W' : World} {q : Nat} {a : Option Addr} {n c b off d : Nat} {F G : Nat → Int} {bs g1 k1 g2 k2 g3 k3 C2 C3 : Nat} {c1 c2 c3 : Nat → Int} (h : XS w0 W q a n c b off d F G bs g1 k1 g2 k2 g3 k3 C2 C3 c1 c2 c3)
    (hbut : But (w0.heap.size + 1) W W') (hr : Rd (w0.heap.size + 1) W' (w0.heap.size + 1) a n c) : XS w0 W' q a n c b off d F G bs g1 k1 g2 k2 g3 k3 C2 C3 c1 c2 c3 := by
  have := h.hq
  have := h.hbs
  have := h.hb
  have := h.own.l2
  have := h.own.l3
  exact ⟨h.box.but hbut (by omega), h.res.but hbut (by omega), hr, ⟨owns_butX h.own.one hbut (by omega), owns_butX h.own.two hbut (by omega), owns_butX h.own.three hbut (by omega), h.own.l2, h.own.l3, h.own.s1, h.own.s2⟩, prow_butM h.book hbut (fun b' off' e => by cases e; omega), h.bel.trans (hbut.below (by omega) h.bel.size), h.hq, h.hbs, h.hb⟩
/-- The row's box, the result's, and what they lead to. -/
structure EX (w0 W : World) (q b off d : Nat) (F G : Nat → Int) (g1 k1 g2 k2 g3 k3 : Nat) : Prop where
  box : TriW W q (.slice (some ⟨g1, 0, none⟩) d k1) (.slice (some ⟨g2, 0, none⟩) d k2) (.slice (some ⟨g3, 0, none⟩) d k3)
  res : TriW W w0.heap.size (.slice none 0 0) (.slice none 0 0) (.slice none 0 0)
  rows : ∃ x1 x2 x3, Row W (some ⟨g1, 0, none⟩) d x1 ∧ Row W (some ⟨g2, 0, none⟩) d x2 ∧ Row W (some ⟨g3, 0, none⟩) d x3
  book : PRow W (some ⟨b, off, none⟩) d F G
  bel : Below w0.heap.size w0 W
  g1l : w0.heap.size < g1
  g2l : w0.heap.size < g2
  g3l : w0.heap.size < g3
  hb : w0.heap.size < b

theorem row_ownX {w : World} {base g k n : Nat} {f : Nat → Int} (h : w.ownsRow base 2 1 (.slice (some ⟨g, 0, none⟩) n k) n (vals f n)) : Row w (some ⟨g, 0, none⟩) n (ints f n) := by
  obtain ⟨a, c, e, r, _⟩ := row_of_owns h
  cases e; exact r

theorem XS.ex {w0 W : World} {q : Nat} {a : Option Addr} {n c b off d : Nat} {F G : Nat → Int} {bs g1 k1 g2 k2 g3 k3 C2 C3 : Nat} {c1 c2 c3 : Nat → Int} (h : XS w0 W q a n c b off d F G bs g1 k1 g2 k2 g3 k3 C2 C3 c1 c2 c3) : EX w0 W q b off d F G g1 k1 g2 k2 g3 k3 := by
  have := h.hbs
  have := h.hb
  have := h.own.l2
  have := h.own.l3
  have l1 := (h.own.one.lt g1 rfl).1
  have l2 := (h.own.two.lt g2 rfl).1
  have l3 := (h.own.three.lt g3 rfl).1
  exact ⟨h.box, h.res, ⟨_, _, _, row_ownX h.own.one, row_ownX h.own.two, row_ownX h.own.three⟩, h.book, h.bel, by omega, by omega, by omega, by omega⟩

theorem XS.drew {w0 W : World} {q : Nat} {a : Option Addr} {n c b off d : Nat} {F G : Nat → Int} {bs g1 k1 g2 k2 g3 k3 C2 C3 : Nat} {c1 c2 c3 : Nat → Int} (h : XS w0 W q a n c b off d F G bs g1 k1 g2 k2 g3 k3 C2 C3 c1 c2 c3) : XS w0 W.drew q a n c b off d F G bs g1 k1 g2 k2 g3 k3 C2 C3 c1 c2 c3 :=
  have bd : Below W.heap.size W W.drew := Below.drew (Below.refl _ _)
  ⟨h.box.drew, h.res.drew, h.rd.stays bd, ⟨h.own.one, h.own.two, h.own.three, h.own.l2, h.own.l3, h.own.s1, h.own.s2⟩, h.book.below bd, bstep h.bel bd, h.hq, h.hbs, h.hb⟩

theorem own_c0 {w : World} {base g k n : Nat} {f : Nat → Int} (h : w.ownsRow base 2 1 (.slice (some ⟨g, 0, none⟩) n k) n (vals f n)) (hn : 1 ≤ n) : ∃ u, w.cell? ⟨g, 0, none⟩ = some u := by
  rcases (row_ownX h).lies with h0 | ⟨b, off, e, lt, hc⟩
  · omega
  · cases e
    exact ⟨_, hc 0 (by omega)⟩

theorem vals_setX (f : Nat → Int) (n : Nat) (x : Int) : (vals f n).set 0 (.int .i64 x) = vals (fun i => if i = 0 then x else f i) n := by
  unfold vals
  refine List.ext_getElem (by simp) fun i h1 h2 => ?_
  simp only [List.getElem_set, List.getElem_map, List.getElem_range]
  by_cases e : i = 0
  · subst e; simp
  · rw [if_neg (fun q => e q.symm), if_neg e]

theorem own_hurt {w : World} {base g k n : Nat} {f : Nat → Int} (h : w.ownsRow base 2 1 (.slice (some ⟨g, 0, none⟩) n k) n (vals f n)) (g' : Nat) (x : Int) : ∃ ys, Row (w.setCell ⟨g', 0, none⟩ (.int .i64 x)) (some ⟨g, 0, none⟩) n ys := by
  by_cases e : g' = g
  · subst e
    have := (World.ownsRow.stored h 0 (.int .i64 x)).1
    rw [vals_setX] at this
    exact ⟨_, row_ownX this⟩
  · exact ⟨_, ((But.refl g' w).setCell 0 _).row (row_ownX h) (fun b off e' => by cases e'; exact fun q => e q.symm)⟩

theorem XS.hurt {w0 W : World} {q : Nat} {a : Option Addr} {n c b off d : Nat} {F G : Nat → Int} {bs g1 k1 g2 k2 g3 k3 C2 C3 : Nat} {c1 c2 c3 : Nat → Int} (h : XS w0 W q a n c b off d F G bs g1 k1 g2 k2 g3 k3 C2 C3 c1 c2 c3) {g : Nat} (x : Int) (hg : g = g1 ∨ g = g2 ∨ g = g3) (hq : g ≠ q) (hbg : b ≠ g) :
    EX w0 (W.setCell ⟨g, 0, none⟩ (.int .i64 x)) q b off d F G g1 k1 g2 k2 g3 k3 := by
  have E := h.ex
  have e1 := E.g1l
  have e2 := E.g2l
  have e3 := E.g3l
  have hgl : w0.heap.size < g := by omega
  obtain ⟨y1, r1⟩ := own_hurt h.own.one g x
  obtain ⟨y2, r2⟩ := own_hurt h.own.two g x
  obtain ⟨y3, r3⟩ := own_hurt h.own.three g x
  exact ⟨h.box.away ⟨g, 0, none⟩ _ (fun e => hq e.symm), h.res.away ⟨g, 0, none⟩ _ (by show ¬ w0.heap.size = g; omega), ⟨y1, y2, y3, r1, r2, r3⟩, prow_butM h.book ((But.refl g W).setCell 0 _) (fun b' off' e => by cases e; exact hbg), E.bel.setCell (by show w0.heap.size ≤ g; omega) _, e1, e2, e3, E.hb⟩

theorem prow_owns_at {w : World} {base g n cap : Nat} {f f' : Nat → Int} (h : w.ownsRow base 64 2 (.slice (some ⟨g, 0, none⟩) n cap) n (pvals f f' n)) : PRow w (some ⟨g, 0, none⟩) n f f' := by
  obtain ⟨a, c, e, p, _⟩ := prow_of_owns h
  cases e; exact p
/-- A drawn book with a row: three lists. -/
def DrawBR (w : World) (e : Ending) (w' : World) : Prop :=
  ∃ ba d cp F G a1 n1 k1 x1 a2 n2 k2 x2 a3 n3 k3 x3, e = .returned (.tuple #[.slice ba d cp, .agg #[.slice a1 n1 k1, .slice a2 n2 k2, .slice a3 n3 k3]]) ∧ d ≤ 100 ∧ PRow w' ba d F G ∧ n1 ≤ 8 ∧ n2 ≤ 8 ∧ n3 ≤ 8 ∧ Row w' a1 n1 x1 ∧ Row w' a2 n2 x2 ∧ Row w' a3 n3 x3 ∧ Below w.heap.size w w' ∧ (∀ b off, ba = some ⟨b, off, none⟩ → w.heap.size ≤ b) ∧ (∀ b off, a1 = some ⟨b, off, none⟩ → w.heap.size ≤ b) ∧ (∀ b off, a2 = some ⟨b, off, none⟩ → w.heap.size ≤ b) ∧ (∀ b off, a3 = some ⟨b, off, none⟩ → w.heap.size ≤ b)

set_option maxHeartbeats 8000000 in
theorem drawRowOk_any (a : Option Addr) (n c : Nat) (w : World) (h : Code w a n) :
    Calls Try.prog 19 #[.slice a n c] w fun e w' => DrawBR w e w' := by
  have HC := hide h
  clear h
  go_enter Try.func19, Try.ntmps19
  go_wp2_with fail
  refine (open_any a n c _ (HC.out.below (by repeat' first | with_reducible exact Below.refl _ _ | with_reducible assumption | with_reducible refine below_drewN ?_ _ | with_reducible refine balloc ?_ _ | with_reducible refine Below.drew ?_ | with_reducible refine Below.setCell ?_ (by first | (simp; done) | (simp; omega) | omega) _ | with_reducible refine bstep ?_ (by assumption)))).mono ?_
  rintro e w1 ⟨rfl, hr1, hb1, hs1⟩
  have T1 : TriW w1 w.heap.size (.slice none 0 0) (.slice none 0 0) (.slice none 0 0) := (TriW.new w _ _ _ _ _ rfl).below hb1
  have B1 : Below w.heap.size w w1 := (by repeat' first | with_reducible exact Below.refl _ _ | with_reducible assumption | with_reducible refine below_drewN ?_ _ | with_reducible refine balloc ?_ _ | with_reducible refine Below.drew ?_ | with_reducible refine Below.setCell ?_ (by first | (simp; done) | (simp; omega) | omega) _ | with_reducible refine bstep ?_ (by assumption))
  have HT1 := hide T1
  have HR1 : Hid (Rd (w.heap.size + 1) w1 (w.heap.size + 1) a n c) := hide (by simpa using hr1)
  have lw1 : w.heap.size + 1 < w1.heap.size := by simp at hs1; omega
  have lw := T1.lt
  clear hr1 hb1 T1
  go_wp2_with fail
  refine (drawRowOf_new a n c w1 (HC.out.below B1)).mono ?_
  rintro e w2 ⟨b, off, d, cp, F, G, a2, n2, c2, xs, rfl, d1, d8, hp, hrt, hrow, hn2, hb2, hbn⟩
  have s2 := hb2.size
  have HP2 := hide hp
  have hbl : b < w2.heap.size := by
    rcases hp.lies with h0 | ⟨b', off', e, lt, _⟩
    · omega
    · cases e; exact lt
  have B2 := bstep B1 hb2
  have HT2 := hide (HT1.out.below hb2)
  have HR2 := hide (HR1.out.stays hb2)
  have RO := hide (sRowOf_own (some ⟨b, off, none⟩) a2 d cp n2 c2 F G xs w2 hp hrow (by omega) (by omega))
  clear hp hrt hrow hb2 HT1 HR1 B1
  go_wp2_with fail
  refine RO.out.mono ?_
  rintro e w3 ⟨v, rfl, hv⟩
  clear RO
  rcases hv with ⟨hF, rfl, hb3⟩ | ⟨hF, v1, v2, v3, C2, C3, rfl, hO, hb3⟩
  · rw [hF]
    have s3 := hb3.size
    have HP3 := hide (HP2.out.below hb3)
    have B3 := bstep B2 hb3
    have H1 := balloc (Below.refl w3.heap.size w3) (.cells #[.slice none 0 0, .slice none 0 0, .slice none 0 0] 29)
    have H2 := balloc H1 (.cells #[.int .i64 0] 2)
    have H3 := balloc H2 (.cells #[.int .i64 0] 2)
    have H4 := balloc H3 (.cells #[.int .i64 0] 2)
    have N1 := hide (((new_one (w3.alloc (.cells #[.slice none 0 0, .slice none 0 0, .slice none 0 0] 29))).alloc (.cells #[.int .i64 0] 2)).alloc (.cells #[.int .i64 0] 2))
    have N2 := hide ((new_one ((w3.alloc (.cells #[.slice none 0 0, .slice none 0 0, .slice none 0 0] 29)).alloc (.cells #[.int .i64 0] 2))).alloc (.cells #[.int .i64 0] 2))
    have N3 := hide (new_one (((w3.alloc (.cells #[.slice none 0 0, .slice none 0 0, .slice none 0 0] 29)).alloc (.cells #[.int .i64 0] 2)).alloc (.cells #[.int .i64 0] 2)))
    have HP4 := hide (HP3.out.below H4)
    have B4 := bstep B3 H4
    obtain ⟨ls, t0, t1, t2, f0, f1, f2⟩ := (HT2.out.below hb3).below H4
    have l3 : w.heap.size < w3.heap.size := by omega
    clear hb3 hF HP2 HR2 HT2 H1 H2 H3 H4
    go_wp2_with fail
    refine bodyPost_ret (v := .tuple #[.slice (some ⟨b, off, none⟩) d cp, .agg #[.slice (some ⟨w3.heap.size + 1, 0, none⟩) 1 1, .slice (some ⟨w3.heap.size + 1 + 1, 0, none⟩) 1 1, .slice (some ⟨w3.heap.size + 1 + 1 + 1, 0, none⟩) 1 1]]) ?_ rfl ⟨_, d, cp, F, G, _, 1, 1, [0], _, 1, 1, [0], _, 1, 1, [0], rfl, by omega, ?_, by omega, by omega, by omega, ?_, ?_, ?_, ?_, (fun b' off' e => by cases e; omega), (fun b' off' e => by cases e; omega), (fun b' off' e => by cases e; omega), (fun b' off' e => by cases e; omega)⟩
    · simp [results, Try.results19, go_sem, *]
    · exact prow_triX HP4.out (fun b' off' e => by cases e; omega) _ _ _
    · exact row_tri (by simpa using N1.out) (fun b off e => by cases e; omega) _ _ _
    · exact row_tri (by simpa using N2.out) (fun b off e => by cases e; omega) _ _ _
    · exact row_tri (by simpa using N3.out) (fun b off e => by cases e; omega) _ _ _
    · exact ((B4.setCell (by simp) _).setCell (by simp) _).setCell (by simp) _
  · rw [hF]
    have s3 := hb3.size
    have HP3 := hide (HP2.out.below hb3)
    have HR3 := hide (HR2.out.stays hb3)
    have HT3 := hide (HT2.out.below hb3)
    have B3 := bstep B2 hb3
    obtain ⟨g1, k1, rfl, gg1⟩ := hO.one.form (by omega)
    obtain ⟨g2, k2, rfl, gg2⟩ := hO.two.form (by omega)
    obtain ⟨g3, k3, rfl, gg3⟩ := hO.three.form (by omega)
    have l3 := hO.l2
    have l4 := hO.l3
    have XX : Hid (XS w (w3.alloc (.cells #[.slice (some ⟨g1, 0, none⟩) d k1, .slice (some ⟨g2, 0, none⟩) d k2, .slice (some ⟨g3, 0, none⟩) d k3] 29)) w3.heap.size a n c b off d F G w2.heap.size g1 k1 g2 k2 g3 k3 C2 C3 _ _ _) := hide ⟨TriW.new w3 _ _ _ _ _ rfl, HT3.out.alloc _, HR3.out.alloc _, ⟨hO.one.alloc _, hO.two.alloc _, hO.three.alloc _, hO.l2, hO.l3, hO.s1, hO.s2⟩, HP3.out.below (balloc (Below.refl _ _) _), balloc B3 _, by omega, by omega, by omega⟩
    clear hb3 hF HP2 HR2 HT2 hO HP3 HR3 HT3 B3
    go_wp2_with fail
    refine (below_any _ _ n c a 8 _ XX.out.rd (by omega) (by omega)).mono ?_
    rintro e w5 ⟨v, rfl, v0, v1, hr5, hb5⟩
    have X5 := hide (XX.out.but hb5 hr5)
    clear XX hr5 hb5
    have hD : v = 0 ∨ v = 1 ∨ v = 2 ∨ v = 3 ∨ ((v == 0) = false ∧ (v == 1) = false ∧ (v == 2) = false ∧ (v == 3) = false) := by
      simp only [beq_eq_false_iff_ne]; omega
    rcases hD with rfl | rfl | rfl | rfl | ⟨q0, q1, q2, q3⟩
    · skip
      have T : Hid (TriW w5.drew w3.heap.size (.slice (some ⟨g1, 0, none⟩) d k1) (.slice (some ⟨g2, 0, none⟩) d k2) (.slice (some ⟨g3, 0, none⟩) d k3)) := hide X5.out.box.drew
      obtain ⟨t, t0, t1, t2, _, _, _⟩ := X5.out.box
      have hd0 : 0 < d := by omega
      have X5d := hide X5.out.drew
      go_upto_region 6 with fail
      refine wp_region_held_drew (S := fun wx => TriW wx w3.heap.size (.slice (some ⟨g1, 0, none⟩) d k1) (.slice (some ⟨g2, 0, none⟩) d k2) (.slice (some ⟨g3, 0, none⟩) d k3)) (by kernel_rfl) (T.out) (fun hH0 => ?_)
      refine wpAnyH_take (i := 0) (oi := { dst := some 33, op := _, type := _, pos := _, after := _, guard := _ }) (v := ?_) rfl (by kernel_rfl) (by kernel_rfl) (by kernel_rfl) (fun _ _ _ h => h) (Or.inl ⟨by rfl, ?_⟩) (hH0) ?_
      rotate_left
      · (intro wx hSw; obtain ⟨_, y0, y1, y2, _, _, _⟩ := hSw; go_simp <;> with_reducible rfl)
      simp only [Act.put, List.setIfInBounds_toArray, List.set_cons_zero, List.set_cons_succ]
      refine wpAnyH_take (i := 1) (oi := { dst := some 34, op := _, type := _, pos := _, after := _, guard := _ }) (v := ?_) rfl (by kernel_rfl) (by kernel_rfl) (by kernel_rfl) (fun _ _ _ h => h) (Or.inl ⟨by rfl, ?_⟩) (hH0) ?_
      rotate_left
      · (intro wx hSw; obtain ⟨_, y0, y1, y2, _, _, _⟩ := hSw; go_simp <;> with_reducible rfl)
      simp only [Act.put, List.setIfInBounds_toArray, List.set_cons_zero, List.set_cons_succ]
      refine wpAnyH_take (i := 2) (oi := { dst := some 35, op := _, type := _, pos := _, after := _, guard := _ }) (v := ?_) rfl (by kernel_rfl) (by kernel_rfl) (by kernel_rfl) (fun _ _ _ h => h) (Or.inl ⟨by rfl, ?_⟩) (hH0) ?_
      rotate_left
      · (intro wx hSw; obtain ⟨_, y0, y1, y2, _, _, _⟩ := hSw; go_simp <;> with_reducible rfl)
      simp only [Act.put, List.setIfInBounds_toArray, List.set_cons_zero, List.set_cons_succ]
      -- behind it: go_wp2_with fail, then go_meet (a cut) or go_ret; the condition at the end: hH0
      refine wpAnyH_ready (rs := [3]) (by kernel_rfl) (by simp) ?_
      refine AllReadyH.cons (o := { dst := some 36, op := _, type := _, pos := _, after := _, guard := _ }) rfl (fun K hK => ?_) AllReadyH.nil
      go_simp
      refine (off_any _ _ n c a (-1) 1 _ X5d.out.rd (by omega) (by omega) (by omega) (by omega)).mono ?_
      rintro e w6 ⟨x, rfl, hr6, hb6⟩
      dsimp only
      have X6 := hide (X5d.out.but hb6 hr6)
      refine hK.out _ _ X6.out.box (fun hH1 => ?_)
      clear hK K T X5 X5d hr6 hb6 t t0 t1 t2
      refine wpAnyH_ready (rs := [4]) (by kernel_rfl) (by simp) ?_
      refine AllReadyH.cons (o := { dst := some 37, op := _, type := _, pos := _, after := _, guard := _ }) rfl (fun K hK => ?_) AllReadyH.nil
      go_simp
      refine hK.out _ _ hH1 (fun hH2 => ?_)
      clear hK K
      obtain ⟨u, z0⟩ := own_c0 X6.out.own.one (by omega)
      have z1 := World.ownsRow.frozenAt X6.out.own.one 0
      refine wpAnyH_ready (rs := [5]) (by kernel_rfl) (by simp) ?_
      refine AllReadyH.cons (o := { dst := none, op := _, type := _, pos := _, after := _, guard := _ }) rfl (fun K hK => ?_) AllReadyH.nil
      go_simp
      have EE := hide (X6.out.hurt (g := g1) x (.inl rfl) (by omega) (by omega))
      refine hK.out _ _ EE.out.box (fun hH3 => ?_)
      clear hK K z0 z1 X6
      refine wpAnyH_done (by kernel_rfl) ?_ _
      generalize w6.setCell ⟨g1, 0, none⟩ (.int .i64 x) = w9 at *
      obtain ⟨t, t0, t1, t2, _, _, _⟩ := EE.out.box
      obtain ⟨s, s0, s1, s2, u0, u1, u2⟩ := EE.out.res
      have T : Hid (TriW w9.drew w3.heap.size (.slice (some ⟨g1, 0, none⟩) d k1) (.slice (some ⟨g2, 0, none⟩) d k2) (.slice (some ⟨g3, 0, none⟩) d k3)) := hide EE.out.box.drew
      have qne : ¬ w3.heap.size = w.heap.size := by omega
      go_upto_region 4 with fail
      refine wp_region_held_drew (S := fun wx => TriW wx w3.heap.size (.slice (some ⟨g1, 0, none⟩) d k1) (.slice (some ⟨g2, 0, none⟩) d k2) (.slice (some ⟨g3, 0, none⟩) d k3)) (by kernel_rfl) (T.out) (fun hH0 => ?_)
      refine wpAnyH_take (i := 0) (oi := { dst := some 59, op := _, type := _, pos := _, after := _, guard := _ }) (v := ?_) rfl (by kernel_rfl) (by kernel_rfl) (by kernel_rfl) (fun _ _ _ h => h) (Or.inl ⟨by rfl, ?_⟩) (hH0) ?_
      rotate_left
      · (intro wx hSw; obtain ⟨_, y0, y1, y2, _, _, _⟩ := hSw; go_simp <;> with_reducible rfl)
      simp only [Act.put, List.setIfInBounds_toArray, List.set_cons_zero, List.set_cons_succ]
      refine wpAnyH_take (i := 1) (oi := { dst := some 60, op := _, type := _, pos := _, after := _, guard := _ }) (v := ?_) rfl (by kernel_rfl) (by kernel_rfl) (by kernel_rfl) (fun _ _ _ h => h) (Or.inl ⟨by rfl, ?_⟩) (hH0) ?_
      rotate_left
      · (intro wx hSw; obtain ⟨_, y0, y1, y2, _, _, _⟩ := hSw; go_simp <;> with_reducible rfl)
      simp only [Act.put, List.setIfInBounds_toArray, List.set_cons_zero, List.set_cons_succ]
      refine wpAnyH_take (i := 2) (oi := { dst := some 2, op := _, type := _, pos := _, after := _, guard := _ }) (v := ?_) rfl (by kernel_rfl) (by kernel_rfl) (by kernel_rfl) (fun _ _ _ h => h) (Or.inl ⟨by rfl, ?_⟩) (hH0) ?_
      rotate_left
      · (intro wx hSw; obtain ⟨_, y0, y1, y2, _, _, _⟩ := hSw; go_simp <;> with_reducible rfl)
      simp only [Act.put, List.setIfInBounds_toArray, List.set_cons_zero, List.set_cons_succ]
      -- behind it: go_wp2_with fail, then go_meet (a cut) or go_ret; the condition at the end: hH0
      refine wpAnyH_ready (rs := [3]) (by kernel_rfl) (by simp) ?_
      refine AllReadyH.cons (o := { dst := none, op := _, type := _, pos := _, after := _, guard := _ }) rfl (fun K hK => ?_) AllReadyH.nil
      go_simp
      refine hK.out _ _ (((T.out.away ⟨w.heap.size, 0, none⟩ _ qne).away ⟨w.heap.size, 1, none⟩ _ qne).away ⟨w.heap.size, 2, none⟩ _ qne) (fun hH3 => ?_)
      clear hK K
      refine wpAnyH_done (by kernel_rfl) ?_ _
      have FF : Hid (DrawBR w (.returned (.tuple #[.slice (some ⟨b, off, none⟩) d cp, .agg #[.slice (some ⟨g1, 0, none⟩) d k1, .slice (some ⟨g2, 0, none⟩) d k2, .slice (some ⟨g3, 0, none⟩) d k3]])) (((w9.drew.setCell ⟨w.heap.size, 0, none⟩ (.slice (some ⟨g1, 0, none⟩) d k1)).setCell ⟨w.heap.size, 1, none⟩ (.slice (some ⟨g2, 0, none⟩) d k2)).setCell ⟨w.heap.size, 2, none⟩ (.slice (some ⟨g3, 0, none⟩) d k3))) := hide (by
        obtain ⟨x1, x2, x3, r1, r2, r3⟩ := EE.out.rows
        have bd : Below w9.heap.size w9 w9.drew := Below.drew (Below.refl _ _)
        have h1 := EE.out.g1l
        have h2 := EE.out.g2l
        have h3 := EE.out.g3l
        have h4 := EE.out.hb
        exact ⟨_, d, cp, F, G, _, d, k1, x1, _, d, k2, x2, _, d, k3, x3, rfl, by omega, prow_triX (EE.out.book.below bd) (fun b' off' e => by cases e; omega) _ _ _, d8, d8, d8,
          row_tri (r1.below bd) (fun b' off' e => by cases e; omega) _ _ _, row_tri (r2.below bd) (fun b' off' e => by cases e; omega) _ _ _, row_tri (r3.below bd) (fun b' off' e => by cases e; omega) _ _ _,
          (((bstep EE.out.bel bd).setCell (by simp) _).setCell (by simp) _).setCell (by simp) _, (fun b' off' e => by cases e; omega), (fun b' off' e => by cases e; omega), (fun b' off' e => by cases e; omega), (fun b' off' e => by cases e; omega)⟩)
      clear EE T t0 t1 t2
      go_wp2_with fail
      refine bodyPost_ret ?_ rfl FF.out
      simp [results, Try.results19, go_sem, *]
    · skip
      have T : Hid (TriW w5.drew w3.heap.size (.slice (some ⟨g1, 0, none⟩) d k1) (.slice (some ⟨g2, 0, none⟩) d k2) (.slice (some ⟨g3, 0, none⟩) d k3)) := hide X5.out.box.drew
      obtain ⟨t, t0, t1, t2, _, _, _⟩ := X5.out.box
      have hd0 : 0 < d := by omega
      have X5d := hide X5.out.drew
      go_upto_region 6 with fail
      refine wp_region_held_drew (S := fun wx => TriW wx w3.heap.size (.slice (some ⟨g1, 0, none⟩) d k1) (.slice (some ⟨g2, 0, none⟩) d k2) (.slice (some ⟨g3, 0, none⟩) d k3)) (by kernel_rfl) (T.out) (fun hH0 => ?_)
      refine wpAnyH_take (i := 0) (oi := { dst := some 40, op := _, type := _, pos := _, after := _, guard := _ }) (v := ?_) rfl (by kernel_rfl) (by kernel_rfl) (by kernel_rfl) (fun _ _ _ h => h) (Or.inl ⟨by rfl, ?_⟩) (hH0) ?_
      rotate_left
      · (intro wx hSw; obtain ⟨_, y0, y1, y2, _, _, _⟩ := hSw; go_simp <;> with_reducible rfl)
      simp only [Act.put, List.setIfInBounds_toArray, List.set_cons_zero, List.set_cons_succ]
      refine wpAnyH_take (i := 1) (oi := { dst := some 41, op := _, type := _, pos := _, after := _, guard := _ }) (v := ?_) rfl (by kernel_rfl) (by kernel_rfl) (by kernel_rfl) (fun _ _ _ h => h) (Or.inl ⟨by rfl, ?_⟩) (hH0) ?_
      rotate_left
      · (intro wx hSw; obtain ⟨_, y0, y1, y2, _, _, _⟩ := hSw; go_simp <;> with_reducible rfl)
      simp only [Act.put, List.setIfInBounds_toArray, List.set_cons_zero, List.set_cons_succ]
      refine wpAnyH_take (i := 2) (oi := { dst := some 42, op := _, type := _, pos := _, after := _, guard := _ }) (v := ?_) rfl (by kernel_rfl) (by kernel_rfl) (by kernel_rfl) (fun _ _ _ h => h) (Or.inl ⟨by rfl, ?_⟩) (hH0) ?_
      rotate_left
      · (intro wx hSw; obtain ⟨_, y0, y1, y2, _, _, _⟩ := hSw; go_simp <;> with_reducible rfl)
      simp only [Act.put, List.setIfInBounds_toArray, List.set_cons_zero, List.set_cons_succ]
      -- behind it: go_wp2_with fail, then go_meet (a cut) or go_ret; the condition at the end: hH0
      refine wpAnyH_ready (rs := [3]) (by kernel_rfl) (by simp) ?_
      refine AllReadyH.cons (o := { dst := some 43, op := _, type := _, pos := _, after := _, guard := _ }) rfl (fun K hK => ?_) AllReadyH.nil
      go_simp
      refine (off_any _ _ n c a (-1) 15 _ X5d.out.rd (by omega) (by omega) (by omega) (by omega)).mono ?_
      rintro e w6 ⟨x, rfl, hr6, hb6⟩
      dsimp only
      have X6 := hide (X5d.out.but hb6 hr6)
      refine hK.out _ _ X6.out.box (fun hH1 => ?_)
      clear hK K T X5 X5d hr6 hb6 t t0 t1 t2
      refine wpAnyH_ready (rs := [4]) (by kernel_rfl) (by simp) ?_
      refine AllReadyH.cons (o := { dst := some 44, op := _, type := _, pos := _, after := _, guard := _ }) rfl (fun K hK => ?_) AllReadyH.nil
      go_simp
      refine hK.out _ _ hH1 (fun hH2 => ?_)
      clear hK K
      obtain ⟨u, z0⟩ := own_c0 X6.out.own.two (by omega)
      have z1 := World.ownsRow.frozenAt X6.out.own.two 0
      refine wpAnyH_ready (rs := [5]) (by kernel_rfl) (by simp) ?_
      refine AllReadyH.cons (o := { dst := none, op := _, type := _, pos := _, after := _, guard := _ }) rfl (fun K hK => ?_) AllReadyH.nil
      go_simp
      have EE := hide (X6.out.hurt (g := g2) x (.inr (.inl rfl)) (by omega) (by omega))
      refine hK.out _ _ EE.out.box (fun hH3 => ?_)
      clear hK K z0 z1 X6
      refine wpAnyH_done (by kernel_rfl) ?_ _
      generalize w6.setCell ⟨g2, 0, none⟩ (.int .i64 x) = w9 at *
      obtain ⟨t, t0, t1, t2, _, _, _⟩ := EE.out.box
      obtain ⟨s, s0, s1, s2, u0, u1, u2⟩ := EE.out.res
      have T : Hid (TriW w9.drew w3.heap.size (.slice (some ⟨g1, 0, none⟩) d k1) (.slice (some ⟨g2, 0, none⟩) d k2) (.slice (some ⟨g3, 0, none⟩) d k3)) := hide EE.out.box.drew
      have qne : ¬ w3.heap.size = w.heap.size := by omega
      go_upto_region 4 with fail
      refine wp_region_held_drew (S := fun wx => TriW wx w3.heap.size (.slice (some ⟨g1, 0, none⟩) d k1) (.slice (some ⟨g2, 0, none⟩) d k2) (.slice (some ⟨g3, 0, none⟩) d k3)) (by kernel_rfl) (T.out) (fun hH0 => ?_)
      refine wpAnyH_take (i := 0) (oi := { dst := some 59, op := _, type := _, pos := _, after := _, guard := _ }) (v := ?_) rfl (by kernel_rfl) (by kernel_rfl) (by kernel_rfl) (fun _ _ _ h => h) (Or.inl ⟨by rfl, ?_⟩) (hH0) ?_
      rotate_left
      · (intro wx hSw; obtain ⟨_, y0, y1, y2, _, _, _⟩ := hSw; go_simp <;> with_reducible rfl)
      simp only [Act.put, List.setIfInBounds_toArray, List.set_cons_zero, List.set_cons_succ]
      refine wpAnyH_take (i := 1) (oi := { dst := some 60, op := _, type := _, pos := _, after := _, guard := _ }) (v := ?_) rfl (by kernel_rfl) (by kernel_rfl) (by kernel_rfl) (fun _ _ _ h => h) (Or.inl ⟨by rfl, ?_⟩) (hH0) ?_
      rotate_left
      · (intro wx hSw; obtain ⟨_, y0, y1, y2, _, _, _⟩ := hSw; go_simp <;> with_reducible rfl)
      simp only [Act.put, List.setIfInBounds_toArray, List.set_cons_zero, List.set_cons_succ]
      refine wpAnyH_take (i := 2) (oi := { dst := some 2, op := _, type := _, pos := _, after := _, guard := _ }) (v := ?_) rfl (by kernel_rfl) (by kernel_rfl) (by kernel_rfl) (fun _ _ _ h => h) (Or.inl ⟨by rfl, ?_⟩) (hH0) ?_
      rotate_left
      · (intro wx hSw; obtain ⟨_, y0, y1, y2, _, _, _⟩ := hSw; go_simp <;> with_reducible rfl)
      simp only [Act.put, List.setIfInBounds_toArray, List.set_cons_zero, List.set_cons_succ]
      -- behind it: go_wp2_with fail, then go_meet (a cut) or go_ret; the condition at the end: hH0
      refine wpAnyH_ready (rs := [3]) (by kernel_rfl) (by simp) ?_
      refine AllReadyH.cons (o := { dst := none, op := _, type := _, pos := _, after := _, guard := _ }) rfl (fun K hK => ?_) AllReadyH.nil
      go_simp
      refine hK.out _ _ (((T.out.away ⟨w.heap.size, 0, none⟩ _ qne).away ⟨w.heap.size, 1, none⟩ _ qne).away ⟨w.heap.size, 2, none⟩ _ qne) (fun hH3 => ?_)
      clear hK K
      refine wpAnyH_done (by kernel_rfl) ?_ _
      have FF : Hid (DrawBR w (.returned (.tuple #[.slice (some ⟨b, off, none⟩) d cp, .agg #[.slice (some ⟨g1, 0, none⟩) d k1, .slice (some ⟨g2, 0, none⟩) d k2, .slice (some ⟨g3, 0, none⟩) d k3]])) (((w9.drew.setCell ⟨w.heap.size, 0, none⟩ (.slice (some ⟨g1, 0, none⟩) d k1)).setCell ⟨w.heap.size, 1, none⟩ (.slice (some ⟨g2, 0, none⟩) d k2)).setCell ⟨w.heap.size, 2, none⟩ (.slice (some ⟨g3, 0, none⟩) d k3))) := hide (by
        obtain ⟨x1, x2, x3, r1, r2, r3⟩ := EE.out.rows
        have bd : Below w9.heap.size w9 w9.drew := Below.drew (Below.refl _ _)
        have h1 := EE.out.g1l
        have h2 := EE.out.g2l
        have h3 := EE.out.g3l
        have h4 := EE.out.hb
        exact ⟨_, d, cp, F, G, _, d, k1, x1, _, d, k2, x2, _, d, k3, x3, rfl, by omega, prow_triX (EE.out.book.below bd) (fun b' off' e => by cases e; omega) _ _ _, d8, d8, d8,
          row_tri (r1.below bd) (fun b' off' e => by cases e; omega) _ _ _, row_tri (r2.below bd) (fun b' off' e => by cases e; omega) _ _ _, row_tri (r3.below bd) (fun b' off' e => by cases e; omega) _ _ _,
          (((bstep EE.out.bel bd).setCell (by simp) _).setCell (by simp) _).setCell (by simp) _, (fun b' off' e => by cases e; omega), (fun b' off' e => by cases e; omega), (fun b' off' e => by cases e; omega), (fun b' off' e => by cases e; omega)⟩)
      clear EE T t0 t1 t2
      go_wp2_with fail
      refine bodyPost_ret ?_ rfl FF.out
      simp [results, Try.results19, go_sem, *]
    · skip
      have T : Hid (TriW w5.drew w3.heap.size (.slice (some ⟨g1, 0, none⟩) d k1) (.slice (some ⟨g2, 0, none⟩) d k2) (.slice (some ⟨g3, 0, none⟩) d k3)) := hide X5.out.box.drew
      obtain ⟨t, t0, t1, t2, _, _, _⟩ := X5.out.box
      have hd0 : 0 < d := by omega
      have X5d := hide X5.out.drew
      go_upto_region 6 with fail
      refine wp_region_held_drew (S := fun wx => TriW wx w3.heap.size (.slice (some ⟨g1, 0, none⟩) d k1) (.slice (some ⟨g2, 0, none⟩) d k2) (.slice (some ⟨g3, 0, none⟩) d k3)) (by kernel_rfl) (T.out) (fun hH0 => ?_)
      refine wpAnyH_take (i := 0) (oi := { dst := some 47, op := _, type := _, pos := _, after := _, guard := _ }) (v := ?_) rfl (by kernel_rfl) (by kernel_rfl) (by kernel_rfl) (fun _ _ _ h => h) (Or.inl ⟨by rfl, ?_⟩) (hH0) ?_
      rotate_left
      · (intro wx hSw; obtain ⟨_, y0, y1, y2, _, _, _⟩ := hSw; go_simp <;> with_reducible rfl)
      simp only [Act.put, List.setIfInBounds_toArray, List.set_cons_zero, List.set_cons_succ]
      refine wpAnyH_take (i := 1) (oi := { dst := some 48, op := _, type := _, pos := _, after := _, guard := _ }) (v := ?_) rfl (by kernel_rfl) (by kernel_rfl) (by kernel_rfl) (fun _ _ _ h => h) (Or.inl ⟨by rfl, ?_⟩) (hH0) ?_
      rotate_left
      · (intro wx hSw; obtain ⟨_, y0, y1, y2, _, _, _⟩ := hSw; go_simp <;> with_reducible rfl)
      simp only [Act.put, List.setIfInBounds_toArray, List.set_cons_zero, List.set_cons_succ]
      refine wpAnyH_take (i := 2) (oi := { dst := some 49, op := _, type := _, pos := _, after := _, guard := _ }) (v := ?_) rfl (by kernel_rfl) (by kernel_rfl) (by kernel_rfl) (fun _ _ _ h => h) (Or.inl ⟨by rfl, ?_⟩) (hH0) ?_
      rotate_left
      · (intro wx hSw; obtain ⟨_, y0, y1, y2, _, _, _⟩ := hSw; go_simp <;> with_reducible rfl)
      simp only [Act.put, List.setIfInBounds_toArray, List.set_cons_zero, List.set_cons_succ]
      -- behind it: go_wp2_with fail, then go_meet (a cut) or go_ret; the condition at the end: hH0
      refine wpAnyH_ready (rs := [3]) (by kernel_rfl) (by simp) ?_
      refine AllReadyH.cons (o := { dst := some 50, op := _, type := _, pos := _, after := _, guard := _ }) rfl (fun K hK => ?_) AllReadyH.nil
      go_simp
      refine (off_any _ _ n c a (-1) 255 _ X5d.out.rd (by omega) (by omega) (by omega) (by omega)).mono ?_
      rintro e w6 ⟨x, rfl, hr6, hb6⟩
      dsimp only
      have X6 := hide (X5d.out.but hb6 hr6)
      refine hK.out _ _ X6.out.box (fun hH1 => ?_)
      clear hK K T X5 X5d hr6 hb6 t t0 t1 t2
      refine wpAnyH_ready (rs := [4]) (by kernel_rfl) (by simp) ?_
      refine AllReadyH.cons (o := { dst := some 51, op := _, type := _, pos := _, after := _, guard := _ }) rfl (fun K hK => ?_) AllReadyH.nil
      go_simp
      refine hK.out _ _ hH1 (fun hH2 => ?_)
      clear hK K
      obtain ⟨u, z0⟩ := own_c0 X6.out.own.three (by omega)
      have z1 := World.ownsRow.frozenAt X6.out.own.three 0
      refine wpAnyH_ready (rs := [5]) (by kernel_rfl) (by simp) ?_
      refine AllReadyH.cons (o := { dst := none, op := _, type := _, pos := _, after := _, guard := _ }) rfl (fun K hK => ?_) AllReadyH.nil
      go_simp
      have EE := hide (X6.out.hurt (g := g3) x (.inr (.inr rfl)) (by omega) (by omega))
      refine hK.out _ _ EE.out.box (fun hH3 => ?_)
      clear hK K z0 z1 X6
      refine wpAnyH_done (by kernel_rfl) ?_ _
      generalize w6.setCell ⟨g3, 0, none⟩ (.int .i64 x) = w9 at *
      obtain ⟨t, t0, t1, t2, _, _, _⟩ := EE.out.box
      obtain ⟨s, s0, s1, s2, u0, u1, u2⟩ := EE.out.res
      have T : Hid (TriW w9.drew w3.heap.size (.slice (some ⟨g1, 0, none⟩) d k1) (.slice (some ⟨g2, 0, none⟩) d k2) (.slice (some ⟨g3, 0, none⟩) d k3)) := hide EE.out.box.drew
      have qne : ¬ w3.heap.size = w.heap.size := by omega
      go_upto_region 4 with fail
      refine wp_region_held_drew (S := fun wx => TriW wx w3.heap.size (.slice (some ⟨g1, 0, none⟩) d k1) (.slice (some ⟨g2, 0, none⟩) d k2) (.slice (some ⟨g3, 0, none⟩) d k3)) (by kernel_rfl) (T.out) (fun hH0 => ?_)
      refine wpAnyH_take (i := 0) (oi := { dst := some 59, op := _, type := _, pos := _, after := _, guard := _ }) (v := ?_) rfl (by kernel_rfl) (by kernel_rfl) (by kernel_rfl) (fun _ _ _ h => h) (Or.inl ⟨by rfl, ?_⟩) (hH0) ?_
      rotate_left
      · (intro wx hSw; obtain ⟨_, y0, y1, y2, _, _, _⟩ := hSw; go_simp <;> with_reducible rfl)
      simp only [Act.put, List.setIfInBounds_toArray, List.set_cons_zero, List.set_cons_succ]
      refine wpAnyH_take (i := 1) (oi := { dst := some 60, op := _, type := _, pos := _, after := _, guard := _ }) (v := ?_) rfl (by kernel_rfl) (by kernel_rfl) (by kernel_rfl) (fun _ _ _ h => h) (Or.inl ⟨by rfl, ?_⟩) (hH0) ?_
      rotate_left
      · (intro wx hSw; obtain ⟨_, y0, y1, y2, _, _, _⟩ := hSw; go_simp <;> with_reducible rfl)
      simp only [Act.put, List.setIfInBounds_toArray, List.set_cons_zero, List.set_cons_succ]
      refine wpAnyH_take (i := 2) (oi := { dst := some 2, op := _, type := _, pos := _, after := _, guard := _ }) (v := ?_) rfl (by kernel_rfl) (by kernel_rfl) (by kernel_rfl) (fun _ _ _ h => h) (Or.inl ⟨by rfl, ?_⟩) (hH0) ?_
      rotate_left
      · (intro wx hSw; obtain ⟨_, y0, y1, y2, _, _, _⟩ := hSw; go_simp <;> with_reducible rfl)
      simp only [Act.put, List.setIfInBounds_toArray, List.set_cons_zero, List.set_cons_succ]
      -- behind it: go_wp2_with fail, then go_meet (a cut) or go_ret; the condition at the end: hH0
      refine wpAnyH_ready (rs := [3]) (by kernel_rfl) (by simp) ?_
      refine AllReadyH.cons (o := { dst := none, op := _, type := _, pos := _, after := _, guard := _ }) rfl (fun K hK => ?_) AllReadyH.nil
      go_simp
      refine hK.out _ _ (((T.out.away ⟨w.heap.size, 0, none⟩ _ qne).away ⟨w.heap.size, 1, none⟩ _ qne).away ⟨w.heap.size, 2, none⟩ _ qne) (fun hH3 => ?_)
      clear hK K
      refine wpAnyH_done (by kernel_rfl) ?_ _
      have FF : Hid (DrawBR w (.returned (.tuple #[.slice (some ⟨b, off, none⟩) d cp, .agg #[.slice (some ⟨g1, 0, none⟩) d k1, .slice (some ⟨g2, 0, none⟩) d k2, .slice (some ⟨g3, 0, none⟩) d k3]])) (((w9.drew.setCell ⟨w.heap.size, 0, none⟩ (.slice (some ⟨g1, 0, none⟩) d k1)).setCell ⟨w.heap.size, 1, none⟩ (.slice (some ⟨g2, 0, none⟩) d k2)).setCell ⟨w.heap.size, 2, none⟩ (.slice (some ⟨g3, 0, none⟩) d k3))) := hide (by
        obtain ⟨x1, x2, x3, r1, r2, r3⟩ := EE.out.rows
        have bd : Below w9.heap.size w9 w9.drew := Below.drew (Below.refl _ _)
        have h1 := EE.out.g1l
        have h2 := EE.out.g2l
        have h3 := EE.out.g3l
        have h4 := EE.out.hb
        exact ⟨_, d, cp, F, G, _, d, k1, x1, _, d, k2, x2, _, d, k3, x3, rfl, by omega, prow_triX (EE.out.book.below bd) (fun b' off' e => by cases e; omega) _ _ _, d8, d8, d8,
          row_tri (r1.below bd) (fun b' off' e => by cases e; omega) _ _ _, row_tri (r2.below bd) (fun b' off' e => by cases e; omega) _ _ _, row_tri (r3.below bd) (fun b' off' e => by cases e; omega) _ _ _,
          (((bstep EE.out.bel bd).setCell (by simp) _).setCell (by simp) _).setCell (by simp) _, (fun b' off' e => by cases e; omega), (fun b' off' e => by cases e; omega), (fun b' off' e => by cases e; omega), (fun b' off' e => by cases e; omega)⟩)
      clear EE T t0 t1 t2
      go_wp2_with fail
      refine bodyPost_ret ?_ rfl FF.out
      simp [results, Try.results19, go_sem, *]
    · have T : Hid (TriW w5.drew w3.heap.size (.slice (some ⟨g1, 0, none⟩) d k1) (.slice (some ⟨g2, 0, none⟩) d k2) (.slice (some ⟨g3, 0, none⟩) d k3)) := hide X5.out.box.drew
      obtain ⟨t, t0, t1, t2, _, _, _⟩ := X5.out.box
      have X5d := hide X5.out.drew
      have BX := hide (box_any _ _ n c a d _ X5d.out.rd (by have := X5d.out.bel.size; have := X5d.out.rd.lt; omega) (by omega))
      have qne : ¬ w3.heap.size = w.heap.size := by omega
      go_upto_region 14 with fail
      refine wp_region_held_drew (S := fun wx => TriW wx w3.heap.size (.slice (some ⟨g1, 0, none⟩) d k1) (.slice (some ⟨g2, 0, none⟩) d k2) (.slice (some ⟨g3, 0, none⟩) d k3)) (by kernel_rfl) (T.out) (fun hH0 => ?_)
      refine wpAnyH_take (i := 0) (oi := { dst := some 54, op := _, type := _, pos := _, after := _, guard := _ }) (v := ?_) rfl (by kernel_rfl) (by kernel_rfl) (by kernel_rfl) (fun _ _ _ h => h) (Or.inl ⟨by rfl, ?_⟩) (hH0) ?_
      rotate_left
      · (intro wx hSw; obtain ⟨_, y0, y1, y2, _, _, _⟩ := hSw; go_simp <;> with_reducible rfl)
      simp only [Act.put, List.setIfInBounds_toArray, List.set_cons_zero, List.set_cons_succ]
      refine wpAnyH_take (i := 1) (oi := { dst := some 55, op := _, type := _, pos := _, after := _, guard := _ }) (v := ?_) rfl (by kernel_rfl) (by kernel_rfl) (by kernel_rfl) (fun _ _ _ h => h) (Or.inl ⟨by rfl, ?_⟩) (hH0) ?_
      rotate_left
      · (intro wx hSw; obtain ⟨_, y0, y1, y2, _, _, _⟩ := hSw; go_simp <;> with_reducible rfl)
      simp only [Act.put, List.setIfInBounds_toArray, List.set_cons_zero, List.set_cons_succ]
      refine wpAnyH_take (i := 2) (oi := { dst := some 56, op := _, type := _, pos := _, after := _, guard := _ }) (v := ?_) rfl (by kernel_rfl) (by kernel_rfl) (by kernel_rfl) (fun _ _ _ h => h) (Or.inl ⟨by rfl, ?_⟩) (hH0) ?_
      rotate_left
      · (intro wx hSw; obtain ⟨_, y0, y1, y2, _, _, _⟩ := hSw; go_simp <;> with_reducible rfl)
      simp only [Act.put, List.setIfInBounds_toArray, List.set_cons_zero, List.set_cons_succ]
      refine wpAnyH_take (i := 4) (oi := { dst := some 58, op := _, type := _, pos := _, after := _, guard := _ }) (v := ?_) rfl (by kernel_rfl) (by kernel_rfl) (by kernel_rfl) (fun _ _ _ h => h) (Or.inl ⟨by rfl, ?_⟩) (hH0) ?_
      rotate_left
      · (intro wx hSw; obtain ⟨_, y0, y1, y2, _, _, _⟩ := hSw; go_simp <;> with_reducible rfl)
      simp only [Act.put, List.setIfInBounds_toArray, List.set_cons_zero, List.set_cons_succ]
      -- behind it: go_wp2_with fail, then go_meet (a cut) or go_ret; the condition at the end: hH0
      refine wpAnyH_ready (rs := [3]) (by kernel_rfl) (by simp) ?_
      refine AllReadyH.cons (o := { dst := some 57, op := _, type := _, pos := _, after := _, guard := _ }) rfl (fun K hK => ?_) AllReadyH.nil
      go_simp
      refine BX.out.mono ?_
      rintro e w6 ⟨v6, f6, h6, rfl, ho6, _, hr6, hb6⟩
      dsimp only
      obtain ⟨gb, cb, rfl, gb1, gb2⟩ := ho6.form (by omega)
      have X6 := hide (X5d.out.but hb6 hr6)
      have PB := prow_owns_at ho6
      have hgb : w.heap.size < gb := by have := X5d.out.bel.size; have := X5d.out.rd.lt; omega
      have EE : Hid (EX w w6 w3.heap.size gb 0 d f6 h6 g1 k1 g2 k2 g3 k3) := hide ⟨X6.out.box, X6.out.res, X6.out.ex.rows, PB, X6.out.bel, X6.out.ex.g1l, X6.out.ex.g2l, X6.out.ex.g3l, hgb⟩
      obtain ⟨s, s0, s1, s2, u0, u1, u2⟩ := EE.out.res
      refine hK.out _ _ X6.out.box (fun hH1 => ?_)
      clear hK K T X5 X5d hr6 hb6 t t0 t1 t2 X6 PB ho6 BX
      refine wpAnyH_ready (rs := [5]) (by kernel_rfl) (by simp) ?_
      refine AllReadyH.cons (o := { dst := some 2, op := _, type := _, pos := _, after := _, guard := _ }) rfl (fun K hK => ?_) AllReadyH.nil
      go_simp
      refine hK.out _ _ hH1 (fun hH2 => ?_)
      clear hK K
      refine wpAnyH_ready (rs := [6]) (by kernel_rfl) (by simp) ?_
      refine AllReadyH.cons (o := { dst := none, op := _, type := _, pos := _, after := _, guard := _ }) rfl (fun K hK => ?_) AllReadyH.nil
      go_simp
      refine hK.out _ _ (((EE.out.box.away ⟨w.heap.size, 0, none⟩ _ qne).away ⟨w.heap.size, 1, none⟩ _ qne).away ⟨w.heap.size, 2, none⟩ _ qne) (fun hH3 => ?_)
      clear hK K
      refine wpAnyH_done (by kernel_rfl) ?_ _
      have FF : Hid (DrawBR w (.returned (.tuple #[.slice (some ⟨gb, 0, none⟩) d cb, .agg #[.slice (some ⟨g1, 0, none⟩) d k1, .slice (some ⟨g2, 0, none⟩) d k2, .slice (some ⟨g3, 0, none⟩) d k3]])) (((w6.setCell ⟨w.heap.size, 0, none⟩ (.slice (some ⟨g1, 0, none⟩) d k1)).setCell ⟨w.heap.size, 1, none⟩ (.slice (some ⟨g2, 0, none⟩) d k2)).setCell ⟨w.heap.size, 2, none⟩ (.slice (some ⟨g3, 0, none⟩) d k3))) := hide (by
        obtain ⟨x1, x2, x3, r1, r2, r3⟩ := EE.out.rows
        have bd : Below w6.heap.size w6 w6 := Below.refl _ _
        have h1 := EE.out.g1l
        have h2 := EE.out.g2l
        have h3 := EE.out.g3l
        have h4 := EE.out.hb
        exact ⟨_, d, cb, f6, h6, _, d, k1, x1, _, d, k2, x2, _, d, k3, x3, rfl, by omega, prow_triX (EE.out.book.below bd) (fun b' off' e => by cases e; omega) _ _ _, d8, d8, d8,
          row_tri (r1.below bd) (fun b' off' e => by cases e; omega) _ _ _, row_tri (r2.below bd) (fun b' off' e => by cases e; omega) _ _ _, row_tri (r3.below bd) (fun b' off' e => by cases e; omega) _ _ _,
          (((bstep EE.out.bel bd).setCell (by simp) _).setCell (by simp) _).setCell (by simp) _, (fun b' off' e => by cases e; omega), (fun b' off' e => by cases e; omega), (fun b' off' e => by cases e; omega), (fun b' off' e => by cases e; omega)⟩)
      clear EE
      go_wp2_with fail
      refine bodyPost_ret ?_ rfl FF.out
      simp [results, Try.results19, go_sem, *]
    · have EE := hide X5.out.ex
      clear X5
      obtain ⟨t, t0, t1, t2, _, _, _⟩ := EE.out.box
      obtain ⟨s, s0, s1, s2, u0, u1, u2⟩ := EE.out.res
      have T : Hid (TriW w5.drew w3.heap.size (.slice (some ⟨g1, 0, none⟩) d k1) (.slice (some ⟨g2, 0, none⟩) d k2) (.slice (some ⟨g3, 0, none⟩) d k3)) := hide EE.out.box.drew
      have qne : ¬ w3.heap.size = w.heap.size := by omega
      go_upto_region 4 with fail
      refine wp_region_held_drew (S := fun wx => TriW wx w3.heap.size (.slice (some ⟨g1, 0, none⟩) d k1) (.slice (some ⟨g2, 0, none⟩) d k2) (.slice (some ⟨g3, 0, none⟩) d k3)) (by kernel_rfl) (T.out) (fun hH0 => ?_)
      refine wpAnyH_take (i := 0) (oi := { dst := some 59, op := _, type := _, pos := _, after := _, guard := _ }) (v := ?_) rfl (by kernel_rfl) (by kernel_rfl) (by kernel_rfl) (fun _ _ _ h => h) (Or.inl ⟨by rfl, ?_⟩) (hH0) ?_
      rotate_left
      · (intro wx hSw; obtain ⟨_, y0, y1, y2, _, _, _⟩ := hSw; go_simp <;> with_reducible rfl)
      simp only [Act.put, List.setIfInBounds_toArray, List.set_cons_zero, List.set_cons_succ]
      refine wpAnyH_take (i := 1) (oi := { dst := some 60, op := _, type := _, pos := _, after := _, guard := _ }) (v := ?_) rfl (by kernel_rfl) (by kernel_rfl) (by kernel_rfl) (fun _ _ _ h => h) (Or.inl ⟨by rfl, ?_⟩) (hH0) ?_
      rotate_left
      · (intro wx hSw; obtain ⟨_, y0, y1, y2, _, _, _⟩ := hSw; go_simp <;> with_reducible rfl)
      simp only [Act.put, List.setIfInBounds_toArray, List.set_cons_zero, List.set_cons_succ]
      refine wpAnyH_take (i := 2) (oi := { dst := some 2, op := _, type := _, pos := _, after := _, guard := _ }) (v := ?_) rfl (by kernel_rfl) (by kernel_rfl) (by kernel_rfl) (fun _ _ _ h => h) (Or.inl ⟨by rfl, ?_⟩) (hH0) ?_
      rotate_left
      · (intro wx hSw; obtain ⟨_, y0, y1, y2, _, _, _⟩ := hSw; go_simp <;> with_reducible rfl)
      simp only [Act.put, List.setIfInBounds_toArray, List.set_cons_zero, List.set_cons_succ]
      -- behind it: go_wp2_with fail, then go_meet (a cut) or go_ret; the condition at the end: hH0
      refine wpAnyH_ready (rs := [3]) (by kernel_rfl) (by simp) ?_
      refine AllReadyH.cons (o := { dst := none, op := _, type := _, pos := _, after := _, guard := _ }) rfl (fun K hK => ?_) AllReadyH.nil
      go_simp
      refine hK.out _ _ (((T.out.away ⟨w.heap.size, 0, none⟩ _ qne).away ⟨w.heap.size, 1, none⟩ _ qne).away ⟨w.heap.size, 2, none⟩ _ qne) (fun hH3 => ?_)
      clear hK K
      refine wpAnyH_done (by kernel_rfl) ?_ _
      have FF : Hid (DrawBR w (.returned (.tuple #[.slice (some ⟨b, off, none⟩) d cp, .agg #[.slice (some ⟨g1, 0, none⟩) d k1, .slice (some ⟨g2, 0, none⟩) d k2, .slice (some ⟨g3, 0, none⟩) d k3]])) (((w5.drew.setCell ⟨w.heap.size, 0, none⟩ (.slice (some ⟨g1, 0, none⟩) d k1)).setCell ⟨w.heap.size, 1, none⟩ (.slice (some ⟨g2, 0, none⟩) d k2)).setCell ⟨w.heap.size, 2, none⟩ (.slice (some ⟨g3, 0, none⟩) d k3))) := hide (by
        obtain ⟨x1, x2, x3, r1, r2, r3⟩ := EE.out.rows
        have bd : Below w5.heap.size w5 w5.drew := Below.drew (Below.refl _ _)
        have h1 := EE.out.g1l
        have h2 := EE.out.g2l
        have h3 := EE.out.g3l
        have h4 := EE.out.hb
        exact ⟨_, d, cp, F, G, _, d, k1, x1, _, d, k2, x2, _, d, k3, x3, rfl, by omega, prow_triX (EE.out.book.below bd) (fun b' off' e => by cases e; omega) _ _ _, d8, d8, d8,
          row_tri (r1.below bd) (fun b' off' e => by cases e; omega) _ _ _, row_tri (r2.below bd) (fun b' off' e => by cases e; omega) _ _ _, row_tri (r3.below bd) (fun b' off' e => by cases e; omega) _ _ _,
          (((bstep EE.out.bel bd).setCell (by simp) _).setCell (by simp) _).setCell (by simp) _, (fun b' off' e => by cases e; omega), (fun b' off' e => by cases e; omega), (fun b' off' e => by cases e; omega), (fun b' off' e => by cases e; omega)⟩)
      clear EE T t0 t1 t2
      go_wp2_with fail
      refine bodyPost_ret ?_ rfl FF.out
      simp [results, Try.results19, go_sem, *]
end Go.Proofs.Ytoiaamcnmpdglaa

/- Drawn rows with a tier: DrawBoxOf. -/
namespace Go.Proofs.Ytoiaamcnmpdglaa
open Go.RowKit
set_option maxRecDepth 8000
set_option linter.unusedSimpArgs false
set_option linter.unusedVariables false

/-- A drawn book with a row and a tier. -/
def DrawBRT (w : World) (e : Ending) (w' : World) : Prop :=
  ∃ ba d cp F G a1 n1 k1 x1 a2 n2 k2 x2 a3 n3 k3 x3 t, e = .returned (.tuple #[.slice ba d cp, .agg #[.slice a1 n1 k1, .slice a2 n2 k2, .slice a3 n3 k3], .int .i64 t]) ∧ d ≤ 100 ∧ PRow w' ba d F G ∧ n1 ≤ 8 ∧ n2 ≤ 8 ∧ n3 ≤ 8 ∧ Row w' a1 n1 x1 ∧ Row w' a2 n2 x2 ∧ Row w' a3 n3 x3 ∧ Below w.heap.size w w'

set_option maxHeartbeats 8000000 in
theorem drawBoxOf_any (a : Option Addr) (n c : Nat) (w : World) (h : Code w a n) :
    Calls Try.prog 14 #[.slice a n c] w fun e w' => DrawBRT w e w' := by
  have HC := hide h
  clear h
  go_enter Try.func14, Try.ntmps14
  go_wp2_with fail
  refine (open_any a n c _ (HC.out.below (by repeat' first | with_reducible exact Below.refl _ _ | with_reducible assumption | with_reducible refine below_drewN ?_ _ | with_reducible refine balloc ?_ _ | with_reducible refine Below.drew ?_ | with_reducible refine Below.setCell ?_ (by first | (simp; done) | (simp; omega) | omega) _ | with_reducible refine bstep ?_ (by assumption)))).mono ?_
  rintro e w1 ⟨rfl, hr1, hb1, hs1⟩
  have T1 : TriW w1 w.heap.size (.slice none 0 0) (.slice none 0 0) (.slice none 0 0) := (TriW.new w _ _ _ _ _ rfl).below hb1
  have B1 : Below w.heap.size w w1 := (by repeat' first | with_reducible exact Below.refl _ _ | with_reducible assumption | with_reducible refine below_drewN ?_ _ | with_reducible refine balloc ?_ _ | with_reducible refine Below.drew ?_ | with_reducible refine Below.setCell ?_ (by first | (simp; done) | (simp; omega) | omega) _ | with_reducible refine bstep ?_ (by assumption))
  have HT1 := hide T1
  have HR1 : Hid (Rd (w.heap.size + 1) w1 (w.heap.size + 1) a n c) := hide (by simpa using hr1)
  have lw1 : w.heap.size + 1 < w1.heap.size := by simp at hs1; omega
  have lw := T1.lt
  clear hr1 hb1 T1
  go_wp2_with fail
  refine (drawRowOk_any a n c w1 (HC.out.below B1)).mono ?_
  rintro e w2 ⟨ba, d, cp, F, G, a1, n1, k1, x1, a2, n2, k2, x2, a3, n3, k3, x3, rfl, hd, hp, l1, l2, l3, r1, r2, r3, hb2, g0, g1, g2, g3⟩
  have s2 := hb2.size
  have ba2 : Below w2.heap.size w2 (w2.alloc (.cells #[.slice a1 n1 k1, .slice a2 n2 k2, .slice a3 n3 k3] 29)) := balloc (Below.refl _ _) _
  have bb2 := bstep hb2 ba2
  have HP := hide (hp.below ba2)
  have H1 := hide (r1.below ba2)
  have H2 := hide (r2.below ba2)
  have H3 := hide (r3.below ba2)
  have HB := hide (bstep B1 bb2)
  have HR := hide (HR1.out.stays bb2)
  have HT := hide (HT1.out.below bb2)
  have HX := hide (TriW.new w2 (.slice a1 n1 k1) (.slice a2 n2 k2) (.slice a3 n3 k3) 29 _ rfl)
  clear hp r1 r2 r3 hb2 bb2 ba2 HR1 HT1 B1
  obtain ⟨q, hq⟩ : ∃ q, w2.heap.size = q := ⟨_, rfl⟩
  obtain ⟨W2, hW2⟩ : ∃ W, w2.alloc (.cells #[.slice a1 n1 k1, .slice a2 n2 k2, .slice a3 n3 k3] 29) = W := ⟨_, rfl⟩
  rw [hW2] at HP H1 H2 H3 HB HR HT HX
  rw [hq] at HX s2
  have hqw : w.heap.size + 1 < q := by omega
  have qne : ¬ q = w.heap.size := by omega
  have HQ := hide hq
  have HW := hide hW2
  clear hq hW2
  go_wp2_with fail
  rw [HQ.out, HW.out]
  clear HQ HW
  obtain ⟨_, t0, t1, t2, _, _, _⟩ := HX.out
  have T := hide HX.out.drew
  have RD := hide (HR.out.stays (Below.drew (Below.refl _ _)))
  have TI := hide (tier_any _ _ n c a W2.drew RD.out)
  refine wp_region_held_drew (S := fun wx => TriW wx q (.slice a1 n1 k1) (.slice a2 n2 k2) (.slice a3 n3 k3)) (by kernel_rfl) (T.out) (fun hH0 => ?_)
  refine wpAnyH_take (i := 0) (oi := { dst := some 15, op := _, type := _, pos := _, after := _, guard := _ }) (v := ?_) rfl (by kernel_rfl) (by kernel_rfl) (by kernel_rfl) (fun _ _ _ h => h) (Or.inl ⟨by rfl, ?_⟩) (hH0) ?_
  rotate_left
  · (intro wx hSw; obtain ⟨_, y0, y1, y2, _, _, _⟩ := hSw; go_simp <;> with_reducible rfl)
  simp only [Act.put, List.setIfInBounds_toArray, List.set_cons_zero, List.set_cons_succ]
  refine wpAnyH_take (i := 1) (oi := { dst := some 16, op := _, type := _, pos := _, after := _, guard := _ }) (v := ?_) rfl (by kernel_rfl) (by kernel_rfl) (by kernel_rfl) (fun _ _ _ h => h) (Or.inl ⟨by rfl, ?_⟩) (hH0) ?_
  rotate_left
  · (intro wx hSw; obtain ⟨_, y0, y1, y2, _, _, _⟩ := hSw; go_simp <;> with_reducible rfl)
  simp only [Act.put, List.setIfInBounds_toArray, List.set_cons_zero, List.set_cons_succ]
  refine wpAnyH_take (i := 2) (oi := { dst := some 17, op := _, type := _, pos := _, after := _, guard := _ }) (v := ?_) rfl (by kernel_rfl) (by kernel_rfl) (by kernel_rfl) (fun _ _ _ h => h) (Or.inl ⟨by rfl, ?_⟩) (hH0) ?_
  rotate_left
  · (intro wx hSw; obtain ⟨_, y0, y1, y2, _, _, _⟩ := hSw; go_simp <;> with_reducible rfl)
  simp only [Act.put, List.setIfInBounds_toArray, List.set_cons_zero, List.set_cons_succ]
  -- behind it: go_wp2_with fail, then go_meet (a cut) or go_ret; the condition at the end: hH0
  refine wpAnyH_ready (rs := [3]) (by kernel_rfl) (by simp) ?_
  refine AllReadyH.cons (o := { dst := some 18, op := _, type := _, pos := _, after := _, guard := _ }) rfl (fun K hK => ?_) AllReadyH.nil
  go_simp
  refine TI.out.mono ?_
  rintro e w5 ⟨t, rfl, hr5, hb5⟩
  dsimp only
  have X5 := hide (HX.out.drew.but hb5 (by omega))
  refine hK.out _ _ X5.out (fun hH1 => ?_)
  clear hK K t0 t1 t2 T
  obtain ⟨_, s0, s1, s2, u0, u1, u2⟩ := HT.out.drew.but hb5 (by omega)
  refine wpAnyH_ready (rs := [4]) (by kernel_rfl) (by simp) ?_
  refine AllReadyH.cons (o := { dst := some 2, op := _, type := _, pos := _, after := _, guard := _ }) rfl (fun K hK => ?_) AllReadyH.nil
  go_simp
  refine hK.out _ _ hH1 (fun hH2 => ?_)
  clear hK K
  refine wpAnyH_ready (rs := [5]) (by kernel_rfl) (by simp) ?_
  refine AllReadyH.cons (o := { dst := none, op := _, type := _, pos := _, after := _, guard := _ }) rfl (fun K hK => ?_) AllReadyH.nil
  go_simp
  refine hK.out _ _ (((X5.out.away ⟨w.heap.size, 0, none⟩ _ qne).away ⟨w.heap.size, 1, none⟩ _ qne).away ⟨w.heap.size, 2, none⟩ _ qne) (fun hH3 => ?_)
  clear hK K
  refine wpAnyH_ready (rs := [6]) (by kernel_rfl) (by simp) ?_
  refine AllReadyH.cons (o := { dst := some 4, op := _, type := _, pos := _, after := _, guard := _ }) rfl (fun K hK => ?_) AllReadyH.nil
  go_simp
  refine hK.out _ _ hH3 (fun hH4 => ?_)
  clear hK K
  refine wpAnyH_done (by kernel_rfl) ?_ _
  have FF : Hid (DrawBRT w (.returned (.tuple #[.slice ba d cp, .agg #[.slice a1 n1 k1, .slice a2 n2 k2, .slice a3 n3 k3], .int .i64 t])) (((w5.setCell ⟨w.heap.size, 0, none⟩ (.slice a1 n1 k1)).setCell ⟨w.heap.size, 1, none⟩ (.slice a2 n2 k2)).setCell ⟨w.heap.size, 2, none⟩ (.slice a3 n3 k3))) := hide (by
    have bd : Below W2.heap.size W2 W2.drew := Below.drew (Below.refl _ _)
    have z := HB.out.size
    have dd : ∀ (a : Option Addr), (∀ b off, a = some ⟨b, off, none⟩ → w1.heap.size ≤ b) → ∀ b off, a = some ⟨b, off, none⟩ → b ≠ w.heap.size + 1 := fun a h b off e => by have := h b off e; omega
    have d0 : ∀ (a : Option Addr), (∀ b off, a = some ⟨b, off, none⟩ → w1.heap.size ≤ b) → ∀ b off, a = some ⟨b, off, none⟩ → b ≠ w.heap.size := fun a h b off e => by have := h b off e; omega
    exact ⟨ba, d, cp, F, G, a1, n1, k1, x1, a2, n2, k2, x2, a3, n3, k3, x3, t, rfl, hd, prow_triX (prow_butM (HP.out.below bd) hb5 (dd _ g0)) (d0 _ g0) _ _ _, l1, l2, l3,
      row_tri (hb5.row (H1.out.below bd) (dd _ g1)) (d0 _ g1) _ _ _, row_tri (hb5.row (H2.out.below bd) (dd _ g2)) (d0 _ g2) _ _ _, row_tri (hb5.row (H3.out.below bd) (dd _ g3)) (d0 _ g3) _ _ _,
      ((((bstep HB.out bd).trans (hb5.below (by omega) (by simpa using z))).setCell (by simp) _).setCell (by simp) _).setCell (by simp) _⟩)
  clear HP H1 H2 H3 HB HR HT HX X5 g0 g1 g2 g3
  go_wp2_with fail
  refine bodyPost_ret ?_ rfl FF.out
  simp [results, Try.results14, go_sem, *]
end Go.Proofs.Ytoiaamcnmpdglaa
