/- The reader of drawn bytes: a command. -/
import Derived.Test.YtggjcccdeaadbaaGreatDoorZ18
import Derived.Test.YtggjcccdeaadbaaGreatDoorZ7
import Derived.Test.YtggjcccdeaadbaaGreatDoorZ32
import Derived.Test.YtggjcccdeaadbaaGreatDoorZ13
import Derived.Test.YtggjcccdeaadbaaGreatDoorZ26
import Derived.Test.YtggjcccdeaadbaaGreatDoorZ24
import Derived.Test.YtggjcccdeaadbaaGreatDoorZ30
import Derived.Test.YtggjcccdeaadbaaGreatDoorZ23
import Derived.Test.YtggjcccdeaadbaaGreatDoorZ16
namespace Go.Proofs.YtggjcccdeaadbaaGreatDoor
open Go.RowKit
set_option maxRecDepth 8000
set_option linter.unusedSimpArgs false
set_option linter.unusedVariables false

/-- A command under work in its box q, the answer's box p, the reader, what the call owns. -/
structure CmJ (L B : Nat) (w0 : World) (rb : Nat) (a : Option Addr) (n c p q : Nat) (k x y z : Int) (va : Option Addr) (m cap : Nat) (f : Nat → Int) (w : World) : Prop where
  res : w.rowIs p 26 5 (v5 (.int .i64 0) (.int .i64 0) (.int .i64 0) (.int .i64 0) (.slice none 0 0))
  cmd : w.rowIs q 26 5 (v5 (.int .i64 k) (.int .i64 x) (.int .i64 y) (.int .i64 z) (.slice va m cap))
  own : w.ownsRow w0.heap.size 2 1 (.slice va m cap) m (vals f m)
  m2 : m ≤ L
  rd : Rd B w rb a n c
  but : But rb w0 w
  hB : B ≤ w0.heap.size
  hrb : rb < w0.heap.size
  hp : w0.heap.size ≤ p
  hq : w0.heap.size ≤ q
  hpq : p ≠ q

theorem CmJ.step {L B : Nat} {w0 : World} {rb : Nat} {a : Option Addr} {n c p q : Nat} {k x y z : Int} {va : Option Addr} {m cap : Nat} {f : Nat → Int} {w w' : World} (h : CmJ L B w0 rb a n c p q k x y z va m cap f w) (r : Rd B w' rb a n c) (b : But rb w w') : CmJ L B w0 rb a n c p q k x y z va m cap f w' :=
  ⟨h.res.of_block (b.block _ (World.rowIs.lt h.res) (by have := h.hp; have := h.hrb; omega)), h.cmd.of_block (b.block _ (World.rowIs.lt h.cmd) (by have := h.hq; have := h.hrb; omega)), owns_but h.own b h.hrb, h.m2, r, h.but.trans b, h.hB, h.hrb, h.hp, h.hq, h.hpq⟩

theorem owns_cmd {w : World} {base : Nat} {v : Value} {n : Nat} {xs : List Value} {b : Nat} {F : Nat → Value} (h : w.ownsRow base 2 1 v n xs) (hb : w.rowIs b 26 5 F) (o : Nat) (u : Value) : (w.setCell ⟨b, o, none⟩ u).ownsRow base 2 1 v n xs := by
  refine ⟨h.1, ?_⟩
  rcases h.2 with h0 | ⟨g, cap, cur, hv, hg, hh, hr⟩
  · exact .inl h0
  · refine .inr ⟨g, cap, cur, hv, hg, ?_, hr⟩
    have hne : g ≠ b := by
      rintro rfl
      obtain ⟨c, hc, _⟩ := hb
      rw [hc] at hh
      simp at hh
    exact (Below.heap_setCell w ⟨b, o, none⟩ u g hne).trans hh

theorem CmJ.ints {L B : Nat} {w0 : World} {rb : Nat} {a : Option Addr} {n c p q : Nat} {k x y z : Int} {va : Option Addr} {m cap : Nat} {f : Nat → Int} {w : World} (h : CmJ L B w0 rb a n c p q k x y z va m cap f w) (j : Nat) (u k' x' y' z' : Int)
    (e : ∀ i, i < 5 → (if i = j then .int .i64 u else v5 (.int .i64 k) (.int .i64 x) (.int .i64 y) (.int .i64 z) (.slice va m cap) i) = v5 (.int .i64 k') (.int .i64 x') (.int .i64 y') (.int .i64 z') (.slice va m cap) i) : CmJ L B w0 rb a n c p q k' x' y' z' va m cap f (w.setCell ⟨q, j, none⟩ (.int .i64 u)) :=
  ⟨World.rowIs.setOther h.res (by simpa using h.hpq) _, (World.rowIs.set h.cmd j _).congr e, owns_cmd h.own h.cmd _ _, h.m2, h.rd.but ((But.refl q w).setCell j _) (Nat.le_trans h.hB h.hq) (by have := h.hq; have := h.hrb; omega), but_far h.but h.hq _ _, h.hB, h.hrb, h.hp, h.hq, h.hpq⟩

theorem five {P : Nat → Prop} (h0 : P 0) (h1 : P 1) (h2 : P 2) (h3 : P 3) (h4 : P 4) : ∀ i, i < 5 → P i := fun i hi => by
  rcases (show i = 0 ∨ i = 1 ∨ i = 2 ∨ i = 3 ∨ i = 4 from by omega) with rfl | rfl | rfl | rfl | rfl <;> assumption

theorem CmJ.set0 {L B : Nat} {w0 : World} {rb : Nat} {a : Option Addr} {n c p q : Nat} {k x y z : Int} {va : Option Addr} {m cap : Nat} {f : Nat → Int} {w : World} (h : CmJ L B w0 rb a n c p q k x y z va m cap f w) (u : Int) : CmJ L B w0 rb a n c p q u x y z va m cap f (w.setCell ⟨q, 0, none⟩ (.int .i64 u)) := h.ints 0 u _ _ _ _ (five rfl rfl rfl rfl rfl)

theorem CmJ.set1 {L B : Nat} {w0 : World} {rb : Nat} {a : Option Addr} {n c p q : Nat} {k x y z : Int} {va : Option Addr} {m cap : Nat} {f : Nat → Int} {w : World} (h : CmJ L B w0 rb a n c p q k x y z va m cap f w) (u : Int) : CmJ L B w0 rb a n c p q k u y z va m cap f (w.setCell ⟨q, 1, none⟩ (.int .i64 u)) := h.ints 1 u _ _ _ _ (five rfl rfl rfl rfl rfl)

theorem CmJ.set2 {L B : Nat} {w0 : World} {rb : Nat} {a : Option Addr} {n c p q : Nat} {k x y z : Int} {va : Option Addr} {m cap : Nat} {f : Nat → Int} {w : World} (h : CmJ L B w0 rb a n c p q k x y z va m cap f w) (u : Int) : CmJ L B w0 rb a n c p q k x u z va m cap f (w.setCell ⟨q, 2, none⟩ (.int .i64 u)) := h.ints 2 u _ _ _ _ (five rfl rfl rfl rfl rfl)

theorem CmJ.set3 {L B : Nat} {w0 : World} {rb : Nat} {a : Option Addr} {n c p q : Nat} {k x y z : Int} {va : Option Addr} {m cap : Nat} {f : Nat → Int} {w : World} (h : CmJ L B w0 rb a n c p q k x y z va m cap f w) (u : Int) : CmJ L B w0 rb a n c p q k x y u va m cap f (w.setCell ⟨q, 3, none⟩ (.int .i64 u)) := h.ints 3 u _ _ _ _ (five rfl rfl rfl rfl rfl)

theorem CmJ.make4 {L B : Nat} {w0 : World} {rb : Nat} {a : Option Addr} {n c p q : Nat} {k x y z : Int} {u4 : Value} {va' : Option Addr} {m' cap' : Nat} {f' : Nat → Int} {w : World} (res : w.rowIs p 26 5 (v5 (.int .i64 0) (.int .i64 0) (.int .i64 0) (.int .i64 0) (.slice none 0 0))) (cmd : w.rowIs q 26 5 (v5 (.int .i64 k) (.int .i64 x) (.int .i64 y) (.int .i64 z) u4))
    (o : w.ownsRow w0.heap.size 2 1 (.slice va' m' cap') m' (vals f' m')) (hm : m' ≤ L) (rd : Rd B w rb a n c) (but : But rb w0 w) (hB : B ≤ w0.heap.size) (hrb : rb < w0.heap.size) (hp : w0.heap.size ≤ p) (hq : w0.heap.size ≤ q) (hpq : p ≠ q) : CmJ L B w0 rb a n c p q k x y z va' m' cap' f' (w.setCell ⟨q, 4, none⟩ (.slice va' m' cap')) :=
  ⟨World.rowIs.setOther res (by simpa using hpq) _, (World.rowIs.set cmd 4 _).congr (five rfl rfl rfl rfl rfl), owns_cmd o cmd _ _, hm, rd.but ((But.refl q w).setCell 4 _) (Nat.le_trans hB hq) (by omega), but_far but hq _ _, hB, hrb, hp, hq, hpq⟩

theorem CmJ.set4 {L B : Nat} {w0 : World} {rb : Nat} {a : Option Addr} {n c p q : Nat} {k x y z : Int} {va va' : Option Addr} {m cap m' cap' : Nat} {f f' : Nat → Int} {w : World} (h : CmJ L B w0 rb a n c p q k x y z va m cap f w) (o : w.ownsRow w0.heap.size 2 1 (.slice va' m' cap') m' (vals f' m')) (hm : m' ≤ L) : CmJ L B w0 rb a n c p q k x y z va' m' cap' f' (w.setCell ⟨q, 4, none⟩ (.slice va' m' cap')) :=
  .make4 h.res h.cmd o hm h.rd h.but h.hB h.hrb h.hp h.hq h.hpq
/-- What cmd and hurtCmd leave. -/
def CmPost (L B : Nat) (w0 : World) (rb : Nat) (a : Option Addr) (n c : Nat) (e : Ending) (w' : World) : Prop :=
  ∃ (k x y z : Int) (va : Option Addr) (m cap : Nat) (f : Nat → Int), e = .returned (.agg #[.int .i64 k, .int .i64 x, .int .i64 y, .int .i64 z, .slice va m cap]) ∧ m ≤ L ∧ w'.ownsRow w0.heap.size 2 1 (.slice va m cap) m (vals f m) ∧ Rd B w' rb a n c ∧ But rb w0 w'

theorem CmJ.fin {L B : Nat} {w0 : World} {rb : Nat} {a : Option Addr} {n c p q : Nat} {k x y z : Int} {va : Option Addr} {m cap : Nat} {f : Nat → Int} {w : World} (h : CmJ L B w0 rb a n c p q k x y z va m cap f w) (u0 u1 u2 u3 u4 : Value) :
    CmPost L B w0 rb a n c (.returned (.agg #[.int .i64 k, .int .i64 x, .int .i64 y, .int .i64 z, .slice va m cap])) (((((w.setCell ⟨p, 0, none⟩ u0).setCell ⟨p, 1, none⟩ u1).setCell ⟨p, 2, none⟩ u2).setCell ⟨p, 3, none⟩ u3).setCell ⟨p, 4, none⟩ u4) := by
  have r1 := World.rowIs.set h.res 0 u0
  have r2 := World.rowIs.set r1 1 u1
  have r3 := World.rowIs.set r2 2 u2
  have r4 := World.rowIs.set r3 3 u3
  have bb : But p w (((((w.setCell ⟨p, 0, none⟩ u0).setCell ⟨p, 1, none⟩ u1).setCell ⟨p, 2, none⟩ u2).setCell ⟨p, 3, none⟩ u3).setCell ⟨p, 4, none⟩ u4) := (((((But.refl p w).setCell 0 _).setCell 1 _).setCell 2 _).setCell 3 _).setCell 4 _
  exact ⟨k, x, y, z, va, m, cap, f, rfl, h.m2, owns_cmd (owns_cmd (owns_cmd (owns_cmd (owns_cmd h.own h.res 0 u0) r1 1 u1) r2 2 u2) r3 3 u3) r4 4 u4, h.rd.but bb (Nat.le_trans h.hB h.hp) (by have := h.hp; have := h.hrb; omega),
    but_far (but_far (but_far (but_far (but_far h.but h.hp 0 u0) h.hp 1 u1) h.hp 2 u2) h.hp 3 u3) h.hp 4 u4⟩


set_option maxHeartbeats 4000000 in
set_option maxRecDepth 8000 in
theorem cmd1 (B rb n c : Nat) (a : Option Addr) (d : Nat) (w : World) (h : Rd B w rb a n c) (hB : B ≤ w.heap.size) (d1 : 1 ≤ d) (hd : d ≤ 100) :
    Calls Tryz.prog 20 #[.pointer (some ⟨rb, 0, none⟩), .int .i64 1, .int .i64 d] w fun e w' => CmPost 100 B w rb a n c e w' := by
  go_enter Tryz.func20, Tryz.ntmps20
  go_wp2_with fail
  refine bodyPost_ret (v := .agg #[.int .i64 1, .int .i64 d, .int .i64 0, .int .i64 0, .slice none 0 0]) (by simp [results, Tryz.results20, go_sem]) rfl ?_
  exact ⟨1, d, 0, 0, none, 0, 0, fun _ => 0, rfl, by omega, World.ownsRow_nil _ _ _ _, (h.alloc _).alloc _, ((But.refl rb w).alloc _).alloc _⟩

set_option maxHeartbeats 4000000 in
set_option maxRecDepth 8000 in
theorem cmd2 (B rb n c : Nat) (a : Option Addr) (d : Nat) (w : World) (h : Rd B w rb a n c) (hB : B ≤ w.heap.size) (d1 : 1 ≤ d) (hd : d ≤ 100) :
    Calls Tryz.prog 20 #[.pointer (some ⟨rb, 0, none⟩), .int .i64 2, .int .i64 d] w fun e w' => CmPost 100 B w rb a n c e w' := by
  have N := hide (fun m w (h : Rd B w rb a n c) (h1 : 1 < m) (h2 : m ≤ 256) => below_any B rb n c a m w h h1 h2)
  have NB := hide (fun m w (h : Rd B w rb a n c) (h1 : 256 < m) (h2 : m ≤ 65536) => below_big B rb n c a m w h h1 h2)
  have O := hide (fun w (h : Rd B w rb a n c) => once_any B rb n c a 3 w h (by omega) (by omega))
  have T := hide (fun w (h : Rd B w rb a n c) => tagsC_any B rb n c a w h)
  have V := hide (fun w (h : Rd B w rb a n c) (hB : B ≤ w.heap.size) => vec_any B rb n c a d w h hB hd)
  have hrb := h.lt
  have J0 : Hid (CmJ 100 B w rb a n c w.heap.size (w.heap.size + 1) 2 0 0 0 none 0 0 (fun _ => 0) ((w.alloc (.cells #[.int .i64 0, .int .i64 0, .int .i64 0, .int .i64 0, .slice none 0 0] 26)).alloc (.cells #[.int .i64 2, .int .i64 0, .int .i64 0, .int .i64 0, .slice none 0 0] 26))) := hide
    ⟨World.rowIs.alloc (v5_new w _ _ _ _ _ _) _, by simpa using v5_new (w.alloc (.cells #[.int .i64 0, .int .i64 0, .int .i64 0, .int .i64 0, .slice none 0 0] 26)) (.int .i64 2) (.int .i64 0) (.int .i64 0) (.int .i64 0) (.slice none 0 0) 26, World.ownsRow_nil _ _ _ _, by omega, (h.alloc _).alloc _, ((But.refl rb w).alloc _).alloc _, hB, hrb, Nat.le_refl _, Nat.le_succ _, by omega⟩
  clear h
  obtain ⟨_, y0, y1, y2, y3, y4, g0, g1, g2, g3, g4⟩ := v5_facts J0.out.cmd
  obtain ⟨_, r0, r1, r2, r3, r4, f0, f1, f2, f3, f4⟩ := v5_facts J0.out.res
  go_enter Tryz.func20, Tryz.ntmps20
  go_wp2_with fail
  refine (N.out 12 _ (J0.out).rd (by omega) (by omega)).mono ?_
  rintro e w1 ⟨v1, rfl, v1a, v1b, hr, hb⟩
  have J1 := hide ((J0.out).step hr hb)
  clear hr hb y0 y1 y2 y3 y4 g0 g1 g2 g3 g4 r0 r1 r2 r3 r4 f0 f1 f2 f3 f4 J0
  obtain ⟨_, y0, y1, y2, y3, y4, g0, g1, g2, g3, g4⟩ := v5_facts J1.out.cmd
  obtain ⟨_, r0, r1, r2, r3, r4, f0, f1, f2, f3, f4⟩ := v5_facts J1.out.res
  go_wp2_with fail
  refine (T.out _ (J1.out.set1 (1 + v1)).rd).mono ?_
  rintro e w2 ⟨v2, rfl, v2a, v2b, hr, hb⟩
  have J2 := hide ((J1.out.set1 (1 + v1)).step hr hb)
  clear hr hb y0 y1 y2 y3 y4 g0 g1 g2 g3 g4 r0 r1 r2 r3 r4 f0 f1 f2 f3 f4 J1
  obtain ⟨_, y0, y1, y2, y3, y4, g0, g1, g2, g3, g4⟩ := v5_facts J2.out.cmd
  obtain ⟨_, r0, r1, r2, r3, r4, f0, f1, f2, f3, f4⟩ := v5_facts J2.out.res
  go_wp2_with fail
  have JX := hide (J2.out.set2 v2)
  refine (V.out _ JX.out.rd (Nat.le_trans hB JX.out.but.size)).mono ?_
  rintro e w3 ⟨v3, t3, rfl, ho, hr, hb⟩
  obtain ⟨gv3, cv3, rfl, _, _⟩ := ho.form (by omega)
  have O3 := hide (owns_base JX.out.but.size ho)
  have J3 := hide (JX.out.step hr hb)
  clear ho hr hb JX y0 y1 y2 y3 y4 g0 g1 g2 g3 g4 r0 r1 r2 r3 r4 f0 f1 f2 f3 f4 J2
  obtain ⟨_, y0, y1, y2, y3, y4, g0, g1, g2, g3, g4⟩ := v5_facts J3.out.cmd
  obtain ⟨_, r0, r1, r2, r3, r4, f0, f1, f2, f3, f4⟩ := v5_facts J3.out.res
  go_wp2_with fail
  have JE := hide (J3.out.set4 O3.out (by omega))
  refine bodyPost_ret (v := _) ?_ rfl (JE.out.fin _ _ _ _ _)
  clear r0 r1 r2 r3 r4 f0 f1 f2 f3 f4
  obtain ⟨_, r0, r1, r2, r3, r4, f0, f1, f2, f3, f4⟩ := v5_facts JE.out.res
  simp [results, Tryz.results20, go_sem, r0, r1, r2, r3, r4]

set_option maxHeartbeats 4000000 in
set_option maxRecDepth 8000 in
theorem cmd3 (B rb n c : Nat) (a : Option Addr) (d : Nat) (w : World) (h : Rd B w rb a n c) (hB : B ≤ w.heap.size) (d1 : 1 ≤ d) (hd : d ≤ 100) :
    Calls Tryz.prog 20 #[.pointer (some ⟨rb, 0, none⟩), .int .i64 3, .int .i64 d] w fun e w' => CmPost 100 B w rb a n c e w' := by
  have N := hide (fun m w (h : Rd B w rb a n c) (h1 : 1 < m) (h2 : m ≤ 256) => below_any B rb n c a m w h h1 h2)
  have NB := hide (fun m w (h : Rd B w rb a n c) (h1 : 256 < m) (h2 : m ≤ 65536) => below_big B rb n c a m w h h1 h2)
  have O := hide (fun w (h : Rd B w rb a n c) => once_any B rb n c a 3 w h (by omega) (by omega))
  have T := hide (fun w (h : Rd B w rb a n c) => tagsC_any B rb n c a w h)
  have V := hide (fun w (h : Rd B w rb a n c) (hB : B ≤ w.heap.size) => vec_any B rb n c a d w h hB hd)
  have hrb := h.lt
  have J0 : Hid (CmJ 100 B w rb a n c w.heap.size (w.heap.size + 1) 3 0 0 0 none 0 0 (fun _ => 0) ((w.alloc (.cells #[.int .i64 0, .int .i64 0, .int .i64 0, .int .i64 0, .slice none 0 0] 26)).alloc (.cells #[.int .i64 3, .int .i64 0, .int .i64 0, .int .i64 0, .slice none 0 0] 26))) := hide
    ⟨World.rowIs.alloc (v5_new w _ _ _ _ _ _) _, by simpa using v5_new (w.alloc (.cells #[.int .i64 0, .int .i64 0, .int .i64 0, .int .i64 0, .slice none 0 0] 26)) (.int .i64 3) (.int .i64 0) (.int .i64 0) (.int .i64 0) (.slice none 0 0) 26, World.ownsRow_nil _ _ _ _, by omega, (h.alloc _).alloc _, ((But.refl rb w).alloc _).alloc _, hB, hrb, Nat.le_refl _, Nat.le_succ _, by omega⟩
  clear h
  obtain ⟨_, y0, y1, y2, y3, y4, g0, g1, g2, g3, g4⟩ := v5_facts J0.out.cmd
  obtain ⟨_, r0, r1, r2, r3, r4, f0, f1, f2, f3, f4⟩ := v5_facts J0.out.res
  go_enter Tryz.func20, Tryz.ntmps20
  go_wp2_with fail
  refine (N.out 12 _ (J0.out).rd (by omega) (by omega)).mono ?_
  rintro e w1 ⟨v1, rfl, v1a, v1b, hr, hb⟩
  have J1 := hide ((J0.out).step hr hb)
  clear hr hb y0 y1 y2 y3 y4 g0 g1 g2 g3 g4 r0 r1 r2 r3 r4 f0 f1 f2 f3 f4 J0
  obtain ⟨_, y0, y1, y2, y3, y4, g0, g1, g2, g3, g4⟩ := v5_facts J1.out.cmd
  obtain ⟨_, r0, r1, r2, r3, r4, f0, f1, f2, f3, f4⟩ := v5_facts J1.out.res
  go_wp2_with fail
  have JE := hide (J1.out.set1 (1 + v1))
  refine bodyPost_ret (v := _) ?_ rfl (JE.out.fin _ _ _ _ _)
  clear r0 r1 r2 r3 r4 f0 f1 f2 f3 f4
  obtain ⟨_, r0, r1, r2, r3, r4, f0, f1, f2, f3, f4⟩ := v5_facts JE.out.res
  simp [results, Tryz.results20, go_sem, r0, r1, r2, r3, r4]

set_option maxHeartbeats 4000000 in
set_option maxRecDepth 8000 in
theorem cmd4 (B rb n c : Nat) (a : Option Addr) (d : Nat) (w : World) (h : Rd B w rb a n c) (hB : B ≤ w.heap.size) (d1 : 1 ≤ d) (hd : d ≤ 100) :
    Calls Tryz.prog 20 #[.pointer (some ⟨rb, 0, none⟩), .int .i64 4, .int .i64 d] w fun e w' => CmPost 100 B w rb a n c e w' := by
  go_enter Tryz.func20, Tryz.ntmps20
  go_wp2_with fail
  refine bodyPost_ret (v := .agg #[.int .i64 4, .int .i64 0, .int .i64 0, .int .i64 0, .slice none 0 0]) (by simp [results, Tryz.results20, go_sem]) rfl ?_
  exact ⟨4, 0, 0, 0, none, 0, 0, fun _ => 0, rfl, by omega, World.ownsRow_nil _ _ _ _, (h.alloc _).alloc _, ((But.refl rb w).alloc _).alloc _⟩

set_option maxHeartbeats 4000000 in
set_option maxRecDepth 8000 in
theorem cmd5 (B rb n c : Nat) (a : Option Addr) (d : Nat) (w : World) (h : Rd B w rb a n c) (hB : B ≤ w.heap.size) (d1 : 1 ≤ d) (hd : d ≤ 100) :
    Calls Tryz.prog 20 #[.pointer (some ⟨rb, 0, none⟩), .int .i64 5, .int .i64 d] w fun e w' => CmPost 100 B w rb a n c e w' := by
  have N := hide (fun m w (h : Rd B w rb a n c) (h1 : 1 < m) (h2 : m ≤ 256) => below_any B rb n c a m w h h1 h2)
  have NB := hide (fun m w (h : Rd B w rb a n c) (h1 : 256 < m) (h2 : m ≤ 65536) => below_big B rb n c a m w h h1 h2)
  have O := hide (fun w (h : Rd B w rb a n c) => once_any B rb n c a 3 w h (by omega) (by omega))
  have T := hide (fun w (h : Rd B w rb a n c) => tagsC_any B rb n c a w h)
  have V := hide (fun w (h : Rd B w rb a n c) (hB : B ≤ w.heap.size) => vec_any B rb n c a d w h hB hd)
  have hrb := h.lt
  have J0 : Hid (CmJ 100 B w rb a n c w.heap.size (w.heap.size + 1) 5 0 0 0 none 0 0 (fun _ => 0) ((w.alloc (.cells #[.int .i64 0, .int .i64 0, .int .i64 0, .int .i64 0, .slice none 0 0] 26)).alloc (.cells #[.int .i64 5, .int .i64 0, .int .i64 0, .int .i64 0, .slice none 0 0] 26))) := hide
    ⟨World.rowIs.alloc (v5_new w _ _ _ _ _ _) _, by simpa using v5_new (w.alloc (.cells #[.int .i64 0, .int .i64 0, .int .i64 0, .int .i64 0, .slice none 0 0] 26)) (.int .i64 5) (.int .i64 0) (.int .i64 0) (.int .i64 0) (.slice none 0 0) 26, World.ownsRow_nil _ _ _ _, by omega, (h.alloc _).alloc _, ((But.refl rb w).alloc _).alloc _, hB, hrb, Nat.le_refl _, Nat.le_succ _, by omega⟩
  clear h
  obtain ⟨_, y0, y1, y2, y3, y4, g0, g1, g2, g3, g4⟩ := v5_facts J0.out.cmd
  obtain ⟨_, r0, r1, r2, r3, r4, f0, f1, f2, f3, f4⟩ := v5_facts J0.out.res
  go_enter Tryz.func20, Tryz.ntmps20
  go_wp2_with fail
  refine (N.out 5 _ (J0.out).rd (by omega) (by omega)).mono ?_
  rintro e w1 ⟨v1, rfl, v1a, v1b, hr, hb⟩
  have J1 := hide ((J0.out).step hr hb)
  clear hr hb y0 y1 y2 y3 y4 g0 g1 g2 g3 g4 r0 r1 r2 r3 r4 f0 f1 f2 f3 f4 J0
  obtain ⟨_, y0, y1, y2, y3, y4, g0, g1, g2, g3, g4⟩ := v5_facts J1.out.cmd
  obtain ⟨_, r0, r1, r2, r3, r4, f0, f1, f2, f3, f4⟩ := v5_facts J1.out.res
  go_wp2_with fail
  have JE := hide (J1.out.set1 (1 + v1))
  refine bodyPost_ret (v := _) ?_ rfl (JE.out.fin _ _ _ _ _)
  clear r0 r1 r2 r3 r4 f0 f1 f2 f3 f4
  obtain ⟨_, r0, r1, r2, r3, r4, f0, f1, f2, f3, f4⟩ := v5_facts JE.out.res
  simp [results, Tryz.results20, go_sem, r0, r1, r2, r3, r4]

set_option maxHeartbeats 4000000 in
set_option maxRecDepth 8000 in
theorem cmd6 (B rb n c : Nat) (a : Option Addr) (d : Nat) (w : World) (h : Rd B w rb a n c) (hB : B ≤ w.heap.size) (d1 : 1 ≤ d) (hd : d ≤ 100) :
    Calls Tryz.prog 20 #[.pointer (some ⟨rb, 0, none⟩), .int .i64 6, .int .i64 d] w fun e w' => CmPost 100 B w rb a n c e w' := by
  have N := hide (fun m w (h : Rd B w rb a n c) (h1 : 1 < m) (h2 : m ≤ 256) => below_any B rb n c a m w h h1 h2)
  have NB := hide (fun m w (h : Rd B w rb a n c) (h1 : 256 < m) (h2 : m ≤ 65536) => below_big B rb n c a m w h h1 h2)
  have O := hide (fun w (h : Rd B w rb a n c) => once_any B rb n c a 3 w h (by omega) (by omega))
  have T := hide (fun w (h : Rd B w rb a n c) => tagsC_any B rb n c a w h)
  have V := hide (fun w (h : Rd B w rb a n c) (hB : B ≤ w.heap.size) => vec_any B rb n c a d w h hB hd)
  have hrb := h.lt
  have J0 : Hid (CmJ 100 B w rb a n c w.heap.size (w.heap.size + 1) 6 0 0 0 none 0 0 (fun _ => 0) ((w.alloc (.cells #[.int .i64 0, .int .i64 0, .int .i64 0, .int .i64 0, .slice none 0 0] 26)).alloc (.cells #[.int .i64 6, .int .i64 0, .int .i64 0, .int .i64 0, .slice none 0 0] 26))) := hide
    ⟨World.rowIs.alloc (v5_new w _ _ _ _ _ _) _, by simpa using v5_new (w.alloc (.cells #[.int .i64 0, .int .i64 0, .int .i64 0, .int .i64 0, .slice none 0 0] 26)) (.int .i64 6) (.int .i64 0) (.int .i64 0) (.int .i64 0) (.slice none 0 0) 26, World.ownsRow_nil _ _ _ _, by omega, (h.alloc _).alloc _, ((But.refl rb w).alloc _).alloc _, hB, hrb, Nat.le_refl _, Nat.le_succ _, by omega⟩
  clear h
  obtain ⟨_, y0, y1, y2, y3, y4, g0, g1, g2, g3, g4⟩ := v5_facts J0.out.cmd
  obtain ⟨_, r0, r1, r2, r3, r4, f0, f1, f2, f3, f4⟩ := v5_facts J0.out.res
  go_enter Tryz.func20, Tryz.ntmps20
  go_wp2_with fail
  refine (N.out 4 _ (J0.out).rd (by omega) (by omega)).mono ?_
  rintro e w1 ⟨v1, rfl, v1a, v1b, hr, hb⟩
  have J1 := hide ((J0.out).step hr hb)
  clear hr hb y0 y1 y2 y3 y4 g0 g1 g2 g3 g4 r0 r1 r2 r3 r4 f0 f1 f2 f3 f4 J0
  obtain ⟨_, y0, y1, y2, y3, y4, g0, g1, g2, g3, g4⟩ := v5_facts J1.out.cmd
  obtain ⟨_, r0, r1, r2, r3, r4, f0, f1, f2, f3, f4⟩ := v5_facts J1.out.res
  go_wp2_with fail
  refine (N.out 12 _ (J1.out.set1 (1 + v1)).rd (by omega) (by omega)).mono ?_
  rintro e w2 ⟨v2, rfl, v2a, v2b, hr, hb⟩
  have J2 := hide ((J1.out.set1 (1 + v1)).step hr hb)
  clear hr hb y0 y1 y2 y3 y4 g0 g1 g2 g3 g4 r0 r1 r2 r3 r4 f0 f1 f2 f3 f4 J1
  obtain ⟨_, y0, y1, y2, y3, y4, g0, g1, g2, g3, g4⟩ := v5_facts J2.out.cmd
  obtain ⟨_, r0, r1, r2, r3, r4, f0, f1, f2, f3, f4⟩ := v5_facts J2.out.res
  go_wp2_with fail
  have JX := hide (J2.out.set3 (v2))
  refine (V.out _ JX.out.rd (Nat.le_trans hB JX.out.but.size)).mono ?_
  rintro e w3 ⟨v3, t3, rfl, ho, hr, hb⟩
  obtain ⟨gv3, cv3, rfl, _, _⟩ := ho.form (by omega)
  have O3 := hide (owns_base JX.out.but.size ho)
  have J3 := hide (JX.out.step hr hb)
  clear ho hr hb JX y0 y1 y2 y3 y4 g0 g1 g2 g3 g4 r0 r1 r2 r3 r4 f0 f1 f2 f3 f4 J2
  obtain ⟨_, y0, y1, y2, y3, y4, g0, g1, g2, g3, g4⟩ := v5_facts J3.out.cmd
  obtain ⟨_, r0, r1, r2, r3, r4, f0, f1, f2, f3, f4⟩ := v5_facts J3.out.res
  go_wp2_with fail
  refine (O.out _ (J3.out.set4 O3.out (by omega)).rd).mono ?_
  rintro e w4 ⟨v4, rfl, hr, hb⟩
  have J4 := hide ((J3.out.set4 O3.out (by omega)).step hr hb)
  clear hr hb y0 y1 y2 y3 y4 g0 g1 g2 g3 g4 r0 r1 r2 r3 r4 f0 f1 f2 f3 f4 J3
  obtain ⟨_, y0, y1, y2, y3, y4, g0, g1, g2, g3, g4⟩ := v5_facts J4.out.cmd
  obtain ⟨_, r0, r1, r2, r3, r4, f0, f1, f2, f3, f4⟩ := v5_facts J4.out.res
  cases v4
  · go_wp2_with fail
    refine (O.out _ (J4.out).rd).mono ?_
    rintro e w5 ⟨v5, rfl, hr, hb⟩
    have J5 := hide ((J4.out).step hr hb)
    clear hr hb y0 y1 y2 y3 y4 g0 g1 g2 g3 g4 r0 r1 r2 r3 r4 f0 f1 f2 f3 f4 J4
    obtain ⟨_, y0, y1, y2, y3, y4, g0, g1, g2, g3, g4⟩ := v5_facts J5.out.cmd
    obtain ⟨_, r0, r1, r2, r3, r4, f0, f1, f2, f3, f4⟩ := v5_facts J5.out.res
    cases v5
    · go_wp2_with fail
      have JE := hide (J5.out)
      refine bodyPost_ret (v := _) ?_ rfl (JE.out.fin _ _ _ _ _)
      clear r0 r1 r2 r3 r4 f0 f1 f2 f3 f4
      obtain ⟨_, r0, r1, r2, r3, r4, f0, f1, f2, f3, f4⟩ := v5_facts JE.out.res
      simp [results, Tryz.results20, go_sem, r0, r1, r2, r3, r4]
    · go_wp2_with fail
      have JE := hide (J5.out.set3 60)
      refine bodyPost_ret (v := _) ?_ rfl (JE.out.fin _ _ _ _ _)
      clear r0 r1 r2 r3 r4 f0 f1 f2 f3 f4
      obtain ⟨_, r0, r1, r2, r3, r4, f0, f1, f2, f3, f4⟩ := v5_facts JE.out.res
      simp [results, Tryz.results20, go_sem, r0, r1, r2, r3, r4]
  · go_wp2_with fail
    refine (T.out _ (J4.out).rd).mono ?_
    rintro e w5 ⟨v5, rfl, v5a, v5b, hr, hb⟩
    have J5 := hide ((J4.out).step hr hb)
    clear hr hb y0 y1 y2 y3 y4 g0 g1 g2 g3 g4 r0 r1 r2 r3 r4 f0 f1 f2 f3 f4 J4
    obtain ⟨_, y0, y1, y2, y3, y4, g0, g1, g2, g3, g4⟩ := v5_facts J5.out.cmd
    obtain ⟨_, r0, r1, r2, r3, r4, f0, f1, f2, f3, f4⟩ := v5_facts J5.out.res
    go_wp2_with fail
    refine (O.out _ (J5.out.set2 v5).rd).mono ?_
    rintro e w6 ⟨v6, rfl, hr, hb⟩
    have J6 := hide ((J5.out.set2 v5).step hr hb)
    clear hr hb y0 y1 y2 y3 y4 g0 g1 g2 g3 g4 r0 r1 r2 r3 r4 f0 f1 f2 f3 f4 J5
    obtain ⟨_, y0, y1, y2, y3, y4, g0, g1, g2, g3, g4⟩ := v5_facts J6.out.cmd
    obtain ⟨_, r0, r1, r2, r3, r4, f0, f1, f2, f3, f4⟩ := v5_facts J6.out.res
    cases v6
    · go_wp2_with fail
      have JE := hide (J6.out)
      refine bodyPost_ret (v := _) ?_ rfl (JE.out.fin _ _ _ _ _)
      clear r0 r1 r2 r3 r4 f0 f1 f2 f3 f4
      obtain ⟨_, r0, r1, r2, r3, r4, f0, f1, f2, f3, f4⟩ := v5_facts JE.out.res
      simp [results, Tryz.results20, go_sem, r0, r1, r2, r3, r4]
    · go_wp2_with fail
      have JE := hide (J6.out.set3 60)
      refine bodyPost_ret (v := _) ?_ rfl (JE.out.fin _ _ _ _ _)
      clear r0 r1 r2 r3 r4 f0 f1 f2 f3 f4
      obtain ⟨_, r0, r1, r2, r3, r4, f0, f1, f2, f3, f4⟩ := v5_facts JE.out.res
      simp [results, Tryz.results20, go_sem, r0, r1, r2, r3, r4]

set_option maxHeartbeats 4000000 in
set_option maxRecDepth 8000 in
theorem cmd7 (B rb n c : Nat) (a : Option Addr) (d : Nat) (w : World) (h : Rd B w rb a n c) (hB : B ≤ w.heap.size) (d1 : 1 ≤ d) (hd : d ≤ 100) :
    Calls Tryz.prog 20 #[.pointer (some ⟨rb, 0, none⟩), .int .i64 7, .int .i64 d] w fun e w' => CmPost 100 B w rb a n c e w' := by
  have N := hide (fun m w (h : Rd B w rb a n c) (h1 : 1 < m) (h2 : m ≤ 256) => below_any B rb n c a m w h h1 h2)
  have NB := hide (fun m w (h : Rd B w rb a n c) (h1 : 256 < m) (h2 : m ≤ 65536) => below_big B rb n c a m w h h1 h2)
  have O := hide (fun w (h : Rd B w rb a n c) => once_any B rb n c a 3 w h (by omega) (by omega))
  have T := hide (fun w (h : Rd B w rb a n c) => tagsC_any B rb n c a w h)
  have V := hide (fun w (h : Rd B w rb a n c) (hB : B ≤ w.heap.size) => vec_any B rb n c a d w h hB hd)
  have hrb := h.lt
  have J0 : Hid (CmJ 100 B w rb a n c w.heap.size (w.heap.size + 1) 7 0 0 0 none 0 0 (fun _ => 0) ((w.alloc (.cells #[.int .i64 0, .int .i64 0, .int .i64 0, .int .i64 0, .slice none 0 0] 26)).alloc (.cells #[.int .i64 7, .int .i64 0, .int .i64 0, .int .i64 0, .slice none 0 0] 26))) := hide
    ⟨World.rowIs.alloc (v5_new w _ _ _ _ _ _) _, by simpa using v5_new (w.alloc (.cells #[.int .i64 0, .int .i64 0, .int .i64 0, .int .i64 0, .slice none 0 0] 26)) (.int .i64 7) (.int .i64 0) (.int .i64 0) (.int .i64 0) (.slice none 0 0) 26, World.ownsRow_nil _ _ _ _, by omega, (h.alloc _).alloc _, ((But.refl rb w).alloc _).alloc _, hB, hrb, Nat.le_refl _, Nat.le_succ _, by omega⟩
  clear h
  obtain ⟨_, y0, y1, y2, y3, y4, g0, g1, g2, g3, g4⟩ := v5_facts J0.out.cmd
  obtain ⟨_, r0, r1, r2, r3, r4, f0, f1, f2, f3, f4⟩ := v5_facts J0.out.res
  go_enter Tryz.func20, Tryz.ntmps20
  go_wp2_with fail
  refine (NB.out 20000 _ (J0.out).rd (by omega) (by omega)).mono ?_
  rintro e w1 ⟨v1, rfl, v1a, v1b, hr, hb⟩
  have J1 := hide ((J0.out).step hr hb)
  clear hr hb y0 y1 y2 y3 y4 g0 g1 g2 g3 g4 r0 r1 r2 r3 r4 f0 f1 f2 f3 f4 J0
  obtain ⟨_, y0, y1, y2, y3, y4, g0, g1, g2, g3, g4⟩ := v5_facts J1.out.cmd
  obtain ⟨_, r0, r1, r2, r3, r4, f0, f1, f2, f3, f4⟩ := v5_facts J1.out.res
  go_wp2_with fail
  refine (N.out 12 _ (J1.out.set1 (v1)).rd (by omega) (by omega)).mono ?_
  rintro e w2 ⟨v2, rfl, v2a, v2b, hr, hb⟩
  have J2 := hide ((J1.out.set1 (v1)).step hr hb)
  clear hr hb y0 y1 y2 y3 y4 g0 g1 g2 g3 g4 r0 r1 r2 r3 r4 f0 f1 f2 f3 f4 J1
  obtain ⟨_, y0, y1, y2, y3, y4, g0, g1, g2, g3, g4⟩ := v5_facts J2.out.cmd
  obtain ⟨_, r0, r1, r2, r3, r4, f0, f1, f2, f3, f4⟩ := v5_facts J2.out.res
  go_wp2_with fail
  have JX := hide (J2.out.set3 (v2))
  refine (V.out _ JX.out.rd (Nat.le_trans hB JX.out.but.size)).mono ?_
  rintro e w3 ⟨v3, t3, rfl, ho, hr, hb⟩
  obtain ⟨gv3, cv3, rfl, _, _⟩ := ho.form (by omega)
  have O3 := hide (owns_base JX.out.but.size ho)
  have J3 := hide (JX.out.step hr hb)
  clear ho hr hb JX y0 y1 y2 y3 y4 g0 g1 g2 g3 g4 r0 r1 r2 r3 r4 f0 f1 f2 f3 f4 J2
  obtain ⟨_, y0, y1, y2, y3, y4, g0, g1, g2, g3, g4⟩ := v5_facts J3.out.cmd
  obtain ⟨_, r0, r1, r2, r3, r4, f0, f1, f2, f3, f4⟩ := v5_facts J3.out.res
  go_wp2_with fail
  refine (O.out _ (J3.out.set4 O3.out (by omega)).rd).mono ?_
  rintro e w4 ⟨v4, rfl, hr, hb⟩
  have J4 := hide ((J3.out.set4 O3.out (by omega)).step hr hb)
  clear hr hb y0 y1 y2 y3 y4 g0 g1 g2 g3 g4 r0 r1 r2 r3 r4 f0 f1 f2 f3 f4 J3
  obtain ⟨_, y0, y1, y2, y3, y4, g0, g1, g2, g3, g4⟩ := v5_facts J4.out.cmd
  obtain ⟨_, r0, r1, r2, r3, r4, f0, f1, f2, f3, f4⟩ := v5_facts J4.out.res
  cases v4
  · go_wp2_with fail
    refine (O.out _ (J4.out).rd).mono ?_
    rintro e w5 ⟨v5, rfl, hr, hb⟩
    have J5 := hide ((J4.out).step hr hb)
    clear hr hb y0 y1 y2 y3 y4 g0 g1 g2 g3 g4 r0 r1 r2 r3 r4 f0 f1 f2 f3 f4 J4
    obtain ⟨_, y0, y1, y2, y3, y4, g0, g1, g2, g3, g4⟩ := v5_facts J5.out.cmd
    obtain ⟨_, r0, r1, r2, r3, r4, f0, f1, f2, f3, f4⟩ := v5_facts J5.out.res
    cases v5
    · go_wp2_with fail
      have JE := hide (J5.out)
      refine bodyPost_ret (v := _) ?_ rfl (JE.out.fin _ _ _ _ _)
      clear r0 r1 r2 r3 r4 f0 f1 f2 f3 f4
      obtain ⟨_, r0, r1, r2, r3, r4, f0, f1, f2, f3, f4⟩ := v5_facts JE.out.res
      simp [results, Tryz.results20, go_sem, r0, r1, r2, r3, r4]
    · go_wp2_with fail
      have JE := hide (J5.out.set3 60)
      refine bodyPost_ret (v := _) ?_ rfl (JE.out.fin _ _ _ _ _)
      clear r0 r1 r2 r3 r4 f0 f1 f2 f3 f4
      obtain ⟨_, r0, r1, r2, r3, r4, f0, f1, f2, f3, f4⟩ := v5_facts JE.out.res
      simp [results, Tryz.results20, go_sem, r0, r1, r2, r3, r4]
  · go_wp2_with fail
    refine (T.out _ (J4.out).rd).mono ?_
    rintro e w5 ⟨v5, rfl, v5a, v5b, hr, hb⟩
    have J5 := hide ((J4.out).step hr hb)
    clear hr hb y0 y1 y2 y3 y4 g0 g1 g2 g3 g4 r0 r1 r2 r3 r4 f0 f1 f2 f3 f4 J4
    obtain ⟨_, y0, y1, y2, y3, y4, g0, g1, g2, g3, g4⟩ := v5_facts J5.out.cmd
    obtain ⟨_, r0, r1, r2, r3, r4, f0, f1, f2, f3, f4⟩ := v5_facts J5.out.res
    go_wp2_with fail
    refine (O.out _ (J5.out.set2 v5).rd).mono ?_
    rintro e w6 ⟨v6, rfl, hr, hb⟩
    have J6 := hide ((J5.out.set2 v5).step hr hb)
    clear hr hb y0 y1 y2 y3 y4 g0 g1 g2 g3 g4 r0 r1 r2 r3 r4 f0 f1 f2 f3 f4 J5
    obtain ⟨_, y0, y1, y2, y3, y4, g0, g1, g2, g3, g4⟩ := v5_facts J6.out.cmd
    obtain ⟨_, r0, r1, r2, r3, r4, f0, f1, f2, f3, f4⟩ := v5_facts J6.out.res
    cases v6
    · go_wp2_with fail
      have JE := hide (J6.out)
      refine bodyPost_ret (v := _) ?_ rfl (JE.out.fin _ _ _ _ _)
      clear r0 r1 r2 r3 r4 f0 f1 f2 f3 f4
      obtain ⟨_, r0, r1, r2, r3, r4, f0, f1, f2, f3, f4⟩ := v5_facts JE.out.res
      simp [results, Tryz.results20, go_sem, r0, r1, r2, r3, r4]
    · go_wp2_with fail
      have JE := hide (J6.out.set3 60)
      refine bodyPost_ret (v := _) ?_ rfl (JE.out.fin _ _ _ _ _)
      clear r0 r1 r2 r3 r4 f0 f1 f2 f3 f4
      obtain ⟨_, r0, r1, r2, r3, r4, f0, f1, f2, f3, f4⟩ := v5_facts JE.out.res
      simp [results, Tryz.results20, go_sem, r0, r1, r2, r3, r4]

theorem cmd_any (B rb n c : Nat) (a : Option Addr) (k : Int) (d : Nat) (w : World) (h : Rd B w rb a n c) (hB : B ≤ w.heap.size) (hk : 1 ≤ k ∧ k ≤ 7) (d1 : 1 ≤ d) (hd : d ≤ 100) :
    Calls Tryz.prog 20 #[.pointer (some ⟨rb, 0, none⟩), .int .i64 k, .int .i64 d] w fun e w' => CmPost 100 B w rb a n c e w' := by
  rcases (show k = 1 ∨ k = 2 ∨ k = 3 ∨ k = 4 ∨ k = 5 ∨ k = 6 ∨ k = 7 from by omega) with rfl | rfl | rfl | rfl | rfl | rfl | rfl
  · exact cmd1 B rb n c a d w h hB d1 hd
  · exact cmd2 B rb n c a d w h hB d1 hd
  · exact cmd3 B rb n c a d w h hB d1 hd
  · exact cmd4 B rb n c a d w h hB d1 hd
  · exact cmd5 B rb n c a d w h hB d1 hd
  · exact cmd6 B rb n c a d w h hB d1 hd
  · exact cmd7 B rb n c a d w h hB d1 hd
end Go.Proofs.YtggjcccdeaadbaaGreatDoor
/- The reader of drawn bytes: a command that is hurt. -/
namespace Go.Proofs.YtggjcccdeaadbaaGreatDoor
open Go.RowKit
set_option maxRecDepth 8000
set_option linter.unusedSimpArgs false
set_option linter.unusedVariables false

theorem but_below {g : Nat} {w w' : World} (h : Below w.heap.size w w') : But g w w' := ⟨h.os, h.tape, h.output, h.size, fun k hk _ => h.block k hk⟩

theorem owns_none (w : World) (base : Nat) (hb : base ≤ w.heap.size) : (w.alloc (.cells #[] 2)).ownsRow base 2 1 (.slice (some ⟨w.heap.size, 0, none⟩) 0 0) 0 [] :=
  ⟨rfl, .inr ⟨w.heap.size, 0, #[], rfl, hb, Go.Deep.blk_alloc_new _ _, Nat.le_refl _, by unfold maxLen; omega, rfl, rfl⟩⟩

theorem cmd_apart {w : World} {base g n cap b : Nat} {xs : List Value} {F : Nat → Value} (h : w.ownsRow base 2 1 (.slice (some ⟨g, 0, none⟩) n cap) n xs) (hb : w.rowIs b 26 5 F) : b ≠ g := by
  rintro rfl
  rcases h.2 with ⟨h0, _⟩ | ⟨g', cap', cur, hv, _, hh, _⟩
  · simp at h0
  · simp at hv
    obtain ⟨c, hc, _⟩ := hb
    rw [hv.1, hh] at hc
    simp at hc

set_option maxHeartbeats 8000000 in
set_option maxRecDepth 8000 in
theorem hurtCmd_any (B rb n c : Nat) (a : Option Addr) (k x y z : Int) (va : Option Addr) (m cap : Nat) (f : Nat → Int) (w0 w : World) (h : Rd B w rb a n c) (hB : B ≤ w0.heap.size) (hrb : rb < w0.heap.size) (hb : But rb w0 w) (hm : m ≤ 100) (ho : w.ownsRow w0.heap.size 2 1 (.slice va m cap) m (vals f m)) :
    Calls Tryz.prog 36 #[.pointer (some ⟨rb, 0, none⟩), .agg #[.int .i64 k, .int .i64 x, .int .i64 y, .int .i64 z, .slice va m cap]] w fun e w' => CmPost 200 B w0 rb a n c e w' := by
  obtain ⟨i0, hi, hzz⟩ := Option.map_eq_some_iff.1 Tryz.infoI64
  simp only [Prod.mk.injEq] at hzz
  obtain ⟨hz0, hz1, hz2⟩ := hzz
  have N := hide (fun w (h : Rd B w rb a n c) => below_any B rb n c a 30 w h (by omega) (by omega))
  have O := hide (fun (lo hi : Int) w (h : Rd B w rb a n c) (h1 : -2251799813685248 ≤ lo) (h2 : lo ≤ 2251799813685248) (h3 : -2251799813685248 ≤ hi) (h4 : hi ≤ 2251799813685248) => off_any B rb n c a lo hi w h h1 h2 h3 h4)
  have s0 := hb.size
  have J0 : Hid (CmJ 200 B w0 rb a n c (w.heap.size + 1) w.heap.size k x y z va m cap f ((w.alloc (.cells #[.int .i64 k, .int .i64 x, .int .i64 y, .int .i64 z, .slice va m cap] 26)).alloc (.cells #[.int .i64 0, .int .i64 0, .int .i64 0, .int .i64 0, .slice none 0 0] 26))) := hide
    ⟨by simpa using v5_new (w.alloc (.cells #[.int .i64 k, .int .i64 x, .int .i64 y, .int .i64 z, .slice va m cap] 26)) (.int .i64 0) (.int .i64 0) (.int .i64 0) (.int .i64 0) (.slice none 0 0) 26, World.rowIs.alloc (v5_new w _ _ _ _ _ _) _, (ho.alloc _).alloc _, by omega, (h.alloc _).alloc _, (hb.alloc _).alloc _, hB, hrb, by omega, s0, by omega⟩
  clear h hb ho
  go_enter Tryz.func36, Tryz.ntmps36
  go_wp2_with fail
  refine (N.out _ J0.out.rd).mono ?_
  rintro e w1 ⟨v, rfl, v0, v1, hr, hbb⟩
  have J1 := hide (J0.out.step hr hbb)
  have sz1 : w0.heap.size ≤ w1.heap.size := J1.out.but.size
  clear hr hbb J0 N
  obtain ⟨_, y0, y1, y2, y3, y4, g0, g1, g2, g3, g4⟩ := v5_facts J1.out.cmd
  obtain ⟨_, r0, r1, r2, r3, r4, f0, f1, f2, f3, f4⟩ := v5_facts J1.out.res

  by_cases e0 : v = 0
  · have z0 : (v == 0) = true := by simp [e0]
    clear e0
    go_wp2_with fail
    refine (O.out _ _ _ J1.out.rd (by omega) (by omega) (by omega) (by omega)).mono ?_
    rintro e w2 ⟨u, rfl, hr, hbb⟩
    have J2 := hide (J1.out.step hr hbb)
    clear hr hbb y0 y1 y2 y3 y4 g0 g1 g2 g3 g4 r0 r1 r2 r3 r4 f0 f1 f2 f3 f4 J1
    obtain ⟨_, y0, y1, y2, y3, y4, g0, g1, g2, g3, g4⟩ := v5_facts J2.out.cmd
    obtain ⟨_, r0, r1, r2, r3, r4, f0, f1, f2, f3, f4⟩ := v5_facts J2.out.res
    go_wp2_with fail
    have JE := hide (J2.out.set0 u)
    refine bodyPost_ret (v := _) ?_ rfl (JE.out.fin _ _ _ _ _)
    clear r0 r1 r2 r3 r4 f0 f1 f2 f3 f4
    obtain ⟨_, r0, r1, r2, r3, r4, f0, f1, f2, f3, f4⟩ := v5_facts JE.out.res
    simp [results, Tryz.results36, go_sem, r0, r1, r2, r3, r4]
  · have z0 : (v == 0) = false := by simp [e0]
    by_cases e1 : v = 1
    · have z1 : (v == 1) = true := by simp [e1]
      clear e1
      go_wp2_with fail
      refine (O.out _ _ _ J1.out.rd (by omega) (by omega) (by omega) (by omega)).mono ?_
      rintro e w2 ⟨u, rfl, hr, hbb⟩
      have J2 := hide (J1.out.step hr hbb)
      clear hr hbb y0 y1 y2 y3 y4 g0 g1 g2 g3 g4 r0 r1 r2 r3 r4 f0 f1 f2 f3 f4 J1
      obtain ⟨_, y0, y1, y2, y3, y4, g0, g1, g2, g3, g4⟩ := v5_facts J2.out.cmd
      obtain ⟨_, r0, r1, r2, r3, r4, f0, f1, f2, f3, f4⟩ := v5_facts J2.out.res
      go_wp2_with fail
      have JE := hide (J2.out.set1 u)
      refine bodyPost_ret (v := _) ?_ rfl (JE.out.fin _ _ _ _ _)
      clear r0 r1 r2 r3 r4 f0 f1 f2 f3 f4
      obtain ⟨_, r0, r1, r2, r3, r4, f0, f1, f2, f3, f4⟩ := v5_facts JE.out.res
      simp [results, Tryz.results36, go_sem, r0, r1, r2, r3, r4]
    · have z1 : (v == 1) = false := by simp [e1]
      by_cases e2 : v = 2
      · have z2 : (v == 2) = true := by simp [e2]
        clear e2
        go_wp2_with fail
        refine (O.out _ _ _ J1.out.rd (by omega) (by omega) (by omega) (by omega)).mono ?_
        rintro e w2 ⟨u, rfl, hr, hbb⟩
        have J2 := hide (J1.out.step hr hbb)
        clear hr hbb y0 y1 y2 y3 y4 g0 g1 g2 g3 g4 r0 r1 r2 r3 r4 f0 f1 f2 f3 f4 J1
        obtain ⟨_, y0, y1, y2, y3, y4, g0, g1, g2, g3, g4⟩ := v5_facts J2.out.cmd
        obtain ⟨_, r0, r1, r2, r3, r4, f0, f1, f2, f3, f4⟩ := v5_facts J2.out.res
        go_wp2_with fail
        have JE := hide (J2.out.set2 u)
        refine bodyPost_ret (v := _) ?_ rfl (JE.out.fin _ _ _ _ _)
        clear r0 r1 r2 r3 r4 f0 f1 f2 f3 f4
        obtain ⟨_, r0, r1, r2, r3, r4, f0, f1, f2, f3, f4⟩ := v5_facts JE.out.res
        simp [results, Tryz.results36, go_sem, r0, r1, r2, r3, r4]
      · have z2 : (v == 2) = false := by simp [e2]
        by_cases e3 : v = 3
        · have z3 : (v == 3) = true := by simp [e3]
          clear e3
          go_wp2_with fail
          refine (O.out _ _ _ J1.out.rd (by omega) (by omega) (by omega) (by omega)).mono ?_
          rintro e w2 ⟨u, rfl, hr, hbb⟩
          have J2 := hide (J1.out.step hr hbb)
          clear hr hbb y0 y1 y2 y3 y4 g0 g1 g2 g3 g4 r0 r1 r2 r3 r4 f0 f1 f2 f3 f4 J1
          obtain ⟨_, y0, y1, y2, y3, y4, g0, g1, g2, g3, g4⟩ := v5_facts J2.out.cmd
          obtain ⟨_, r0, r1, r2, r3, r4, f0, f1, f2, f3, f4⟩ := v5_facts J2.out.res
          go_wp2_with fail
          have JE := hide (J2.out.set3 u)
          refine bodyPost_ret (v := _) ?_ rfl (JE.out.fin _ _ _ _ _)
          clear r0 r1 r2 r3 r4 f0 f1 f2 f3 f4
          obtain ⟨_, r0, r1, r2, r3, r4, f0, f1, f2, f3, f4⟩ := v5_facts JE.out.res
          simp [results, Tryz.results36, go_sem, r0, r1, r2, r3, r4]
        · have z3 : (v == 3) = false := by simp [e3]
          by_cases e4 : v = 4
          · have z4 : (v == 4) = true := by simp [e4]
            have J2 := hide (J1.out.step (J1.out.rd.alloc (.cells #[] 2)) ((But.refl rb w1).alloc (.cells #[] 2)))
            obtain ⟨g, c', w3, hrun, ho3, hb3⟩ := run_app_own (P := Tryz.prog) (w1.alloc (.cells #[] 2)) 24 24 2 i0 Tryz.underlying24 hi hz0 hz1 hz2 w0.heap.size w1.heap.size (owns_none w1 _ sz1) (by simp; omega) va m cap f w0.heap.size J2.out.own (by omega)
            have HO3 := hide ho3
            have J3 := hide (J2.out.step (J2.out.rd.stays hb3) (but_below hb3))
            clear ho3 hb3 J2 e4 hi
            go_wp2_with (at_builtin; refine wpList_append_run rfl _ _ 24 rfl _ _ rfl rfl _ _ hrun ?_)
            refine (hurtVec3_any B rb n c a m c' g f w0 w3 J3.out.rd hB hrb J3.out.but hm HO3.out).mono ?_
            rintro e w4 ⟨v4, d4, f4', rfl, hd4, ho4, hr4, hb4, hk4⟩
            obtain ⟨a4, c4, rfl, _, _⟩ := row_of_owns ho4
            have rs4 := hide (J3.out.res.of_block (hk4.2 _ (World.rowIs.lt J3.out.res) (by have := J3.out.hp; omega) (cmd_apart HO3.out J3.out.res)))
            have cm4 := hide (J3.out.cmd.of_block (hk4.2 _ (World.rowIs.lt J3.out.cmd) (by have := J3.out.hq; omega) (cmd_apart HO3.out J3.out.cmd)))
            have O4 := hide ho4
            have R4 := hide hr4
            have B4 := hide hb4
            clear ho4 hr4 hb4 hk4 J1 J3 HO3 hrun y0 y1 y2 y3 y4 g0 g1 g2 g3 g4 r0 r1 r2 r3 r4 f0 f1 f2 f3 f4
            obtain ⟨_, y0, y1, y2, y3, y4, g0, g1, g2, g3, g4⟩ := v5_facts cm4.out
            obtain ⟨_, r0, r1, r2, r3, r4, f0, f1, f2, f3, f4⟩ := v5_facts rs4.out
            go_wp2_with fail
            have JE := hide (CmJ.make4 (L := 200) rs4.out cm4.out O4.out (by omega) R4.out B4.out hB hrb (by omega) (by omega) (by omega))
            refine bodyPost_ret (v := _) ?_ rfl (JE.out.fin _ _ _ _ _)
            clear r0 r1 r2 r3 r4 f0 f1 f2 f3 f4
            obtain ⟨_, r0, r1, r2, r3, r4, f0, f1, f2, f3, f4⟩ := v5_facts JE.out.res
            simp [results, Tryz.results36, go_sem, r0, r1, r2, r3, r4]
          · have z4 : (v == 4) = false := by simp [e4]
            by_cases e5 : v = 5
            · have z5 : (v == 5) = true := by simp [e5]
              clear e5
              go_wp2_with fail
              refine (O.out _ _ _ J1.out.rd (by omega) (by omega) (by omega) (by omega)).mono ?_
              rintro e w2 ⟨u, rfl, hr, hbb⟩
              have J2 := hide (J1.out.step hr hbb)
              clear hr hbb y0 y1 y2 y3 y4 g0 g1 g2 g3 g4 r0 r1 r2 r3 r4 f0 f1 f2 f3 f4 J1
              obtain ⟨_, y0, y1, y2, y3, y4, g0, g1, g2, g3, g4⟩ := v5_facts J2.out.cmd
              obtain ⟨_, r0, r1, r2, r3, r4, f0, f1, f2, f3, f4⟩ := v5_facts J2.out.res
              go_wp2_with fail
              have JE := hide (J2.out.set1 u)
              refine bodyPost_ret (v := _) ?_ rfl (JE.out.fin _ _ _ _ _)
              clear r0 r1 r2 r3 r4 f0 f1 f2 f3 f4
              obtain ⟨_, r0, r1, r2, r3, r4, f0, f1, f2, f3, f4⟩ := v5_facts JE.out.res
              simp [results, Tryz.results36, go_sem, r0, r1, r2, r3, r4]
            · have z5 : (v == 5) = false := by simp [e5]
              go_wp2_with fail
              have JE := hide (J1.out)
              refine bodyPost_ret (v := _) ?_ rfl (JE.out.fin _ _ _ _ _)
              clear r0 r1 r2 r3 r4 f0 f1 f2 f3 f4
              obtain ⟨_, r0, r1, r2, r3, r4, f0, f1, f2, f3, f4⟩ := v5_facts JE.out.res
              simp [results, Tryz.results36, go_sem, r0, r1, r2, r3, r4]
end Go.Proofs.YtggjcccdeaadbaaGreatDoor
/- Drawn commands and texts of commands: DrawCmdText, DrawReadCmd. -/
namespace Go.Proofs.YtggjcccdeaadbaaGreatDoor
open Go.RowKit
set_option maxRecDepth 8000
set_option linter.unusedSimpArgs false
set_option linter.unusedVariables false

/-- A drawn command. -/
def DrawC (w : World) (e : Ending) (w' : World) : Prop := ∃ (k x y z : Int) (va : Option Addr) (m cap : Nat) (f : Nat → Int), e = .returned (.agg #[.int .i64 k, .int .i64 x, .int .i64 y, .int .i64 z, .slice va m cap]) ∧ m ≤ 200 ∧ w'.ownsRow w.heap.size 2 1 (.slice va m cap) m (vals f m) ∧ Below w.heap.size w w'

theorem owns_five {w : World} {base : Nat} {v : Value} {n : Nat} {xs : List Value} {p : Nat} {F : Nat → Value} (h : w.ownsRow base 2 1 v n xs) (hp : w.rowIs p 26 5 F) (u0 u1 u2 u3 u4 : Value) :
    (((((w.setCell ⟨p, 0, none⟩ u0).setCell ⟨p, 1, none⟩ u1).setCell ⟨p, 2, none⟩ u2).setCell ⟨p, 3, none⟩ u3).setCell ⟨p, 4, none⟩ u4).ownsRow base 2 1 v n xs := by
  have r1 := World.rowIs.set hp 0 u0
  have r2 := World.rowIs.set r1 1 u1
  have r3 := World.rowIs.set r2 2 u2
  have r4 := World.rowIs.set r3 3 u3
  exact owns_cmd (owns_cmd (owns_cmd (owns_cmd (owns_cmd h hp 0 u0) r1 1 u1) r2 2 u2) r3 3 u3) r4 4 u4

set_option maxHeartbeats 4000000 in
set_option maxRecDepth 8000 in
theorem drawCmdOk_any (a : Option Addr) (n c : Nat) (w : World) (h : Code w a n) :
    Calls Tryz.prog 14 #[.slice a n c] w fun e w' => DrawC w e w' := by
  have hb0 : Below w.heap.size w (w.alloc (.cells #[.int .i64 0, .int .i64 0, .int .i64 0, .int .i64 0, .slice none 0 0] 26)) := balloc (Below.refl _ _) _
  have O := hide (open_any a n c _ (h.below hb0))
  have Z0 := hide (v5_new w (.int .i64 0) (.int .i64 0) (.int .i64 0) (.int .i64 0) (.slice none 0 0) 26)
  have B0 := hide hb0
  clear h hb0
  go_enter Tryz.func14, Tryz.ntmps14
  go_wp2_with fail
  refine O.out.mono ?_
  rintro e w1 ⟨rfl, hr1, hb1, hs1⟩
  have Z1 := hide (row_belowC Z0.out hb1)
  have B1 := hide (bstep B0.out hb1)
  have R1 := hide hr1
  clear hr1 hb1 O Z0
  simp only [World.size_alloc] at R1 hs1 ⊢
  go_wp2_with fail
  refine (below_any _ _ n c a 7 w1 R1.out (by omega) (by omega)).mono ?_
  rintro e w2 ⟨v, rfl, v0, v1, hr2, hb2⟩
  have R2 := hide hr2
  have U2 := hide hb2
  have s2 := hb2.size
  clear hr2 hb2 R1
  go_wp2_with fail
  refine (below_any _ _ n c a 4 w2 R2.out (by omega) (by omega)).mono ?_
  rintro e w3 ⟨u, rfl, u0, u1, hr3, hb3⟩
  have R3 := hide hr3
  have U3 := hide (U2.out.trans hb3)
  have s3 := hb3.size
  obtain ⟨d, hd⟩ : ∃ d : Nat, 1 + u = (d : Int) := ⟨(1 + u).toNat, by omega⟩
  clear hr3 hb3 R2 U2
  go_wp2_with fail
  refine (cmd_any _ _ n c a (1 + v) d w3 R3.out (by omega) (by omega) (by omega) (by omega)).mono ?_
  rintro e w4 ⟨k, x, y, z, va, m, cap, f, rfl, hm, ho4, hr4, hb4⟩
  have R4 := hide hr4
  have O4 := hide ho4
  have b34 := hide hb4
  have s4 := hb4.size
  clear hr4 hb4 ho4 R3
  go_wp2_with fail
  refine (hurtCmd_any _ _ n c a k x y z va m cap f w3 w4 R4.out (by omega) (by omega) b34.out hm O4.out).mono ?_
  rintro e w5 ⟨k5, x5, y5, z5, va5, m5, cap5, f5, rfl, hm5, ho5, hr5, hb5⟩
  have U5 := hide (U3.out.trans hb5)
  have Z5 := hide (Z1.out.of_block (U5.out.block _ (World.rowIs.lt Z1.out) (by omega)))
  have B5 := hide (B1.out.trans (U5.out.below (B := w.heap.size) (by omega) (by omega)))
  have O5 := hide ho5
  clear hr5 hb5 ho5 U3 U5 Z1 B1 B0 R4 O4 b34
  obtain ⟨_, r0, r1, r2, r3, r4, f0, f1, f2, f3, f4⟩ := v5_facts Z5.out
  go_wp2_with fail
  obtain ⟨_, e0, e1, e2, e3, e4, _⟩ := v5_facts (five_set Z5.out (.int .i64 k5) (.int .i64 x5) (.int .i64 y5) (.int .i64 z5) (.slice va5 m5 cap5))
  refine bodyPost_ret (v := .agg #[.int .i64 k5, .int .i64 x5, .int .i64 y5, .int .i64 z5, .slice va5 m5 cap5]) (by simp [results, Tryz.results14, go_sem, e0, e1, e2, e3, e4]) rfl ?_
  exact ⟨k5, x5, y5, z5, va5, m5, cap5, f5, rfl, hm5, owns_base (by omega) (owns_five O5.out Z5.out _ _ _ _ _), below5 B5.out (Nat.le_refl _) _ _ _ _ _⟩

set_option maxHeartbeats 2000000 in
theorem drawCmdText_any (a : Option Addr) (n c : Nat) (w : World) (h : Code w a n) :
    Calls Tryz.prog 5 #[.slice a n c] w fun e w' => DrawC w e w' := by
  have hb0 : Below w.heap.size w (w.alloc (.cells #[.int .i64 0, .int .i64 0, .int .i64 0, .int .i64 0, .slice none 0 0] 26)) := balloc (Below.refl _ _) _
  have O := hide (drawCmdOk_any a n c _ (h.below hb0))
  have Z0 := hide (v5_new w (.int .i64 0) (.int .i64 0) (.int .i64 0) (.int .i64 0) (.slice none 0 0) 26)
  have B0 := hide hb0
  clear h hb0
  go_enter Tryz.func5, Tryz.ntmps5
  go_wp2_with fail
  refine O.out.mono ?_
  rintro e w1 ⟨k5, x5, y5, z5, va5, m5, cap5, f5, rfl, hm5, ho5, hb1⟩
  have Z5 := hide (row_belowC Z0.out hb1)
  have B5 := hide (bstep B0.out hb1)
  have O5 := hide ho5
  clear hb1 ho5 Z0 B0 O
  obtain ⟨_, r0, r1, r2, r3, r4, f0, f1, f2, f3, f4⟩ := v5_facts Z5.out
  go_wp2_with fail
  obtain ⟨_, e0, e1, e2, e3, e4, _⟩ := v5_facts (five_set Z5.out (.int .i64 k5) (.int .i64 x5) (.int .i64 y5) (.int .i64 z5) (.slice va5 m5 cap5))
  refine bodyPost_ret (v := .agg #[.int .i64 k5, .int .i64 x5, .int .i64 y5, .int .i64 z5, .slice va5 m5 cap5]) (by simp [results, Tryz.results5, go_sem, e0, e1, e2, e3, e4]) rfl ?_
  exact ⟨k5, x5, y5, z5, va5, m5, cap5, f5, rfl, hm5, owns_base (by simp) (owns_five O5.out Z5.out _ _ _ _ _), below5 B5.out (Nat.le_refl _) _ _ _ _ _⟩

/-- A drawn text. -/
def DrawTC (w : World) (e : Ending) (w' : World) : Prop := ∃ t : ByteArray, e = .returned (.string t) ∧ t.size ≤ 1000 ∧ Below w.heap.size w w'

theorem cmdT_size (k a b c : Int) (n : Nat) (xs : List Int) : (bs (cmdT k a b c n xs)).size ≤ 200 := by
  rw [bs_size]
  cases h : cmdB k a b c n xs
  · unfold cmdT; rw [h]; simp
  · exact cmdT_len h

theorem fourteen (v : Int) (h0 : 0 ≤ v) (h1 : v ≤ 13) : v = 0 ∨ v = 1 ∨ v = 2 ∨ v = 3 ∨ v = 4 ∨ v = 5 ∨ v = 6 ∨ v = 7 ∨ v = 8 ∨ v = 9 ∨ v = 10 ∨ v = 11 ∨ v = 12 ∨ v = 13 := by omega

set_option maxHeartbeats 8000000 in
set_option maxRecDepth 8000 in
theorem drawReadCmd_any (a : Option Addr) (n c : Nat) (w : World) (h : Code w a n) :
    Calls Tryz.prog 7 #[.slice a n c] w fun e w' => DrawTC w e w' := by
  have O := hide (open_any a n c w h)
  clear h
  go_enter Tryz.func7, Tryz.ntmps7
  go_wp2_with fail
  refine O.out.mono ?_
  rintro e w1 ⟨rfl, hr1, hb1, hs1⟩
  go_wp2_with fail
  refine (below_any _ _ n c a 7 w1 hr1 (by omega) (by omega)).mono ?_
  rintro e w2 ⟨v, rfl, v0, v1, hr2, hb2⟩
  have R2 := hide hr2
  have B2 := hide (hb1.trans (hb2.below (Nat.le_refl _) (by omega)))
  have s2 := hb2.size
  clear hr1 hb1 hr2 hb2 O
  go_wp2_with fail
  refine (below_any _ _ n c a 4 w2 R2.out (by omega) (by omega)).mono ?_
  rintro e w3 ⟨u, rfl, u0, u1, hr3, hb3⟩
  have R3 := hide hr3
  have B3 := hide (B2.out.trans (hb3.below (Nat.le_refl _) (by omega)))
  have s3 := hb3.size
  obtain ⟨d, hd⟩ : ∃ d : Nat, 1 + u = (d : Int) := ⟨(1 + u).toNat, by omega⟩
  clear hr3 hb3 R2 B2
  go_wp2_with fail
  refine (cmd_any _ _ n c a (1 + v) d w3 R3.out (by omega) (by omega) (by omega) (by omega)).mono ?_
  rintro e w4 ⟨k, x, y, z, va, m, cap, f, rfl, hm, ho4, hr4, hb4⟩
  obtain ⟨a5, c5, ev, r5, _⟩ := row_of_owns ho4
  have ev' : va = a5 ∧ cap = c5 := by simpa using ev
  obtain ⟨rfl, rfl⟩ := ev'
  have R4 := hide hr4
  have B4 := hide (B3.out.trans (hb4.below (Nat.le_refl _) (by omega)))
  have s4 := hb4.size
  clear hr4 hb4 ho4 R3 B3 ev
  go_wp2_with fail
  refine (sCmdText_any k x y z va m cap _ w4 r5 (by omega)).mono ?_
  rintro e w6 ⟨rfl, hb6⟩
  have R6 := hide (R4.out.stays hb6)
  have B6 := hide (bstep B4.out hb6)
  have s6 := hb6.size
  have sl := cmdT_size k x y z m (ints f m)
  obtain ⟨S, hS⟩ : ∃ S, bs (cmdT k x y z m (ints f m)) = S := ⟨_, rfl⟩
  rw [hS] at sl
  rw [hS]
  clear hS hb6 B4 R4 r5
  go_wp2_with fail
  refine (below_any _ _ n c a 6 w6 R6.out (by omega) (by omega)).mono ?_
  rintro e w7 ⟨v7, rfl, p0, p1, hr7, hb7⟩
  have R7 := hide hr7
  have B7 := hide (B6.out.trans (hb7.below (Nat.le_refl _) (by omega)))
  have s7 := hb7.size
  clear hr7 hb7 R6 B6
  have hD : v7 = 0 ∨ v7 = 1 ∨ ((v7 == 0) = false ∧ (v7 == 1) = false) := by
    simp only [beq_eq_false_iff_ne]; omega
  rcases hD with rfl | rfl | ⟨q0, q1⟩
  · go_wp2_with fail
    refine (hurtStr_any _ _ n c a S w7 R7.out (by omega) (by omega)).mono ?_
    rintro e w8 ⟨t, rfl, ht, hr8, hb8⟩
    have B8 := hide (B7.out.trans (hb8.below (Nat.le_refl _) (by omega)))
    clear hr8 hb8
    go_wp2_with fail
    go_ret
    exact ⟨_, rfl, by omega, B8.out⟩
  · go_wp2_with fail
    refine (below_any _ _ n c a 14 _ (R7.out.alloc _) (by omega) (by omega)).mono ?_
    rintro e w8 ⟨y8, rfl, y80, y81, hr8, hb8⟩
    have B8 := hide ((balloc B7.out (_)).trans (hb8.below (Nat.le_refl _) (by simp; omega)))
    have ne : ¬ w7.heap.size = w.heap.size := by omega
    clear hr8
    rcases fourteen y8 y80 (by omega) with rfl | rfl | rfl | rfl | rfl | rfl | rfl | rfl | rfl | rfl | rfl | rfl | rfl | rfl
    · have z := hb8.cell (p := ⟨w7.heap.size, 0, none⟩) (by simp) ne
      simp at z
      clear hb8
      go_wp2_with fail
      go_ret
      exact ⟨_, rfl, by decide, B8.out⟩
    · have z := hb8.cell (p := ⟨w7.heap.size, 1, none⟩) (by simp) ne
      simp at z
      clear hb8
      go_wp2_with fail
      go_ret
      exact ⟨_, rfl, by decide, B8.out⟩
    · have z := hb8.cell (p := ⟨w7.heap.size, 2, none⟩) (by simp) ne
      simp at z
      clear hb8
      go_wp2_with fail
      go_ret
      exact ⟨_, rfl, by decide, B8.out⟩
    · have z := hb8.cell (p := ⟨w7.heap.size, 3, none⟩) (by simp) ne
      simp at z
      clear hb8
      go_wp2_with fail
      go_ret
      exact ⟨_, rfl, by decide, B8.out⟩
    · have z := hb8.cell (p := ⟨w7.heap.size, 4, none⟩) (by simp) ne
      simp at z
      clear hb8
      go_wp2_with fail
      go_ret
      exact ⟨_, rfl, by decide, B8.out⟩
    · have z := hb8.cell (p := ⟨w7.heap.size, 5, none⟩) (by simp) ne
      simp at z
      clear hb8
      go_wp2_with fail
      go_ret
      exact ⟨_, rfl, by decide, B8.out⟩
    · have z := hb8.cell (p := ⟨w7.heap.size, 6, none⟩) (by simp) ne
      simp at z
      clear hb8
      go_wp2_with fail
      go_ret
      exact ⟨_, rfl, by decide, B8.out⟩
    · have z := hb8.cell (p := ⟨w7.heap.size, 7, none⟩) (by simp) ne
      simp at z
      clear hb8
      go_wp2_with fail
      go_ret
      exact ⟨_, rfl, by decide, B8.out⟩
    · have z := hb8.cell (p := ⟨w7.heap.size, 8, none⟩) (by simp) ne
      simp at z
      clear hb8
      go_wp2_with fail
      go_ret
      exact ⟨_, rfl, by decide, B8.out⟩
    · have z := hb8.cell (p := ⟨w7.heap.size, 9, none⟩) (by simp) ne
      simp at z
      clear hb8
      go_wp2_with fail
      go_ret
      exact ⟨_, rfl, by decide, B8.out⟩
    · have z := hb8.cell (p := ⟨w7.heap.size, 10, none⟩) (by simp) ne
      simp at z
      clear hb8
      go_wp2_with fail
      go_ret
      exact ⟨_, rfl, by decide, B8.out⟩
    · have z := hb8.cell (p := ⟨w7.heap.size, 11, none⟩) (by simp) ne
      simp at z
      clear hb8
      go_wp2_with fail
      go_ret
      exact ⟨_, rfl, by decide, B8.out⟩
    · have z := hb8.cell (p := ⟨w7.heap.size, 12, none⟩) (by simp) ne
      simp at z
      clear hb8
      go_wp2_with fail
      go_ret
      exact ⟨_, rfl, by decide, B8.out⟩
    · have z := hb8.cell (p := ⟨w7.heap.size, 13, none⟩) (by simp) ne
      simp at z
      clear hb8
      go_wp2_with fail
      go_ret
      exact ⟨_, rfl, by decide, B8.out⟩
  · go_wp2_with fail
    go_ret
    exact ⟨_, rfl, by omega, B7.out⟩
end Go.Proofs.YtggjcccdeaadbaaGreatDoor
