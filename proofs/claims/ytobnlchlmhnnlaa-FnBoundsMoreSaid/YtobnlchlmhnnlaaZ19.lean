/- Drawn boxes: box; DrawLowOf, DrawHighOf. -/
import Derived.Test.YtobnlchlmhnnlaaZ13
import Derived.Test.YtobnlchlmhnnlaaZ10
import Derived.Test.YtobnlchlmhnnlaaZ7
import Derived.Test.YtobnlchlmhnnlaaZ16
import Derived.Deep.RegionHeld3
import Derived.Test.YtobnlchlmhnnlaaZ4
import Derived.Test.YtobnlchlmhnnlaaZ1
namespace Go.Proofs.Ytobnlchlmhnnlaa
open Go.RowKit
set_option maxRecDepth 8000
set_option linter.unusedSimpArgs false
set_option linter.unusedVariables false

theorem pvals_congr {f g f' g' : Nat → Int} : ∀ {k : Nat}, (∀ j, j < k → f j = f' j ∧ g j = g' j) → pvals f g k = pvals f' g' k
  | 0, _ => rfl
  | k + 1, h => by
    simp only [pvals]
    rw [pvals_congr (k := k) (fun j hj => h j (by omega)), (h k (by omega)).1, (h k (by omega)).2]
def putAt (k : Nat) (x : Int) (f : Nat → Int) (j : Nat) : Int := if j = k then x else f j

theorem pvals_snoc (f g : Nat → Int) (k : Nat) (x y : Int) : pvals f g k ++ [.int .i64 x, .int .i64 y] = pvals (putAt k x f) (putAt k y g) (k + 1) := by
  have e : pvals (putAt k x f) (putAt k y g) k = pvals f g k := pvals_congr fun j hj => by simp [putAt, show j ≠ k by omega]
  simp only [pvals]
  rw [e]
  simp [putAt]

/-- The numbers that a drawn box may have. -/
def Bds (f g : Nat → Int) (k : Nat) : Prop := ∀ j, j < k → -4000000 ≤ f j ∧ f j ≤ 4000000 ∧ -4000000 ≤ g j ∧ g j ≤ 4000000

theorem Bds.snoc {f g : Nat → Int} {k : Nat} (h : Bds f g k) {x y : Int} (x0 : -4000000 ≤ x) (x1 : x ≤ 4000000) (y0 : -4000000 ≤ y) (y1 : y ≤ 4000000) : Bds (putAt k x f) (putAt k y g) (k + 1) := by
  intro j hj
  unfold putAt
  by_cases e : j = k
  · rw [if_pos e, if_pos e]; exact ⟨x0, x1, y0, y1⟩
  · rw [if_neg e, if_neg e]; exact h j (by omega)

def BoxPost (B : Nat) (w : World) (rb : Nat) (a : Option Addr) (n c d : Nat) (e : Ending) (w' : World) : Prop :=
  ∃ (v : Value) (f g : Nat → Int), e = .returned v ∧ w'.ownsRow w.heap.size 34 2 v d (pvals f g d) ∧ Bds f g d ∧ Rd B w' rb a n c ∧ But rb w w'

set_option maxHeartbeats 4000000 in
theorem box_any (B rb n c : Nat) (a : Option Addr) (d : Nat) (w : World) (h : Rd B w rb a n c) (hB : B ≤ w.heap.size) (hd : d ≤ 100) :
    Calls Try.prog 27 #[.pointer (some ⟨rb, 0, none⟩), .int .i64 d] w fun e w' => BoxPost B w rb a n c d e w' := by
  obtain ⟨i0, hi, hz0, hz1, hz2⟩ := infoRange_parts
  have HH := hide h
  have hltw := h.lt
  clear h
  go_enter Try.func27, Try.ntmps27
  go_wp2_with fail
  go_loopw [5, 6] (fun v i wr => ∃ (k : Nat) (f g : Nat → Int), k ≤ d ∧ i = .int .i64 k ∧ wr.ownsRow w.heap.size 34 2 v k (pvals f g k) ∧ Bds f g k ∧ Rd B wr rb a n c ∧ But rb w wr) (fun _ i _ => d - (intOf i).toNat)
  case atStart => exact ⟨0, fun _ => 0, fun _ => 0, Nat.zero_le _, rfl, World.ownsRow_made w #[] 0 (Nat.le_refl _) (Nat.zero_le _) rfl, (fun j hj => absurd hj (by omega)), HH.out.alloc _, (But.refl _ _).alloc _⟩
  case round =>
    obtain ⟨k, f, g, hk, rfl, hown, hbd, hr, hb⟩ := hrel
    by_cases hlt : k < d
    · have SP := hide (span_any B rb n c a wr hr)
      have O8 := hide (fun w (h : Rd B w rb a n c) => once_any B rb n c a 8 w h (by omega) (by omega))
      have HO := hide hown
      have HBB := hide hb
      have HD := hide hbd
      have hltr := hr.lt
      have hsw := hb.size
      have fin : Hid (∀ (x y : Int) (wq : World), -4000000 ≤ x → x ≤ 4000000 → -4000000 ≤ y → y ≤ 4000000 → Rd B wq rb a n c → But rb wr wq → wq.ownsRow w.heap.size 34 2 u5 k (pvals f g k) ∧ But rb w wq ∧ w.heap.size ≤ wq.heap.size ∧ Bds (putAt k x f) (putAt k y g) (k + 1)) :=
        fun x y wq x0 x1 y0 y1 hR hbq => ⟨owns_but HO.out hbq hltw, HBB.out.trans hbq, Nat.le_trans hsw hbq.size, HD.out.snoc x0 x1 y0 y1⟩
      clear hr hb hown hbd
      go_wp2_with fail
      refine SP.out.mono ?_
      rintro e w1 ⟨lo, hi', rfl, a0, a1, a2, a3, hr1, hb1⟩
      have s1 := hb1.size
      by_cases hxy : hi' < lo
      · go_wp2_with fail
        refine (O8.out _ (hr1.alloc _)).mono ?_
        rintro e w2 ⟨v8, rfl, hr2, hb2⟩
        have X := hide ((Bx.new w1 (.int .i64 lo) (.int .i64 hi') 34).but hb2 (by omega))
        obtain ⟨x1, x2, x3, x4, x5⟩ := X.out
        have hbq := (hb1.alloc (.cells #[.int .i64 lo, .int .i64 hi'] 34)).trans hb2
        cases v8
        · have hR := hr2.but (((But.refl w1.heap.size w2).setCell 0 (.int .i64 hi')).setCell 1 (.int .i64 lo)) (by omega) (by omega)
          have hb3 := but_far (but_far hbq (show wr.heap.size ≤ w1.heap.size by omega) 0 (.int .i64 hi')) (show wr.heap.size ≤ w1.heap.size by omega) 1 (.int .i64 lo)
          obtain ⟨o3, b3, s3, d3⟩ := fin.out hi' lo _ a2 a3 a0 a1 hR hb3
          have HO3 := hide o3
          have HB3 := hide b3
          have HR3 := hide hR
          have HD3 := hide d3
          clear o3 b3 hR d3 hb3 hbq hr2 hb2 hr1 hb1 SP O8 HO HBB
          go_wp2_with (at_builtin; refine wpList_append_own _ rfl _ _ 24 rfl w.heap.size 34 i0 _ 2 16 Try.underlying24 hi hz0 hz1 hz2 rfl (by decide) _ _ _ rfl (HO3.out.alloc _) ⟨_, 0, none⟩ 1 1 [.int .i64 hi', .int .i64 lo] rfl rfl ?c1 ?c2 ?c3 ?c4 ?c5 ?_)
          case c1 => (have q := two_new ((w2.setCell ⟨w1.heap.size, 0, none⟩ (.int .i64 hi')).setCell ⟨w1.heap.size, 1, none⟩ (.int .i64 lo)) (.int .i64 hi') (.int .i64 lo) 34; simp only [World.size_setCell] at q; exact q)
          case c2 => intro u hu; simp at hu; rcases hu with rfl | rfl <;> rfl
          case c3 => unfold maxLen; omega
          case c4 => omega
          case c5 => simp; simp at s3; omega
          intro v' w3 hown2 hgrow _
          rw [pvals_snoc] at hown2
          have hB2 := but_app HB3.out HO3.out hgrow
          have hR2 := HR3.out.app hltw hB HO3.out hgrow
          have HO2 := hide hown2
          have HB2 := hide hB2
          have HR2 := hide hR2
          clear hgrow hown2 hB2 hR2 HO3
          go_wp2_with fail
          go_roundw
          case rel => exact ⟨k + 1, _, _, by omega, by go_num, HO2.out, HD3.out, HR2.out, HB2.out⟩
          case measure => simp [intOf]; omega
        · obtain ⟨o3, b3, s3, d3⟩ := fin.out lo hi' _ a0 a1 a2 a3 hr2 hbq
          have HO3 := hide o3
          have HB3 := hide b3
          have HR3 := hide hr2
          have HD3 := hide d3
          clear o3 b3 hr2 d3 hbq hb2 hr1 hb1 SP O8 HO HBB
          go_wp2_with (at_builtin; refine wpList_append_own _ rfl _ _ 24 rfl w.heap.size 34 i0 _ 2 16 Try.underlying24 hi hz0 hz1 hz2 rfl (by decide) _ _ _ rfl (HO3.out.alloc _) ⟨_, 0, none⟩ 1 1 [.int .i64 lo, .int .i64 hi'] rfl rfl ?c1 ?c2 ?c3 ?c4 ?c5 ?_)
          case c1 => exact two_new _ _ _ _
          case c2 => intro u hu; simp at hu; rcases hu with rfl | rfl <;> rfl
          case c3 => unfold maxLen; omega
          case c4 => omega
          case c5 => simp; omega
          intro v' w3 hown2 hgrow _
          rw [pvals_snoc] at hown2
          have hB2 := but_app HB3.out HO3.out hgrow
          have hR2 := HR3.out.app hltw hB HO3.out hgrow
          have HO2 := hide hown2
          have HB2 := hide hB2
          have HR2 := hide hR2
          clear hgrow hown2 hB2 hR2 HO3
          go_wp2_with fail
          go_roundw
          case rel => exact ⟨k + 1, _, _, by omega, by go_num, HO2.out, HD3.out, HR2.out, HB2.out⟩
          case measure => simp [intOf]; omega
      · obtain ⟨o3, b3, s3, d3⟩ := fin.out lo hi' _ a0 a1 a2 a3 (hr1.alloc (.cells #[.int .i64 lo, .int .i64 hi'] 34)) (hb1.alloc (.cells #[.int .i64 lo, .int .i64 hi'] 34))
        have HO3 := hide o3
        have HB3 := hide b3
        have HR3 := hide (hr1.alloc (.cells #[.int .i64 lo, .int .i64 hi'] 34))
        have HD3 := hide d3
        clear o3 b3 d3 hr1 hb1 SP O8 HO HBB
        go_wp2_with (at_builtin; refine wpList_append_own _ rfl _ _ 24 rfl w.heap.size 34 i0 _ 2 16 Try.underlying24 hi hz0 hz1 hz2 rfl (by decide) _ _ _ rfl (HO3.out.alloc _) ⟨_, 0, none⟩ 1 1 [.int .i64 lo, .int .i64 hi'] rfl rfl ?c1 ?c2 ?c3 ?c4 ?c5 ?_)
        case c2 => exact ⟨rfl, rfl⟩
        case c3 => unfold maxLen; omega
        case c4 => omega
        case c5 => first | omega | (simp at s3; omega)
        intro v' w3 hown2 hgrow _
        rw [pvals_snoc] at hown2
        have hB2 := but_app HB3.out HO3.out hgrow
        have hR2 := HR3.out.app hltw hB HO3.out hgrow
        have HO2 := hide hown2
        have HB2 := hide hB2
        have HR2 := hide hR2
        clear hgrow hown2 hB2 hR2 HO3
        go_wp2_with fail
        go_roundw
        case rel => exact ⟨k + 1, _, _, by omega, by go_num, HO2.out, HD3.out, HR2.out, HB2.out⟩
        case measure => simp [intOf]; omega
    · have hkn : k = d := by omega
      subst hkn
      go_wp2_with fail
      go_ret
      exact ⟨_, f, g, rfl, hown, hbd, hr, hb⟩
end Go.Proofs.Ytobnlchlmhnnlaa

/- Drawn boxes and vectors: DrawLowOf, DrawHighOf. -/
namespace Go.Proofs.Ytobnlchlmhnnlaa
open Go.RowKit
set_option maxRecDepth 8000
set_option linter.unusedSimpArgs false
set_option linter.unusedVariables false

def LowPost (w : World) (e : Ending) (w' : World) : Prop :=
  ∃ (a1 : Option Addr) (n1 c1 : Nat) (f g : Nat → Int) (a2 : Option Addr) (n2 c2 : Nat) (ys : List Int), e = .returned (.tuple #[.slice a1 n1 c1, .slice a2 n2 c2]) ∧ PRow w' a1 n1 f g ∧ Bds f g n1 ∧ Row w' a2 n2 ys ∧ n1 ≤ 200 ∧ n2 ≤ 200 ∧ Below w.heap.size w w'



end Go.Proofs.Ytobnlchlmhnnlaa
/- Drawn boxes and vectors of them: inside, DrawBoxHas. -/
namespace Go.Proofs.Ytobnlchlmhnnlaa
open Go.RowKit
set_option maxRecDepth 8000
set_option linter.unusedSimpArgs false
set_option linter.unusedVariables false

/-- Two cells that are read. -/
structure Duo (w : World) (b o : Nat) (lo hi : Int) : Prop where
  c0 : w.cell? ⟨b, o, none⟩ = some (.int .i64 lo)
  c1 : w.cell? ⟨b, o + 1, none⟩ = some (.int .i64 hi)

theorem Duo.drew {w : World} {b o : Nat} {lo hi : Int} (h : Duo w b o lo hi) : Duo w.drew b o lo hi := ⟨h.c0, h.c1⟩



end Go.Proofs.Ytobnlchlmhnnlaa
/- Drawn pairs of boxes: DrawBoxLeq, DrawBoxJoin. -/
namespace Go.Proofs.Ytobnlchlmhnnlaa
open Go.RowKit
set_option maxRecDepth 8000
set_option linter.unusedSimpArgs false
set_option linter.unusedVariables false

theorem prow_butU {rb : Nat} {w w' : World} {a : Option Addr} {n : Nat} {f g : Nat → Int} (h : PRow w a n f g) (hb : But rb w w') (hq : ∀ b off, a = some ⟨b, off, none⟩ → b ≠ rb) : PRow w' a n f g := by
  rcases h.lies with h0 | ⟨b, off, e, lt, hc⟩
  · exact ⟨.inl h0⟩
  · have hk := hb.block b lt (hq b off e)
    exact ⟨.inr ⟨b, off, e, Nat.lt_of_lt_of_le lt hb.size, fun i hi => ⟨(World.cell?_of_block (a := ⟨b, off + i * 2, none⟩) hk).trans (hc i hi).1, (World.cell?_of_block (a := ⟨b, off + i * 2 + 1, none⟩) hk).trans (hc i hi).2⟩⟩⟩
/-- Ranges in a block that may be written. -/
def WP (w : World) (b n : Nat) (f g : Nat → Int) : Prop := ∃ (N : Nat) (F : Nat → Value), w.rowIs b 34 N F ∧ n * 2 ≤ N ∧ ∀ i, i < n → F (i * 2) = .int .i64 (f i) ∧ F (i * 2 + 1) = .int .i64 (g i)

theorem WP.of {w : World} {base g n cap : Nat} {f f' : Nat → Int} (h : w.ownsRow base 34 2 (.slice (some ⟨g, 0, none⟩) n cap) n (pvals f f' n)) : WP w g n f f' := by
  rcases h.2 with ⟨e, _⟩ | ⟨g', cap', cur, hv, hg, hh, hcap, hm, hs, ht⟩
  · cases e
  · simp only [Value.slice.injEq, Option.some.injEq, Addr.mk.injEq] at hv
    obtain ⟨⟨rfl, _⟩, _, rfl⟩ := hv
    have hat : ∀ j, j < n * 2 → cur[j]? = (pvals f f' n)[j]? := by
      intro j hj
      rw [← ht, List.getElem?_take_of_lt hj, Array.getElem?_toList]
    refine ⟨cur.size, fun j => cur[j]?.getD (.slice none 0 0), ⟨cur, hh, rfl, fun j hj => by simp [hj]⟩, by omega, fun i hi => ?_⟩
    obtain ⟨p0, p1⟩ := pvals_at f f' n i hi
    refine ⟨?_, ?_⟩
    · show cur[i * 2]?.getD _ = _
      rw [hat (i * 2) (by omega), p0]; rfl
    · show cur[i * 2 + 1]?.getD _ = _
      rw [hat (i * 2 + 1) (by omega), p1]; rfl

theorem WP.lt {w : World} {b n : Nat} {f g : Nat → Int} (h : WP w b n f g) : b < w.heap.size := by obtain ⟨_, _, hb, _⟩ := h; exact World.rowIs.lt hb

theorem WP.keep {w w' : World} {b n : Nat} {f g : Nat → Int} (h : WP w b n f g) (e : w'.heap[b]? = w.heap[b]?) : WP w' b n f g := by
  obtain ⟨N, F, hb, h1, h2⟩ := h
  exact ⟨N, F, World.rowIs.of_block hb e, h1, h2⟩

theorem WP.below {w w' : World} {b n : Nat} {f g : Nat → Int} (h : WP w b n f g) (hb : Below w.heap.size w w') : WP w' b n f g := h.keep (hb.block b h.lt)

theorem WP.but {w w' : World} {b n rb : Nat} {f g : Nat → Int} (h : WP w b n f g) (hb : But rb w w') (hne : b ≠ rb) : WP w' b n f g := h.keep (hb.block b h.lt hne)

theorem WP.c0 {w : World} {b n : Nat} {f g : Nat → Int} (h : WP w b n f g) {i : Nat} (hi : i < n) : w.cell? ⟨b, i * 2, none⟩ = some (.int .i64 (f i)) := by
  obtain ⟨N, F, hb, h1, h2⟩ := h
  rw [World.rowIs.cell hb (i := i * 2) (by omega), (h2 i hi).1]

theorem WP.c1 {w : World} {b n : Nat} {f g : Nat → Int} (h : WP w b n f g) {i : Nat} (hi : i < n) : w.cell? ⟨b, i * 2 + 1, none⟩ = some (.int .i64 (g i)) := by
  obtain ⟨N, F, hb, h1, h2⟩ := h
  rw [World.rowIs.cell hb (i := i * 2 + 1) (by omega), (h2 i hi).2]

theorem WP.fz {w : World} {b n : Nat} {f g : Nat → Int} (h : WP w b n f g) (o : Nat) : w.frozen? ⟨b, o, none⟩ = false := by
  obtain ⟨N, F, hb, _⟩ := h
  exact World.rowIs.frozen hb o

theorem WP.prow {w : World} {b n : Nat} {f g : Nat → Int} (h : WP w b n f g) : PRow w (some ⟨b, 0, none⟩) n f g :=
  ⟨.inr ⟨b, 0, rfl, h.lt, fun i hi => by rw [Nat.zero_add]; exact ⟨h.c0 hi, h.c1 hi⟩⟩⟩

theorem WP.set {w : World} {b n : Nat} {f g : Nat → Int} (h : WP w b n f g) (k : Nat) (x y : Int) :
    WP ((w.setCell ⟨b, k * 2, none⟩ (.int .i64 x)).setCell ⟨b, k * 2 + 1, none⟩ (.int .i64 y)) b n (fun i => if i = k then x else f i) (fun i => if i = k then y else g i) := by
  obtain ⟨N, F, hb, h1, h2⟩ := h
  refine ⟨N, _, World.rowIs.set (World.rowIs.set hb (k * 2) _) (k * 2 + 1) _, h1, fun i hi => ?_⟩
  by_cases e : i = k
  · subst e; simp
  · simp only [e, if_false, show ¬ i * 2 = k * 2 + 1 by omega, show ¬ i * 2 = k * 2 by omega, show ¬ i * 2 + 1 = k * 2 + 1 by omega, show ¬ i * 2 + 1 = k * 2 by omega]
    exact h2 i hi

theorem rd_farU {B : Nat} {w : World} {rb : Nat} {a : Option Addr} {n c : Nat} (h : Rd B w rb a n c) (g o : Nat) (v : Value) (hg : B ≤ g) (hne : rb ≠ g) : Rd B (w.setCell ⟨g, o, none⟩ v) rb a n c :=
  h.but ((But.refl g w).setCell o v) hg hne
/-- A range of each of two boxes; the first alone is told of. -/
structure Sz (w : World) (b o : Nat) (lo hi : Int) : Prop where
  lb : b < w.heap.size
  c0 : w.cell? ⟨b, o, none⟩ = some (.int .i64 lo)
  c1 : w.cell? ⟨b, o + 1, none⟩ = some (.int .i64 hi)

theorem Sz.below {w w' : World} {b o : Nat} {lo hi : Int} (h : Sz w b o lo hi) (hb : Below w.heap.size w w') : Sz w' b o lo hi :=
  ⟨Nat.lt_of_lt_of_le h.lb hb.size, (hb.cell (p := ⟨b, o, none⟩) h.lb).trans h.c0, (hb.cell (p := ⟨b, o + 1, none⟩) h.lb).trans h.c1⟩
def DrawBB (w : World) (e : Ending) (w' : World) : Prop :=
  ∃ a n c f g a' n' c' f' g', e = .returned (.tuple #[.slice a n c, .slice a' n' c']) ∧ n ≤ 100 ∧ n' ≤ 100 ∧ PRow w' a n f g ∧ PRow w' a' n' f' g' ∧ Below w.heap.size w w'

set_option maxHeartbeats 8000000 in
theorem drawBoxLeq_any (a : Option Addr) (n c : Nat) (w : World) (h : Code w a n) :
    Calls Try.prog 14 #[.slice a n c] w fun e w' => DrawBB w e w' := by
  have O := hide (open_any a n c w h)
  clear h
  have FIN : Hid (∀ W a n c f g a' n' c' f' g', n ≤ 100 → n' ≤ 100 → PRow W a n f g → PRow W a' n' f' g' → Below w.heap.size w W → DrawBB w (.returned (.tuple #[.slice a n c, .slice a' n' c'])) W) := hide fun W a n c f g a' n' c' f' g' h1 h2 h3 h4 h5 => ⟨a, n, c, f, g, a', n', c', f', g', rfl, h1, h2, h3, h4, h5⟩
  have B4 := hide (fun W (h : Rd w.heap.size W w.heap.size a n c) => below_any w.heap.size w.heap.size n c a 4 W h (by omega) (by omega))
  have O2 := hide (fun W (h : Rd w.heap.size W w.heap.size a n c) => once_any w.heap.size w.heap.size n c a 2 W h (by omega) (by omega))
  have O12 := hide (fun W (h : Rd w.heap.size W w.heap.size a n c) => once_any w.heap.size w.heap.size n c a 12 W h (by omega) (by omega))
  have BX := hide (fun (d : Nat) W (h : Rd w.heap.size W w.heap.size a n c) (hB : w.heap.size ≤ W.heap.size) (hd : d ≤ 100) => box_any w.heap.size w.heap.size n c a d W h hB hd)
  go_enter Try.func14, Try.ntmps14
  go_wp2_with fail
  refine O.out.mono ?_
  rintro e w1 ⟨rfl, hr1, hb1, hs1⟩
  have sz1 : w.heap.size < w1.heap.size := by omega
  clear O hs1
  go_wp2_with fail
  refine (B4.out _ hr1).mono ?_
  rintro e w2 ⟨v, rfl, v0, v1, hr2, hb2⟩
  obtain ⟨d, hd⟩ : ∃ d : Nat, 1 + v = (d : Int) := ⟨(1 + v).toNat, by omega⟩
  have s2 := hb2.size
  have W2 := hide (hb1.trans (hb2.below (Nat.le_refl _) (by omega)))
  clear hb1 hr1 hb2
  go_wp2_with fail
  refine (BX.out d _ hr2 (by omega) (by omega)).mono ?_
  rintro e w3 ⟨v3, f3, g3, rfl, ho3, _, hr3, hb3⟩
  obtain ⟨qa, ca, rfl, qa1, qa2⟩ := ho3.form (by omega)
  have s3 := hb3.size
  have W3 := hide (W2.out.trans (hb3.below (Nat.le_refl _) (by omega)))
  have PA3 := hide (WP.of ho3)
  have la3 := (ho3.lt qa rfl)
  clear hr2 hb3 W2 ho3
  go_wp2_with fail
  refine (BX.out d _ hr3 (by omega) (by omega)).mono ?_
  rintro e w4 ⟨v4, f4, g4, rfl, ho4, _, hr4, hb4⟩
  obtain ⟨qb, cb, rfl, qb1, qb2⟩ := ho4.form (by omega)
  have s4 := hb4.size
  have W4 := hide (W3.out.trans (hb4.below (Nat.le_refl _) (by omega)))
  have PA4 := hide (PA3.out.but hb4 (by omega))
  have PB4 := hide (WP.of ho4)
  have lb4 := (ho4.lt qb rfl)
  clear hr3 hb4 W3 PA3 ho4
  have hneA : ∀ b off, some (⟨qa, 0, none⟩ : Addr) = some ⟨b, off, none⟩ → b ≠ w.heap.size := fun b off e => by cases e; omega
  have hneB : ∀ b off, some (⟨qb, 0, none⟩ : Addr) = some ⟨b, off, none⟩ → b ≠ w.heap.size := fun b off e => by cases e; omega
  go_wp2_with fail
  refine (O2.out _ hr4).mono ?_
  rintro e w5 ⟨vo, rfl, hr5, hb5⟩
  have W5 := hide (W4.out.trans (hb5.below (Nat.le_refl _) (by omega)))
  have PA5 := hide (PA4.out.but hb5 (by omega))
  have PB5 := hide (PB4.out.but hb5 (by omega))
  have HR5 := hide hr5
  have s5 := hb5.size
  clear hr4 hb5 W4 PA4 PB4 hr5
  cases vo
  · have PA9 := hide PA5.out.prow
    have PB9 := hide PB5.out.prow
    have B9 := W5
    have HR9 := HR5
    clear PA5 PB5
    go_wp2_with fail
    refine (O12.out _ HR9.out).mono ?_
    rintro e w10 ⟨vo, rfl, hr10, hb10⟩
    have PA10 := hide (prow_butU PA9.out hb10 hneA)
    have PB10 := hide (prow_butU PB9.out hb10 hneB)
    have B10 := hide (B9.out.trans (hb10.below (Nat.le_refl _) B9.out.size))
    have HR10 := hide hr10
    clear hr10 hb10 PA9 PB9 B9 HR9
    cases vo
    · have FF := hide (FIN.out _ _ _ ca _ _ _ _ cb _ _ (by omega) (by omega) PA10.out PB10.out B10.out)
      go_wp2_with fail
      refine bodyPost_ret ?_ rfl FF.out
      simp [results, Try.results14, go_sem]
    · go_wp2_with fail
      refine (B4.out _ HR10.out).mono ?_
      rintro e w11 ⟨u, rfl, u0, u1, hr11, hb11⟩
      obtain ⟨d2, hd2⟩ : ∃ d2 : Nat, 1 + u = (d2 : Int) := ⟨(1 + u).toNat, by omega⟩
      have PA11 := hide (prow_butU PA10.out hb11 hneA)
      have B11 := hide (B10.out.trans (hb11.below (Nat.le_refl _) B10.out.size))
      have HR11 := hide hr11
      clear hr11 hb11 PA10 PB10 B10 HR10
      go_wp2_with fail
      refine (BX.out d2 _ HR11.out B11.out.size (by omega)).mono ?_
      rintro e w12 ⟨v12, f12, g12, rfl, ho12, _, hr12, hb12⟩
      obtain ⟨a12, c12, rfl, p12, _⟩ := prow_of_owns ho12
      have FF := hide (FIN.out _ _ _ ca _ _ a12 d2 c12 _ _ (by omega) (by omega) (prow_butU PA11.out hb12 hneA) p12 (B11.out.trans (hb12.below (Nat.le_refl _) B11.out.size)))
      clear hr12 hb12 ho12 p12
      go_wp2_with fail
      refine bodyPost_ret ?_ rfl FF.out
      simp [results, Try.results14, go_sem]
  · go_wp2_with fail
    go_loopw [7] (fun i wr => ∃ (k : Nat) (fb gb : Nat → Int), k ≤ d ∧ i = .int .i64 k ∧ WP wr qa d f3 g3 ∧ WP wr qb d fb gb ∧ Rd w.heap.size wr w.heap.size a n c ∧ Below w.heap.size w wr) (fun i _ => d - (intOf i).toNat)
    case atStart => exact ⟨0, f4, g4, Nat.zero_le _, rfl, PA5.out, PB5.out, HR5.out, W5.out⟩
    case round =>
      clear PA5 PB5 HR5 W5
      obtain ⟨k, fb, gb, hk, rfl, hpa, hpb, hR, hbel⟩ := hrel
      have PA := hide hpa
      have PB := hide hpb
      have HR := hide hR
      have HB := hide hbel
      clear hpa hpb hR hbel
      by_cases hlt : k < d
      · have hlt' : (k : Int) < (d : Int) := by omega
        have RA := hide (fun w1 => sRangeOk_any (f3 k) (g3 k) w1)
        have RB := hide (fun w1 => sRangeOk_any (fb k) (gb k) w1)
        obtain ⟨ra, hra⟩ : ∃ v, rightB (f3 k) (g3 k) = v := ⟨_, rfl⟩
        obtain ⟨rb, hrb⟩ : ∃ v, rightB (fb k) (gb k) = v := ⟨_, rfl⟩
        have RJ := hide (fun (h : ra = true ∧ rb = true) w1 => (sRangeJoin_any (f3 k) (g3 k) (fb k) (gb k)) w1)
        have HJ : Hid (ra = true → rb = true → joinB (f3 k) (g3 k) (fb k) (gb k) = true) := hide fun h1 h2 => by unfold joinB; rw [hra, hrb, h1, h2]; rfl
        simp only [hra] at RA
        simp only [hrb] at RB
        clear hra hrb
        have y0 := PA.out.c0 hlt
        have y1 := PA.out.c1 hlt
        go_wp2_with fail
        refine (RA.out _).mono ?_
        rintro e w6 ⟨rfl, hb6⟩
        have PA6 := hide (PA.out.below hb6)
        have PB6 := hide (PB.out.below hb6)
        have HR6 := hide (HR.out.stays hb6)
        have HB6 := hide (bstep HB.out hb6)
        clear y0 y1 PA PB HR HB hb6 RA
        cases ra
        · go_wp2_with fail
          go_roundw
          case rel => exact ⟨k + 1, fb, gb, by omega, by go_num, PA6.out, PB6.out, HR6.out, HB6.out⟩
          case measure => simp [intOf]; omega
        · have y0 := PB6.out.c0 hlt
          have y1 := PB6.out.c1 hlt
          go_wp2_with fail
          refine (RB.out _).mono ?_
          rintro e w7 ⟨rfl, hb7⟩
          have PA7 := hide (PA6.out.below hb7)
          have PB7 := hide (PB6.out.below hb7)
          have HR7 := hide (HR6.out.stays hb7)
          have HB7 := hide (bstep HB6.out hb7)
          clear y0 y1 PA6 PB6 HR6 HB6 hb7 RB
          cases rb
          · go_wp2_with fail
            go_roundw
            case rel => exact ⟨k + 1, fb, gb, by omega, by go_num, PA7.out, PB7.out, HR7.out, HB7.out⟩
            case measure => simp [intOf]; omega
          · have RJ2 := hide (RJ.out (by simp))
            rw [HJ.out (by simp) (by simp)] at RJ2
            simp only [if_true] at RJ2
            have T : Hid (Sz w7.drew qa (k * 2) (f3 k) (g3 k)) := hide ⟨PA7.out.lt, PA7.out.c0 hlt, PA7.out.c1 hlt⟩
            have y0 := PB7.out.c0 hlt
            have y1 := PB7.out.c1 hlt
            have qne : qa ≠ qb := by omega
            clear RJ HJ
            go_upto_region 9 with fail
            refine wp_region_held_drew (S := fun wx => Sz wx qa (k * 2) (f3 k) (g3 k)) (by kernel_rfl) (T.out) (fun hH0 => ?_)
            refine wpAnyH_take (i := 0) (oi := { dst := some 39, op := _, type := _, pos := _, after := _, guard := _ }) (v := ?_) rfl (by kernel_rfl) (by kernel_rfl) (by kernel_rfl) (fun _ _ _ h => h) (Or.inl ⟨by rfl, ?_⟩) (hH0) ?_
            rotate_left
            · (intro wx hSw; obtain ⟨_, q0, q1⟩ := hSw; go_simp <;> with_reducible rfl)
            simp only [Act.put, List.setIfInBounds_toArray, List.set_cons_zero, List.set_cons_succ]
            refine wpAnyH_take (i := 1) (oi := { dst := some 40, op := _, type := _, pos := _, after := _, guard := _ }) (v := ?_) rfl (by kernel_rfl) (by kernel_rfl) (by kernel_rfl) (fun _ _ _ h => h) (Or.inl ⟨by rfl, ?_⟩) (hH0) ?_
            rotate_left
            · (intro wx hSw; obtain ⟨_, q0, q1⟩ := hSw; go_simp <;> with_reducible rfl)
            simp only [Act.put, List.setIfInBounds_toArray, List.set_cons_zero, List.set_cons_succ]
            refine wpAnyH_take (i := 2) (oi := { dst := some 41, op := _, type := _, pos := _, after := _, guard := _ }) (v := ?_) rfl (by kernel_rfl) (by kernel_rfl) (by kernel_rfl) (fun _ _ _ h => h) (Or.inl ⟨by rfl, ?_⟩) (hH0) ?_
            rotate_left
            · (intro wx hSw; obtain ⟨_, q0, q1⟩ := hSw; go_simp <;> with_reducible rfl)
            simp only [Act.put, List.setIfInBounds_toArray, List.set_cons_zero, List.set_cons_succ]
            refine wpAnyH_take (i := 3) (oi := { dst := some 42, op := _, type := _, pos := _, after := _, guard := _ }) (v := ?_) rfl (by kernel_rfl) (by kernel_rfl) (by kernel_rfl) (fun _ _ _ h => h) (Or.inl ⟨by rfl, ?_⟩) (hH0) ?_
            rotate_left
            · (intro wx hSw; obtain ⟨_, q0, q1⟩ := hSw; go_simp <;> with_reducible rfl)
            simp only [Act.put, List.setIfInBounds_toArray, List.set_cons_zero, List.set_cons_succ]
            refine wpAnyH_take (i := 4) (oi := { dst := some 43, op := _, type := _, pos := _, after := _, guard := _ }) (v := ?_) rfl (by kernel_rfl) (by kernel_rfl) (by kernel_rfl) (fun _ _ _ h => h) (Or.inl ⟨by rfl, ?_⟩) (hH0) ?_
            rotate_left
            · (intro wx hSw; obtain ⟨_, q0, q1⟩ := hSw; go_simp <;> with_reducible rfl)
            simp only [Act.put, List.setIfInBounds_toArray, List.set_cons_zero, List.set_cons_succ]
            refine wpAnyH_take (i := 5) (oi := { dst := some 44, op := _, type := _, pos := _, after := _, guard := _ }) (v := ?_) rfl (by kernel_rfl) (by kernel_rfl) (by kernel_rfl) (fun _ _ _ h => h) (Or.inl ⟨by rfl, ?_⟩) (hH0) ?_
            rotate_left
            · (intro wx hSw; obtain ⟨_, q0, q1⟩ := hSw; go_simp <;> with_reducible rfl)
            simp only [Act.put, List.setIfInBounds_toArray, List.set_cons_zero, List.set_cons_succ]
            refine wpAnyH_take (i := 6) (oi := { dst := some 45, op := _, type := _, pos := _, after := _, guard := _ }) (v := ?_) rfl (by kernel_rfl) (by kernel_rfl) (by kernel_rfl) (fun _ _ _ h => h) (Or.inl ⟨by rfl, ?_⟩) (hH0) ?_
            rotate_left
            · (intro wx hSw; obtain ⟨_, q0, q1⟩ := hSw; go_simp <;> with_reducible rfl)
            simp only [Act.put, List.setIfInBounds_toArray, List.set_cons_zero, List.set_cons_succ]
            refine wpAnyH_take (i := 7) (oi := { dst := some 46, op := _, type := _, pos := _, after := _, guard := _ }) (v := ?_) rfl (by kernel_rfl) (by kernel_rfl) (by kernel_rfl) (fun _ _ _ h => h) (Or.inl ⟨by rfl, ?_⟩) (hH0) ?_
            rotate_left
            · (intro wx hSw; obtain ⟨_, q0, q1⟩ := hSw; go_simp <;> with_reducible rfl)
            simp only [Act.put, List.setIfInBounds_toArray, List.set_cons_zero, List.set_cons_succ]
            refine wpAnyH_take (i := 8) (oi := { dst := some 47, op := _, type := _, pos := _, after := _, guard := _ }) (v := ?_) rfl (by kernel_rfl) (by kernel_rfl) (by kernel_rfl) (fun _ _ _ h => h) (Or.inl ⟨by rfl, ?_⟩) (hH0) ?_
            rotate_left
            · (intro wx hSw; obtain ⟨_, q0, q1⟩ := hSw; go_simp <;> with_reducible rfl)
            simp only [Act.put, List.setIfInBounds_toArray, List.set_cons_zero, List.set_cons_succ]
            -- behind it: go_wp2_with fail, then go_meet (a cut) or go_ret; the condition at the end: hH0
            refine wpAnyH_ready (rs := [9]) (by kernel_rfl) (by simp) ?_
            refine AllReadyH.cons (o := { dst := some 48, op := _, type := _, pos := _, after := _, guard := _ }) rfl (fun K hK => ?_) AllReadyH.nil
            go_simp
            refine hK.out _ _ hH0 (fun hH1 => ?_)
            clear hK K
            refine wpAnyH_ready (rs := [10]) (by kernel_rfl) (by simp) ?_
            refine AllReadyH.cons (o := { dst := some 49, op := _, type := _, pos := _, after := _, guard := _ }) rfl (fun K hK => ?_) AllReadyH.nil
            go_simp
            refine (RJ2.out _).mono ?_
            rintro e w8 ⟨rfl, hb8⟩
            dsimp only
            have bb8 := bstep (Below.drew (Below.refl w7.heap.size w7)) hb8
            have PA8 := hide (PA7.out.below bb8)
            have PB8 := hide (PB7.out.below bb8)
            have HR8 := hide (HR7.out.stays bb8)
            have HB8 := hide (bstep HB7.out bb8)
            refine hK.out _ _ (Sz.below hH1 hb8) (fun hH2 => ?_)
            clear hK K hb8 bb8 PA7 PB7 HR7 HB7 y0 y1
            have y0 := PB8.out.c0 hlt
            have y1 := PB8.out.c1 hlt
            have z0 := PB8.out.fz (k * 2)
            have z1 := PB8.out.fz (k * 2 + 1)
            have qbl := PB8.out.lt
            refine wpAnyH_ready (rs := [11]) (by kernel_rfl) (by simp) ?_
            refine AllReadyH.cons (o := { dst := some 50, op := _, type := _, pos := _, after := _, guard := _ }) rfl (fun K hK => ?_) AllReadyH.nil
            go_simp
            refine hK.out _ _ hH2 (fun hH2b => ?_)
            clear hK K
            refine wpAnyH_ready (rs := [12]) (by kernel_rfl) (by simp) ?_
            refine AllReadyH.cons (o := { dst := none, op := _, type := _, pos := _, after := _, guard := _ }) rfl (fun K hK => ?_) AllReadyH.nil
            go_simp
            have PS := hide (PB8.out.set k (min (f3 k) (fb k)) (max (g3 k) (gb k)))
            have PAS : Hid (WP ((w8.setCell ⟨qb, k * 2, none⟩ (.int .i64 (min (f3 k) (fb k)))).setCell ⟨qb, k * 2 + 1, none⟩ (.int .i64 (max (g3 k) (gb k)))) qa d f3 g3) := hide ((PA8.out.keep (Below.heap_setCell w8 ⟨qb, k * 2, none⟩ _ qa (by simp; omega))).keep (Below.heap_setCell _ ⟨qb, k * 2 + 1, none⟩ _ qa (by simp; omega)))
            have HRS := hide (rd_farU (rd_farU HR8.out qb (k * 2) (.int .i64 (min (f3 k) (fb k))) (by omega) (by omega)) qb (k * 2 + 1) (.int .i64 (max (g3 k) (gb k))) (by omega) (by omega))
            have HBS : Hid (Below w.heap.size w ((w8.setCell ⟨qb, k * 2, none⟩ (.int .i64 (min (f3 k) (fb k)))).setCell ⟨qb, k * 2 + 1, none⟩ (.int .i64 (max (g3 k) (gb k))))) := hide ((HB8.out.setCell (by show w.heap.size ≤ qb; omega) _).setCell (by show w.heap.size ≤ qb; omega) _)
            refine hK.out _ _ ⟨PAS.out.lt, PAS.out.c0 hlt, PAS.out.c1 hlt⟩ (fun hH3 => ?_)
            clear hK K y0 y1 z0 z1 PA8 PB8 HR8 HB8
            refine wpAnyH_done (by kernel_rfl) ?_ _
            go_wp2_with fail
            go_roundw
            case rel => exact ⟨k + 1, _, _, by omega, by go_num, PAS.out, PS.out, HRS.out, HBS.out⟩
            case measure => simp [intOf]; omega
      · have PA9 := hide PA.out.prow
        have PB9 := hide PB.out.prow
        have B9 := HB
        have HR9 := HR
        clear PA PB
        go_wp2_with fail
        refine (O12.out _ HR9.out).mono ?_
        rintro e w10 ⟨vo, rfl, hr10, hb10⟩
        have PA10 := hide (prow_butU PA9.out hb10 hneA)
        have PB10 := hide (prow_butU PB9.out hb10 hneB)
        have B10 := hide (B9.out.trans (hb10.below (Nat.le_refl _) B9.out.size))
        have HR10 := hide hr10
        clear hr10 hb10 PA9 PB9 B9 HR9
        cases vo
        · have FF := hide (FIN.out _ _ _ ca _ _ _ _ cb _ _ (by omega) (by omega) PA10.out PB10.out B10.out)
          go_wp2_with fail
          refine bodyPost_ret ?_ rfl FF.out
          simp [results, Try.results14, go_sem]
        · go_wp2_with fail
          refine (B4.out _ HR10.out).mono ?_
          rintro e w11 ⟨u, rfl, u0, u1, hr11, hb11⟩
          obtain ⟨d2, hd2⟩ : ∃ d2 : Nat, 1 + u = (d2 : Int) := ⟨(1 + u).toNat, by omega⟩
          have PA11 := hide (prow_butU PA10.out hb11 hneA)
          have B11 := hide (B10.out.trans (hb11.below (Nat.le_refl _) B10.out.size))
          have HR11 := hide hr11
          clear hr11 hb11 PA10 PB10 B10 HR10
          go_wp2_with fail
          refine (BX.out d2 _ HR11.out B11.out.size (by omega)).mono ?_
          rintro e w12 ⟨v12, f12, g12, rfl, ho12, _, hr12, hb12⟩
          obtain ⟨a12, c12, rfl, p12, _⟩ := prow_of_owns ho12
          have FF := hide (FIN.out _ _ _ ca _ _ a12 d2 c12 _ _ (by omega) (by omega) (prow_butU PA11.out hb12 hneA) p12 (B11.out.trans (hb12.below (Nat.le_refl _) B11.out.size)))
          clear hr12 hb12 ho12 p12
          go_wp2_with fail
          refine bodyPost_ret ?_ rfl FF.out
          simp [results, Try.results14, go_sem]

theorem drawBoxJoin_any (a : Option Addr) (n c : Nat) (w : World) (h : Code w a n) :
    Calls Try.prog 5 #[.slice a n c] w fun e w' => DrawBB w e w' := by
  have D := hide (drawBoxLeq_any a n c w h)
  clear h
  go_enter Try.func5, Try.ntmps5
  go_wp2_with fail
  refine D.out.mono ?_
  rintro e w1 ⟨a1, n1, c1, f, g, a2, n2, c2, f', g', rfl, h1, h2, p1, p2, hb⟩
  have FF : Hid (DrawBB w (.returned (.tuple #[.slice a1 n1 c1, .slice a2 n2 c2])) w1) := hide ⟨a1, n1, c1, f, g, a2, n2, c2, f', g', rfl, h1, h2, p1, p2, hb⟩
  clear p1 p2 hb
  go_wp2_with fail
  refine bodyPost_ret ?_ rfl FF.out
  simp [results, Try.results5, go_sem]
end Go.Proofs.Ytobnlchlmhnnlaa
