/- Drawn items: DrawItemsOk, DrawItemDrop, DrawItemFind, DrawMatching. -/
import Derived.Test.YtcbmfannbaaokaaGD
namespace Go.Proofs.Ytcbmfannbaaokaa
open Go.RowKit
set_option linter.unusedSimpArgs false
set_option linter.unusedVariables false

theorem natOf {x : Int} (h : 0 ≤ x) : ∃ k : Nat, x = (k : Int) := ⟨x.toNat, by omega⟩
theorem below_lt {k m : Nat} (hm : 0 < m) (h : (k : Int) ≤ max 0 ((m : Int) - 1)) : k < m := by omega
/-- Items in new memory. -/
structure NI (w w' : World) (g n cap : Nat) (L : IL) : Prop where
  cap_ : n ≤ cap
  few : n ≤ 61
  hi : IHi w' w.heap.size g n L
  len : ∀ i, i < n → (L i).vec.length ≤ 200
  low : Below w.heap.size w w'
theorem NI.then {w w1 w2 : World} {g n cap : Nat} {L : IL} (h : NI w w1 g n cap L) (hb : Below w1.heap.size w1 w2) : NI w w2 g n cap L :=
  ⟨h.cap_, h.few, h.hi.below hb, h.len, bstep h.low hb⟩
def DrawIs (w : World) (e : Ending) (w' : World) : Prop :=
  ∃ (dim : Int) (g n cap : Nat) (L : IL), e = .returned (.tuple #[.int .i64 dim, .slice (some ⟨g, 0, none⟩) n cap]) ∧ NI w w' g n cap L

set_option maxHeartbeats 2000000 in
theorem drawItemsOk_any (a : Option Addr) (n c : Nat) (w : World) (h : Code w a n) :
    Calls Try.prog 18 #[.slice a n c] w fun e w' => DrawIs w e w' := by
  have O := hide (open_any a n c w h)
  clear h
  go_enter Try.func18, Try.ntmps18
  go_wp2_with fail
  refine O.out.mono ?_
  rintro e w1 ⟨rfl, hr1, hb1, hs1⟩
  go_wp2_with fail
  refine (below_any _ _ n c a 4 w1 hr1 (by omega) (by omega)).mono ?_
  rintro e w2 ⟨v, rfl, v0, v1, hr2, hb2⟩
  obtain ⟨d, hd⟩ : ∃ d : Nat, 1 + v = (d : Int) := ⟨(1 + v).toNat, by omega⟩
  have s2 := hb2.size
  have rlt : w.heap.size < w2.heap.size := by omega
  go_wp2_with fail
  refine (items_any _ _ n c a d w2 hr2 (by omega) (by omega) (by omega)).mono ?_
  rintro e w3 ⟨v3, rfl, hd3, hr3, hb3⟩
  obtain ⟨g3, cp3, m3, M3, V3, s3, rfl, hg3, hm3, hl3⟩ := hd3
  have HD3 : Hid (DIt w2 w3 d (.slice (some ⟨g3, 0, none⟩) m3 cp3)) := hide ⟨g3, cp3, m3, M3, V3, s3, rfl, hg3, hm3, hl3⟩
  have HR3 := hide hr3
  have HB3 := hide hb3
  clear hg3 hl3 hr3 hb3
  go_wp2_with fail
  refine (hurtItems_any _ _ n c a d _ w2 w3 HR3.out (by omega) rlt HB3.out (by omega) (by omega) HD3.out).mono ?_
  rintro e w4 ⟨v4, rfl, ⟨g4, n4, cp4, L4, rfl, hc4, hn4, hi4, hl4⟩, hr4, hb4⟩
  have B2 : Hid (Below w.heap.size w w2) := hide (hb1.trans (hb2.below (Nat.le_refl _) (by omega)))
  have HI4 := hide hi4
  have HL4 := hide hl4
  have HR4 := hide hr4
  have HB4 := hide hb4
  clear HD3 HR3 HB3 hi4 hl4 hr4 hb4 hr2 hb2 hr1 hb1 O
  go_wp2_with fail
  refine (once_any _ _ n c a 20 w4 HR4.out (by omega) (by omega)).mono ?_
  rintro e w5 ⟨o, rfl, hr5, hb5⟩
  have HB5 := hide (HB4.out.trans hb5)
  have HI5 := hide (HI4.out.but hb5 rlt)
  have HR5 := hide hr5
  clear hr5 hb5
  cases o
  · go_wp2_with fail
    go_ret2
    exact ⟨_, g4, n4, cp4, L4, rfl, hc4, hn4, ⟨by have := HI5.out.lo; omega, HI5.out.lt, fun i hi => by
      obtain ⟨c0, c1, a', m', c', c2, hr, hlo⟩ := HI5.out.at_ i hi
      exact ⟨c0, c1, a', m', c', c2, hr, fun b off e => by have := hlo b off e; omega⟩⟩, HL4.out, B2.out.trans (HB5.out.below (Nat.le_refl _) (by omega))⟩
  · go_wp2_with fail
    refine (off_any _ _ n c a 1 8 w5 HR5.out (by omega) (by omega) (by omega) (by omega)).mono ?_
    rintro e w6 ⟨x, rfl, hr6, hb6⟩
    have HB6 := hide (HB5.out.trans hb6)
    have HI6 := hide (HI5.out.but hb6 rlt)
    clear hr6 hb6 HB5 HI5 HR5
    go_wp2_with fail
    go_ret2
    exact ⟨_, g4, n4, cp4, L4, rfl, hc4, hn4, ⟨by have := HI6.out.lo; omega, HI6.out.lt, fun i hi => by
      obtain ⟨c0, c1, a', m', c', c2, hr, hlo⟩ := HI6.out.at_ i hi
      exact ⟨c0, c1, a', m', c', c2, hr, fun b off e => by have := hlo b off e; omega⟩⟩, HL4.out, B2.out.trans (HB6.out.below (Nat.le_refl _) (by omega))⟩

def DrawIsX (w : World) (e : Ending) (w' : World) : Prop :=
  ∃ (dim : Int) (g n cap : Nat) (L : IL) (id : Int), e = .returned (.tuple #[.int .i64 dim, .slice (some ⟨g, 0, none⟩) n cap, .int .i64 id]) ∧ NI w w' g n cap L
def DrawIX (w : World) (e : Ending) (w' : World) : Prop :=
  ∃ (g n cap : Nat) (L : IL) (id : Int), e = .returned (.tuple #[.slice (some ⟨g, 0, none⟩) n cap, .int .i64 id]) ∧ NI w w' g n cap L

set_option maxHeartbeats 2000000 in
theorem drawItemDrop_any (a : Option Addr) (n c : Nat) (w : World) (h : Code w a n) :
    Calls Try.prog 14 #[.slice a n c] w fun e w' => DrawIsX w e w' := by
  have O := hide (open_any a n c w h)
  have HC := hide h
  clear h
  go_enter Try.func14, Try.ntmps14
  go_wp2_with fail
  refine O.out.mono ?_
  rintro e w1 ⟨rfl, hr1, hb1, hs1⟩
  have HR1 := hide hr1
  have HB1 := hide hb1
  have D := hide (drawItemsOk_any a n c w1 (HC.out.below hb1))
  clear hr1 hb1 O
  go_wp2_with fail
  refine D.out.mono ?_
  rintro e w2 ⟨dim, g, m, cap, L, rfl, hni⟩
  have s2 := hni.low.size
  have HN := hide hni
  have HR2 := hide (HR1.out.stays hni.low)
  clear hni D HR1
  by_cases hm : 0 < m
  · have hm' : (0 : Int) < (m : Int) := by omega
    have hm2 := HN.out.few
    go_wp2_with fail
    refine (once_any _ _ n c a 4 w2 HR2.out (by omega) (by omega)).mono ?_
    rintro e w3 ⟨o, rfl, hr3, hb3⟩
    have HR3 := hide hr3
    have HI3 := hide (HN.out.hi.but hb3 (by omega))
    have HB3 := hide hb3
    clear hr3 hb3 HR2
    cases o
    · have CH := hide (below_all _ _ n c a m w3.drew (HR3.out.stays (Below.drew (Below.refl _ _))) (by omega))
      have YH := hide (fun (W : World) (hW : But w.heap.size w3.drew W) (k : Nat) (hk : k < m) => (((HI3.out.below (Below.drew (Below.refl _ _))).but hW (by omega)).at_ k hk).1)
      have s3 := HB3.out.size
      go_wp2_with fail
      go_region_with (go_at_call 30; refine CH.out.mono ?_; rintro e w4 ⟨x, rfl, x0, x1, hr4, hb4⟩; obtain ⟨k, rfl⟩ := natOf x0; have hk := below_lt hm x1; have c0 := YH.out _ hb4 k hk)
      all_goals
        go_wp2_with fail
        go_ret3
        have HI4 := hide ((HI3.out.below (Below.drew (Below.refl _ _))).but hb4 (by omega))
        have HB4 := hide (HB3.out.drew.trans hb4)
        refine ⟨_, g, m, cap, L, _, rfl, HN.out.cap_, HN.out.few, ⟨by have := HI4.out.lo; omega, HI4.out.lt, fun i hi => ?_⟩, HN.out.len, ?_⟩
        · obtain ⟨c0, c1, a', m', c', c2, hr, hlo⟩ := HI4.out.at_ i hi
          exact ⟨c0, c1, a', m', c', c2, hr, fun b off e => by have := hlo b off e; omega⟩
        · exact (bstep HB1.out HN.out.low).trans (HB4.out.below (by omega) (by omega))
    · go_wp2_with fail
      refine (off_any _ _ n c a 1 14 w3 HR3.out (by omega) (by omega) (by omega) (by omega)).mono ?_
      rintro e w4 ⟨x, rfl, hr4, hb4⟩
      have HI4 := hide (HI3.out.but hb4 (by omega))
      have HB4 := hide (HB3.out.trans hb4)
      clear hr4 hb4 HR3 HI3 HB3
      go_wp2_with fail
      go_ret3
      refine ⟨_, g, m, cap, L, _, rfl, HN.out.cap_, HN.out.few, ⟨by have := HI4.out.lo; omega, HI4.out.lt, fun i hi => ?_⟩, HN.out.len, ?_⟩
      · obtain ⟨c0, c1, a', m', c', c2, hr, hlo⟩ := HI4.out.at_ i hi
        exact ⟨c0, c1, a', m', c', c2, hr, fun b off e => by have := hlo b off e; omega⟩
      · exact (bstep HB1.out HN.out.low).trans (HB4.out.below (by omega) (by omega))
  · obtain rfl : m = 0 := by omega
    go_wp2_with fail
    refine (off_any _ _ n c a 1 14 w2 HR2.out (by omega) (by omega) (by omega) (by omega)).mono ?_
    rintro e w4 ⟨x, rfl, hr4, hb4⟩
    have HI4 := hide (HN.out.hi.but hb4 (by omega))
    have HB4 := hide hb4
    clear hr4 hb4
    go_wp2_with fail
    go_ret3
    refine ⟨_, g, 0, cap, L, _, rfl, HN.out.cap_, HN.out.few, ⟨by have := HI4.out.lo; omega, HI4.out.lt, fun i hi => absurd hi (by omega)⟩, HN.out.len, ?_⟩
    exact (bstep HB1.out HN.out.low).trans (HB4.out.below (by omega) (by omega))



end Go.Proofs.Ytcbmfannbaaokaa