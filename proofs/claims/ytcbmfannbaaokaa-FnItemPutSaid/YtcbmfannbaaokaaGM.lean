/- A drawn put. -/
import Derived.Test.YtcbmfannbaaokaaGM0
namespace Go.Proofs.Ytcbmfannbaaokaa
open Go.RowKit
set_option linter.unusedSimpArgs false
set_option linter.unusedVariables false

def DrawPut (w : World) (e : Ending) (w' : World) : Prop :=
  ∃ (dim : Int) (g n cap : Nat) (L : IL) (x : It) (xa : Option Addr) (xc : Nat), e = .returned (.tuple #[.int .i64 dim, .slice (some ⟨g, 0, none⟩) n cap, .agg #[.int .i64 x.id, .int .i64 x.tags, .slice xa x.vec.length xc]]) ∧ NI w w' g n cap L ∧ Row w' xa x.vec.length x.vec ∧ x.vec.length ≤ 200

theorem IHi.low {w : World} {base base' g n : Nat} {L : IL} (h : IHi w base g n L) (hb : base' ≤ base) : IHi w base' g n L :=
  ⟨Nat.le_trans hb h.lo, h.lt, fun i hi => by
    obtain ⟨c0, c1, a', m', c', c2, hr, hlo⟩ := h.at_ i hi
    exact ⟨c0, c1, a', m', c', c2, hr, fun b off e => Nat.le_trans hb (hlo b off e)⟩⟩
theorem clamp8 (dim : Int) : ∃ d : Nat, 1 ≤ d ∧ d ≤ 8 ∧ ((dim < 1 ∧ 1 = (d : Int)) ∨ (¬ dim < 1 ∧ dim ≤ 8 ∧ dim = (d : Int)) ∨ (¬ dim < 1 ∧ ¬ dim ≤ 8 ∧ 8 = (d : Int))) := by
  by_cases h1 : dim < 1
  · exact ⟨1, by omega, by omega, .inl ⟨h1, rfl⟩⟩
  · by_cases h2 : dim ≤ 8
    · exact ⟨dim.toNat, by omega, by omega, .inr (.inl ⟨h1, h2, by omega⟩)⟩
    · exact ⟨8, by omega, by omega, .inr (.inr ⟨h1, h2, rfl⟩)⟩

set_option maxHeartbeats 4000000 in
theorem drawItemPut_any (a : Option Addr) (n c : Nat) (w : World) (h : Code w a n) :
    Calls Try.prog 6 #[.slice a n c] w fun e w' => DrawPut w e w' := by
  have bA : Below w.heap.size w (w.alloc (.cells #[.int .i64 0, .int .i64 0, .slice none 0 0] 27)) := balloc (Below.refl _ _) _
  have O := hide (open_any a n c _ (h.below bA))
  have HC := hide (h.below bA)
  have BA := hide bA
  clear h bA
  go_enter Try.func6, Try.ntmps6
  go_wp2_with fail
  refine O.out.mono ?_
  rintro e w1 ⟨rfl, hr1, hb1, hs1⟩
  have T1 := hide ((Tri.new w (.int .i64 0) (.int .i64 0) (.slice none 0 0) 27).below hb1)
  simp only [World.size_alloc] at hr1 ⊢
  have HR1 := hide hr1
  have HB1 := hide (bstep BA.out hb1)
  have D := hide (drawItemsOk_any a n c w1 (HC.out.below hb1))
  simp only [World.size_alloc] at hs1
  clear hr1 hb1 O
  go_wp2_with fail
  refine D.out.mono ?_
  rintro e w2 ⟨dim, g, m, cap, L, rfl, hni⟩
  have s2 := hni.low.size
  have HN := hide hni
  have HR2 := hide (HR1.out.stays hni.low)
  have T2 := hide (T1.out.below hni.low)
  clear hni D HR1 T1
  obtain ⟨d, d1, d8, hcase⟩ := clamp8 dim
  have IT : Hid (∀ z : Int, z = (d : Int) → Calls Try.prog 20 #[.pointer (some ⟨w.heap.size + 1, 0, none⟩), .int .i64 z] w2 fun e w' => ItemPost (w.heap.size + 1) w2 (w.heap.size + 1) a n c d e w') := hide (fun z hz => by
    subst hz
    exact item_any _ _ n c a d w2 HR2.out (by omega) d1 (by omega))
  have HI := hide (fun i3 t3 c3 g3 f3 w3 (hr : Rd (w.heap.size + 1) w3 (w.heap.size + 1) a n c) (hb : But (w.heap.size + 1) w2 w3) ho => hurtItem_any _ _ n c a i3 t3 d c3 g3 f3 w2 w3 hr (by omega) (by omega) hb d1 (by omega) ho)
  have hz : ∃ z : Int, Hid (z = (d : Int)) ∧ ((dim < 1 ∧ 1 = z) ∨ (¬ dim < 1 ∧ dim ≤ 8 ∧ dim = z) ∨ (¬ dim < 1 ∧ ¬ dim ≤ 8 ∧ 8 = z)) := by
    rcases hcase with ⟨h1, h2⟩ | ⟨h1, h2, h3⟩ | ⟨h1, h2, h3⟩
    · exact ⟨1, hide h2, .inl ⟨h1, rfl⟩⟩
    · exact ⟨dim, hide h3, .inr (.inl ⟨h1, h2, rfl⟩)⟩
    · exact ⟨8, hide h3, .inr (.inr ⟨h1, h2, rfl⟩)⟩
  clear hcase
  obtain ⟨z, HZ, hz⟩ := hz
  rcases hz with ⟨h1, rfl⟩ | ⟨h1, h2, rfl⟩ | ⟨h1, h2, rfl⟩
  all_goals
    go_wp2_with fail
    refine (IT.out _ HZ.out).mono ?_
    rintro e w3 ⟨i3, t3, g3, c3, f3, rfl, o3, r3, b3⟩
    have HO3 := hide o3
    have HR3 := hide r3
    have HB3 := hide b3
    clear o3 r3 b3
    go_wp2_with fail
    refine (HI.out i3 t3 c3 g3 f3 w3 HR3.out HB3.out HO3.out).mono ?_
    rintro e w4 ⟨i4, t4, v4, d4, f4, rfl, hd4, o4, r4, b4, _⟩
    obtain ⟨a4, c4, rfl, _, _⟩ := row_of_owns o4
    obtain ⟨q0, q1, q2, q3, q4, q5, q6⟩ := T2.out.but b4 (by omega)
    have HO4 := hide o4
    have HB4 := hide b4
    clear o4 b4 r4 HO3 HR3 HB3 T2
    go_wp2_with fail
    refine bodyPost_ret (v := .tuple #[.int .i64 dim, .slice (some ⟨g, 0, none⟩) m cap, .agg #[.int .i64 i4, .int .i64 t4, .slice a4 d4 c4]]) ?_ rfl ?_
    · simp [results, Try.results6, go_sem, q1, q2, q3]
    · have bb : But w.heap.size w4 (((w4.setCell ⟨w.heap.size, 0, none⟩ (.int .i64 i4)).setCell ⟨w.heap.size, 1, none⟩ (.int .i64 t4)).setCell ⟨w.heap.size, 2, none⟩ (.slice a4 d4 c4)) := (((But.refl _ w4).setCell 0 _).setCell 1 _).setCell 2 _
      obtain ⟨a5, c5, e5, row5, _⟩ := row_of_owns (owns_but HO4.out bb (by omega))
      cases e5
      have I4 := (HN.out.hi.but HB4.out (by omega)).but bb (by omega)
      have s4 := HB4.out.size
      refine ⟨dim, g, m, cap, L, ⟨i4, t4, ints f4 d4⟩, a4, c4, by rw [ints_len], ⟨HN.out.cap_, HN.out.few, I4.low (by omega), HN.out.len, ?_⟩, by rw [ints_len]; exact row5, by rw [ints_len]; exact hd4⟩
      exact ((bstep HB1.out HN.out.low).trans (HB4.out.below (by omega) (by omega))).trans (bb.below (Nat.le_refl _) (by omega))
end Go.Proofs.Ytcbmfannbaaokaa
