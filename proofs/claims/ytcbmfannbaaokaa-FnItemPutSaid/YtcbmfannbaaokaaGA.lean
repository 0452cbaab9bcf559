/- The reader of drawn bytes: below of whatever number, size, tags, item. -/
import Derived.Test.YtcbmfannbaaokaaDE
import Derived.Test.YtcbmfannbaaokaaIK
namespace Go.Proofs.Ytcbmfannbaaokaa
open Go.RowKit
set_option linter.unusedSimpArgs false
set_option linter.unusedVariables false

set_option maxHeartbeats 1000000 in
theorem below_one (rb : Nat) (m : Int) (w : World) (h1 : m ≤ 1) :
    Calls Try.prog 30 #[.pointer (some ⟨rb, 0, none⟩), .int .i64 m] w fun e w' => e = .returned (.int .i64 0) ∧ w' = w := by
  go_enter Try.func30, Try.ntmps30
  go_wp2
  go_ret
  exact ⟨rfl, rfl⟩
/-- below, of any number that is no more than 256: one that is less, or 0. -/
theorem below_all (B rb n c : Nat) (a : Option Addr) (m : Int) (w : World) (h : Rd B w rb a n c) (h2 : m ≤ 256) :
    Calls Try.prog 30 #[.pointer (some ⟨rb, 0, none⟩), .int .i64 m] w fun e w' => RdPost B w rb a n c .i64 0 (max 0 (m - 1)) e w' := by
  by_cases h1 : 1 < m
  · exact (below_any B rb n c a m w h h1 h2).mono fun e w' ⟨v, he, v0, v1, hr, hb⟩ => ⟨v, he, v0, by omega, hr, hb⟩
  · refine (below_one rb m w (by omega)).mono fun e w' ⟨he, hw⟩ => ?_
    subst hw
    exact ⟨0, he, by omega, by omega, h, But.refl _ _⟩

set_option maxHeartbeats 1000000 in
theorem size_any (B rb n c : Nat) (a : Option Addr) (per most : Int) (w : World) (h : Rd B w rb a n c) (p0 : 1 ≤ per) (p1 : per ≤ 1000) (m0 : 1 ≤ most) (m1 : most ≤ 256) :
    Calls Try.prog 48 #[.pointer (some ⟨rb, 0, none⟩), .int .i64 per, .int .i64 most] w fun e w' => RdPost B w rb a n c .i64 1 most e w' := by
  have N := hide (fun m w1 (h : Rd B w1 rb a n c) (h2 : m ≤ 256) => below_all B rb n c a m w1 h h2)
  obtain ⟨p, hp, hblk⟩ := h.blk
  have c0 := rd_cell0 hblk
  have hs := h.small
  have HH := hide h
  clear hblk h
  have hne : per ≠ 0 := by omega
  have hd : ((n : Int).tdiv per) = ((n / per.toNat : Nat) : Int) := by
    rw [Int.tdiv_eq_ediv_of_nonneg (by omega)]
    rw [show per = ((per.toNat : Nat) : Int) by omega]
    simp
  have hle : n / per.toNat ≤ 1048576 := Nat.le_trans (Nat.div_le_self _ _) hs
  obtain ⟨q, hq⟩ : ∃ q : Nat, n / per.toNat = q := ⟨_, rfl⟩
  rw [hq] at hd hle
  have hw : IntKind.i64.wrap ((n : Int).tdiv per) = (q : Int) := by rw [hd]; exact wrapIn _ (by omega) (by omega)
  by_cases hm : most < 1 + (q : Int)
  · go_enter Try.func48, Try.ntmps48
    go_wp2_with fail
    refine (N.out _ _ HH.out (by omega)).mono ?_
    rintro e w1 ⟨v, rfl, v0, v1, hr, hb⟩
    go_wp2
    go_ret
    exact ⟨_, rfl, by omega, by omega, hr, hb⟩
  · go_enter Try.func48, Try.ntmps48
    go_wp2_with fail
    refine (N.out _ _ HH.out (by omega)).mono ?_
    rintro e w1 ⟨v, rfl, v0, v1, hr, hb⟩
    go_wp2
    go_ret
    exact ⟨_, rfl, by omega, by omega, hr, hb⟩

set_option maxHeartbeats 1000000 in
theorem tags_any (B rb n c : Nat) (a : Option Addr) (w : World) (h : Rd B w rb a n c) :
    Calls Try.prog 36 #[.pointer (some ⟨rb, 0, none⟩)] w fun e w' => RdPost B w rb a n c .i64 0 255 e w' := by
  have N := hide (fun w (h : Rd B w rb a n c) => below_any B rb n c a 7 w h (by omega) (by omega))
  have HR := hide h
  have hlt := h.lt
  clear h
  go_enter Try.func36, Try.ntmps36
  go_wp2_with fail
  refine (N.out _ (HR.out.alloc _)).mono ?_
  rintro e w2 ⟨u, rfl, u0, u1, hr2, hb2⟩
  have k : ∀ (o : Nat) (x : Int), (w.alloc (.cells #[.int .i64 0, .int .i64 1, .int .i64 2, .int .i64 3, .int .i64 3, .int .i64 7, .int .i64 255] 3)).cell? ⟨w.heap.size, o, none⟩ = some (.int .i64 x) → w2.cell? ⟨w.heap.size, o, none⟩ = some (.int .i64 x) := fun o x hx => (hb2.cell (p := ⟨w.heap.size, o, none⟩) (by simp) (by simp; omega)).trans hx
  have k0 := k 0 0 (by simp [go_sem])
  have k1 := k 1 1 (by simp [go_sem])
  have k2 := k 2 2 (by simp [go_sem])
  have k3 := k 3 3 (by simp [go_sem])
  have k4 := k 4 3 (by simp [go_sem])
  have k5 := k 5 7 (by simp [go_sem])
  have k6 := k 6 255 (by simp [go_sem])
  have HB2 := hide ((But.refl rb w).alloc (.cells #[.int .i64 0, .int .i64 1, .int .i64 2, .int .i64 3, .int .i64 3, .int .i64 7, .int .i64 255] 3) |>.trans hb2)
  clear hb2 k
  rcases (show u = 0 ∨ u = 1 ∨ u = 2 ∨ u = 3 ∨ u = 4 ∨ u = 5 ∨ u = 6 by omega) with rfl | rfl | rfl | rfl | rfl | rfl | rfl
  all_goals
    go_wp2
    go_ret
    exact ⟨_, rfl, by omega, by omega, hr2, HB2.out⟩

/-- What item leaves: an item, its vector owned by the call. -/
def ItemPost (B : Nat) (w : World) (rb : Nat) (a : Option Addr) (n c d : Nat) (e : Ending) (w' : World) : Prop :=
  ∃ (i t : Int) (g k : Nat) (f : Nat → Int), e = .returned (.agg #[.int .i64 i, .int .i64 t, .slice (some ⟨g, 0, none⟩) d k]) ∧ w'.ownsRow w.heap.size 2 1 (.slice (some ⟨g, 0, none⟩) d k) d (vals f d) ∧ Rd B w' rb a n c ∧ But rb w w'

theorem Tri.but {g : Nat} {w w' : World} {b : Nat} {x y z : Value} (h : Tri w b x y z) (hb : But g w w') (hne : b ≠ g) : Tri w' b x y z :=
  ⟨Nat.lt_of_lt_of_le h.lt hb.size, (hb.cell (p := ⟨b, 0, none⟩) h.lt hne).trans h.c0, (hb.cell (p := ⟨b, 1, none⟩) h.lt hne).trans h.c1, (hb.cell (p := ⟨b, 2, none⟩) h.lt hne).trans h.c2,
   (hb.frozen (p := ⟨b, 0, none⟩) h.lt hne).trans h.f0, (hb.frozen (p := ⟨b, 1, none⟩) h.lt hne).trans h.f1, (hb.frozen (p := ⟨b, 2, none⟩) h.lt hne).trans h.f2⟩
theorem owns_low {w : World} {base base' : Nat} {e : TypeId} {size : Nat} {v : Value} {n : Nat} {xs : List Value} (h : w.ownsRow base e size v n xs) (hb : base' ≤ base) : w.ownsRow base' e size v n xs := by
  refine ⟨h.1, ?_⟩
  rcases h.2 with h0 | ⟨g, cap, cur, hv, hg, hr⟩
  · exact .inl h0
  · exact .inr ⟨g, cap, cur, hv, by omega, hr⟩

set_option maxHeartbeats 1000000 in
theorem item_any (B rb n c : Nat) (a : Option Addr) (d : Nat) (w : World) (h : Rd B w rb a n c) (hB : B ≤ w.heap.size) (d1 : 1 ≤ d) (hd : d ≤ 100) :
    Calls Try.prog 20 #[.pointer (some ⟨rb, 0, none⟩), .int .i64 d] w fun e w' => ItemPost B w rb a n c d e w' := by
  have N := hide (fun w (h : Rd B w rb a n c) => below_any B rb n c a 14 w h (by omega) (by omega))
  have T := hide (fun w (h : Rd B w rb a n c) => tags_any B rb n c a w h)
  have V := hide (fun w (h : Rd B w rb a n c) (hB : B ≤ w.heap.size) => vec_any B rb n c a d w h hB hd)
  have HR := hide h
  have hlt := h.lt
  clear h
  go_enter Try.func20, Try.ntmps20
  go_wp2_with fail
  refine (N.out _ (HR.out.alloc _)).mono ?_
  rintro e w1 ⟨i, rfl, i0, i1, r1, b1⟩
  have t1 := (Tri.new w (.int .i64 0) (.int .i64 0) (.slice none 0 0) 27).but b1 (by omega)
  have HB1 := hide ((But.refl rb w).alloc (.cells #[.int .i64 0, .int .i64 0, .slice none 0 0] 27) |>.trans b1)
  have s1 := b1.size
  simp at s1
  obtain ⟨q0, q1, q2, q3, q4, q5, q6⟩ := t1
  clear b1
  go_wp2_with fail
  refine (T.out _ r1).mono ?_
  rintro e w2 ⟨t, rfl, t0, t1, r2, b2⟩
  have T2 := hide (Tri.but (b := w.heap.size) (x := .int .i64 0) (y := .int .i64 0) (z := .slice none 0 0) ⟨q0, q1, q2, q3, q4, q5, q6⟩ b2 (by omega))
  have HB2 := hide (HB1.out.trans b2)
  have s2 := b2.size
  clear q0 q1 q2 q3 q4 q5 q6 b2 HB1
  go_wp2_with fail
  refine (V.out _ r2 (by omega)).mono ?_
  rintro e w3 ⟨v, f, rfl, o3, r3, b3⟩
  obtain ⟨g3, c3, rfl, _, _⟩ := o3.form (by omega)
  obtain ⟨q0, q1, q2, q3, q4, q5, q6⟩ := T2.out.but b3 (by omega)
  have HO := hide o3
  have HR3 := hide r3
  have HB3 := hide (HB2.out.trans b3)
  have s3 := b3.size
  clear o3 b3 r3 r2 r1 T2 HB2 V T N
  go_wp2_with fail
  refine bodyPost_ret (v := .agg #[.int .i64 (1 + i), .int .i64 t, .slice (some ⟨g3, 0, none⟩) d c3]) ?_ rfl ?_
  · simp [results, Try.results20, go_sem, q1, q2, q3]
  · have bb : But w.heap.size w3 (((w3.setCell ⟨w.heap.size, 0, none⟩ (.int .i64 (1 + i))).setCell ⟨w.heap.size, 1, none⟩ (.int .i64 t)).setCell ⟨w.heap.size, 2, none⟩ (.slice (some ⟨g3, 0, none⟩) d c3)) := (((But.refl _ w3).setCell 0 _).setCell 1 _).setCell 2 _
    exact ⟨_, _, g3, c3, f, rfl, owns_low (owns_but HO.out bb (by omega)) (by omega), HR3.out.but bb hB (by omega), but_far (but_far (but_far HB3.out (Nat.le_refl _) _ _) (Nat.le_refl _) _ _) (Nat.le_refl _) _ _⟩
end Go.Proofs.Ytcbmfannbaaokaa
