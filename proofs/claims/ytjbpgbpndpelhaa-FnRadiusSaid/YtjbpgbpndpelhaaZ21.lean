/- A number of two bytes; drawn radii. -/
import Derived.Test.YtjbpgbpndpelhaaZ20
import Derived.Test.YtjbpgbpndpelhaaZ6
import Derived.Test.YtjbpgbpndpelhaaZ18
import Derived.Test.YtjbpgbpndpelhaaZ19
import Derived.Test.YtjbpgbpndpelhaaZ17
import Derived.Test.YtjbpgbpndpelhaaZ7
import Derived.OpenShut
import Derived.Test.YtjbpgbpndpelhaaZ16
namespace Go.Proofs.Ytjbpgbpndpelhaa
open Go.RowKit
set_option maxRecDepth 8000
set_option linter.unusedSimpArgs false
set_option linter.unusedVariables false

set_option maxHeartbeats 2000000 in
theorem below_big (B rb n c : Nat) (a : Option Addr) (m : Int) (w : World) (h : Rd B w rb a n c) (h1 : 256 < m) (h2 : m ≤ 65536) :
    Calls Try.prog 17 #[.pointer (some ⟨rb, 0, none⟩), .int .i64 m] w fun e w' => RdPost B w rb a n c .i64 0 (m - 1) e w' := by
  have N := hide (fun w (h : Rd B w rb a n c) => next_any B rb n c a w h)
  have HR := hide h
  clear h
  go_enter Try.func17, Try.ntmps17
  go_wp2_with fail
  refine (N.out _ HR.out).mono ?_
  rintro e w1 ⟨v, rfl, v0, v1, hr, hb⟩
  go_wp2_with fail
  refine (N.out _ hr).mono ?_
  rintro e w2 ⟨u, rfl, u0, u1, hr2, hb2⟩
  have m0 := Int.emod_nonneg (v * 256 + u) (show m ≠ 0 by omega)
  have m1 := Int.emod_lt_of_pos (v * 256 + u) (show 0 < m by omega)
  go_wp2
  go_ret
  exact ⟨(v * 256 + u) % m, rfl, m0, by omega, hr2, hb.trans hb2⟩

set_option maxHeartbeats 8000000 in
theorem drawInRadius_any (a : Option Addr) (n c : Nat) (w : World) (h : Code w a n) :
    Calls Try.prog 6 #[.slice a n c] w fun e w' => DrawQ w e w' := by
  have D := hide (drawNearest_any a n c w h)
  have HC := hide h
  clear h
  go_enter Try.func6, Try.ntmps6
  go_wp2_with fail
  refine D.out.mono ?_
  rintro e w1 ⟨dim, g, m, cp, L, qa, qc, qs, k, mask, rfl, hni, rq, hql⟩
  have hm := hni.few
  have HN := hide hni
  have HQ := hide rq
  have O := hide (open_any a n c w1 (HC.out.below hni.low))
  have DONE := hide (fun (r : Int) (W : World) (hb : Below w1.heap.size w1 W) => show DrawQ w (.returned (.tuple #[.int .i64 dim, .slice (some ⟨g, 0, none⟩) m cp, .slice qa qs.length qc, .int .i64 r, .int .i64 mask])) W from
    ⟨dim, g, m, cp, L, qa, qc, qs, r, mask, rfl, ⟨hni.cap_, hni.few, hni.hi.below hb, hni.len, bstep hni.low hb⟩, rq.below hb, hql⟩)
  clear hni rq D
  go_wp2_with fail
  refine O.out.mono ?_
  rintro e w2 ⟨rfl, hr2, hb2, hs2⟩
  have HR2 := hide hr2
  have HB2 := hide hb2
  clear hr2 hb2 O
  go_wp2_with fail
  refine (below_big _ _ n c a 3000 w2 HR2.out (by omega) (by omega)).mono ?_
  rintro e w3 ⟨v, rfl, _, _, r3, b3⟩
  have HR3 := hide r3
  have HB3 := hide (HB2.out.trans (b3.below (Nat.le_refl _) HB2.out.size))
  clear r3 b3 HR2 HB2
  go_wp2_with fail
  refine (once_any _ _ n c a 3 w3 HR3.out (by omega) (by omega)).mono ?_
  rintro e w4 ⟨o, rfl, r4, b4⟩
  have HR4 := hide r4
  have HB4 := hide (HB3.out.trans (b4.below (Nat.le_refl _) HB3.out.size))
  clear r4 b4 HR3 HB3
  cases o
  · go_wp2_with fail
    refine bodyPost_ret (v := .tuple #[.int .i64 dim, .slice (some ⟨g, 0, none⟩) m cp, .slice qa qs.length qc, .int .i64 v, .int .i64 mask]) ?_ rfl (DONE.out v _ HB4.out)
    simp [results, Try.results6, go_sem]
  · by_cases hm0 : 0 < m
    · have hm0' : (0 : Int) < (m : Int) := by omega
      go_wp2_with fail
      refine (below_all _ _ n c a m w4 HR4.out (by omega)).mono ?_
      rintro e w5 ⟨x, rfl, x0, x1, r5, b5⟩
      obtain ⟨i, rfl⟩ := natOf x0
      have hi := below_lt hm0 x1
      have HR5 := hide r5
      have HB5 := hide (HB4.out.trans (b5.below (Nat.le_refl _) HB4.out.size))
      obtain ⟨_, _, va, vn, vc, k2, vr, _⟩ := (HN.out.hi.below HB5.out).at_ i hi
      have hvl : vn ≤ 200 := by rw [← vr.len]; exact HN.out.len i hi
      have SD := hide (sDistOf_any va qa vn vc qs.length qc (L i).vec qs w5 vr (HQ.out.below HB5.out) (by omega) (by omega))
      clear r5 b5 HR4 HB4 vr x0 x1
      go_wp2_with fail
      refine SD.out.mono ?_
      rintro e w6 ⟨rfl, b6⟩
      have HR6 := hide (HR5.out.stays b6)
      have HB6 := hide (bstep HB5.out b6)
      clear b6 HR5 HB5 SD k2
      go_wp2_with fail
      refine (below_any _ _ n c a 3 w6 HR6.out (by omega) (by omega)).mono ?_
      rintro e w7 ⟨y, rfl, y0, y1, r7, b7⟩
      have HB7 := hide (HB6.out.trans (b7.below (Nat.le_refl _) HB6.out.size))
      clear r7 b7 HR6 HB6
      obtain ⟨dd, hdd⟩ : ∃ dd, distL (L i).vec qs = dd := ⟨_, rfl⟩
      rw [hdd]
      go_wp2_with fail
      refine bodyPost_ret (v := .tuple #[.int .i64 dim, .slice (some ⟨g, 0, none⟩) m cp, .slice qa qs.length qc, .int .i64 (wrap64 (wrap64 (dd + y) - 1)), .int .i64 mask]) ?_ rfl (DONE.out _ _ HB7.out)
      simp [results, Try.results6, go_sem]
    · obtain rfl : m = 0 := by omega
      go_wp2_with fail
      refine bodyPost_ret (v := .tuple #[.int .i64 dim, .slice (some ⟨g, 0, none⟩) 0 cp, .slice qa qs.length qc, .int .i64 v, .int .i64 mask]) ?_ rfl (DONE.out v _ HB4.out)
      simp [results, Try.results6, go_sem]
end Go.Proofs.Ytjbpgbpndpelhaa

/- Nears within two radii, plain; the walk of the law FnRadiusMore. -/
namespace Go.Proofs.Ytjbpgbpndpelhaa
open Go.RowKit
set_option maxRecDepth 8000
set_option linter.unusedSimpArgs false
set_option linter.unusedVariables false

theorem cntN_cong {q : Int × Int → Bool} {M N : NL} : ∀ k, (∀ i, i < k → M i = N i) → cntN q M k = cntN q N k
  | 0, _ => rfl
  | k + 1, h => by simp only [cntN]; rw [cntN_cong k (fun i hi => h i (by omega)), h k (by omega)]
theorem filN_cong {q : Int × Int → Bool} {M N : NL} : ∀ k, (∀ i, i < k → M i = N i) → filN q M k = filN q N k
  | 0, _ => rfl
  | k + 1, h => by simp only [filN]; rw [filN_cong k (fun i hi => h i (by omega)), cntN_cong k (fun i hi => h i (by omega)), h k (by omega)]
theorem NLput_at (M : NL) (k : Nat) (x : Int × Int) : M.put k x k = x := by simp [NL.put]
theorem NLput_off (M : NL) {k i : Nat} (x : Int × Int) (h : i ≠ k) : M.put k x i = M i := by simp [NL.put, h]
theorem filN_y {p : Int × Int → Bool} {A : NL} {k : Nat} (h : p (A k) = true) : filN p A (k + 1) = (filN p A k).put (cntN p A k) (A k) := by simp [filN, h]
theorem filN_n {p : Int × Int → Bool} {A : NL} {k : Nat} (h : p (A k) = false) : filN p A (k + 1) = filN p A k := by simp [filN, h]
/-- Those that are q, out of those that are p, where q is less. -/
theorem filN_filN (p q : Int × Int → Bool) (hpq : ∀ x, q x = true → p x = true) (A : NL) : ∀ n, cntN q A n = cntN q (filN p A n) (cntN p A n) ∧ filN q A n = filN q (filN p A n) (cntN p A n)
  | 0 => ⟨rfl, rfl⟩
  | n + 1 => by
    obtain ⟨i1, i2⟩ := filN_filN p q hpq A n
    cases hp : p (A n)
    · have hq : q (A n) = false := by
        cases hq : q (A n)
        · rfl
        · rw [hpq _ hq] at hp; cases hp
      rw [cntN_no hp, filN_n hp, cntN_no hq, filN_n hq]
      exact ⟨i1, i2⟩
    · rw [cntN_yes hp, filN_y hp]
      have e1 : cntN q ((filN p A n).put (cntN p A n) (A n)) (cntN p A n) = cntN q (filN p A n) (cntN p A n) := cntN_cong _ fun i hi => NLput_off _ _ (by omega)
      have e2 : filN q ((filN p A n).put (cntN p A n) (A n)) (cntN p A n) = filN q (filN p A n) (cntN p A n) := filN_cong _ fun i hi => NLput_off _ _ (by omega)
      cases hq : q (A n)
      · have hq' : q ((filN p A n).put (cntN p A n) (A n) (cntN p A n)) = false := by rw [NLput_at]; exact hq
        rw [cntN_no hq', filN_n hq', e1, e2, cntN_no hq, filN_n hq]
        exact ⟨i1, i2⟩
      · have hq' : q ((filN p A n).put (cntN p A n) (A n) (cntN p A n)) = true := by rw [NLput_at]; exact hq
        rw [cntN_yes hq', filN_y hq', e1, e2, cntN_yes hq, filN_y hq, i1, i2, NLput_at]
        exact ⟨rfl, rfl⟩
theorem filN_in {p : Int × Int → Bool} {A : NL} : ∀ (n k : Nat), k < n → p (A k) = true → cntN p A k < cntN p A n ∧ filN p A n (cntN p A k) = A k
  | 0, k, hk, _ => absurd hk (by omega)
  | n + 1, k, hk, hp => by
    by_cases e : k = n
    · subst e
      rw [cntN_yes hp, filN_y hp]
      exact ⟨by omega, NLput_at _ _ _⟩
    · obtain ⟨h1, h2⟩ := filN_in n k (by omega) hp
      cases hq : p (A n)
      · rw [cntN_no hq, filN_n hq]; exact ⟨h1, h2⟩
      · rw [cntN_yes hq, filN_y hq]; exact ⟨by omega, by rw [NLput_off _ _ (by omega)]; exact h2⟩
theorem rad_le (dim : Int) (n : Nat) (L : IL) (qs : List Int) (r mask : Int) : radM dim n L qs r mask ≤ n := by
  unfold radM
  split
  · exact Nat.le_trans (cntN_le _ _ _) (cntP_le _ _ _)
  · omega
/-- What is within a radius, out of what is within a greater one. -/
theorem rad_more {dim : Int} {n : Nat} {L : IL} {qs : List Int} {r s mask : Int} (h : r ≤ s) : radM dim n L qs r mask = cntN (inR r) (radA n L qs s mask) (radM dim n L qs s mask) ∧ ∀ i, i < radM dim n L qs s mask → inR r (radA n L qs s mask i) = true → cntN (inR r) (radA n L qs s mask) i < radM dim n L qs r mask ∧ radA n L qs r mask (cntN (inR r) (radA n L qs s mask) i) = radA n L qs s mask i := by
  have hpq : ∀ x, inR r x = true → inR s x = true := fun x hx => by
    unfold inR at *
    exact decide_eq_true (by have := of_decide_eq_true hx; omega)
  obtain ⟨f1, f2⟩ := filN_filN (inR s) (inR r) hpq (nrL qs mask L n) (cntP (mtB mask) L n)
  cases hf : formB dim n L qs
  · have e : ∀ t, radM dim n L qs t mask = 0 := fun t => by unfold radM; rw [hf]; rfl
    rw [e, e]
    exact ⟨rfl, fun i hi => absurd hi (by omega)⟩
  · have e : ∀ t, radM dim n L qs t mask = cntN (inR t) (nrL qs mask L n) (cntP (mtB mask) L n) := fun t => by unfold radM; rw [hf, if_pos rfl]
    refine ⟨by rw [e, e]; exact f1, fun i hi hin => ?_⟩
    have := filN_in (p := inR r) (A := radA n L qs s mask) (radM dim n L qs s mask) i hi hin
    rw [e s] at this
    rw [e r, f1]
    refine ⟨this.1, ?_⟩
    show filN (inR r) (nrL qs mask L n) (cntP (mtB mask) L n) _ = _
    rw [f2]
    exact this.2
theorem PRow.two {w : World} {a : Option Addr} {n : Nat} {f g : Nat → Int} (h : PRow w a n f g) {i : Nat} (hi : i < n) : ∃ b off, a = some ⟨b, off, none⟩ ∧ b < w.heap.size ∧ w.cell? ⟨b, off + i * 2, none⟩ = some (.int .i64 (f i)) ∧ w.cell? ⟨b, off + i * 2 + 1, none⟩ = some (.int .i64 (g i)) := by
  rcases h.lies with h0 | ⟨b, off, e, lt, hc⟩
  · omega
  · exact ⟨b, off, e, lt, hc i hi⟩
structure Q2 (w : World) (b o b' o' : Nat) (x y : Int) : Prop where
  c0 : w.cell? ⟨b, o, none⟩ = some (.int .i64 x)
  c1 : w.cell? ⟨b, o + 1, none⟩ = some (.int .i64 y)
  d0 : w.cell? ⟨b', o', none⟩ = some (.int .i64 x)
  d1 : w.cell? ⟨b', o' + 1, none⟩ = some (.int .i64 y)
theorem Q2.drew {w : World} {b o b' o' : Nat} {x y : Int} (h : Q2 w b o b' o' x y) : Q2 w.drew b o b' o' x y := ⟨h.c0, h.c1, h.d0, h.d1⟩

set_option maxHeartbeats 8000000 in
theorem radiusMore_walk (a : Option Addr) (n cap : Nat) (zs : List Int) (w : World) (h : IsRow .u8 w a n cap zs) :
    Calls Try.prog 4 #[.slice a n cap] w fun e w' => e = .returned (.bool true) ∧ Below w.heap.size w w' := by
  have BG := hide (big_any a n cap w)
  by_cases hn : n ≤ 1048576
  · rw [decide_eq_false (show ¬ 1048576 < n by omega)] at BG
    have DR := hide (drawInRadius_any a n cap w (h.code hn))
    have BY := hide (fun w1 (hb : Below w.heap.size w w1) => byteOf_any a n cap 5 w1 ((h.code hn).below hb) (by omega))
    clear h
    go_enter Try.func4, Try.ntmps4
    go_wp2_with fail
    refine BG.out.mono ?_
    rintro e w' ⟨rfl, hw⟩
    obtain rfl := hw.symm
    clear BG hw
    go_wp2_with fail
    refine DR.out.mono ?_
    rintro e w1 ⟨dim, g, m, cp, L, qa, qc, qs, r, mask, rfl, hni, rq, hql⟩
    have hm := hni.few
    have hv : ∀ i, i < m → (L i).vec.length ≤ 1048576 := fun i hi => Nat.le_trans (hni.len i hi) (by omega)
    have hql2 : qs.length ≤ 1048576 := by omega
    have IA1 := hide (fun r w1 (h : IHi w1 w.heap.size g m L) (rq : Row w1 qa qs.length qs) => iInRadius_any dim (some ⟨g, 0, none⟩) m cp L qa qs.length qc qs r mask w1 h.irow (by omega) hv rq hql2)
    have SA1 := hide (fun w1 (h : IHi w1 w.heap.size g m L) (rq : Row w1 qa qs.length qs) => sInRadius_any dim (some ⟨g, 0, none⟩) m cp L qa qs.length qc qs r mask w1 h.irow (by omega) hv rq hql2)
    have IR1 := hide (fun w1 (h : IHi w1 w.heap.size g m L) (rq : Row w1 qa qs.length qs) => IA1.out r w1 h rq)
    have RL := hide (fun s => rad_le dim m L qs s mask)
    have MORE := hide (fun s (hs : r ≤ s) => rad_more (dim := dim) (n := m) (L := L) (qs := qs) (mask := mask) hs)
    have hx1 := RL.out r
    obtain ⟨x, hx⟩ : ∃ x, radM dim m L qs r mask = x := ⟨_, rfl⟩
    obtain ⟨A, hA⟩ : ∃ A, radA m L qs r mask = A := ⟨_, rfl⟩
    have EQ := hide (fun a1 k1 a2 k2 w1 (h : PRow w1 a1 x (fun i => (A i).1) (fun i => (A i).2)) (h' : PRow w1 a2 x (fun i => (A i).1) (fun i => (A i).2)) => sameNears_self a1 a2 x k1 k2 A w1 h h' (by omega))
    unfold OutN at IA1 IR1
    unfold NearsR at SA1
    simp only [hx, hA] at IR1 SA1 MORE hx1
    have B1 := hide hni.low
    have I1 := hide hni.hi
    have R1 := hide rq
    clear hni rq DR hv hx hA
    go_wp2_with fail
    refine (IR1.out _ I1.out R1.out).mono ?_
    rintro e w2 ⟨a2, c2, rfl, o2, b2⟩
    have I2 := hide (I1.out.below b2)
    have R2 := hide (R1.out.below b2)
    have O2 := hide o2.prow
    have B2 := hide (bstep B1.out b2)
    clear o2 b2 I1 R1 B1
    go_wp2_with fail
    refine (SA1.out _ I2.out R2.out).mono ?_
    rintro e w3 ⟨g3, c3, rfl, o3, b3⟩
    have I3 := hide (I2.out.below b3)
    have R3 := hide (R2.out.below b3)
    have O3 := hide (O2.out.below b3)
    have P3 := hide o3.rowl.prow
    have B3 := hide (bstep B2.out b3)
    clear o3 b3 I2 R2 O2 B2
    go_wp2_with fail
    refine (EQ.out _ _ _ _ _ O3.out P3.out).mono ?_
    rintro e w4 ⟨rfl, b4⟩
    have I4 := hide (I3.out.below b4)
    have R4 := hide (R3.out.below b4)
    have O4 := hide (O3.out.below b4)
    have B4 := hide (bstep B3.out b4)
    clear b4 I3 R3 O3 P3 B3
    by_cases hr : 0 ≤ r ∧ r ≤ 1125899906842624
    · have n1 : ¬ r < 0 := by omega
      have n2 : ¬ 1125899906842624 < r := by omega
      go_wp2_with fail
      refine (BY.out _ B4.out).mono ?_
      rintro e w5 ⟨⟨z, ⟨z0, z1⟩, rfl⟩, hw⟩
      obtain rfl := hw.symm
      clear hw
      obtain ⟨s, hs⟩ : ∃ s, r + z * 7 = s := ⟨_, rfl⟩
      have hrs : r ≤ s := by omega
      obtain ⟨m1, m2⟩ := MORE.out s hrs
      have hy1 := RL.out s
      have IS1 := hide (fun w1 (h : IHi w1 w.heap.size g m L) (rq : Row w1 qa qs.length qs) => IA1.out s w1 h rq)
      obtain ⟨y, hy⟩ : ∃ y, radM dim m L qs s mask = y := ⟨_, rfl⟩
      obtain ⟨M, hM⟩ : ∃ M, radA m L qs s mask = M := ⟨_, rfl⟩
      simp only [hy, hM] at IS1 m1 m2 hy1
      have M1 := hide m1
      have M2 := hide m2
      have HS := hide hs
      clear hy hM m1 m2 IA1 MORE RL hs
      have S7 := hide (fun w1 h rq => show Calls Try.prog 7 #[.int .i64 dim, .slice (some ⟨g, 0, none⟩) m cp, .slice qa qs.length qc, .int .i64 (r + z * 7), .int .i64 mask] w1 fun e w' => ∃ a cap, e = .returned (.slice a y cap) ∧ Wr w' a y M w1.heap.size ∧ Below w1.heap.size w1 w' from by rw [HS.out]; exact IS1.out w1 h rq)
      clear IS1
      go_wp2_with fail
      refine (S7.out _ I4.out R4.out).mono ?_
      rintro e w6 ⟨a6, c6, rfl, o6, b6⟩
      have O6 := hide (O4.out.below b6)
      have P6 := hide o6.prow
      have B6 := hide (bstep B4.out b6)
      clear o6 b6 I4 R4 O4 B4 S7
      have hc0 : cntN (inR r) M 0 = 0 := rfl
      have YES := hide (fun k (h : inR r (M k) = true) => cntN_yes (p := inR r) (A := M) (k := k) h)
      have NO := hide (fun k (h : inR r (M k) = false) => cntN_no (p := inR r) (A := M) (k := k) h)
      have CLE := hide (fun k => cntN_le (inR r) M k)
      obtain ⟨C, hC⟩ : ∃ C, cntN (inR r) M = C := ⟨_, rfl⟩
      simp only [hC] at hc0 YES NO M1 M2 CLE
      clear hC
      go_wp2_with fail
      go_loopw [10, 11] (fun c i wr => ∃ k : Nat, k ≤ y ∧ i = .int .i64 k ∧ c = .int .i64 (C k) ∧ Below w6.heap.size w6 wr) (fun _ i _ => y - (intOf i).toNat)
      case atStart => exact ⟨0, Nat.zero_le _, rfl, by rw [hc0]; rfl, Below.refl _ _⟩
      case round =>
        obtain ⟨k, hk, rfl, rfl, hbel⟩ := hrel
        have HB := hide (bstep B6.out hbel)
        have HBEL := hide hbel
        have hck := CLE.out k
        by_cases hlt : k < y
        · have hlt' : (k : Int) < (y : Int) := by omega
          obtain ⟨b6, o6, rfl, l6, k0, k1⟩ := (P6.out.below hbel).two hlt
          cases hin : inR r (M k)
          · have hdec : ¬ (M k).2 ≤ r := of_decide_eq_false hin
            have hno := NO.out k hin
            clear hbel hin k0
            go_wp2_with fail
            go_roundw
            case rel => exact ⟨k + 1, by omega, by go_num, by rw [hno], HBEL.out⟩
            case measure => simp [intOf]; omega
          · have hdec : (M k).2 ≤ r := of_decide_eq_true hin
            have hyes := YES.out k hin
            obtain ⟨hcl, hfa⟩ := M2.out k hlt hin
            obtain ⟨b2, o2, rfl, l2, j0, j1⟩ := (O6.out.below hbel).two hcl
            rw [hfa] at j0 j1
            have T := hide (Q2.mk j0 j1 k0 k1)
            obtain ⟨ck, hckE⟩ : ∃ ck, C k = ck := ⟨_, rfl⟩
            have HY := hide hyes
            have hge : decide (x ≤ C k) = false := by simp; omega
            have hcl' : (C k : Int) < (x : Int) := by omega
            obtain ⟨p1, hp1⟩ : ∃ p1, (M k).1 = p1 := ⟨_, rfl⟩
            obtain ⟨p2, hp2⟩ : ∃ p2, (M k).2 = p2 := ⟨_, rfl⟩
            have hEq : ∀ w, (Op.equalIn 10000 38 (.agg #[.int .i64 p1, .int .i64 p2]) (.agg #[.int .i64 p1, .int .i64 p2])).run Try.prog w = .ok true w := fun w => by rw [eqNr]; simp
            simp only [hckE, hp1, hp2] at hge hcl hcl' T hck hdec k0 k1 ⊢
            clear hbel j0 j1 hin hfa hyes hp1 hp2 k0
            go_upto_region 13 with fail
            refine wp_region_held_drew (S := fun wx => Q2 wx b2 (o2 + ck * 2) b6 (o6 + k * 2) p1 p2) (by kernel_rfl) (T.out.drew) (fun hH0 => ?_)
            refine wpAnyH_take (i := 0) (oi := { dst := some 76, op := _, type := _, pos := _, after := _, guard := _ }) (v := ?_) rfl (by kernel_rfl) (by kernel_rfl) (by kernel_rfl) (fun _ _ _ h => h) (Or.inl ⟨by rfl, ?_⟩) (hH0) ?_
            rotate_left
            · (intro wx hSw; obtain ⟨q0, q1, q2, q3⟩ := hSw; go_simp <;> with_reducible rfl)
            simp only [Act.put, List.setIfInBounds_toArray, List.set_cons_zero, List.set_cons_succ]
            refine wpAnyH_take (i := 1) (oi := { dst := some 77, op := _, type := _, pos := _, after := _, guard := _ }) (v := ?_) rfl (by kernel_rfl) (by kernel_rfl) (by kernel_rfl) (fun _ _ _ h => h) (Or.inl ⟨by rfl, ?_⟩) (hH0) ?_
            rotate_left
            · (intro wx hSw; obtain ⟨q0, q1, q2, q3⟩ := hSw; go_simp <;> with_reducible rfl)
            simp only [Act.put, List.setIfInBounds_toArray, List.set_cons_zero, List.set_cons_succ]
            refine wpAnyH_take (i := 2) (oi := { dst := some 78, op := _, type := _, pos := _, after := _, guard := _ }) (v := ?_) rfl (by kernel_rfl) (by kernel_rfl) (by kernel_rfl) (fun _ _ _ h => h) (Or.inl ⟨by rfl, ?_⟩) (hH0) ?_
            rotate_left
            · (intro wx hSw; obtain ⟨q0, q1, q2, q3⟩ := hSw; go_simp <;> with_reducible rfl)
            simp only [Act.put, List.setIfInBounds_toArray, List.set_cons_zero, List.set_cons_succ]
            refine wpAnyH_take (i := 3) (oi := { dst := some 79, op := _, type := _, pos := _, after := _, guard := _ }) (v := ?_) rfl (by kernel_rfl) (by kernel_rfl) (by kernel_rfl) (fun _ _ _ h => h) (Or.inl ⟨by rfl, ?_⟩) (hH0) ?_
            rotate_left
            · (intro wx hSw; obtain ⟨q0, q1, q2, q3⟩ := hSw; go_simp <;> with_reducible rfl)
            simp only [Act.put, List.setIfInBounds_toArray, List.set_cons_zero, List.set_cons_succ]
            refine wpAnyH_take (i := 4) (oi := { dst := some 80, op := _, type := _, pos := _, after := _, guard := _ }) (v := ?_) rfl (by kernel_rfl) (by kernel_rfl) (by kernel_rfl) (fun _ _ _ h => h) (Or.inl ⟨by rfl, ?_⟩) (hH0) ?_
            rotate_left
            · (intro wx hSw; obtain ⟨q0, q1, q2, q3⟩ := hSw; go_simp <;> with_reducible rfl)
            simp only [Act.put, List.setIfInBounds_toArray, List.set_cons_zero, List.set_cons_succ]
            refine wpAnyH_take (i := 5) (oi := { dst := some 81, op := _, type := _, pos := _, after := _, guard := _ }) (v := ?_) rfl (by kernel_rfl) (by kernel_rfl) (by kernel_rfl) (fun _ _ _ h => h) (Or.inl ⟨by rfl, ?_⟩) (hH0) ?_
            rotate_left
            · (intro wx hSw; obtain ⟨q0, q1, q2, q3⟩ := hSw; go_simp <;> with_reducible rfl)
            simp only [Act.put, List.setIfInBounds_toArray, List.set_cons_zero, List.set_cons_succ]
            refine wpAnyH_take (i := 6) (oi := { dst := some 82, op := _, type := _, pos := _, after := _, guard := _ }) (v := ?_) rfl (by kernel_rfl) (by kernel_rfl) (by kernel_rfl) (fun _ _ _ h => h) (Or.inl ⟨by rfl, ?_⟩) (hH0) ?_
            rotate_left
            · (intro wx hSw; obtain ⟨q0, q1, q2, q3⟩ := hSw; go_simp <;> with_reducible rfl)
            simp only [Act.put, List.setIfInBounds_toArray, List.set_cons_zero, List.set_cons_succ]
            refine wpAnyH_take (i := 7) (oi := { dst := some 83, op := _, type := _, pos := _, after := _, guard := _ }) (v := ?_) rfl (by kernel_rfl) (by kernel_rfl) (by kernel_rfl) (fun _ _ _ h => h) (Or.inl ⟨by rfl, ?_⟩) (hH0) ?_
            rotate_left
            · (intro wx hSw; obtain ⟨q0, q1, q2, q3⟩ := hSw; go_simp <;> with_reducible rfl)
            simp only [Act.put, List.setIfInBounds_toArray, List.set_cons_zero, List.set_cons_succ]
            refine wpAnyH_take (i := 8) (oi := { dst := some 84, op := _, type := _, pos := _, after := _, guard := _ }) (v := ?_) rfl (by kernel_rfl) (by kernel_rfl) (by kernel_rfl) (fun _ _ _ h => h) (Or.inl ⟨by rfl, ?_⟩) (hH0) ?_
            rotate_left
            · (intro wx hSw; obtain ⟨q0, q1, q2, q3⟩ := hSw; go_simp <;> with_reducible rfl)
            simp only [Act.put, List.setIfInBounds_toArray, List.set_cons_zero, List.set_cons_succ]
            refine wpAnyH_take (i := 9) (oi := { dst := some 85, op := _, type := _, pos := _, after := _, guard := _ }) (v := ?_) rfl (by kernel_rfl) (by kernel_rfl) (by kernel_rfl) (fun _ _ _ h => h) (Or.inl ⟨by rfl, ?_⟩) (hH0) ?_
            rotate_left
            · (intro wx hSw; obtain ⟨q0, q1, q2, q3⟩ := hSw; go_simp <;> with_reducible rfl)
            simp only [Act.put, List.setIfInBounds_toArray, List.set_cons_zero, List.set_cons_succ]
            refine wpAnyH_take (i := 10) (oi := { dst := some 86, op := _, type := _, pos := _, after := _, guard := _ }) (v := ?_) rfl (by kernel_rfl) (by kernel_rfl) (by kernel_rfl) (fun _ _ _ h => h) (Or.inl ⟨by rfl, ?_⟩) (hH0) ?_
            rotate_left
            · (intro wx hSw; obtain ⟨q0, q1, q2, q3⟩ := hSw; go_simp <;> with_reducible rfl)
            simp only [Act.put, List.setIfInBounds_toArray, List.set_cons_zero, List.set_cons_succ]
            refine wpAnyH_take (i := 11) (oi := { dst := some 87, op := _, type := _, pos := _, after := _, guard := _ }) (v := ?_) rfl (by kernel_rfl) (by kernel_rfl) (by kernel_rfl) (fun _ _ _ h => h) (Or.inl ⟨by rfl, ?_⟩) (hH0) ?_
            rotate_left
            · (intro wx hSw; obtain ⟨q0, q1, q2, q3⟩ := hSw; go_simp <;> with_reducible rfl)
            simp only [Act.put, List.setIfInBounds_toArray, List.set_cons_zero, List.set_cons_succ]
            refine wpAnyH_take (i := 12) (oi := { dst := some 88, op := _, type := _, pos := _, after := _, guard := _ }) (v := ?_) rfl (by kernel_rfl) (by kernel_rfl) (by kernel_rfl) (fun _ _ _ h => h) (Or.inl ⟨by rfl, ?_⟩) (hH0) ?_
            rotate_left
            · (intro wx hSw; obtain ⟨q0, q1, q2, q3⟩ := hSw; go_simp <;> with_reducible rfl)
            simp only [Act.put, List.setIfInBounds_toArray, List.set_cons_zero, List.set_cons_succ]
            refine wpAnyH_take (i := 13) (oi := { dst := some 89, op := _, type := _, pos := _, after := _, guard := _ }) (v := ?_) rfl (by kernel_rfl) (by kernel_rfl) (by kernel_rfl) (fun _ _ _ h => h) (Or.inl ⟨by rfl, ?_⟩) (hH0) ?_
            rotate_left
            · (intro wx hSw; obtain ⟨q0, q1, q2, q3⟩ := hSw; go_simp <;> with_reducible rfl)
            simp only [Act.put, List.setIfInBounds_toArray, List.set_cons_zero, List.set_cons_succ]
            refine wpAnyH_take (i := 14) (oi := { dst := some 90, op := _, type := _, pos := _, after := _, guard := _ }) (v := ?_) rfl (by kernel_rfl) (by kernel_rfl) (by kernel_rfl) (fun _ _ _ h => h) (Or.inl ⟨by rfl, ?_⟩) (hH0) ?_
            rotate_left
            · (intro wx hSw; obtain ⟨q0, q1, q2, q3⟩ := hSw; go_simp <;> with_reducible rfl)
            simp only [Act.put, List.setIfInBounds_toArray, List.set_cons_zero, List.set_cons_succ]
            refine wpAnyH_done (by kernel_rfl) ?_ _
            -- behind it: go_wp2_with fail, then go_meet (a cut) or go_ret; the condition at the end: hH0
            go_wp2_with fail
            go_roundw
            case rel =>
              have hbel := HBEL.out
              exact ⟨k + 1, by omega, by go_num, by rw [HY.out, hckE]; go_num, (by repeat' first | with_reducible exact Below.refl _ _ | with_reducible assumption | with_reducible refine below_drewN ?_ _ | with_reducible refine balloc ?_ _ | with_reducible refine Below.drew ?_ | with_reducible refine Below.setCell ?_ (by first | (simp; done) | (simp; omega) | omega) _ | with_reducible refine bstep ?_ (by assumption))⟩
            case measure => simp [intOf]; omega
        · obtain rfl : k = y := by omega
          have hcc : ((C k : Int) == (x : Int)) = true := by rw [M1.out]; simp
          clear hbel
          go_wp2_with fail
          go_ret
          exact ⟨rfl, HB.out⟩
    · by_cases h0 : r < 0
      · go_wp2_with fail
        refine (SA1.out _ I4.out R4.out).mono ?_
        rintro e w5 ⟨g5, c5, rfl, o5, b5⟩
        have O5 := hide (O4.out.below b5)
        have P5 := hide o5.rowl.prow
        have B5 := hide (bstep B4.out b5)
        clear o5 b5
        go_wp2_with fail
        refine (EQ.out _ _ _ _ _ O5.out P5.out).mono ?_
        rintro e w6 ⟨rfl, b6⟩
        have B6 := hide (bstep B5.out b6)
        clear b6
        go_wp2_with fail
        go_ret
        exact ⟨rfl, B6.out⟩
      · have h1 : 1125899906842624 < r := by omega
        go_wp2_with fail
        refine (SA1.out _ I4.out R4.out).mono ?_
        rintro e w5 ⟨g5, c5, rfl, o5, b5⟩
        have O5 := hide (O4.out.below b5)
        have P5 := hide o5.rowl.prow
        have B5 := hide (bstep B4.out b5)
        clear o5 b5
        go_wp2_with fail
        refine (EQ.out _ _ _ _ _ O5.out P5.out).mono ?_
        rintro e w6 ⟨rfl, b6⟩
        have B6 := hide (bstep B5.out b6)
        clear b6
        go_wp2_with fail
        go_ret
        exact ⟨rfl, B6.out⟩
  · rw [decide_eq_true (show 1048576 < n by omega)] at BG
    go_enter Try.func4, Try.ntmps4
    go_wp2_with fail
    refine BG.out.mono ?_
    rintro e w' ⟨rfl, rfl⟩
    go_wp2
    go_ret
    exact ⟨rfl, (by repeat' first | with_reducible exact Below.refl _ _ | with_reducible assumption | with_reducible refine below_drewN ?_ _ | with_reducible refine balloc ?_ _ | with_reducible refine Below.drew ?_ | with_reducible refine Below.setCell ?_ (by first | (simp; done) | (simp; omega) | omega) _ | with_reducible refine bstep ?_ (by assumption))⟩
end Go.Proofs.Ytjbpgbpndpelhaa

/- The walk of the law FnRadius. -/
namespace Go.Proofs.Ytjbpgbpndpelhaa
open Go.RowKit
set_option maxRecDepth 8000
set_option linter.unusedSimpArgs false
set_option linter.unusedVariables false

/-- The distance of an item of a right query. -/
theorem dist_near {dim : Int} {n : Nat} {L : IL} {qs : List Int} {mask : Int} (hf : formB dim n L qs = true) {i : Nat} (hi : i < cntP (mtB mask) L n) : distL (fil (mtB mask) L n i).vec qs = (nrL qs mask L n i).2 := by
  obtain ⟨j, hj, e⟩ := fil_mem (mtB mask) L n i hi
  have fine := fine_of hf
  show _ = (nrOf qs (fil (mtB mask) L n i)).2
  rw [e]
  unfold distL pairB nrOf
  rw [fine.vi j hj, fine.vq, decide_eq_true (fine.li j hj)]
  rfl
theorem fil_lenr {p : It → Bool} {L : IL} {n b : Nat} (h : ∀ i, i < n → (L i).vec.length ≤ b) : ∀ i, i < cntP p L n → (fil p L n i).vec.length ≤ b := by
  intro i hi
  obtain ⟨j, hj, e⟩ := fil_mem p L n i hi
  rw [e]; exact h j hj
structure Q3 (w : World) (b o b' o' : Nat) (x y : Int) : Prop where
  c0 : w.cell? ⟨b, o, none⟩ = some (.int .i64 x)
  c1 : w.cell? ⟨b, o + 1, none⟩ = some (.int .i64 y)
  d0 : w.cell? ⟨b', o', none⟩ = some (.int .i64 x)
theorem Q3.drew {w : World} {b o b' o' : Nat} {x y : Int} (h : Q3 w b o b' o' x y) : Q3 w.drew b o b' o' x y := ⟨h.c0, h.c1, h.d0⟩
theorem IRow.atR {w : World} {g n : Nat} {L : IL} (h : IRow w (some ⟨g, 0, none⟩) n L) {i : Nat} (hi : i < n) : g < w.heap.size ∧ IAt w g (i * 3) (L i) := by
  rcases h.lies with h0 | ⟨b, off, e, lt, hc⟩
  · omega
  · cases e
    have := hc i hi
    rw [Nat.zero_add] at this
    exact ⟨lt, this⟩

set_option maxHeartbeats 8000000 in
theorem radius_walk (a : Option Addr) (n cap : Nat) (zs : List Int) (w : World) (h : IsRow .u8 w a n cap zs) :
    Calls Try.prog 3 #[.slice a n cap] w fun e w' => e = .returned (.bool true) ∧ Below w.heap.size w w' := by
  have BG := hide (big_any a n cap w)
  by_cases hn : n ≤ 1048576
  · rw [decide_eq_false (show ¬ 1048576 < n by omega)] at BG
    have DR := hide (drawInRadius_any a n cap w (h.code hn))
    clear h
    go_enter Try.func3, Try.ntmps3
    go_wp2_with fail
    refine BG.out.mono ?_
    rintro e w' ⟨rfl, hw⟩
    obtain rfl := hw.symm
    clear BG hw
    go_wp2_with fail
    refine DR.out.mono ?_
    rintro e w1 ⟨dim, g, m, cp, L, qa, qc, qs, r, mask, rfl, hni, rq, hql⟩
    have hm := hni.few
    have hv : ∀ i, i < m → (L i).vec.length ≤ 1048576 := fun i hi => Nat.le_trans (hni.len i hi) (by omega)
    have hql2 : qs.length ≤ 1048576 := by omega
    have IR1 := hide (fun w1 (h : IHi w1 w.heap.size g m L) (rq : Row w1 qa qs.length qs) => iInRadius_any dim (some ⟨g, 0, none⟩) m cp L qa qs.length qc qs r mask w1 h.irow (by omega) hv rq hql2)
    have SA1 := hide (fun w1 (h : IHi w1 w.heap.size g m L) (rq : Row w1 qa qs.length qs) => sInRadius_any dim (some ⟨g, 0, none⟩) m cp L qa qs.length qc qs r mask w1 h.irow (by omega) hv rq hql2)
    have SO := hide (fun w1 (h : IHi w1 w.heap.size g m L) => sItemsOk_any dim (some ⟨g, 0, none⟩) m cp L w1 h.irow (by omega) hv)
    have SV := hide (fun w1 (rq : Row w1 qa qs.length qs) => sVecOk_any qa qs.length qc qs w1 rq hql2)
    have IM := hide (fun w1 (h : IHi w1 w.heap.size g m L) => iMatching_any (some ⟨g, 0, none⟩) m cp L mask w1 h.irow (by omega) hv)
    have FL := hide (fil_lenr (p := mtB mask) hv)
    have hx1 := rad_le dim m L qs r mask
    have cm := cntP_le (mtB mask) L m
    have FIT := hide (fun (hf : formB dim m L qs = true) => show radM dim m L qs r mask = cntN (inR r) (nrL qs mask L m) (cntP (mtB mask) L m) ∧ (∀ i, i < cntP (mtB mask) L m → inR r (nrL qs mask L m i) = true → cntN (inR r) (nrL qs mask L m) i < radM dim m L qs r mask ∧ radA m L qs r mask (cntN (inR r) (nrL qs mask L m) i) = nrL qs mask L m i) ∧ ∀ i, i < cntP (mtB mask) L m → distL (fil (mtB mask) L m i).vec qs = (nrL qs mask L m i).2 from by
      have e : radM dim m L qs r mask = cntN (inR r) (nrL qs mask L m) (cntP (mtB mask) L m) := by unfold radM; rw [hf, if_pos rfl]
      refine ⟨e, fun i hi hin => ?_, fun i hi => dist_near hf hi⟩
      rw [e]
      exact filN_in (cntP (mtB mask) L m) i hi hin)
    have NID := hide (fun i => show (nrL qs mask L m i).1 = (fil (mtB mask) L m i).id from rfl)
    have hform : formB dim m L qs = (itemsB dim m L && vecOkB qs && decide ((qs.length : Int) = dim)) := rfl
    obtain ⟨x, hx⟩ : ∃ x, radM dim m L qs r mask = x := ⟨_, rfl⟩
    obtain ⟨A, hA⟩ : ∃ A, radA m L qs r mask = A := ⟨_, rfl⟩
    obtain ⟨c, hc⟩ : ∃ c, cntP (mtB mask) L m = c := ⟨_, rfl⟩
    obtain ⟨F, hF⟩ : ∃ F, fil (mtB mask) L m = F := ⟨_, rfl⟩
    obtain ⟨N, hN⟩ : ∃ N, nrL qs mask L m = N := ⟨_, rfl⟩
    have EQ := hide (fun a1 k1 a2 k2 w1 (h : PRow w1 a1 x (fun i => (A i).1) (fun i => (A i).2)) (h' : PRow w1 a2 x (fun i => (A i).1) (fun i => (A i).2)) => sameNears_self a1 a2 x k1 k2 A w1 h h' (by omega))
    unfold OutN at IR1
    unfold NearsR at SA1
    unfold PickR at IM
    simp only [hx, hA] at IR1 SA1 FIT hx1
    simp only [hc, hF, hN] at IM FIT NID FL cm
    have B1 := hide hni.low
    have I1 := hide hni.hi
    have R1 := hide rq
    have HFM := hide hform
    clear hni rq DR hv hx hA hc hF hN hform
    go_wp2_with fail
    refine (IR1.out _ I1.out R1.out).mono ?_
    rintro e w2 ⟨a2, c2, rfl, o2, b2⟩
    have I2 := hide (I1.out.below b2)
    have R2 := hide (R1.out.below b2)
    have O2 := hide o2.prow
    have B2 := hide (bstep B1.out b2)
    clear o2 b2 I1 R1 B1
    go_wp2_with fail
    refine (SA1.out _ I2.out R2.out).mono ?_
    rintro e w3 ⟨g3, c3, rfl, o3, b3⟩
    have I3 := hide (I2.out.below b3)
    have R3 := hide (R2.out.below b3)
    have O3 := hide (O2.out.below b3)
    have P3 := hide o3.rowl.prow
    have B3 := hide (bstep B2.out b3)
    clear o3 b3 I2 R2 O2 B2
    go_wp2_with fail
    refine (EQ.out _ _ _ _ _ O3.out P3.out).mono ?_
    rintro e w4 ⟨rfl, b4⟩
    have I4 := hide (I3.out.below b4)
    have R4 := hide (R3.out.below b4)
    have O4 := hide (O3.out.below b4)
    have B4 := hide (bstep B3.out b4)
    clear b4 I3 R3 O3 P3 B3
    go_wp2_with fail
    refine (SO.out _ I4.out).mono ?_
    rintro e w5 ⟨rfl, b5⟩
    have I5 := hide (I4.out.below b5)
    have R5 := hide (R4.out.below b5)
    have O5 := hide (O4.out.below b5)
    have B5 := hide (bstep B4.out b5)
    clear b5 I4 R4 O4 B4
    cases hib : itemsB dim m L
    · go_wp2_with fail
      refine (SA1.out _ I5.out R5.out).mono ?_
      rintro e wa ⟨ga, ca, rfl, oa, ba⟩
      have Oa := hide (O5.out.below ba)
      have Pa := hide oa.rowl.prow
      have Ba := hide (bstep B5.out ba)
      clear oa ba
      go_wp2_with fail
      refine (EQ.out _ _ _ _ _ Oa.out Pa.out).mono ?_
      rintro e wb ⟨rfl, bb⟩
      have Bb := hide (bstep Ba.out bb)
      clear bb
      go_wp2_with fail
      go_ret
      exact ⟨rfl, Bb.out⟩
    · go_wp2_with fail
      refine (SV.out _ R5.out).mono ?_
      rintro e w6 ⟨rfl, hw6⟩
      obtain rfl := hw6.symm
      clear hw6
      cases hvb : vecOkB qs
      · go_wp2_with fail
        refine (SA1.out _ I5.out R5.out).mono ?_
        rintro e wa ⟨ga, ca, rfl, oa, ba⟩
        have Oa := hide (O5.out.below ba)
        have Pa := hide oa.rowl.prow
        have Ba := hide (bstep B5.out ba)
        clear oa ba
        go_wp2_with fail
        refine (EQ.out _ _ _ _ _ Oa.out Pa.out).mono ?_
        rintro e wb ⟨rfl, bb⟩
        have Bb := hide (bstep Ba.out bb)
        clear bb
        go_wp2_with fail
        go_ret
        exact ⟨rfl, Bb.out⟩
      · by_cases hqd : (qs.length : Int) = dim
        · have hqb : ((qs.length : Int) != dim) = false := by simp [hqd]
          obtain ⟨f1, f2, f3⟩ := FIT.out (by rw [HFM.out, hib, hvb, decide_eq_true hqd]; rfl)
          have F1 := hide f1
          have F2 := hide f2
          have F3 := hide f3
          have hc0 : cntN (inR r) N 0 = 0 := rfl
          have YES := hide (fun k (h : inR r (N k) = true) => cntN_yes (p := inR r) (A := N) (k := k) h)
          have NO := hide (fun k (h : inR r (N k) = false) => cntN_no (p := inR r) (A := N) (k := k) h)
          have CLE := hide (fun k => cntN_le (inR r) N k)
          obtain ⟨C, hC⟩ : ∃ C, cntN (inR r) N = C := ⟨_, rfl⟩
          simp only [hC] at hc0 YES NO F1 F2 CLE
          clear hC f1 f2 f3 hqd hib hvb FIT HFM
          go_wp2_with fail
          refine (IM.out _ I5.out).mono ?_
          rintro e w7 ⟨g7, c7, V7, s7, rfl, i7, b7⟩
          have R7 := hide (R5.out.below b7)
          have O7 := hide (O5.out.below b7)
          have P7 := hide i7.its.irow
          have B7 := hide (bstep B5.out b7)
          clear i7 b7 R5 O5 B5 I5
          go_wp2_with fail
          go_loopw [9, 11] (fun cc i wr => ∃ k : Nat, k ≤ c ∧ i = .int .i64 k ∧ cc = .int .i64 (C k) ∧ Below w7.heap.size w7 wr) (fun _ i _ => c - (intOf i).toNat)
          case atStart => exact ⟨0, Nat.zero_le _, rfl, by rw [hc0]; rfl, Below.refl _ _⟩
          case round =>
            obtain ⟨k, hk, rfl, rfl, hbel⟩ := hrel
            have HB := hide (bstep B7.out hbel)
            have HBEL := hide hbel
            have hck := CLE.out k
            by_cases hlt : k < c
            · have hlt' : (k : Int) < (c : Int) := by omega
              obtain ⟨l7, c0, c1', va, vn, vc, cv, vr⟩ := (P7.out.below hbel).atR hlt
              have hvl : vn ≤ 1048576 := by rw [← vr.len]; exact FL.out k hlt
              have ID := hide (iDistOf_any va qa vn vc qs.length qc (F k).vec qs wr vr (R7.out.below hbel) hvl hql2)
              rw [F3.out k hlt] at ID
              have RK := hide (O7.out.below hbel)
              have PK := hide (P7.out.below hbel)
              clear hbel vr c0 c1'
              cases hin : inR r (N k)
              · have hdec : ¬ (N k).2 ≤ r := of_decide_eq_false hin
                have hno := NO.out k hin
                clear hin
                go_wp2_with fail
                refine ID.out.mono ?_
                rintro e w8 ⟨rfl, b8⟩
                have HB8 := hide (bstep HBEL.out b8)
                clear b8
                go_wp2_with fail
                go_roundw
                case rel => exact ⟨k + 1, by omega, by go_num, by rw [hno], HB8.out⟩
                case measure => simp [intOf]; omega
              · have hdec : (N k).2 ≤ r := of_decide_eq_true hin
                have hyes := YES.out k hin
                obtain ⟨hcl, hfa⟩ := F2.out k hlt hin
                have HY := hide hyes
                have HFA := hide hfa
                have HCL := hide hcl
                clear hin hyes hfa
                go_wp2_with fail
                refine ID.out.mono ?_
                rintro e w8 ⟨rfl, b8⟩
                obtain ⟨b2, o2, rfl, l2, j0, j1⟩ := (RK.out.below b8).two hcl
                obtain ⟨_, k0, _⟩ := (PK.out.below b8).atR hlt
                rw [HFA.out] at j0 j1
                rw [← NID.out k] at k0
                have T := hide (Q3.mk j0 j1 k0)
                have HB8 := hide (bstep HBEL.out b8)
                obtain ⟨ck, hckE⟩ : ∃ ck, C k = ck := ⟨_, rfl⟩
                have hge : decide (x ≤ C k) = false := by simp; omega
                have hcl' : (C k : Int) < (x : Int) := by omega
                obtain ⟨p1, hp1⟩ : ∃ p1, (N k).1 = p1 := ⟨_, rfl⟩
                obtain ⟨p2, hp2⟩ : ∃ p2, (N k).2 = p2 := ⟨_, rfl⟩
                have hEq : ∀ w, (Op.equalIn 10000 38 (.agg #[.int .i64 p1, .int .i64 p2]) (.agg #[.int .i64 p1, .int .i64 p2])).run Try.prog w = .ok true w := fun w => by rw [eqNr]; simp
                simp only [hckE, hp1, hp2] at hge hcl hcl' T hck hdec ⊢
                clear b8 j0 j1 hp1 hp2 k0 cv
                go_upto_region 14 with fail
                refine wp_region_held_drew (S := fun wx => Q3 wx b2 (o2 + ck * 2) g7 (k * 3) p1 p2) (by kernel_rfl) (T.out.drew) (fun hH0 => ?_)
                refine wpAnyH_take (i := 0) (oi := { dst := some 82, op := _, type := _, pos := _, after := _, guard := _ }) (v := ?_) rfl (by kernel_rfl) (by kernel_rfl) (by kernel_rfl) (fun _ _ _ h => h) (Or.inl ⟨by rfl, ?_⟩) (hH0) ?_
                rotate_left
                · (intro wx hSw; obtain ⟨q0, q1, q2⟩ := hSw; go_simp <;> with_reducible rfl)
                simp only [Act.put, List.setIfInBounds_toArray, List.set_cons_zero, List.set_cons_succ]
                refine wpAnyH_take (i := 1) (oi := { dst := some 83, op := _, type := _, pos := _, after := _, guard := _ }) (v := ?_) rfl (by kernel_rfl) (by kernel_rfl) (by kernel_rfl) (fun _ _ _ h => h) (Or.inl ⟨by rfl, ?_⟩) (hH0) ?_
                rotate_left
                · (intro wx hSw; obtain ⟨q0, q1, q2⟩ := hSw; go_simp <;> with_reducible rfl)
                simp only [Act.put, List.setIfInBounds_toArray, List.set_cons_zero, List.set_cons_succ]
                refine wpAnyH_take (i := 2) (oi := { dst := some 84, op := _, type := _, pos := _, after := _, guard := _ }) (v := ?_) rfl (by kernel_rfl) (by kernel_rfl) (by kernel_rfl) (fun _ _ _ h => h) (Or.inl ⟨by rfl, ?_⟩) (hH0) ?_
                rotate_left
                · (intro wx hSw; obtain ⟨q0, q1, q2⟩ := hSw; go_simp <;> with_reducible rfl)
                simp only [Act.put, List.setIfInBounds_toArray, List.set_cons_zero, List.set_cons_succ]
                refine wpAnyH_take (i := 3) (oi := { dst := some 85, op := _, type := _, pos := _, after := _, guard := _ }) (v := ?_) rfl (by kernel_rfl) (by kernel_rfl) (by kernel_rfl) (fun _ _ _ h => h) (Or.inl ⟨by rfl, ?_⟩) (hH0) ?_
                rotate_left
                · (intro wx hSw; obtain ⟨q0, q1, q2⟩ := hSw; go_simp <;> with_reducible rfl)
                simp only [Act.put, List.setIfInBounds_toArray, List.set_cons_zero, List.set_cons_succ]
                refine wpAnyH_take (i := 4) (oi := { dst := some 86, op := _, type := _, pos := _, after := _, guard := _ }) (v := ?_) rfl (by kernel_rfl) (by kernel_rfl) (by kernel_rfl) (fun _ _ _ h => h) (Or.inl ⟨by rfl, ?_⟩) (hH0) ?_
                rotate_left
                · (intro wx hSw; obtain ⟨q0, q1, q2⟩ := hSw; go_simp <;> with_reducible rfl)
                simp only [Act.put, List.setIfInBounds_toArray, List.set_cons_zero, List.set_cons_succ]
                refine wpAnyH_take (i := 5) (oi := { dst := some 87, op := _, type := _, pos := _, after := _, guard := _ }) (v := ?_) rfl (by kernel_rfl) (by kernel_rfl) (by kernel_rfl) (fun _ _ _ h => h) (Or.inl ⟨by rfl, ?_⟩) (hH0) ?_
                rotate_left
                · (intro wx hSw; obtain ⟨q0, q1, q2⟩ := hSw; go_simp <;> with_reducible rfl)
                simp only [Act.put, List.setIfInBounds_toArray, List.set_cons_zero, List.set_cons_succ]
                refine wpAnyH_take (i := 6) (oi := { dst := some 88, op := _, type := _, pos := _, after := _, guard := _ }) (v := ?_) rfl (by kernel_rfl) (by kernel_rfl) (by kernel_rfl) (fun _ _ _ h => h) (Or.inl ⟨by rfl, ?_⟩) (hH0) ?_
                rotate_left
                · (intro wx hSw; obtain ⟨q0, q1, q2⟩ := hSw; go_simp <;> with_reducible rfl)
                simp only [Act.put, List.setIfInBounds_toArray, List.set_cons_zero, List.set_cons_succ]
                refine wpAnyH_take (i := 7) (oi := { dst := some 89, op := _, type := _, pos := _, after := _, guard := _ }) (v := ?_) rfl (by kernel_rfl) (by kernel_rfl) (by kernel_rfl) (fun _ _ _ h => h) (Or.inl ⟨by rfl, ?_⟩) (hH0) ?_
                rotate_left
                · (intro wx hSw; obtain ⟨q0, q1, q2⟩ := hSw; go_simp <;> with_reducible rfl)
                simp only [Act.put, List.setIfInBounds_toArray, List.set_cons_zero, List.set_cons_succ]
                refine wpAnyH_take (i := 8) (oi := { dst := some 90, op := _, type := _, pos := _, after := _, guard := _ }) (v := ?_) rfl (by kernel_rfl) (by kernel_rfl) (by kernel_rfl) (fun _ _ _ h => h) (Or.inl ⟨by rfl, ?_⟩) (hH0) ?_
                rotate_left
                · (intro wx hSw; obtain ⟨q0, q1, q2⟩ := hSw; go_simp <;> with_reducible rfl)
                simp only [Act.put, List.setIfInBounds_toArray, List.set_cons_zero, List.set_cons_succ]
                refine wpAnyH_take (i := 9) (oi := { dst := some 91, op := _, type := _, pos := _, after := _, guard := _ }) (v := ?_) rfl (by kernel_rfl) (by kernel_rfl) (by kernel_rfl) (fun _ _ _ h => h) (Or.inl ⟨by rfl, ?_⟩) (hH0) ?_
                rotate_left
                · (intro wx hSw; obtain ⟨q0, q1, q2⟩ := hSw; go_simp <;> with_reducible rfl)
                simp only [Act.put, List.setIfInBounds_toArray, List.set_cons_zero, List.set_cons_succ]
                refine wpAnyH_take (i := 10) (oi := { dst := some 92, op := _, type := _, pos := _, after := _, guard := _ }) (v := ?_) rfl (by kernel_rfl) (by kernel_rfl) (by kernel_rfl) (fun _ _ _ h => h) (Or.inl ⟨by rfl, ?_⟩) (hH0) ?_
                rotate_left
                · (intro wx hSw; obtain ⟨q0, q1, q2⟩ := hSw; go_simp <;> with_reducible rfl)
                simp only [Act.put, List.setIfInBounds_toArray, List.set_cons_zero, List.set_cons_succ]
                refine wpAnyH_take (i := 11) (oi := { dst := some 93, op := _, type := _, pos := _, after := _, guard := _ }) (v := ?_) rfl (by kernel_rfl) (by kernel_rfl) (by kernel_rfl) (fun _ _ _ h => h) (Or.inl ⟨by rfl, ?_⟩) (hH0) ?_
                rotate_left
                · (intro wx hSw; obtain ⟨q0, q1, q2⟩ := hSw; go_simp <;> with_reducible rfl)
                simp only [Act.put, List.setIfInBounds_toArray, List.set_cons_zero, List.set_cons_succ]
                refine wpAnyH_take (i := 12) (oi := { dst := some 94, op := _, type := _, pos := _, after := _, guard := _ }) (v := ?_) rfl (by kernel_rfl) (by kernel_rfl) (by kernel_rfl) (fun _ _ _ h => h) (Or.inl ⟨by rfl, ?_⟩) (hH0) ?_
                rotate_left
                · (intro wx hSw; obtain ⟨q0, q1, q2⟩ := hSw; go_simp <;> with_reducible rfl)
                simp only [Act.put, List.setIfInBounds_toArray, List.set_cons_zero, List.set_cons_succ]
                refine wpAnyH_take (i := 13) (oi := { dst := some 95, op := _, type := _, pos := _, after := _, guard := _ }) (v := ?_) rfl (by kernel_rfl) (by kernel_rfl) (by kernel_rfl) (fun _ _ _ h => h) (Or.inl ⟨by rfl, ?_⟩) (hH0) ?_
                rotate_left
                · (intro wx hSw; obtain ⟨q0, q1, q2⟩ := hSw; go_simp <;> with_reducible rfl)
                simp only [Act.put, List.setIfInBounds_toArray, List.set_cons_zero, List.set_cons_succ]
                refine wpAnyH_take (i := 14) (oi := { dst := some 96, op := _, type := _, pos := _, after := _, guard := _ }) (v := ?_) rfl (by kernel_rfl) (by kernel_rfl) (by kernel_rfl) (fun _ _ _ h => h) (Or.inl ⟨by rfl, ?_⟩) (hH0) ?_
                rotate_left
                · (intro wx hSw; obtain ⟨q0, q1, q2⟩ := hSw; go_simp <;> with_reducible rfl)
                simp only [Act.put, List.setIfInBounds_toArray, List.set_cons_zero, List.set_cons_succ]
                refine wpAnyH_take (i := 15) (oi := { dst := some 97, op := _, type := _, pos := _, after := _, guard := _ }) (v := ?_) rfl (by kernel_rfl) (by kernel_rfl) (by kernel_rfl) (fun _ _ _ h => h) (Or.inl ⟨by rfl, ?_⟩) (hH0) ?_
                rotate_left
                · (intro wx hSw; obtain ⟨q0, q1, q2⟩ := hSw; go_simp <;> with_reducible rfl)
                simp only [Act.put, List.setIfInBounds_toArray, List.set_cons_zero, List.set_cons_succ]
                refine wpAnyH_take (i := 16) (oi := { dst := some 98, op := _, type := _, pos := _, after := _, guard := _ }) (v := ?_) rfl (by kernel_rfl) (by kernel_rfl) (by kernel_rfl) (fun _ _ _ h => h) (Or.inl ⟨by rfl, ?_⟩) (hH0) ?_
                rotate_left
                · (intro wx hSw; obtain ⟨q0, q1, q2⟩ := hSw; go_simp <;> with_reducible rfl)
                simp only [Act.put, List.setIfInBounds_toArray, List.set_cons_zero, List.set_cons_succ]
                refine wpAnyH_take (i := 17) (oi := { dst := some 99, op := _, type := _, pos := _, after := _, guard := _ }) (v := ?_) rfl (by kernel_rfl) (by kernel_rfl) (by kernel_rfl) (fun _ _ _ h => h) (Or.inl ⟨by rfl, ?_⟩) (hH0) ?_
                rotate_left
                · (intro wx hSw; obtain ⟨q0, q1, q2⟩ := hSw; go_simp <;> with_reducible rfl)
                simp only [Act.put, List.setIfInBounds_toArray, List.set_cons_zero, List.set_cons_succ]
                refine wpAnyH_done (by kernel_rfl) ?_ _
                -- behind it: go_wp2_with fail, then go_meet (a cut) or go_ret; the condition at the end: hH0
                go_wp2_with fail
                go_roundw
                case rel =>
                  have hbel := HB8.out
                  exact ⟨k + 1, by omega, by go_num, by rw [HY.out, hckE]; go_num, (by repeat' first | with_reducible exact Below.refl _ _ | with_reducible assumption | with_reducible refine below_drewN ?_ _ | with_reducible refine balloc ?_ _ | with_reducible refine Below.drew ?_ | with_reducible refine Below.setCell ?_ (by first | (simp; done) | (simp; omega) | omega) _ | with_reducible refine bstep ?_ (by assumption))⟩
                case measure => simp [intOf]; omega
            · obtain rfl : k = c := by omega
              have hcc : ((C k : Int) == (x : Int)) = true := by rw [F1.out]; simp
              clear hbel
              go_wp2_with fail
              go_ret
              exact ⟨rfl, HB.out⟩
        · have hqb : ((qs.length : Int) != dim) = true := by simp [hqd]
          clear hqd
          go_wp2_with fail
          refine (SA1.out _ I5.out R5.out).mono ?_
          rintro e wa ⟨ga, ca, rfl, oa, ba⟩
          have Oa := hide (O5.out.below ba)
          have Pa := hide oa.rowl.prow
          have Ba := hide (bstep B5.out ba)
          clear oa ba
          go_wp2_with fail
          refine (EQ.out _ _ _ _ _ Oa.out Pa.out).mono ?_
          rintro e wb ⟨rfl, bb⟩
          have Bb := hide (bstep Ba.out bb)
          clear bb
          go_wp2_with fail
          go_ret
          exact ⟨rfl, Bb.out⟩
  · rw [decide_eq_true (show 1048576 < n by omega)] at BG
    go_enter Try.func3, Try.ntmps3
    go_wp2_with fail
    refine BG.out.mono ?_
    rintro e w' ⟨rfl, rfl⟩
    go_wp2
    go_ret
    exact ⟨rfl, (by repeat' first | with_reducible exact Below.refl _ _ | with_reducible assumption | with_reducible refine below_drewN ?_ _ | with_reducible refine balloc ?_ _ | with_reducible refine Below.drew ?_ | with_reducible refine Below.setCell ?_ (by first | (simp; done) | (simp; omega) | omega) _ | with_reducible refine bstep ?_ (by assumption))⟩
end Go.Proofs.Ytjbpgbpndpelhaa
