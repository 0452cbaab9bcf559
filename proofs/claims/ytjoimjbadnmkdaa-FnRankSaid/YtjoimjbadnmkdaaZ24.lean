/- Drawn ranks; the walk of the law FnRank. -/
import Derived.Test.YtjoimjbadnmkdaaZ21
import Derived.Test.YtjoimjbadnmkdaaZ23
import Derived.Test.YtjoimjbadnmkdaaZ19
import Derived.Test.YtjoimjbadnmkdaaZ7
import Derived.OpenShut
namespace Go.Proofs.Ytjoimjbadnmkdaa
open Go.RowKit
set_option maxRecDepth 8000
set_option linter.unusedSimpArgs false
set_option linter.unusedVariables false

theorem isortL_same {A B : NL} : ∀ n, (∀ i, i < n → A i = B i) → isortL n A = isortL n B
  | 0, _ => rfl
  | n + 1, h => by
    show insL n (isortL n A) (A n) = insL n (isortL n B) (B n)
    rw [isortL_same n (fun i hi => h i (by omega)), h n (by omega)]
/-- A rank is a place among what is nearest. -/
theorem rank_near {dim : Int} {n : Nat} {L : IL} {qs : List Int} {id : Int} {R : Int} (h : rankV dim n L qs id = R) (h0 : 0 ≤ R) (h1 : R < 20) : nearM dim n L qs (R + 1) 0 = R.toNat + 1 ∧ (nearA n L qs 0 R.toNat).1 = id := by
  unfold rankV at h
  cases hf : formB dim n L qs
  · rw [hf] at h; simp at h; omega
  · rw [hf, if_pos rfl] at h
    unfold rkF at h
    split at h
    · rename_i i hi
      rw [List.find?_range_eq_some] at hi
      obtain ⟨e1, e2, _⟩ := hi
      have hlt : i < n := by simpa using e2
      have hid : (isortL n (fun i => nrOf qs (L i)) i).1 = id := by simpa using e1
      have hRi : R.toNat = i := by omega
      have c0 := cnt0 L n
      constructor
      · unfold nearM
        rw [hf, c0, hRi]
        have hin : inB (R + 1) 1 20 = true := by unfold inB; simp; omega
        rw [hin]
        simp only [Bool.and_self, if_true]
        omega
      · unfold nearA
        rw [c0, hRi, isortL_same n (B := fun i => nrOf qs (L i)) fun i hi => nrL0 hi]
        exact hid
    · omega
theorem nearM_leq (dim : Int) (n : Nat) (L : IL) (qs : List Int) (k mask : Int) : nearM dim n L qs k mask ≤ n := by
  unfold nearM
  split
  · exact Nat.le_trans (Nat.min_le_right _ _) (cntP_le _ _ _)
  · omega
theorem PRow.at {w : World} {a : Option Addr} {n : Nat} {f g : Nat → Int} (h : PRow w a n f g) {i : Nat} (hi : i < n) : ∃ b off, a = some ⟨b, off, none⟩ ∧ w.cell? ⟨b, off + i * 2, none⟩ = some (.int .i64 (f i)) ∧ w.cell? ⟨b, off + i * 2 + 1, none⟩ = some (.int .i64 (g i)) := by
  rcases h.lies with h0 | ⟨b, off, e, lt, hc⟩
  · omega
  · exact ⟨b, off, e, hc i hi⟩

def DrawRk (w : World) (e : Ending) (w' : World) : Prop :=
  ∃ (dim : Int) (g n cap : Nat) (L : IL) (qa : Option Addr) (qc : Nat) (qs : List Int) (id : Int), e = .returned (.tuple #[.int .i64 dim, .slice (some ⟨g, 0, none⟩) n cap, .slice qa qs.length qc, .int .i64 id]) ∧ NIq w w' g n cap L ∧ Row w' qa qs.length qs ∧ qs.length ≤ 200

set_option maxHeartbeats 4000000 in
theorem drawRankOf_any (a : Option Addr) (n c : Nat) (w : World) (h : Code w a n) :
    Calls Try.prog 6 #[.slice a n c] w fun e w' => DrawRk w e w' := by
  have D := hide (drawNearest_any a n c w h)
  have HC := hide h
  clear h
  go_enter Try.func6, Try.ntmps6
  go_wp2_with fail
  refine D.out.mono ?_
  rintro e w1 ⟨dim, g, m, cp, L, qa, qc, qs, k, mask, rfl, hni, rq, hql⟩
  have HN := hide hni
  have HQ := hide rq
  have O := hide (open_any a n c w1 (HC.out.below hni.low))
  clear hni rq D
  go_wp2_with fail
  refine O.out.mono ?_
  rintro e w2 ⟨rfl, hr2, hb2, hs2⟩
  have HR2 := hide hr2
  have HBB := hide hb2
  clear hr2 hb2 O
  go_wp2_with fail
  refine (below_any _ _ n c a 14 w2 HR2.out (by omega) (by omega)).mono ?_
  rintro e w3 ⟨v, rfl, _, _, r3, b3⟩
  have bb : Below w1.heap.size w1 w3 := HBB.out.trans (b3.below (Nat.le_refl _) HBB.out.size)
  have DN : Hid (NIq w w3 g m cp L ∧ Row w3 qa qs.length qs) := hide ⟨⟨HN.out.cap_, HN.out.few, HN.out.hi.below bb, HN.out.len, bstep HN.out.low bb⟩, HQ.out.below bb⟩
  clear bb
  clear r3 b3
  go_wp2_with fail
  refine bodyPost_ret (v := .tuple #[.int .i64 dim, .slice (some ⟨g, 0, none⟩) m cp, .slice qa qs.length qc, .int .i64 (1 + v)]) ?_ rfl ⟨dim, g, m, cp, L, qa, qc, qs, 1 + v, rfl, DN.out.1, DN.out.2, hql⟩
  simp [results, Try.results6, go_sem]

set_option maxHeartbeats 8000000 in
theorem rank_walk (a : Option Addr) (n cap : Nat) (zs : List Int) (w : World) (h : IsRow .u8 w a n cap zs) :
    Calls Try.prog 3 #[.slice a n cap] w fun e w' => e = .returned (.bool true) ∧ Below w.heap.size w w' := by
  have BG := hide (big_any a n cap w)
  by_cases hn : n ≤ 1048576
  · rw [decide_eq_false (show ¬ 1048576 < n by omega)] at BG
    have DR := hide (drawRankOf_any a n cap w (h.code hn))
    clear h
    go_enter Try.func3, Try.ntmps3
    go_wp2_with fail
    refine BG.out.mono ?_
    rintro e w' ⟨rfl, hw⟩
    obtain rfl := hw.symm
    clear BG hw
    go_wp2_with fail
    refine DR.out.mono ?_
    rintro e w1 ⟨dim, g, m, cp, L, qa, qc, qs, id, rfl, hni, rq, hql⟩
    have hm := hni.few
    have hv : ∀ i, i < m → (L i).vec.length ≤ 1048576 := fun i hi => Nat.le_trans (hni.len i hi) (by omega)
    have hql2 : qs.length ≤ 1048576 := by omega
    have IR := hide (fun w1 (h : IHi w1 w.heap.size g m L) (rq : Row w1 qa qs.length qs) => iRankOf_any dim (some ⟨g, 0, none⟩) m cp L qa qs.length qc qs id w1 h.irow (by omega) hv rq hql2)
    have SR := hide (fun w1 (h : IHi w1 w.heap.size g m L) (rq : Row w1 qa qs.length qs) => sRankOf_any dim (some ⟨g, 0, none⟩) m cp L qa qs.length qc qs id w1 h.irow (by omega) hv rq hql2)
    obtain ⟨R, hR⟩ : ∃ R, rankV dim m L qs id = R := ⟨_, rfl⟩
    have IN := hide (fun w1 (h : IHi w1 w.heap.size g m L) (rq : Row w1 qa qs.length qs) => iNearest_any dim (some ⟨g, 0, none⟩) m cp L qa qs.length qc qs (R + 1) 0 w1 h.irow (by omega) hv rq hql2)
    rw [hR] at IR SR
    unfold OutN at IN
    have hNl := nearM_leq dim m L qs (R + 1) 0
    have hq1 : (R != R) = false := by simp
    have hq2 : (R == R) = true := by simp
    have B1 := hide hni.low
    have I1 := hide hni.hi
    have R1 := hide rq
    have HR := hide hR
    clear hni rq DR hv hR
    go_wp2_with fail
    refine (IR.out _ I1.out R1.out).mono ?_
    rintro e w2 ⟨rfl, b2⟩
    have I2 := hide (I1.out.below b2)
    have R2 := hide (R1.out.below b2)
    have B2 := hide (bstep B1.out b2)
    clear b2 I1 R1 B1
    go_wp2_with fail
    refine (SR.out _ I2.out R2.out).mono ?_
    rintro e w3 ⟨rfl, b3⟩
    have I3 := hide (I2.out.below b3)
    have R3 := hide (R2.out.below b3)
    have B3 := hide (bstep B2.out b3)
    clear b3 I2 R2 B2
    by_cases hc : 0 ≤ R ∧ R < 20
    · obtain ⟨e1, e2⟩ := rank_near HR.out hc.1 hc.2
      obtain ⟨A, hA⟩ : ∃ A, nearA m L qs 0 = A := ⟨_, rfl⟩
      rw [hA] at e2 IN
      rw [e1] at IN
      obtain ⟨i, rfl⟩ : ∃ i : Nat, R = (i : Int) := ⟨R.toNat, by omega⟩
      simp only [Int.toNat_natCast] at e2 IN e1
      have n1 : ¬ (i : Int) < 0 := by omega
      have n2 : ¬ (20 : Int) ≤ (i : Int) := by omega
      have n3 : (((i + 1 : Nat) : Int) == (i : Int) + 1) = true := by simp
      have hi1 : (i : Int) < ((i + 1 : Nat) : Int) := by omega
      have E2 := hide e2
      have hidb : ((A i).1 == id) = true := by rw [e2]; simp
      clear e1 e2 hA hc hNl HR
      go_wp2_with fail
      refine (IN.out _ I3.out R3.out).mono ?_
      rintro e w4 ⟨a4, c4, rfl, o4, b4⟩
      obtain ⟨b, off, rfl, k0, k1⟩ := o4.prow.at (show i < i + 1 by omega)
      have B4 := hide (bstep B3.out b4)
      clear o4 b4 I3 R3 B3
      go_wp2_with fail
      go_ret
      exact ⟨rfl, B4.out⟩
    · by_cases h0 : R < 0
      · go_wp2_with fail
        refine (SR.out _ I3.out R3.out).mono ?_
        rintro e w4 ⟨rfl, b4⟩
        have B4 := hide (bstep B3.out b4)
        clear b4
        go_wp2_with fail
        go_ret
        exact ⟨rfl, B4.out⟩
      · have h20 : (20 : Int) ≤ R := by omega
        go_wp2_with fail
        refine (SR.out _ I3.out R3.out).mono ?_
        rintro e w4 ⟨rfl, b4⟩
        have B4 := hide (bstep B3.out b4)
        clear b4
        go_wp2_with fail
        go_ret
        exact ⟨rfl, B4.out⟩
  · rw [decide_eq_true (show 1048576 < n by omega)] at BG
    go_enter Try.func3, Try.ntmps3
    go_wp2_with fail
    refine BG.out.mono ?_
    rintro e w' ⟨rfl, rfl⟩
    go_wp2
    go_ret
    exact ⟨rfl, (by repeat' first | with_reducible exact Below.refl _ _ | with_reducible assumption | with_reducible refine below_drewN ?_ _ | with_reducible refine balloc ?_ _ | with_reducible refine Below.drew ?_ | with_reducible refine Below.setCell ?_ (by first | (simp; done) | (simp; omega) | omega) _ | with_reducible refine bstep ?_ (by assumption))⟩
end Go.Proofs.Ytjoimjbadnmkdaa
