/- The walk of the law FnNearest. -/
import Derived.Test.YtidgdffimgjpfaaZ22
import Derived.Test.YtidgdffimgjpfaaZ19
import Derived.Test.YtidgdffimgjpfaaZ24
import Derived.Test.YtidgdffimgjpfaaZ18
import Derived.Test.YtidgdffimgjpfaaZ7
import Derived.OpenShut
namespace Go.Proofs.Ytidgdffimgjpfaa
open Go.RowKit
set_option maxRecDepth 8000
set_option linter.unusedSimpArgs false
set_option linter.unusedVariables false

theorem dist_nearK {dim : Int} {n : Nat} {L : IL} {qs : List Int} {mask : Int} (hf : formB dim n L qs = true) {i : Nat} (hi : i < cntP (mtB mask) L n) : distL (fil (mtB mask) L n i).vec qs = (nrL qs mask L n i).2 := by
  obtain ⟨j, hj, e⟩ := fil_mem (mtB mask) L n i hi
  have fine := fine_of hf
  show _ = (nrOf qs (fil (mtB mask) L n i)).2
  rw [e]
  unfold distL pairB nrOf
  rw [fine.vi j hj, fine.vq, decide_eq_true (fine.li j hj)]
  rfl
theorem fil_lenK {p : It → Bool} {L : IL} {n b : Nat} (h : ∀ i, i < n → (L i).vec.length ≤ b) : ∀ i, i < cntP p L n → (fil p L n i).vec.length ≤ b := by
  intro i hi
  obtain ⟨j, hj, e⟩ := fil_mem p L n i hi
  rw [e]; exact h j hj
/-- Whether one is among the first j. -/
def thB (A : NL) (x : Int × Int) : Nat → Bool
  | 0 => false
  | j + 1 => thB A x j || ((A j).1 == x.1 && (A j).2 == x.2)
theorem thB_in {A : NL} {x : Int × Int} {j : Nat} (e : A j = x) : ∀ n, j < n → thB A x n = true
  | 0, h => absurd h (by omega)
  | n + 1, h => by
    unfold thB
    by_cases ej : j = n
    · subst ej; rw [e]; simp
    · rw [thB_in e n (by omega)]; rfl
theorem thB_yes {A : NL} {x : Int × Int} {j : Nat} (h : thB A x j = true) : thB A x (j + 1) = true := by unfold thB; rw [h]; rfl
theorem thB_no {A : NL} {x : Int × Int} {j : Nat} (h : thB A x j = false) : thB A x (j + 1) = ((A j).1 == x.1 && (A j).2 == x.2) := by
  show (thB A x j || _) = _
  rw [h]; rfl
theorem IRow.atK {w : World} {g n : Nat} {L : IL} (h : IRow w (some ⟨g, 0, none⟩) n L) {i : Nat} (hi : i < n) : g < w.heap.size ∧ IAt w g (i * 3) (L i) := by
  rcases h.lies with h0 | ⟨b, off, e, lt, hc⟩
  · omega
  · cases e
    have := hc i hi
    rw [Nat.zero_add] at this
    exact ⟨lt, this⟩
theorem PRow.twoK {w : World} {a : Option Addr} {n : Nat} {f g : Nat → Int} (h : PRow w a n f g) {i : Nat} (hi : i < n) : ∃ b off, a = some ⟨b, off, none⟩ ∧ b < w.heap.size ∧ w.cell? ⟨b, off + i * 2, none⟩ = some (.int .i64 (f i)) ∧ w.cell? ⟨b, off + i * 2 + 1, none⟩ = some (.int .i64 (g i)) := by
  rcases h.lies with h0 | ⟨b, off, e, lt, hc⟩
  · omega
  · exact ⟨b, off, e, lt, hc i hi⟩
/-- A box with a Near, and one that lies in a row. -/
structure K4 (w : World) (z b o : Nat) (x y : Int × Int) : Prop where
  lz : z < w.heap.size
  c0 : w.cell? ⟨z, 0, none⟩ = some (.int .i64 x.1)
  c1 : w.cell? ⟨z, 1, none⟩ = some (.int .i64 x.2)
  lb : b < w.heap.size
  d0 : w.cell? ⟨b, o, none⟩ = some (.int .i64 y.1)
  d1 : w.cell? ⟨b, o + 1, none⟩ = some (.int .i64 y.2)
theorem K4.below {w w' : World} {z b o : Nat} {x y : Int × Int} (h : K4 w z b o x y) (hb : Below w.heap.size w w') : K4 w' z b o x y :=
  ⟨Nat.lt_of_lt_of_le h.lz hb.size, (hb.cell (p := ⟨z, 0, none⟩) h.lz).trans h.c0, (hb.cell (p := ⟨z, 1, none⟩) h.lz).trans h.c1, Nat.lt_of_lt_of_le h.lb hb.size, (hb.cell (p := ⟨b, o, none⟩) h.lb).trans h.d0, (hb.cell (p := ⟨b, o + 1, none⟩) h.lb).trans h.d1⟩
theorem K4.drew {w : World} {z b o : Nat} {x y : Int × Int} (h : K4 w z b o x y) : K4 w.drew z b o x y := h.below (Below.drew (Below.refl _ _))
/-- Two that lie in a row. -/
structure K5 (w : World) (b o o' : Nat) (x y : Int × Int) : Prop where
  lb : b < w.heap.size
  c0 : w.cell? ⟨b, o, none⟩ = some (.int .i64 x.1)
  c1 : w.cell? ⟨b, o + 1, none⟩ = some (.int .i64 x.2)
  d0 : w.cell? ⟨b, o', none⟩ = some (.int .i64 y.1)
  d1 : w.cell? ⟨b, o' + 1, none⟩ = some (.int .i64 y.2)
theorem K5.below {w w' : World} {b o o' : Nat} {x y : Int × Int} (h : K5 w b o o' x y) (hb : Below w.heap.size w w') : K5 w' b o o' x y :=
  ⟨Nat.lt_of_lt_of_le h.lb hb.size, (hb.cell (p := ⟨b, o, none⟩) h.lb).trans h.c0, (hb.cell (p := ⟨b, o + 1, none⟩) h.lb).trans h.c1, (hb.cell (p := ⟨b, o', none⟩) h.lb).trans h.d0, (hb.cell (p := ⟨b, o' + 1, none⟩) h.lb).trans h.d1⟩
theorem K5.drew {w : World} {b o o' : Nat} {x y : Int × Int} (h : K5 w b o o' x y) : K5 w.drew b o o' x y := h.below (Below.drew (Below.refl _ _))
/-- Nothing that was there has turned; an item's id and vector. -/
structure KN (w0 w : World) (g o : Nat) (id : Int) (v : Value) : Prop where
  bel : Below w0.heap.size w0 w
  c0 : w.cell? ⟨g, o, none⟩ = some (.int .i64 id)
  c2 : w.cell? ⟨g, o + 2, none⟩ = some v
theorem KN.of {w0 w : World} {g o : Nat} {id : Int} {v : Value} (hb : Below w0.heap.size w0 w) (lg : g < w0.heap.size) (h0 : w0.cell? ⟨g, o, none⟩ = some (.int .i64 id)) (h2 : w0.cell? ⟨g, o + 2, none⟩ = some v) : KN w0 w g o id v :=
  ⟨hb, (hb.cell (p := ⟨g, o, none⟩) lg).trans h0, (hb.cell (p := ⟨g, o + 2, none⟩) lg).trans h2⟩
theorem KN.below {w0 w w' : World} {g o : Nat} {id : Int} {v : Value} (h : KN w0 w g o id v) (hb : Below w.heap.size w w') : KN w0 w' g o id v := by
  have l : g < w.heap.size := cellLt (a := ⟨g, o, none⟩) h.c0
  exact ⟨bstep h.bel hb, (hb.cell (p := ⟨g, o, none⟩) l).trans h.c0, (hb.cell (p := ⟨g, o + 2, none⟩) l).trans h.c2⟩
theorem minL (k : Int) (c : Nat) : min k (c : Int) = if k ≤ (c : Int) then k else (c : Int) := by omega

set_option maxHeartbeats 16000000 in
theorem nearest_walk (a : Option Addr) (n cap : Nat) (zs : List Int) (w : World) (h : IsRow .u8 w a n cap zs) :
    Calls Try.prog 3 #[.slice a n cap] w fun e w' => e = .returned (.bool true) ∧ Below w.heap.size w w' := by
  have BG := hide (big_any a n cap w)
  by_cases hn : n ≤ 1048576
  · rw [decide_eq_false (show ¬ 1048576 < n by omega)] at BG
    have DR := hide (drawNearest_any a n cap w (h.code hn))
    clear h
    go_enter Try.func3, Try.ntmps3
    go_wp2_with fail
    refine BG.out.mono ?_
    rintro e w' ⟨rfl, hw⟩
    obtain rfl := hw.symm
    clear BG hw
    go_wp2_with fail
    refine DR.out.mono ?_
    rintro e w1 ⟨dim, g, m, cp, L, qa, qc, qs, k, mask, rfl, hni, rq, hql⟩
    have hm := hni.few
    have hv : ∀ i, i < m → (L i).vec.length ≤ 1048576 := fun i hi => Nat.le_trans (hni.len i hi) (by omega)
    have hql2 : qs.length ≤ 1048576 := by omega
    have IN := hide (fun w1 (h : IHi w1 w.heap.size g m L) (rq : Row w1 qa qs.length qs) => iNearest_any dim (some ⟨g, 0, none⟩) m cp L qa qs.length qc qs k mask w1 h.irow (by omega) hv rq hql2)
    have SN := hide (fun w1 (h : IHi w1 w.heap.size g m L) (rq : Row w1 qa qs.length qs) => sNearest_any dim (some ⟨g, 0, none⟩) m cp L qa qs.length qc qs k mask w1 h.irow (by omega) hv rq hql2)
    have SO := hide (fun w1 (h : IHi w1 w.heap.size g m L) => sItemsOk_any dim (some ⟨g, 0, none⟩) m cp L w1 h.irow (by omega) hv)
    have SV := hide (fun w1 (rq : Row w1 qa qs.length qs) => sVecOk_any qa qs.length qc qs w1 rq hql2)
    have IM := hide (fun w1 (h : IHi w1 w.heap.size g m L) => iMatching_any (some ⟨g, 0, none⟩) m cp L mask w1 h.irow (by omega) hv)
    have FL := hide (fil_lenK (p := mtB mask) hv)
    have cm := cntP_le (mtB mask) L m
    have FIT := hide (fun (hf : formB dim m L qs = true) (h1 : 1 ≤ k) (h20 : k ≤ 20) => And.intro (nearD (mask := mask) hf h1 h20) (fun i (hi : i < cntP (mtB mask) L m) => dist_nearK hf hi))
    have NID := hide (fun i => show (nrL qs mask L m i).1 = (fil (mtB mask) L m i).id from rfl)
    have hform : formB dim m L qs = (itemsB dim m L && vecOkB qs && decide ((qs.length : Int) = dim)) := rfl
    have hNle : nearM dim m L qs k mask ≤ m := by
      unfold nearM
      split
      · exact Nat.le_trans (Nat.min_le_right _ _) cm
      · omega
    obtain ⟨N, hN⟩ : ∃ N, nearM dim m L qs k mask = N := ⟨_, rfl⟩
    obtain ⟨A, hA⟩ : ∃ A, nearA m L qs mask = A := ⟨_, rfl⟩
    obtain ⟨c, hc⟩ : ∃ c, cntP (mtB mask) L m = c := ⟨_, rfl⟩
    obtain ⟨F, hF⟩ : ∃ F, fil (mtB mask) L m = F := ⟨_, rfl⟩
    obtain ⟨X, hX⟩ : ∃ X, nrL qs mask L m = X := ⟨_, rfl⟩
    have EQ := hide (fun a1 k1 a2 k2 w1 (h : PRow w1 a1 N (fun i => (A i).1) (fun i => (A i).2)) (h' : PRow w1 a2 N (fun i => (A i).1) (fun i => (A i).2)) => sameNears_self a1 a2 N k1 k2 A w1 h h' (by omega))
    unfold OutN at IN SN
    unfold PickR at IM
    simp only [hN, hA] at IN SN FIT hNle
    simp only [hc, hF, hX] at IM FIT NID FL cm
    have B1 := hide hni.low
    have I1 := hide hni.hi
    have R1 := hide rq
    have HFM := hide hform
    clear hni rq DR hv hN hA hc hF hX hform
    go_wp2_with fail
    refine (IN.out _ I1.out R1.out).mono ?_
    rintro e w2 ⟨a2, c2, rfl, o2, b2⟩
    have I2 := hide (I1.out.below b2)
    have R2 := hide (R1.out.below b2)
    have O2 := hide o2.prow
    have B2 := hide (bstep B1.out b2)
    clear o2 b2 I1 R1 B1
    go_wp2_with fail
    refine (SN.out _ I2.out R2.out).mono ?_
    rintro e w3 ⟨a3, c3, rfl, o3, b3⟩
    have I3 := hide (I2.out.below b3)
    have R3 := hide (R2.out.below b3)
    have O3 := hide (O2.out.below b3)
    have P3 := hide o3.prow
    have B3 := hide (bstep B2.out b3)
    clear o3 b3 I2 R2 O2 B2
    go_wp2_with fail
    refine (EQ.out _ _ _ _ _ O3.out P3.out).mono ?_
    rintro e w4 ⟨rfl, b4⟩
    have I4 := hide (I3.out.below b4)
    have R4 := hide (R3.out.below b4)
    have O4 := hide (O3.out.below b4)
    have B4 := hide (bstep B3.out b4)
    clear b4 I3 R3 O3 P3 B3
    go_wp2_with fail
    refine (SO.out _ I4.out).mono ?_
    rintro e w5 ⟨rfl, b5⟩
    have I5 := hide (I4.out.below b5)
    have R5 := hide (R4.out.below b5)
    have O5 := hide (O4.out.below b5)
    have B5 := hide (bstep B4.out b5)
    clear b5 I4 R4 O4 B4
    cases hib : itemsB dim m L
    · go_wp2_with fail
      refine (SN.out _ I5.out R5.out).mono ?_
      rintro e wa ⟨aa, ca, rfl, oa, ba⟩
      have Oa := hide (O5.out.below ba)
      have Pa := hide oa.prow
      have Ba := hide (bstep B5.out ba)
      clear oa ba
      go_wp2_with fail
      refine (EQ.out _ _ _ _ _ Oa.out Pa.out).mono ?_
      rintro e wb ⟨rfl, bb⟩
      have Bb := hide (bstep Ba.out bb)
      clear bb
      go_wp2_with fail
      go_ret
      exact ⟨rfl, Bb.out⟩
    · go_wp2_with fail
      refine (SV.out _ R5.out).mono ?_
      rintro e w6 ⟨rfl, hw6⟩
      obtain rfl := hw6.symm
      clear hw6
      cases hvb : vecOkB qs
      · go_wp2_with fail
        refine (SN.out _ I5.out R5.out).mono ?_
        rintro e wa ⟨aa, ca, rfl, oa, ba⟩
        have Oa := hide (O5.out.below ba)
        have Pa := hide oa.prow
        have Ba := hide (bstep B5.out ba)
        clear oa ba
        go_wp2_with fail
        refine (EQ.out _ _ _ _ _ Oa.out Pa.out).mono ?_
        rintro e wb ⟨rfl, bb⟩
        have Bb := hide (bstep Ba.out bb)
        clear bb
        go_wp2_with fail
        go_ret
        exact ⟨rfl, Bb.out⟩
      · by_cases hqd : (qs.length : Int) = dim
        · have hqb : ((qs.length : Int) != dim) = false := by simp [hqd]
          by_cases hk : 1 ≤ k ∧ k ≤ 20
          · have n1 : ¬ k < 1 := by omega
            have n2 : ¬ (20 : Int) < k := by omega
            obtain ⟨ND, f3⟩ := FIT.out (by rw [HFM.out, hib, hvb, decide_eq_true hqd]; rfl) hk.1 hk.2
            have F3 := hide f3
            have NUM := hide ND.num
            have INN := hide ND.inn
            have UP := hide ND.up
            clear f3 ND hqd hib hvb FIT HFM
            go_wp2_with fail
            refine (IM.out _ I5.out).mono ?_
            rintro e w7 ⟨g7, c7, V7, s7, rfl, i7, b7⟩
            have R7 := hide (R5.out.below b7)
            have O7 := hide (O5.out.below b7)
            have P7 := hide i7.its.irow
            have B7 := hide (bstep B5.out b7)
            clear i7 b7 R5 O5 B5 I5
            go_wp2_with fail
            go_loopw [10] (fun i wr => ∃ k : Nat, k ≤ c ∧ i = .int .i64 k ∧ Below w7.heap.size w7 wr) (fun i _ => c - (intOf i).toNat)
            case atStart => exact ⟨0, Nat.zero_le _, rfl, Below.refl _ _⟩
            case round =>
              obtain ⟨i, hi, rfl, hbel⟩ := hrel
              have HB := hide (bstep B7.out hbel)
              have HBEL := hide hbel
              by_cases hlt : i < c
              · have hlt' : (i : Int) < (c : Int) := by omega
                obtain ⟨l7, c0, c1', va, vn, vc, cv, vr⟩ := (P7.out.below hbel).atK hlt
                have hvl : vn ≤ 1048576 := by rw [← vr.len]; exact FL.out i hlt
                obtain ⟨x, hx⟩ : ∃ x, X i = x := ⟨_, rfl⟩
                rw [← NID.out i, hx] at c0
                have inn := INN.out i hlt
                rw [hx] at inn
                have KB := hide (fun W (hb : Below wr.heap.size wr W) => KN.of (w0 := wr) (w := W) hb l7 c0 cv)
                have ID := hide (fun W (t : KN wr W g7 (i * 3) x.1 (.slice va vn vc)) => iDistOf_any va qa vn vc qs.length qc (F i).vec qs W (vr.below t.bel) ((R7.out.below hbel).below t.bel) hvl hql2)
                rw [F3.out i hlt, hx] at ID
                have NK := hide (fun W (hb : Below wr.heap.size wr W) => (O7.out.below hbel).below hb)
                have S0 := hide (KB.out wr.drew (Below.drew (Below.refl _ _)))
                have INNH := hide inn
                clear hbel vr cv c0 c1' inn hx
                go_upto_region 11 with fail
                go_cut [11] from 82 to 94 (fun s11 wx => ∃ z, s11 = .pointer (some ⟨z, 0, none⟩) ∧ z < wx.heap.size ∧ wx.cell? ⟨z, 0, none⟩ = some (.int .i64 x.1) ∧ wx.cell? ⟨z, 1, none⟩ = some (.int .i64 x.2) ∧ Below wr.heap.size wr wx)
                case first =>
                  refine wp_region_held_drew (S := fun wx => KN wr wx g7 (i * 3) x.1 (.slice va vn vc)) (by kernel_rfl) (S0.out) (fun hH0 => ?_)
                  refine wpAnyH_take (i := 0) (oi := { dst := some 82, op := _, type := _, pos := _, after := _, guard := _ }) (v := ?_) rfl (by kernel_rfl) (by kernel_rfl) (by kernel_rfl) (fun _ _ _ h => h) (Or.inl ⟨by rfl, ?_⟩) (hH0) ?_
                  rotate_left
                  · (intro wx hSw; obtain ⟨_, q0, q1⟩ := hSw; go_simp <;> with_reducible rfl)
                  simp only [Act.put, List.setIfInBounds_toArray, List.set_cons_zero, List.set_cons_succ]
                  refine wpAnyH_take (i := 1) (oi := { dst := some 83, op := _, type := _, pos := _, after := _, guard := _ }) (v := ?_) rfl (by kernel_rfl) (by kernel_rfl) (by kernel_rfl) (fun _ _ _ h => h) (Or.inl ⟨by rfl, ?_⟩) (hH0) ?_
                  rotate_left
                  · (intro wx hSw; obtain ⟨_, q0, q1⟩ := hSw; go_simp <;> with_reducible rfl)
                  simp only [Act.put, List.setIfInBounds_toArray, List.set_cons_zero, List.set_cons_succ]
                  refine wpAnyH_take (i := 2) (oi := { dst := some 84, op := _, type := _, pos := _, after := _, guard := _ }) (v := ?_) rfl (by kernel_rfl) (by kernel_rfl) (by kernel_rfl) (fun _ _ _ h => h) (Or.inl ⟨by rfl, ?_⟩) (hH0) ?_
                  rotate_left
                  · (intro wx hSw; obtain ⟨_, q0, q1⟩ := hSw; go_simp <;> with_reducible rfl)
                  simp only [Act.put, List.setIfInBounds_toArray, List.set_cons_zero, List.set_cons_succ]
                  refine wpAnyH_take (i := 3) (oi := { dst := some 85, op := _, type := _, pos := _, after := _, guard := _ }) (v := ?_) rfl (by kernel_rfl) (by kernel_rfl) (by kernel_rfl) (fun _ _ _ h => h) (Or.inl ⟨by rfl, ?_⟩) (hH0) ?_
                  rotate_left
                  · (intro wx hSw; obtain ⟨_, q0, q1⟩ := hSw; go_simp <;> with_reducible rfl)
                  simp only [Act.put, List.setIfInBounds_toArray, List.set_cons_zero, List.set_cons_succ]
                  refine wpAnyH_take (i := 4) (oi := { dst := some 86, op := _, type := _, pos := _, after := _, guard := _ }) (v := ?_) rfl (by kernel_rfl) (by kernel_rfl) (by kernel_rfl) (fun _ _ _ h => h) (Or.inl ⟨by rfl, ?_⟩) (hH0) ?_
                  rotate_left
                  · (intro wx hSw; obtain ⟨_, q0, q1⟩ := hSw; go_simp <;> with_reducible rfl)
                  simp only [Act.put, List.setIfInBounds_toArray, List.set_cons_zero, List.set_cons_succ]
                  refine wpAnyH_take (i := 5) (oi := { dst := some 87, op := _, type := _, pos := _, after := _, guard := _ }) (v := ?_) rfl (by kernel_rfl) (by kernel_rfl) (by kernel_rfl) (fun _ _ _ h => h) (Or.inl ⟨by rfl, ?_⟩) (hH0) ?_
                  rotate_left
                  · (intro wx hSw; obtain ⟨_, q0, q1⟩ := hSw; go_simp <;> with_reducible rfl)
                  simp only [Act.put, List.setIfInBounds_toArray, List.set_cons_zero, List.set_cons_succ]
                  refine wpAnyH_take (i := 6) (oi := { dst := some 88, op := _, type := _, pos := _, after := _, guard := _ }) (v := ?_) rfl (by kernel_rfl) (by kernel_rfl) (by kernel_rfl) (fun _ _ _ h => h) (Or.inl ⟨by rfl, ?_⟩) (hH0) ?_
                  rotate_left
                  · (intro wx hSw; obtain ⟨_, q0, q1⟩ := hSw; go_simp <;> with_reducible rfl)
                  simp only [Act.put, List.setIfInBounds_toArray, List.set_cons_zero, List.set_cons_succ]
                  refine wpAnyH_take (i := 7) (oi := { dst := some 89, op := _, type := _, pos := _, after := _, guard := _ }) (v := ?_) rfl (by kernel_rfl) (by kernel_rfl) (by kernel_rfl) (fun _ _ _ h => h) (Or.inl ⟨by rfl, ?_⟩) (hH0) ?_
                  rotate_left
                  · (intro wx hSw; obtain ⟨_, q0, q1⟩ := hSw; go_simp <;> with_reducible rfl)
                  simp only [Act.put, List.setIfInBounds_toArray, List.set_cons_zero, List.set_cons_succ]
                  refine wpAnyH_take (i := 8) (oi := { dst := some 90, op := _, type := _, pos := _, after := _, guard := _ }) (v := ?_) rfl (by kernel_rfl) (by kernel_rfl) (by kernel_rfl) (fun _ _ _ h => h) (Or.inl ⟨by rfl, ?_⟩) (hH0) ?_
                  rotate_left
                  · (intro wx hSw; obtain ⟨_, q0, q1⟩ := hSw; go_simp <;> with_reducible rfl)
                  simp only [Act.put, List.setIfInBounds_toArray, List.set_cons_zero, List.set_cons_succ]
                  refine wpAnyH_take (i := 9) (oi := { dst := some 91, op := _, type := _, pos := _, after := _, guard := _ }) (v := ?_) rfl (by kernel_rfl) (by kernel_rfl) (by kernel_rfl) (fun _ _ _ h => h) (Or.inl ⟨by rfl, ?_⟩) (hH0) ?_
                  rotate_left
                  · (intro wx hSw; obtain ⟨_, q0, q1⟩ := hSw; go_simp <;> with_reducible rfl)
                  simp only [Act.put, List.setIfInBounds_toArray, List.set_cons_zero, List.set_cons_succ]
                  refine wpAnyH_take (i := 10) (oi := { dst := some 92, op := _, type := _, pos := _, after := _, guard := _ }) (v := ?_) rfl (by kernel_rfl) (by kernel_rfl) (by kernel_rfl) (fun _ _ _ h => h) (Or.inl ⟨by rfl, ?_⟩) (hH0) ?_
                  rotate_left
                  · (intro wx hSw; obtain ⟨_, q0, q1⟩ := hSw; go_simp <;> with_reducible rfl)
                  simp only [Act.put, List.setIfInBounds_toArray, List.set_cons_zero, List.set_cons_succ]
                  -- behind it: go_wp2_with fail, then go_meet (a cut) or go_ret; the condition at the end: hH0
                  refine wpAnyH_ready (rs := [11, 13]) (by kernel_rfl) (by simp) ?_
                  refine AllReadyH.cons (o := { dst := some 93, op := _, type := _, pos := _, after := _, guard := _ }) rfl (fun K hK => ?_) (AllReadyH.cons (o := { dst := some 11, op := _, type := _, pos := _, after := _, guard := _ }) rfl (fun K hK => ?_) AllReadyH.nil)
                  · go_simp
                    refine (ID.out _ hH0).mono ?_
                    rintro e wa ⟨rfl, hba⟩
                    dsimp only
                    refine hK.out _ _ (KN.below hH0 hba) (fun hH1 => ?_)
                    clear hK K
                    refine wpAnyH_take (i := 12) (oi := { dst := some 94, op := _, type := _, pos := _, after := _, guard := _ }) (v := ?_) rfl (by kernel_rfl) (by kernel_rfl) (by kernel_rfl) (fun _ _ _ h => h) (Or.inl ⟨by rfl, ?_⟩) (hH1) ?_
                    rotate_left
                    · (intro wx hSw; obtain ⟨_, q0, q1⟩ := hSw; go_simp <;> with_reducible rfl)
                    simp only [Act.put, List.setIfInBounds_toArray, List.set_cons_zero, List.set_cons_succ]
                    refine wpAnyH_ready (rs := [13]) (by kernel_rfl) (by simp) ?_
                    refine AllReadyH.cons (o := { dst := some 11, op := _, type := _, pos := _, after := _, guard := _ }) rfl (fun K hK => ?_) AllReadyH.nil
                    go_simp
                    refine hK.out _ _ (KN.below hH1 (balloc (Below.refl _ _) _)) (fun hH12 => ?_)
                    clear hK K
                    -- behind it: go_wp2_with fail, then go_meet (a cut) or go_ret; the condition at the end: hH12
                    refine wpAnyH_ready (rs := [14]) (by kernel_rfl) (by simp) ?_
                    refine AllReadyH.cons (o := { dst := none, op := _, type := _, pos := _, after := _, guard := _ }) rfl (fun K hK => ?_) AllReadyH.nil
                    go_simp
                    refine hK.out _ _ (KN.below hH1 (balloc (Below.refl _ _) _)) (fun hH50 => ?_)
                    clear hK K
                    refine wpAnyH_done (by kernel_rfl) ?_ _
                    -- behind it: go_wp2_with fail, then go_meet (a cut) or go_ret; the condition at the end: hH50
                    go_wp2_with fail
                    go_meet
                    exact ⟨_, rfl, by simp, by simp, by simp, hH50.bel⟩
                  · go_simp
                    refine hK.out _ _ (KN.below hH0 (balloc (Below.refl _ _) _)) (fun hH1 => ?_)
                    clear hK K
                    refine wpAnyH_ready (rs := [11]) (by kernel_rfl) (by simp) ?_
                    refine AllReadyH.cons (o := { dst := some 93, op := _, type := _, pos := _, after := _, guard := _ }) rfl (fun K hK => ?_) AllReadyH.nil
                    go_simp
                    refine (ID.out _ hH1).mono ?_
                    rintro e w_c93_12 ⟨rfl, hb_c93_12⟩
                    dsimp only
                    refine hK.out _ _ (KN.below hH1 hb_c93_12) (fun hH12 => ?_)
                    clear hK K
                    refine wpAnyH_take (i := 12) (oi := { dst := some 94, op := _, type := _, pos := _, after := _, guard := _ }) (v := ?_) rfl (by kernel_rfl) (by kernel_rfl) (by kernel_rfl) (fun _ _ _ h => h) (Or.inl ⟨by rfl, ?_⟩) (hH12) ?_
                    rotate_left
                    · (intro wx hSw; obtain ⟨_, q0, q1⟩ := hSw; go_simp <;> with_reducible rfl)
                    simp only [Act.put, List.setIfInBounds_toArray, List.set_cons_zero, List.set_cons_succ]
                    -- behind it: go_wp2_with fail, then go_meet (a cut) or go_ret; the condition at the end: hH12
                    have v0 : w_c93_12.cell? ⟨wr.heap.size, 0, none⟩ = some (.int .i64 0) := (hb_c93_12.cell (p := ⟨wr.heap.size, 0, none⟩) (by simp)).trans (by simp [go_sem])
                    have v1 : w_c93_12.cell? ⟨wr.heap.size, 1, none⟩ = some (.int .i64 0) := (hb_c93_12.cell (p := ⟨wr.heap.size, 1, none⟩) (by simp)).trans (by simp [go_sem])
                    have v2 : w_c93_12.frozen? ⟨wr.heap.size, 0, none⟩ = false := (hb_c93_12.frozen (p := ⟨wr.heap.size, 0, none⟩) (by simp)).trans (by simp [go_sem])
                    have v3 : w_c93_12.frozen? ⟨wr.heap.size, 1, none⟩ = false := (hb_c93_12.frozen (p := ⟨wr.heap.size, 1, none⟩) (by simp)).trans (by simp [go_sem])
                    refine wpAnyH_ready (rs := [14]) (by kernel_rfl) (by simp) ?_
                    refine AllReadyH.cons (o := { dst := none, op := _, type := _, pos := _, after := _, guard := _ }) rfl (fun K hK => ?_) AllReadyH.nil
                    go_simp
                    refine hK.out _ _ (KB.out _ ((hH12.bel.setCell (by simp) _).setCell (by simp) _)) (fun hH50 => ?_)
                    clear hK K
                    refine wpAnyH_done (by kernel_rfl) ?_ _
                    -- behind it: go_wp2_with fail, then go_meet (a cut) or go_ret; the condition at the end: hH50
                    go_wp2_with fail
                    go_meet
                    have lz : wr.heap.size < w_c93_12.heap.size := by have := hb_c93_12.size; simp at this; omega
                    exact ⟨_, rfl, by simpa [World.setCell] using lz, by simp [go_sem, v0, v1], by simp [go_sem, v0, v1], hH50.bel⟩
                case rest =>
                  obtain ⟨z, rfl, lz, z0, z1, hz⟩ := hcut
                  have NC := hide (NK.out wc hz)
                  have HBC := hide (bstep HBEL.out hz)
                  have Z0 := hide z0
                  have Z1 := hide z1
                  clear S0 KB ID hz z0 z1 NK
                  go_wp2_with fail
                  go_loopw [12, 13] (fun t j wx => ∃ jn : Nat, jn ≤ N ∧ j = .int .i64 jn ∧ t = .bool (thB A x jn) ∧ Below wc.heap.size wc wx) (fun _ j _ => N - (intOf j).toNat)
                  case atStart => exact ⟨0, Nat.zero_le _, rfl, rfl, Below.refl _ _⟩
                  case round =>
                    obtain ⟨j, hj, rfl, rfl, hbj⟩ := hrel
                    have HBJ := hide hbj
                    have y0 := (hbj.cell (p := ⟨z, 0, none⟩) lz).trans Z0.out
                    have y1 := (hbj.cell (p := ⟨z, 1, none⟩) lz).trans Z1.out
                    have lz2 := Nat.lt_of_lt_of_le lz hbj.size
                    by_cases hjn : j < N
                    · have hjn' : (j : Int) < (N : Int) := by omega
                      obtain ⟨bn, on, rfl, ln, d0, d1⟩ := (NC.out.below hbj).twoK hjn
                      have T := hide (K4.mk (x := x) (y := A j) lz2 y0 y1 ln d0 d1)
                      cases hth : thB A x j
                      · obtain ⟨v, hv⟩ : ∃ v, ((A j).1 == x.1 && (A j).2 == x.2) = v := ⟨_, rfl⟩
                        have hEq : ∀ w, (Op.equalIn 10000 38 (.agg #[.int .i64 (A j).1, .int .i64 (A j).2]) (.agg #[.int .i64 x.1, .int .i64 x.2])).run Try.prog w = .ok v w := fun w => by rw [eqNr, hv]
                        have HNO := hide ((thB_no hth).trans hv)
                        clear hth hv hbj y0 y1 d0 d1
                        go_upto_region 16 with fail
                        refine wp_region_held_drew (S := fun wx => K4 wx z bn (on + j * 2) x (A j)) (by kernel_rfl) (T.out.drew) (fun hH0 => ?_)
                        refine wpAnyH_take (i := 0) (oi := { dst := some 101, op := _, type := _, pos := _, after := _, guard := _ }) (v := ?_) rfl (by kernel_rfl) (by kernel_rfl) (by kernel_rfl) (fun _ _ _ h => h) (Or.inl ⟨by rfl, ?_⟩) (hH0) ?_
                        rotate_left
                        · (intro wx hSw; obtain ⟨_, q0, q1, _, q2, q3⟩ := hSw; go_simp <;> with_reducible rfl)
                        simp only [Act.put, List.setIfInBounds_toArray, List.set_cons_zero, List.set_cons_succ]
                        refine wpAnyH_take (i := 1) (oi := { dst := some 102, op := _, type := _, pos := _, after := _, guard := _ }) (v := ?_) rfl (by kernel_rfl) (by kernel_rfl) (by kernel_rfl) (fun _ _ _ h => h) (Or.inl ⟨by rfl, ?_⟩) (hH0) ?_
                        rotate_left
                        · (intro wx hSw; obtain ⟨_, q0, q1, _, q2, q3⟩ := hSw; go_simp <;> with_reducible rfl)
                        simp only [Act.put, List.setIfInBounds_toArray, List.set_cons_zero, List.set_cons_succ]
                        refine wpAnyH_take (i := 2) (oi := { dst := some 103, op := _, type := _, pos := _, after := _, guard := _ }) (v := ?_) rfl (by kernel_rfl) (by kernel_rfl) (by kernel_rfl) (fun _ _ _ h => h) (Or.inl ⟨by rfl, ?_⟩) (hH0) ?_
                        rotate_left
                        · (intro wx hSw; obtain ⟨_, q0, q1, _, q2, q3⟩ := hSw; go_simp <;> with_reducible rfl)
                        simp only [Act.put, List.setIfInBounds_toArray, List.set_cons_zero, List.set_cons_succ]
                        refine wpAnyH_take (i := 3) (oi := { dst := some 104, op := _, type := _, pos := _, after := _, guard := _ }) (v := ?_) rfl (by kernel_rfl) (by kernel_rfl) (by kernel_rfl) (fun _ _ _ h => h) (Or.inl ⟨by rfl, ?_⟩) (hH0) ?_
                        rotate_left
                        · (intro wx hSw; obtain ⟨_, q0, q1, _, q2, q3⟩ := hSw; go_simp <;> with_reducible rfl)
                        simp only [Act.put, List.setIfInBounds_toArray, List.set_cons_zero, List.set_cons_succ]
                        refine wpAnyH_take (i := 4) (oi := { dst := some 105, op := _, type := _, pos := _, after := _, guard := _ }) (v := ?_) rfl (by kernel_rfl) (by kernel_rfl) (by kernel_rfl) (fun _ _ _ h => h) (Or.inl ⟨by rfl, ?_⟩) (hH0) ?_
                        rotate_left
                        · (intro wx hSw; obtain ⟨_, q0, q1, _, q2, q3⟩ := hSw; go_simp <;> with_reducible rfl)
                        simp only [Act.put, List.setIfInBounds_toArray, List.set_cons_zero, List.set_cons_succ]
                        refine wpAnyH_take (i := 5) (oi := { dst := some 106, op := _, type := _, pos := _, after := _, guard := _ }) (v := ?_) rfl (by kernel_rfl) (by kernel_rfl) (by kernel_rfl) (fun _ _ _ h => h) (Or.inl ⟨by rfl, ?_⟩) (hH0) ?_
                        rotate_left
                        · (intro wx hSw; obtain ⟨_, q0, q1, _, q2, q3⟩ := hSw; go_simp <;> with_reducible rfl)
                        simp only [Act.put, List.setIfInBounds_toArray, List.set_cons_zero, List.set_cons_succ]
                        refine wpAnyH_take (i := 6) (oi := { dst := some 107, op := _, type := _, pos := _, after := _, guard := _ }) (v := ?_) rfl (by kernel_rfl) (by kernel_rfl) (by kernel_rfl) (fun _ _ _ h => h) (Or.inl ⟨by rfl, ?_⟩) (hH0) ?_
                        rotate_left
                        · (intro wx hSw; obtain ⟨_, q0, q1, _, q2, q3⟩ := hSw; go_simp <;> with_reducible rfl)
                        simp only [Act.put, List.setIfInBounds_toArray, List.set_cons_zero, List.set_cons_succ]
                        refine wpAnyH_take (i := 7) (oi := { dst := some 108, op := _, type := _, pos := _, after := _, guard := _ }) (v := ?_) rfl (by kernel_rfl) (by kernel_rfl) (by kernel_rfl) (fun _ _ _ h => h) (Or.inl ⟨by rfl, ?_⟩) (hH0) ?_
                        rotate_left
                        · (intro wx hSw; obtain ⟨_, q0, q1, _, q2, q3⟩ := hSw; go_simp <;> with_reducible rfl)
                        simp only [Act.put, List.setIfInBounds_toArray, List.set_cons_zero, List.set_cons_succ]
                        refine wpAnyH_take (i := 8) (oi := { dst := some 109, op := _, type := _, pos := _, after := _, guard := _ }) (v := ?_) rfl (by kernel_rfl) (by kernel_rfl) (by kernel_rfl) (fun _ _ _ h => h) (Or.inl ⟨by rfl, ?_⟩) (hH0) ?_
                        rotate_left
                        · (intro wx hSw; obtain ⟨_, q0, q1, _, q2, q3⟩ := hSw; go_simp <;> with_reducible rfl)
                        simp only [Act.put, List.setIfInBounds_toArray, List.set_cons_zero, List.set_cons_succ]
                        refine wpAnyH_take (i := 9) (oi := { dst := some 12, op := _, type := _, pos := _, after := _, guard := _ }) (v := ?_) rfl (by kernel_rfl) (by kernel_rfl) (by kernel_rfl) (fun _ _ _ h => h) (Or.inl ⟨by rfl, ?_⟩) (hH0) ?_
                        rotate_left
                        · (intro wx hSw; obtain ⟨_, q0, q1, _, q2, q3⟩ := hSw; go_simp <;> with_reducible rfl)
                        simp only [Act.put, List.setIfInBounds_toArray, List.set_cons_zero, List.set_cons_succ]
                        refine wpAnyH_done (by kernel_rfl) ?_ _
                        -- behind it: go_wp2_with fail, then go_meet (a cut) or go_ret; the condition at the end: hH0
                        go_wp2_with fail
                        go_roundw
                        case rel =>
                          have hbj := HBJ.out
                          exact ⟨j + 1, by omega, by go_num, by rw [HNO.out], (by repeat' first | with_reducible exact Below.refl _ _ | with_reducible assumption | with_reducible refine below_drewN ?_ _ | with_reducible refine balloc ?_ _ | with_reducible refine Below.drew ?_ | with_reducible refine Below.setCell ?_ (by first | (simp; done) | (simp; omega) | omega) _ | with_reducible refine bstep ?_ (by assumption))⟩
                        case measure => simp [intOf]; omega
                      · have HYE := hide (thB_yes hth)
                        clear hth hbj y0 y1 d0 d1
                        go_upto_region 16 with fail
                        refine wp_region_held_drew (S := fun wx => K4 wx z bn (on + j * 2) x (A j)) (by kernel_rfl) (T.out.drew) (fun hH0 => ?_)
                        refine wpAnyH_take (i := 0) (oi := { dst := some 101, op := _, type := _, pos := _, after := _, guard := _ }) (v := ?_) rfl (by kernel_rfl) (by kernel_rfl) (by kernel_rfl) (fun _ _ _ h => h) (Or.inl ⟨by rfl, ?_⟩) (hH0) ?_
                        rotate_left
                        · (intro wx hSw; obtain ⟨_, q0, q1, _, q2, q3⟩ := hSw; go_simp <;> with_reducible rfl)
                        simp only [Act.put, List.setIfInBounds_toArray, List.set_cons_zero, List.set_cons_succ]
                        refine wpAnyH_take (i := 1) (oi := { dst := some 102, op := _, type := _, pos := _, after := _, guard := _ }) (v := ?_) rfl (by kernel_rfl) (by kernel_rfl) (by kernel_rfl) (fun _ _ _ h => h) (Or.inl ⟨by rfl, ?_⟩) (hH0) ?_
                        rotate_left
                        · (intro wx hSw; obtain ⟨_, q0, q1, _, q2, q3⟩ := hSw; go_simp <;> with_reducible rfl)
                        simp only [Act.put, List.setIfInBounds_toArray, List.set_cons_zero, List.set_cons_succ]
                        refine wpAnyH_take (i := 2) (oi := { dst := some 103, op := _, type := _, pos := _, after := _, guard := _ }) (v := _) rfl (by kernel_rfl) (by kernel_rfl) (by kernel_rfl) (fun _ _ _ h => h) (Or.inr ⟨by rfl, rfl⟩) (hH0) ?_
                        simp only [Act.put, List.setIfInBounds_toArray, List.set_cons_zero, List.set_cons_succ]
                        refine wpAnyH_take (i := 3) (oi := { dst := some 104, op := _, type := _, pos := _, after := _, guard := _ }) (v := _) rfl (by kernel_rfl) (by kernel_rfl) (by kernel_rfl) (fun _ _ _ h => h) (Or.inr ⟨by rfl, rfl⟩) (hH0) ?_
                        simp only [Act.put, List.setIfInBounds_toArray, List.set_cons_zero, List.set_cons_succ]
                        refine wpAnyH_take (i := 4) (oi := { dst := some 105, op := _, type := _, pos := _, after := _, guard := _ }) (v := _) rfl (by kernel_rfl) (by kernel_rfl) (by kernel_rfl) (fun _ _ _ h => h) (Or.inr ⟨by rfl, rfl⟩) (hH0) ?_
                        simp only [Act.put, List.setIfInBounds_toArray, List.set_cons_zero, List.set_cons_succ]
                        refine wpAnyH_take (i := 5) (oi := { dst := some 106, op := _, type := _, pos := _, after := _, guard := _ }) (v := _) rfl (by kernel_rfl) (by kernel_rfl) (by kernel_rfl) (fun _ _ _ h => h) (Or.inr ⟨by rfl, rfl⟩) (hH0) ?_
                        simp only [Act.put, List.setIfInBounds_toArray, List.set_cons_zero, List.set_cons_succ]
                        refine wpAnyH_take (i := 6) (oi := { dst := some 107, op := _, type := _, pos := _, after := _, guard := _ }) (v := _) rfl (by kernel_rfl) (by kernel_rfl) (by kernel_rfl) (fun _ _ _ h => h) (Or.inr ⟨by rfl, rfl⟩) (hH0) ?_
                        simp only [Act.put, List.setIfInBounds_toArray, List.set_cons_zero, List.set_cons_succ]
                        refine wpAnyH_take (i := 7) (oi := { dst := some 108, op := _, type := _, pos := _, after := _, guard := _ }) (v := _) rfl (by kernel_rfl) (by kernel_rfl) (by kernel_rfl) (fun _ _ _ h => h) (Or.inr ⟨by rfl, rfl⟩) (hH0) ?_
                        simp only [Act.put, List.setIfInBounds_toArray, List.set_cons_zero, List.set_cons_succ]
                        refine wpAnyH_take (i := 8) (oi := { dst := some 109, op := _, type := _, pos := _, after := _, guard := _ }) (v := ?_) rfl (by kernel_rfl) (by kernel_rfl) (by kernel_rfl) (fun _ _ _ h => h) (Or.inl ⟨by rfl, ?_⟩) (hH0) ?_
                        rotate_left
                        · (intro wx hSw; obtain ⟨_, q0, q1, _, q2, q3⟩ := hSw; go_simp <;> with_reducible rfl)
                        simp only [Act.put, List.setIfInBounds_toArray, List.set_cons_zero, List.set_cons_succ]
                        refine wpAnyH_take (i := 9) (oi := { dst := some 12, op := _, type := _, pos := _, after := _, guard := _ }) (v := ?_) rfl (by kernel_rfl) (by kernel_rfl) (by kernel_rfl) (fun _ _ _ h => h) (Or.inl ⟨by rfl, ?_⟩) (hH0) ?_
                        rotate_left
                        · (intro wx hSw; obtain ⟨_, q0, q1, _, q2, q3⟩ := hSw; go_simp <;> with_reducible rfl)
                        simp only [Act.put, List.setIfInBounds_toArray, List.set_cons_zero, List.set_cons_succ]
                        refine wpAnyH_done (by kernel_rfl) ?_ _
                        -- behind it: go_wp2_with fail, then go_meet (a cut) or go_ret; the condition at the end: hH0
                        go_wp2_with fail
                        go_roundw
                        case rel =>
                          have hbj := HBJ.out
                          exact ⟨j + 1, by omega, by go_num, by rw [HYE.out], (by repeat' first | with_reducible exact Below.refl _ _ | with_reducible assumption | with_reducible refine below_drewN ?_ _ | with_reducible refine balloc ?_ _ | with_reducible refine Below.drew ?_ | with_reducible refine Below.setCell ?_ (by first | (simp; done) | (simp; omega) | omega) _ | with_reducible refine bstep ?_ (by assumption))⟩
                        case measure => simp [intOf]; omega
                    · obtain rfl : j = N := by omega
                      have HBN := hide (bstep HBC.out hbj)
                      cases hth : thB A x j
                      · obtain ⟨hNk, hpos, hless⟩ : (j : Int) = k ∧ 0 < j ∧ nlessB x.1 x.2 (A (j - 1)).1 (A (j - 1)).2 = false := by
                          rcases INNH.out with ⟨i', hi', e'⟩ | h
                          · rw [thB_in e' j hi'] at hth; cases hth
                          · exact h
                        obtain ⟨q, hq⟩ : ∃ q, j - 1 = q := ⟨_, rfl⟩
                        rw [hq] at hless
                        have hqn : q < j := by omega
                        have hqn' : (q : Int) < (j : Int) := by omega
                        have hwr : IntKind.i64.wrap ((j : Int) - 1) = (q : Int) := by rw [wrapIn _ (by omega) (by omega)]; omega
                        have hnk : decide ((j : Int) < k) = false := by simp; omega
                        obtain ⟨bn, on, rfl, ln, d0, d1⟩ := (NC.out.below hbj).twoK hqn
                        have T := hide (K4.mk (x := x) (y := A q) lz2 y0 y1 ln d0 d1)
                        have R := hide (fun w1 => iNearLess_any x.1 x.2 (A q).1 (A q).2 w1)
                        rw [hless] at R
                        clear hth hbj y0 y1 d0 d1 hless hNk hq hjn
                        go_upto_region 17 with fail
                        refine wp_region_held_drew (S := fun wx => K4 wx z bn (on + q * 2) x (A q)) (by kernel_rfl) (T.out.drew) (fun hH0 => ?_)
                        refine wpAnyH_take (i := 0) (oi := { dst := some 110, op := _, type := _, pos := _, after := _, guard := _ }) (v := ?_) rfl (by kernel_rfl) (by kernel_rfl) (by kernel_rfl) (fun _ _ _ h => h) (Or.inl ⟨by rfl, ?_⟩) (hH0) ?_
                        rotate_left
                        · (intro wx hSw; obtain ⟨_, q0, q1, _, q2, q3⟩ := hSw; go_simp <;> with_reducible rfl)
                        simp only [Act.put, List.setIfInBounds_toArray, List.set_cons_zero, List.set_cons_succ]
                        refine wpAnyH_take (i := 1) (oi := { dst := some 111, op := _, type := _, pos := _, after := _, guard := _ }) (v := ?_) rfl (by kernel_rfl) (by kernel_rfl) (by kernel_rfl) (fun _ _ _ h => h) (Or.inl ⟨by rfl, ?_⟩) (hH0) ?_
                        rotate_left
                        · (intro wx hSw; obtain ⟨_, q0, q1, _, q2, q3⟩ := hSw; go_simp <;> with_reducible rfl)
                        simp only [Act.put, List.setIfInBounds_toArray, List.set_cons_zero, List.set_cons_succ]
                        refine wpAnyH_take (i := 2) (oi := { dst := some 112, op := _, type := _, pos := _, after := _, guard := _ }) (v := ?_) rfl (by kernel_rfl) (by kernel_rfl) (by kernel_rfl) (fun _ _ _ h => h) (Or.inl ⟨by rfl, ?_⟩) (hH0) ?_
                        rotate_left
                        · (intro wx hSw; obtain ⟨_, q0, q1, _, q2, q3⟩ := hSw; go_simp <;> with_reducible rfl)
                        simp only [Act.put, List.setIfInBounds_toArray, List.set_cons_zero, List.set_cons_succ]
                        refine wpAnyH_take (i := 3) (oi := { dst := some 113, op := _, type := _, pos := _, after := _, guard := _ }) (v := ?_) rfl (by kernel_rfl) (by kernel_rfl) (by kernel_rfl) (fun _ _ _ h => h) (Or.inl ⟨by rfl, ?_⟩) (hH0) ?_
                        rotate_left
                        · (intro wx hSw; obtain ⟨_, q0, q1, _, q2, q3⟩ := hSw; go_simp <;> with_reducible rfl)
                        simp only [Act.put, List.setIfInBounds_toArray, List.set_cons_zero, List.set_cons_succ]
                        refine wpAnyH_take (i := 4) (oi := { dst := some 114, op := _, type := _, pos := _, after := _, guard := _ }) (v := ?_) rfl (by kernel_rfl) (by kernel_rfl) (by kernel_rfl) (fun _ _ _ h => h) (Or.inl ⟨by rfl, ?_⟩) (hH0) ?_
                        rotate_left
                        · (intro wx hSw; obtain ⟨_, q0, q1, _, q2, q3⟩ := hSw; go_simp <;> with_reducible rfl)
                        simp only [Act.put, List.setIfInBounds_toArray, List.set_cons_zero, List.set_cons_succ]
                        refine wpAnyH_take (i := 5) (oi := { dst := some 115, op := _, type := _, pos := _, after := _, guard := _ }) (v := ?_) rfl (by kernel_rfl) (by kernel_rfl) (by kernel_rfl) (fun _ _ _ h => h) (Or.inl ⟨by rfl, ?_⟩) (hH0) ?_
                        rotate_left
                        · (intro wx hSw; obtain ⟨_, q0, q1, _, q2, q3⟩ := hSw; go_simp <;> with_reducible rfl)
                        simp only [Act.put, List.setIfInBounds_toArray, List.set_cons_zero, List.set_cons_succ]
                        refine wpAnyH_take (i := 6) (oi := { dst := some 116, op := _, type := _, pos := _, after := _, guard := _ }) (v := ?_) rfl (by kernel_rfl) (by kernel_rfl) (by kernel_rfl) (fun _ _ _ h => h) (Or.inl ⟨by rfl, ?_⟩) (hH0) ?_
                        rotate_left
                        · (intro wx hSw; obtain ⟨_, q0, q1, _, q2, q3⟩ := hSw; go_simp <;> with_reducible rfl)
                        simp only [Act.put, List.setIfInBounds_toArray, List.set_cons_zero, List.set_cons_succ]
                        refine wpAnyH_take (i := 7) (oi := { dst := some 117, op := _, type := _, pos := _, after := _, guard := _ }) (v := ?_) rfl (by kernel_rfl) (by kernel_rfl) (by kernel_rfl) (fun _ _ _ h => h) (Or.inl ⟨by rfl, ?_⟩) (hH0) ?_
                        rotate_left
                        · (intro wx hSw; obtain ⟨_, q0, q1, _, q2, q3⟩ := hSw; go_simp <;> with_reducible rfl)
                        simp only [Act.put, List.setIfInBounds_toArray, List.set_cons_zero, List.set_cons_succ]
                        refine wpAnyH_take (i := 8) (oi := { dst := some 118, op := _, type := _, pos := _, after := _, guard := _ }) (v := ?_) rfl (by kernel_rfl) (by kernel_rfl) (by kernel_rfl) (fun _ _ _ h => h) (Or.inl ⟨by rfl, ?_⟩) (hH0) ?_
                        rotate_left
                        · (intro wx hSw; obtain ⟨_, q0, q1, _, q2, q3⟩ := hSw; go_simp <;> with_reducible rfl)
                        simp only [Act.put, List.setIfInBounds_toArray, List.set_cons_zero, List.set_cons_succ]
                        refine wpAnyH_take (i := 9) (oi := { dst := some 119, op := _, type := _, pos := _, after := _, guard := _ }) (v := ?_) rfl (by kernel_rfl) (by kernel_rfl) (by kernel_rfl) (fun _ _ _ h => h) (Or.inl ⟨by rfl, ?_⟩) (hH0) ?_
                        rotate_left
                        · (intro wx hSw; obtain ⟨_, q0, q1, _, q2, q3⟩ := hSw; go_simp <;> with_reducible rfl)
                        simp only [Act.put, List.setIfInBounds_toArray, List.set_cons_zero, List.set_cons_succ]
                        refine wpAnyH_take (i := 10) (oi := { dst := some 120, op := _, type := _, pos := _, after := _, guard := _ }) (v := ?_) rfl (by kernel_rfl) (by kernel_rfl) (by kernel_rfl) (fun _ _ _ h => h) (Or.inl ⟨by rfl, ?_⟩) (hH0) ?_
                        rotate_left
                        · (intro wx hSw; obtain ⟨_, q0, q1, _, q2, q3⟩ := hSw; go_simp <;> with_reducible rfl)
                        simp only [Act.put, List.setIfInBounds_toArray, List.set_cons_zero, List.set_cons_succ]
                        refine wpAnyH_take (i := 11) (oi := { dst := some 121, op := _, type := _, pos := _, after := _, guard := _ }) (v := ?_) rfl (by kernel_rfl) (by kernel_rfl) (by kernel_rfl) (fun _ _ _ h => h) (Or.inl ⟨by rfl, ?_⟩) (hH0) ?_
                        rotate_left
                        · (intro wx hSw; obtain ⟨_, q0, q1, _, q2, q3⟩ := hSw; go_simp <;> with_reducible rfl)
                        simp only [Act.put, List.setIfInBounds_toArray, List.set_cons_zero, List.set_cons_succ]
                        refine wpAnyH_take (i := 12) (oi := { dst := some 122, op := _, type := _, pos := _, after := _, guard := _ }) (v := ?_) rfl (by kernel_rfl) (by kernel_rfl) (by kernel_rfl) (fun _ _ _ h => h) (Or.inl ⟨by rfl, ?_⟩) (hH0) ?_
                        rotate_left
                        · (intro wx hSw; obtain ⟨_, q0, q1, _, q2, q3⟩ := hSw; go_simp <;> with_reducible rfl)
                        simp only [Act.put, List.setIfInBounds_toArray, List.set_cons_zero, List.set_cons_succ]
                        refine wpAnyH_take (i := 13) (oi := { dst := some 123, op := _, type := _, pos := _, after := _, guard := _ }) (v := ?_) rfl (by kernel_rfl) (by kernel_rfl) (by kernel_rfl) (fun _ _ _ h => h) (Or.inl ⟨by rfl, ?_⟩) (hH0) ?_
                        rotate_left
                        · (intro wx hSw; obtain ⟨_, q0, q1, _, q2, q3⟩ := hSw; go_simp <;> with_reducible rfl)
                        simp only [Act.put, List.setIfInBounds_toArray, List.set_cons_zero, List.set_cons_succ]
                        refine wpAnyH_take (i := 14) (oi := { dst := some 124, op := _, type := _, pos := _, after := _, guard := _ }) (v := ?_) rfl (by kernel_rfl) (by kernel_rfl) (by kernel_rfl) (fun _ _ _ h => h) (Or.inl ⟨by rfl, ?_⟩) (hH0) ?_
                        rotate_left
                        · (intro wx hSw; obtain ⟨_, q0, q1, _, q2, q3⟩ := hSw; go_simp <;> with_reducible rfl)
                        simp only [Act.put, List.setIfInBounds_toArray, List.set_cons_zero, List.set_cons_succ]
                        refine wpAnyH_ready (rs := [15]) (by kernel_rfl) (by simp) ?_
                        refine AllReadyH.cons (o := { dst := some 125, op := _, type := _, pos := _, after := _, guard := _ }) rfl (fun K hK => ?_) AllReadyH.nil
                        go_simp
                        refine (R.out _).mono ?_
                        rintro e w_c125_1 ⟨rfl, hb_c125_1⟩
                        dsimp only
                        refine hK.out _ _ (K4.below hH0 hb_c125_1) (fun hH1 => ?_)
                        clear hK K
                        refine wpAnyH_take (i := 16) (oi := { dst := some 126, op := _, type := _, pos := _, after := _, guard := _ }) (v := ?_) rfl (by kernel_rfl) (by kernel_rfl) (by kernel_rfl) (fun _ _ _ h => h) (Or.inl ⟨by rfl, ?_⟩) (hH1) ?_
                        rotate_left
                        · (intro wx hSw; obtain ⟨_, q0, q1, _, q2, q3⟩ := hSw; go_simp <;> with_reducible rfl)
                        simp only [Act.put, List.setIfInBounds_toArray, List.set_cons_zero, List.set_cons_succ]
                        refine wpAnyH_take (i := 17) (oi := { dst := some 127, op := _, type := _, pos := _, after := _, guard := _ }) (v := ?_) rfl (by kernel_rfl) (by kernel_rfl) (by kernel_rfl) (fun _ _ _ h => h) (Or.inl ⟨by rfl, ?_⟩) (hH1) ?_
                        rotate_left
                        · (intro wx hSw; obtain ⟨_, q0, q1, _, q2, q3⟩ := hSw; go_simp <;> with_reducible rfl)
                        simp only [Act.put, List.setIfInBounds_toArray, List.set_cons_zero, List.set_cons_succ]
                        refine wpAnyH_done (by kernel_rfl) ?_ _
                        -- behind it: go_wp2_with fail, then go_meet (a cut) or go_ret; the condition at the end: hH1
                        go_wp2_with fail
                        go_roundw
                        case rel =>
                          have hbj := HBN.out
                          exact ⟨i + 1, by omega, by go_num, (by repeat' first | with_reducible exact Below.refl _ _ | with_reducible assumption | with_reducible refine below_drewN ?_ _ | with_reducible refine balloc ?_ _ | with_reducible refine Below.drew ?_ | with_reducible refine Below.setCell ?_ (by first | (simp; done) | (simp; omega) | omega) _ | with_reducible refine bstep ?_ (by assumption))⟩
                        case measure => simp [intOf]; omega
                      · have T : Hid True := hide trivial
                        clear hth hbj y0 y1 hjn
                        go_upto_region 17 with fail
                        refine wp_region_held_drew (S := fun wx => True) (by kernel_rfl) (trivial) (fun hH0 => ?_)
                        refine wpAnyH_take (i := 0) (oi := { dst := some 110, op := _, type := _, pos := _, after := _, guard := _ }) (v := ?_) rfl (by kernel_rfl) (by kernel_rfl) (by kernel_rfl) (fun _ _ _ h => h) (Or.inl ⟨by rfl, ?_⟩) (hH0) ?_
                        rotate_left
                        · (intro wx hSw; obtain _ := hSw; go_simp <;> with_reducible rfl)
                        simp only [Act.put, List.setIfInBounds_toArray, List.set_cons_zero, List.set_cons_succ]
                        refine wpAnyH_take (i := 1) (oi := { dst := some 111, op := _, type := _, pos := _, after := _, guard := _ }) (v := ?_) rfl (by kernel_rfl) (by kernel_rfl) (by kernel_rfl) (fun _ _ _ h => h) (Or.inl ⟨by rfl, ?_⟩) (hH0) ?_
                        rotate_left
                        · (intro wx hSw; obtain _ := hSw; go_simp <;> with_reducible rfl)
                        simp only [Act.put, List.setIfInBounds_toArray, List.set_cons_zero, List.set_cons_succ]
                        refine wpAnyH_take (i := 2) (oi := { dst := some 112, op := _, type := _, pos := _, after := _, guard := _ }) (v := ?_) rfl (by kernel_rfl) (by kernel_rfl) (by kernel_rfl) (fun _ _ _ h => h) (Or.inl ⟨by rfl, ?_⟩) (hH0) ?_
                        rotate_left
                        · (intro wx hSw; obtain _ := hSw; go_simp <;> with_reducible rfl)
                        simp only [Act.put, List.setIfInBounds_toArray, List.set_cons_zero, List.set_cons_succ]
                        refine wpAnyH_take (i := 3) (oi := { dst := some 113, op := _, type := _, pos := _, after := _, guard := _ }) (v := _) rfl (by kernel_rfl) (by kernel_rfl) (by kernel_rfl) (fun _ _ _ h => h) (Or.inr ⟨by rfl, rfl⟩) (hH0) ?_
                        simp only [Act.put, List.setIfInBounds_toArray, List.set_cons_zero, List.set_cons_succ]
                        refine wpAnyH_take (i := 4) (oi := { dst := some 114, op := _, type := _, pos := _, after := _, guard := _ }) (v := _) rfl (by kernel_rfl) (by kernel_rfl) (by kernel_rfl) (fun _ _ _ h => h) (Or.inr ⟨by rfl, rfl⟩) (hH0) ?_
                        simp only [Act.put, List.setIfInBounds_toArray, List.set_cons_zero, List.set_cons_succ]
                        refine wpAnyH_take (i := 5) (oi := { dst := some 115, op := _, type := _, pos := _, after := _, guard := _ }) (v := _) rfl (by kernel_rfl) (by kernel_rfl) (by kernel_rfl) (fun _ _ _ h => h) (Or.inr ⟨by rfl, rfl⟩) (hH0) ?_
                        simp only [Act.put, List.setIfInBounds_toArray, List.set_cons_zero, List.set_cons_succ]
                        refine wpAnyH_take (i := 6) (oi := { dst := some 116, op := _, type := _, pos := _, after := _, guard := _ }) (v := _) rfl (by kernel_rfl) (by kernel_rfl) (by kernel_rfl) (fun _ _ _ h => h) (Or.inr ⟨by rfl, rfl⟩) (hH0) ?_
                        simp only [Act.put, List.setIfInBounds_toArray, List.set_cons_zero, List.set_cons_succ]
                        refine wpAnyH_take (i := 7) (oi := { dst := some 117, op := _, type := _, pos := _, after := _, guard := _ }) (v := _) rfl (by kernel_rfl) (by kernel_rfl) (by kernel_rfl) (fun _ _ _ h => h) (Or.inr ⟨by rfl, rfl⟩) (hH0) ?_
                        simp only [Act.put, List.setIfInBounds_toArray, List.set_cons_zero, List.set_cons_succ]
                        refine wpAnyH_take (i := 8) (oi := { dst := some 118, op := _, type := _, pos := _, after := _, guard := _ }) (v := _) rfl (by kernel_rfl) (by kernel_rfl) (by kernel_rfl) (fun _ _ _ h => h) (Or.inr ⟨by rfl, rfl⟩) (hH0) ?_
                        simp only [Act.put, List.setIfInBounds_toArray, List.set_cons_zero, List.set_cons_succ]
                        refine wpAnyH_take (i := 9) (oi := { dst := some 119, op := _, type := _, pos := _, after := _, guard := _ }) (v := _) rfl (by kernel_rfl) (by kernel_rfl) (by kernel_rfl) (fun _ _ _ h => h) (Or.inr ⟨by rfl, rfl⟩) (hH0) ?_
                        simp only [Act.put, List.setIfInBounds_toArray, List.set_cons_zero, List.set_cons_succ]
                        refine wpAnyH_take (i := 10) (oi := { dst := some 120, op := _, type := _, pos := _, after := _, guard := _ }) (v := _) rfl (by kernel_rfl) (by kernel_rfl) (by kernel_rfl) (fun _ _ _ h => h) (Or.inr ⟨by rfl, rfl⟩) (hH0) ?_
                        simp only [Act.put, List.setIfInBounds_toArray, List.set_cons_zero, List.set_cons_succ]
                        refine wpAnyH_take (i := 11) (oi := { dst := some 121, op := _, type := _, pos := _, after := _, guard := _ }) (v := _) rfl (by kernel_rfl) (by kernel_rfl) (by kernel_rfl) (fun _ _ _ h => h) (Or.inr ⟨by rfl, rfl⟩) (hH0) ?_
                        simp only [Act.put, List.setIfInBounds_toArray, List.set_cons_zero, List.set_cons_succ]
                        refine wpAnyH_take (i := 12) (oi := { dst := some 122, op := _, type := _, pos := _, after := _, guard := _ }) (v := _) rfl (by kernel_rfl) (by kernel_rfl) (by kernel_rfl) (fun _ _ _ h => h) (Or.inr ⟨by rfl, rfl⟩) (hH0) ?_
                        simp only [Act.put, List.setIfInBounds_toArray, List.set_cons_zero, List.set_cons_succ]
                        refine wpAnyH_take (i := 13) (oi := { dst := some 123, op := _, type := _, pos := _, after := _, guard := _ }) (v := _) rfl (by kernel_rfl) (by kernel_rfl) (by kernel_rfl) (fun _ _ _ h => h) (Or.inr ⟨by rfl, rfl⟩) (hH0) ?_
                        simp only [Act.put, List.setIfInBounds_toArray, List.set_cons_zero, List.set_cons_succ]
                        refine wpAnyH_take (i := 14) (oi := { dst := some 124, op := _, type := _, pos := _, after := _, guard := _ }) (v := _) rfl (by kernel_rfl) (by kernel_rfl) (by kernel_rfl) (fun _ _ _ h => h) (Or.inr ⟨by rfl, rfl⟩) (hH0) ?_
                        simp only [Act.put, List.setIfInBounds_toArray, List.set_cons_zero, List.set_cons_succ]
                        refine wpAnyH_take (i := 15) (oi := { dst := some 125, op := _, type := _, pos := _, after := _, guard := _ }) (v := _) rfl (by kernel_rfl) (by kernel_rfl) (by kernel_rfl) (fun _ _ _ h => h) (Or.inr ⟨by rfl, rfl⟩) (hH0) ?_
                        simp only [Act.put, List.setIfInBounds_toArray, List.set_cons_zero, List.set_cons_succ]
                        refine wpAnyH_take (i := 16) (oi := { dst := some 126, op := _, type := _, pos := _, after := _, guard := _ }) (v := _) rfl (by kernel_rfl) (by kernel_rfl) (by kernel_rfl) (fun _ _ _ h => h) (Or.inr ⟨by rfl, rfl⟩) (hH0) ?_
                        simp only [Act.put, List.setIfInBounds_toArray, List.set_cons_zero, List.set_cons_succ]
                        refine wpAnyH_take (i := 17) (oi := { dst := some 127, op := _, type := _, pos := _, after := _, guard := _ }) (v := ?_) rfl (by kernel_rfl) (by kernel_rfl) (by kernel_rfl) (fun _ _ _ h => h) (Or.inl ⟨by rfl, ?_⟩) (hH0) ?_
                        rotate_left
                        · (intro wx hSw; obtain _ := hSw; go_simp <;> with_reducible rfl)
                        simp only [Act.put, List.setIfInBounds_toArray, List.set_cons_zero, List.set_cons_succ]
                        refine wpAnyH_done (by kernel_rfl) ?_ _
                        -- behind it: go_wp2_with fail, then go_meet (a cut) or go_ret; the condition at the end: hH0
                        go_wp2_with fail
                        go_roundw
                        case rel =>
                          have hbj := HBN.out
                          exact ⟨i + 1, by omega, by go_num, (by repeat' first | with_reducible exact Below.refl _ _ | with_reducible assumption | with_reducible refine below_drewN ?_ _ | with_reducible refine balloc ?_ _ | with_reducible refine Below.drew ?_ | with_reducible refine Below.setCell ?_ (by first | (simp; done) | (simp; omega) | omega) _ | with_reducible refine bstep ?_ (by assumption))⟩
                        case measure => simp [intOf]; omega
              · obtain rfl : i = c := by omega
                have HBE := hide (bstep B7.out hbel)
                have NE := hide (O7.out.below hbel)
                clear hbel HBEL HB
                go_wp2_with fail
                go_loopw [14] (fun i wx => ∃ t : Nat, 1 ≤ t ∧ (t ≤ N ∨ t = 1) ∧ i = .int .i64 t ∧ Below wr.heap.size wr wx) (fun i _ => N - (intOf i).toNat)
                case atStart => exact ⟨1, by omega, .inr rfl, rfl, Below.refl _ _⟩
                case round =>
                  obtain ⟨t, ht1, ht2, rfl, hbt⟩ := hrel
                  have HBT := hide hbt
                  by_cases htn : t < N
                  · have htn' : (t : Int) < (N : Int) := by omega
                    obtain ⟨q, hq⟩ : ∃ q, t - 1 = q := ⟨_, rfl⟩
                    have up := UP.out t (by omega) htn
                    rw [hq] at up
                    have hqn' : (q : Int) < (N : Int) := by omega
                    have hwr : IntKind.i64.wrap ((t : Int) - 1) = (q : Int) := by rw [wrapIn _ (by omega) (by omega)]; omega
                    obtain ⟨bn, on, e1, ln, d0, d1⟩ := (NE.out.below hbt).twoK htn
                    obtain ⟨bn', on', e2, ln', c0, c1⟩ := (NE.out.below hbt).twoK (show q < N by omega)
                    rw [e1] at e2
                    cases e2
                    subst e1
                    have T := hide (K5.mk (x := A q) (y := A t) ln c0 c1 d0 d1)
                    have R := hide (fun w1 => iNearLess_any (A q).1 (A q).2 (A t).1 (A t).2 w1)
                    rw [up] at R
                    clear hbt c0 c1 d0 d1 up hq ht2
                    go_upto_region 22 with fail
                    refine wp_region_held_drew (S := fun wx => K5 wx bn (on + q * 2) (on + t * 2) (A q) (A t)) (by kernel_rfl) (T.out.drew) (fun hH0 => ?_)
                    refine wpAnyH_take (i := 0) (oi := { dst := some 134, op := _, type := _, pos := _, after := _, guard := _ }) (v := ?_) rfl (by kernel_rfl) (by kernel_rfl) (by kernel_rfl) (fun _ _ _ h => h) (Or.inl ⟨by rfl, ?_⟩) (hH0) ?_
                    rotate_left
                    · (intro wx hSw; obtain ⟨_, q0, q1, q2, q3⟩ := hSw; go_simp <;> with_reducible rfl)
                    simp only [Act.put, List.setIfInBounds_toArray, List.set_cons_zero, List.set_cons_succ]
                    refine wpAnyH_take (i := 1) (oi := { dst := some 135, op := _, type := _, pos := _, after := _, guard := _ }) (v := ?_) rfl (by kernel_rfl) (by kernel_rfl) (by kernel_rfl) (fun _ _ _ h => h) (Or.inl ⟨by rfl, ?_⟩) (hH0) ?_
                    rotate_left
                    · (intro wx hSw; obtain ⟨_, q0, q1, q2, q3⟩ := hSw; go_simp <;> with_reducible rfl)
                    simp only [Act.put, List.setIfInBounds_toArray, List.set_cons_zero, List.set_cons_succ]
                    refine wpAnyH_take (i := 2) (oi := { dst := some 136, op := _, type := _, pos := _, after := _, guard := _ }) (v := ?_) rfl (by kernel_rfl) (by kernel_rfl) (by kernel_rfl) (fun _ _ _ h => h) (Or.inl ⟨by rfl, ?_⟩) (hH0) ?_
                    rotate_left
                    · (intro wx hSw; obtain ⟨_, q0, q1, q2, q3⟩ := hSw; go_simp <;> with_reducible rfl)
                    simp only [Act.put, List.setIfInBounds_toArray, List.set_cons_zero, List.set_cons_succ]
                    refine wpAnyH_take (i := 3) (oi := { dst := some 137, op := _, type := _, pos := _, after := _, guard := _ }) (v := ?_) rfl (by kernel_rfl) (by kernel_rfl) (by kernel_rfl) (fun _ _ _ h => h) (Or.inl ⟨by rfl, ?_⟩) (hH0) ?_
                    rotate_left
                    · (intro wx hSw; obtain ⟨_, q0, q1, q2, q3⟩ := hSw; go_simp <;> with_reducible rfl)
                    simp only [Act.put, List.setIfInBounds_toArray, List.set_cons_zero, List.set_cons_succ]
                    refine wpAnyH_take (i := 4) (oi := { dst := some 138, op := _, type := _, pos := _, after := _, guard := _ }) (v := ?_) rfl (by kernel_rfl) (by kernel_rfl) (by kernel_rfl) (fun _ _ _ h => h) (Or.inl ⟨by rfl, ?_⟩) (hH0) ?_
                    rotate_left
                    · (intro wx hSw; obtain ⟨_, q0, q1, q2, q3⟩ := hSw; go_simp <;> with_reducible rfl)
                    simp only [Act.put, List.setIfInBounds_toArray, List.set_cons_zero, List.set_cons_succ]
                    refine wpAnyH_take (i := 5) (oi := { dst := some 139, op := _, type := _, pos := _, after := _, guard := _ }) (v := ?_) rfl (by kernel_rfl) (by kernel_rfl) (by kernel_rfl) (fun _ _ _ h => h) (Or.inl ⟨by rfl, ?_⟩) (hH0) ?_
                    rotate_left
                    · (intro wx hSw; obtain ⟨_, q0, q1, q2, q3⟩ := hSw; go_simp <;> with_reducible rfl)
                    simp only [Act.put, List.setIfInBounds_toArray, List.set_cons_zero, List.set_cons_succ]
                    refine wpAnyH_take (i := 6) (oi := { dst := some 140, op := _, type := _, pos := _, after := _, guard := _ }) (v := ?_) rfl (by kernel_rfl) (by kernel_rfl) (by kernel_rfl) (fun _ _ _ h => h) (Or.inl ⟨by rfl, ?_⟩) (hH0) ?_
                    rotate_left
                    · (intro wx hSw; obtain ⟨_, q0, q1, q2, q3⟩ := hSw; go_simp <;> with_reducible rfl)
                    simp only [Act.put, List.setIfInBounds_toArray, List.set_cons_zero, List.set_cons_succ]
                    refine wpAnyH_take (i := 7) (oi := { dst := some 141, op := _, type := _, pos := _, after := _, guard := _ }) (v := ?_) rfl (by kernel_rfl) (by kernel_rfl) (by kernel_rfl) (fun _ _ _ h => h) (Or.inl ⟨by rfl, ?_⟩) (hH0) ?_
                    rotate_left
                    · (intro wx hSw; obtain ⟨_, q0, q1, q2, q3⟩ := hSw; go_simp <;> with_reducible rfl)
                    simp only [Act.put, List.setIfInBounds_toArray, List.set_cons_zero, List.set_cons_succ]
                    refine wpAnyH_take (i := 8) (oi := { dst := some 142, op := _, type := _, pos := _, after := _, guard := _ }) (v := ?_) rfl (by kernel_rfl) (by kernel_rfl) (by kernel_rfl) (fun _ _ _ h => h) (Or.inl ⟨by rfl, ?_⟩) (hH0) ?_
                    rotate_left
                    · (intro wx hSw; obtain ⟨_, q0, q1, q2, q3⟩ := hSw; go_simp <;> with_reducible rfl)
                    simp only [Act.put, List.setIfInBounds_toArray, List.set_cons_zero, List.set_cons_succ]
                    refine wpAnyH_ready (rs := [9]) (by kernel_rfl) (by simp) ?_
                    refine AllReadyH.cons (o := { dst := some 143, op := _, type := _, pos := _, after := _, guard := _ }) rfl (fun K hK => ?_) AllReadyH.nil
                    go_simp
                    refine (R.out _).mono ?_
                    rintro e w_c143_1 ⟨rfl, hb_c143_1⟩
                    dsimp only
                    refine hK.out _ _ (K5.below hH0 hb_c143_1) (fun hH1 => ?_)
                    clear hK K
                    refine wpAnyH_take (i := 10) (oi := { dst := some 144, op := _, type := _, pos := _, after := _, guard := _ }) (v := ?_) rfl (by kernel_rfl) (by kernel_rfl) (by kernel_rfl) (fun _ _ _ h => h) (Or.inl ⟨by rfl, ?_⟩) (hH1) ?_
                    rotate_left
                    · (intro wx hSw; obtain ⟨_, q0, q1, q2, q3⟩ := hSw; go_simp <;> with_reducible rfl)
                    simp only [Act.put, List.setIfInBounds_toArray, List.set_cons_zero, List.set_cons_succ]
                    refine wpAnyH_done (by kernel_rfl) ?_ _
                    -- behind it: go_wp2_with fail, then go_meet (a cut) or go_ret; the condition at the end: hH1
                    go_wp2_with fail
                    go_roundw
                    case rel =>
                      have hbt := HBT.out
                      exact ⟨t + 1, by omega, .inl (by omega), by go_num, (by repeat' first | with_reducible exact Below.refl _ _ | with_reducible assumption | with_reducible refine below_drewN ?_ _ | with_reducible refine balloc ?_ _ | with_reducible refine Below.drew ?_ | with_reducible refine Below.setCell ?_ (by first | (simp; done) | (simp; omega) | omega) _ | with_reducible refine bstep ?_ (by assumption))⟩
                    case measure => simp [intOf]; omega
                  · have htn' : ¬ (t : Int) < (N : Int) := by omega
                    have HBZ := hide (bstep HBE.out hbt)
                    have hnum := NUM.out
                    have hEq : ((N : Int) == min k (i : Int)) = true := beq_iff_eq.2 hnum
                    clear hbt hnum ht2
                    go_wp2_with fail
                    go_ret
                    exact ⟨rfl, HBZ.out⟩
          · by_cases h0 : k < 1
            · clear hqd
              go_wp2_with fail
              refine (SN.out _ I5.out R5.out).mono ?_
              rintro e wa ⟨aa, ca, rfl, oa, ba⟩
              have Oa := hide (O5.out.below ba)
              have Pa := hide oa.prow
              have Ba := hide (bstep B5.out ba)
              clear oa ba
              go_wp2_with fail
              refine (EQ.out _ _ _ _ _ Oa.out Pa.out).mono ?_
              rintro e wb ⟨rfl, bb⟩
              have Bb := hide (bstep Ba.out bb)
              clear bb
              go_wp2_with fail
              go_ret
              exact ⟨rfl, Bb.out⟩
            · have h1 : (20 : Int) < k := by omega
              clear hqd
              go_wp2_with fail
              refine (SN.out _ I5.out R5.out).mono ?_
              rintro e wa ⟨aa, ca, rfl, oa, ba⟩
              have Oa := hide (O5.out.below ba)
              have Pa := hide oa.prow
              have Ba := hide (bstep B5.out ba)
              clear oa ba
              go_wp2_with fail
              refine (EQ.out _ _ _ _ _ Oa.out Pa.out).mono ?_
              rintro e wb ⟨rfl, bb⟩
              have Bb := hide (bstep Ba.out bb)
              clear bb
              go_wp2_with fail
              go_ret
              exact ⟨rfl, Bb.out⟩
        · have hqb : ((qs.length : Int) != dim) = true := by simp [hqd]
          clear hqd
          go_wp2_with fail
          refine (SN.out _ I5.out R5.out).mono ?_
          rintro e wa ⟨aa, ca, rfl, oa, ba⟩
          have Oa := hide (O5.out.below ba)
          have Pa := hide oa.prow
          have Ba := hide (bstep B5.out ba)
          clear oa ba
          go_wp2_with fail
          refine (EQ.out _ _ _ _ _ Oa.out Pa.out).mono ?_
          rintro e wb ⟨rfl, bb⟩
          have Bb := hide (bstep Ba.out bb)
          clear bb
          go_wp2_with fail
          go_ret
          exact ⟨rfl, Bb.out⟩
  · rw [decide_eq_true (show 1048576 < n by omega)] at BG
    go_enter Try.func3, Try.ntmps3
    go_wp2_with fail
    refine BG.out.mono ?_
    rintro e w' ⟨rfl, rfl⟩
    go_wp2
    go_ret
    exact ⟨rfl, (by repeat' first | with_reducible exact Below.refl _ _ | with_reducible assumption | with_reducible refine below_drewN ?_ _ | with_reducible refine balloc ?_ _ | with_reducible refine Below.drew ?_ | with_reducible refine Below.setCell ?_ (by first | (simp; done) | (simp; omega) | omega) _ | with_reducible refine bstep ?_ (by assumption))⟩
end Go.Proofs.Ytidgdffimgjpfaa
