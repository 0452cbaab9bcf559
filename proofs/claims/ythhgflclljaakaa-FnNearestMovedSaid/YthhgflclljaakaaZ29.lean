/- The walk of the law FnNearestMoved. -/
import Derived.Test.YthhgflclljaakaaZ26
import Derived.Test.YthhgflclljaakaaZ23
import Derived.Test.YthhgflclljaakaaZ28
import Derived.Test.YthhgflclljaakaaZ22
import Derived.Test.YthhgflclljaakaaZ10
import Derived.OpenShut
namespace Go.Proofs.Ythhgflclljaakaa
open Go.RowKit
set_option maxRecDepth 8000
set_option linter.unusedSimpArgs false
set_option linter.unusedVariables false

theorem Fresh.vsl {base : Nat} {w : World} {v : Value} {xs : List Int} (h : Fresh base w v xs) : ∃ g, VSl w base w.heap.size v xs g := by
  rcases h with ⟨rfl, rfl⟩ | ⟨g, rfl, hb, ho⟩
  · exact ⟨0, none, 0, rfl, .inl rfl⟩
  · exact ⟨g, _, _, rfl, .inr ⟨rfl, hb, ho.arrc.lt, ho.arrc⟩⟩

theorem bandN (b : Bool) (n : Nat) (p : Nat → Bool) : (b && allN (n + 1) p) = ((b && allN n p) && p n) := by
  cases hb : b
  · simp
  · cases hp : p n
    · rw [allN_no (k := n) (by omega) hp]; simp
    · cases ha : allN n p
      · have : allN (n + 1) p = false := by
          cases h : allN (n + 1) p
          · rfl
          · rw [show allN n p = true from allN_yes fun i hi => allN_at h (by omega)] at ha; cases ha
        rw [this]; simp
      · rw [show allN (n + 1) p = true from allN_yes fun i hi => by
          by_cases e : i = n
          · subst e; exact hp
          · exact allN_at ha (by omega)]
        simp
/-- Nothing that was there has turned; an item's id and tags. -/
structure KM (w0 w : World) (g o : Nat) (id tags : Int) : Prop where
  bel : Below w0.heap.size w0 w
  c0 : w.cell? ⟨g, o, none⟩ = some (.int .i64 id)
  c1 : w.cell? ⟨g, o + 1, none⟩ = some (.int .i64 tags)

theorem KM.of {w0 w : World} {g o : Nat} {id tags : Int} (hb : Below w0.heap.size w0 w) (lg : g < w0.heap.size) (h0 : w0.cell? ⟨g, o, none⟩ = some (.int .i64 id)) (h2 : w0.cell? ⟨g, o + 1, none⟩ = some (.int .i64 tags)) : KM w0 w g o id tags :=
  ⟨hb, (hb.cell (p := ⟨g, o, none⟩) lg).trans h0, (hb.cell (p := ⟨g, o + 1, none⟩) lg).trans h2⟩

theorem KM.below {w0 w w' : World} {g o : Nat} {id tags : Int} (h : KM w0 w g o id tags) (hb : Below w.heap.size w w') : KM w0 w' g o id tags := by
  have l : g < w.heap.size := cellLt (a := ⟨g, o, none⟩) h.c0
  exact ⟨bstep h.bel hb, (hb.cell (p := ⟨g, o, none⟩) l).trans h.c0, (hb.cell (p := ⟨g, o + 1, none⟩) l).trans h.c1⟩

theorem nearMv_le (dim : Int) (n : Nat) (L : IL) (qs : List Int) (k mask : Int) : nearM dim n L qs k mask ≤ n := by
  unfold nearM
  split
  · exact Nat.le_trans (Nat.min_le_right _ _) (cntP_le _ _ _)
  · omega
/-- The list of items that is being moved. -/
def Mov (w7 wr : World) (L : IL) (bs : List Int) (k : Nat) (v : Value) : Prop :=
  ∃ g cp M V sv, v = .slice (some ⟨g, 0, none⟩) k cp ∧ GI wr w7.heap.size g cp k M V sv ∧ (∀ i, i < k → M i = mvI bs (L i)) ∧ Below w7.heap.size w7 wr

set_option maxHeartbeats 16000000 in
theorem nearestMoved_walk (a : Option Addr) (n cap : Nat) (zs : List Int) (w : World) (h : IsRow .u8 w a n cap zs) :
    Calls Try.prog 3 #[.slice a n cap] w fun e w' => e = .returned (.bool true) ∧ Below w.heap.size w w' := by
  have BG := hide (big_any a n cap w)
  by_cases hn : n ≤ 1048576
  · rw [decide_eq_false (show ¬ 1048576 < n by omega)] at BG
    have DR := hide (drawNearest_any a n cap w (h.code hn))
    have BY := hide (fun i w1 (hb : Below w.heap.size w w1) (hi : i ≤ 1048576) => byteOf_any a n cap i w1 ((h.code hn).below hb) hi)
    clear h
    go_enter Try.func3, Try.ntmps3
    go_wp2_with fail
    refine BG.out.mono ?_
    rintro e w' ⟨rfl, hw⟩
    obtain rfl := hw.symm
    clear BG hw
    go_wp2_with fail
    refine DR.out.mono ?_
    rintro e w1 ⟨dim, g, m, cp, L, qa, qc, qs, k, mask, rfl, hni, rq, hql⟩
    have hm := hni.few
    have hv : ∀ i, i < m → (L i).vec.length ≤ 1048576 := fun i hi => Nat.le_trans (hni.len i hi) (by omega)
    have hql2 : qs.length ≤ 1048576 := by omega
    have HV := hide hv
    have IN := hide (fun w1 (h : IHi w1 w.heap.size g m L) (rq : Row w1 qa qs.length qs) => iNearest_any dim (some ⟨g, 0, none⟩) m cp L qa qs.length qc qs k mask w1 h.irow (by omega) hv rq hql2)
    have SN := hide (fun w1 (h : IHi w1 w.heap.size g m L) (rq : Row w1 qa qs.length qs) => sNearest_any dim (some ⟨g, 0, none⟩) m cp L qa qs.length qc qs k mask w1 h.irow (by omega) hv rq hql2)
    have SO := hide (fun w1 (h : IHi w1 w.heap.size g m L) => sItemsOk_any dim (some ⟨g, 0, none⟩) m cp L w1 h.irow (by omega) hv)
    have SV := hide (fun w1 (rq : Row w1 qa qs.length qs) => sVecOk_any qa qs.length qc qs w1 rq hql2)
    have hNle := nearMv_le dim m L qs k mask
    have MVM := hide (fun (M : IL) (bs : List Int) (hM : ∀ i, i < m → M i = mvI bs (L i)) (hq : addOkB qs bs = true) (hi : ∀ i, i < m → addOkB (L i).vec bs = true) => nearM_mv (dim := dim) (k := k) (mask := mask) hM hq hi)
    have MVA := hide (fun (M : IL) (bs : List Int) (hM : ∀ i, i < m → M i = mvI bs (L i)) (hq : addOkB qs bs = true) (hi : ∀ i, i < m → addOkB (L i).vec bs = true) => nearA_mv (mask := mask) hM hq hi)
    have IN2 := hide (fun (M : IL) (g2 c2 : Nat) (ta : Option Addr) (tc : Nat) (ts : List Int) w1 (h : IRow w1 (some ⟨g2, 0, none⟩) m M) (hM : ∀ i, i < m → (M i).vec.length ≤ 1048576) (rq : Row w1 ta ts.length ts) (ht : ts.length ≤ 1048576) => iNearest_any dim (some ⟨g2, 0, none⟩) m c2 M ta ts.length tc ts k mask w1 h (by omega) hM rq ht)
    obtain ⟨N, hN⟩ : ∃ N, nearM dim m L qs k mask = N := ⟨_, rfl⟩
    obtain ⟨A, hA⟩ : ∃ A, nearA m L qs mask = A := ⟨_, rfl⟩
    have EQ := hide (fun a1 k1 a2 k2 w1 (h : PRow w1 a1 N (fun i => (A i).1) (fun i => (A i).2)) (h' : PRow w1 a2 N (fun i => (A i).1) (fun i => (A i).2)) => sameNears_self a1 a2 N k1 k2 A w1 h h' (by omega))
    unfold OutN at IN SN IN2
    simp only [hN, hA] at IN SN hNle MVM MVA
    have B1 := hide hni.low
    have I1 := hide hni.hi
    have R1 := hide rq
    clear hni rq DR hv hN hA
    go_wp2_with fail
    refine (IN.out _ I1.out R1.out).mono ?_
    rintro e w2 ⟨a2, c2, rfl, o2, b2⟩
    have I2 := hide (I1.out.below b2)
    have R2 := hide (R1.out.below b2)
    have O2 := hide o2.prow
    have B2 := hide (bstep B1.out b2)
    clear o2 b2 I1 R1 B1
    go_wp2_with fail
    refine (SN.out _ I2.out R2.out).mono ?_
    rintro e w3 ⟨a3, c3, rfl, o3, b3⟩
    have I3 := hide (I2.out.below b3)
    have R3 := hide (R2.out.below b3)
    have O3 := hide (O2.out.below b3)
    have P3 := hide o3.prow
    have B3 := hide (bstep B2.out b3)
    clear o3 b3 I2 R2 O2 B2
    go_wp2_with fail
    refine (EQ.out _ _ _ _ _ O3.out P3.out).mono ?_
    rintro e w4 ⟨rfl, b4⟩
    have I4 := hide (I3.out.below b4)
    have R4 := hide (R3.out.below b4)
    have O4 := hide (O3.out.below b4)
    have B4 := hide (bstep B3.out b4)
    clear b4 I3 R3 O3 P3 B3
    go_wp2_with fail
    refine (SO.out _ I4.out).mono ?_
    rintro e w5 ⟨rfl, b5⟩
    have I5 := hide (I4.out.below b5)
    have R5 := hide (R4.out.below b5)
    have O5 := hide (O4.out.below b5)
    have B5 := hide (bstep B4.out b5)
    clear b5 I4 R4 O4 B4
    cases hib : itemsB dim m L
    · go_wp2_with fail
      refine (SN.out _ I5.out R5.out).mono ?_
      rintro e wa ⟨aa, ca, rfl, oa, ba⟩
      have Oa := hide (O5.out.below ba)
      have Pa := hide oa.prow
      have Ba := hide (bstep B5.out ba)
      clear oa ba
      go_wp2_with fail
      refine (EQ.out _ _ _ _ _ Oa.out Pa.out).mono ?_
      rintro e wb ⟨rfl, bb⟩
      have Bb := hide (bstep Ba.out bb)
      clear bb
      go_wp2_with fail
      go_ret
      exact ⟨rfl, Bb.out⟩
    · go_wp2_with fail
      refine (SV.out _ R5.out).mono ?_
      rintro e w6 ⟨rfl, hw6⟩
      obtain rfl := hw6.symm
      clear hw6
      cases hvb : vecOkB qs
      · go_wp2_with fail
        refine (SN.out _ I5.out R5.out).mono ?_
        rintro e wa ⟨aa, ca, rfl, oa, ba⟩
        have Oa := hide (O5.out.below ba)
        have Pa := hide oa.prow
        have Ba := hide (bstep B5.out ba)
        clear oa ba
        go_wp2_with fail
        refine (EQ.out _ _ _ _ _ Oa.out Pa.out).mono ?_
        rintro e wb ⟨rfl, bb⟩
        have Bb := hide (bstep Ba.out bb)
        clear bb
        go_wp2_with fail
        go_ret
        exact ⟨rfl, Bb.out⟩
      · by_cases hqd : (qs.length : Int) = dim
        · have hqb : ((qs.length : Int) != dim) = false := by simp [hqd]
          clear hqd hib hvb
          go_wp2_with fail
          go_loopw [9, 10] (fun v i wr => ∃ (j : Nat) (f : Nat → Int), j ≤ qs.length ∧ i = .int .i64 j ∧ wr.ownsRow w5.heap.size 2 1 v j (vals f j) ∧ Below w5.heap.size w5 wr) (fun _ i _ => qs.length - (intOf i).toNat)
          case atStart => exact ⟨0, fun _ => 0, Nat.zero_le _, rfl, World.ownsRow_made w5 #[] 0 (Nat.le_refl _) (Nat.zero_le _) rfl, (by repeat' first | with_reducible exact Below.refl _ _ | with_reducible assumption | with_reducible refine below_drewN ?_ _ | with_reducible refine balloc ?_ _ | with_reducible refine Below.drew ?_ | with_reducible refine Below.setCell ?_ (by first | (simp; done) | (simp; omega) | omega) _ | with_reducible refine bstep ?_ (by assumption))⟩
          case round =>
            obtain ⟨j, f, hj, rfl, hown, hbel⟩ := hrel
            have HO := hide hown
            have HB := hide hbel
            have hs := hbel.size
            clear hown hbel
            by_cases hlt : j < qs.length
            · have hlt' : (j : Int) < (qs.length : Int) := by omega
              obtain ⟨i0, hi, hz0, hz1, hz2⟩ := info_parts Try.infoI64
              have BYC := hide (BY.out j wr (bstep B5.out HB.out) (by omega))
              go_wp2_with fail
              refine BYC.out.mono ?_
              rintro e wy ⟨⟨z, ⟨z0, z1⟩, rfl⟩, hw⟩
              obtain rfl := hw.symm
              clear hw BYC
              go_wp2_with (at_builtin; refine wpList_append_lies _ rfl _ _ 25 rfl w5.heap.size 2 i0 (.int .i64 0) 1 8 Try.underlying25 hi hz0 hz1 hz2 rfl (by decide) _ _ _ rfl (HO.out.alloc _) ⟨_, 0, none⟩ 1 1 [.int .i64 (z - 128)] rfl rfl (one_new _ _ _) (by intro u hu; simp at hu; subst hu; rfl) (by omega) (by unfold maxLen; omega) (by omega) (by simp; omega) _ rfl ?_)
              intro g6 c6 w6 hown6 hgrow hat6 hglt
              have HB6 := hide (below_app HB.out HO.out hgrow)
              have HO6 : Hid (w6.ownsRow w5.heap.size 2 1 (.slice (some ⟨g6, 0, none⟩) (j + 1) c6) (j + 1) (vals (fun i => if i = j then z - 128 else f i) (j + 1))) := hide (by
                rw [vals_succ, if_pos rfl, show vals (fun i => if i = j then z - 128 else f i) j = vals f j from by
                  unfold vals
                  exact List.map_congr_left fun i hi => by show Value.int .i64 (if i = j then z - 128 else f i) = _; rw [if_neg (by have := List.mem_range.1 hi; omega)]]
                exact hown6)
              clear hown6 hgrow hat6 hglt HO HB
              go_wp2_with fail
              go_roundw
              case rel => exact ⟨j + 1, _, by omega, by go_num, HO6.out, HB6.out⟩
              case measure => simp [intOf]; omega
            · obtain rfl : j = qs.length := by omega
              obtain ⟨ya, yc, rfl, ry, _⟩ := row_of_owns HO.out
              obtain ⟨ys, hys⟩ : ∃ ys, ints f qs.length = ys := ⟨_, rfl⟩
              have yl : ys.length = qs.length := by rw [← hys, ints_len]
              rw [hys] at ry
              have RY := hide ry
              have RQ := hide (R5.out.below HB.out)
              have II := hide (I5.out.below HB.out)
              have ON := hide (O5.out.below HB.out)
              have BB := hide (bstep B5.out HB.out)
              have YL := hide yl
              have AD := hide (fun (xa : Option Addr) (xn xc : Nat) (xs : List Int) w1 (hx : Row w1 xa xn xs) (hy : Row w1 ya qs.length ys) (hxn : xn ≤ 1048576) => iVecAdd_any xa ya xn xc qs.length yc xs ys w1 hx hy hxn hql2)
              clear ry HO HB hys yl R5 I5 O5 B5 BY SN IN SO SV
              go_wp2_with fail
              refine (AD.out _ _ _ _ _ RQ.out RY.out hql2).mono ?_
              rintro e w7 ⟨v7, rfl, fr7, b7⟩
              obtain ⟨g7, vs7⟩ := fr7.vsl
              obtain ⟨ta, tc, rfl, rt⟩ := vs7.row
              have RT := hide rt
              have I7 := hide (II.out.below b7)
              have O7 := hide (ON.out.below b7)
              have Y7 := hide (RY.out.below b7)
              have B7 := hide (bstep BB.out b7)
              clear fr7 vs7 rt b7 RQ RY II ON BB
              obtain ⟨ts, hts⟩ : ∃ ts, addL qs ys = ts := ⟨_, rfl⟩
              have tl : ts.length ≤ 1048576 := by rw [← hts]; exact Nat.le_trans (addL_len _ _) hql2
              obtain ⟨ok0, hok0⟩ : ∃ b, addOkB qs ys = b := ⟨_, rfl⟩
              have HTS := hide hts
              have HOK := hide hok0
              rw [hts] at RT
              rw [hts, hok0]
              clear hts hok0
              go_wp2_with fail
              go_loopw [12, 13, 14] (fun o v i wr => ∃ j : Nat, j ≤ m ∧ i = .int .i64 j ∧ o = .bool (ok0 && allN j (fun i => addOkB (L i).vec ys)) ∧ Mov w7 wr L ys j v) (fun _ _ i _ => m - (intOf i).toNat)
              case atStart => exact ⟨0, Nat.zero_le _, rfl, by rw [show allN 0 (fun i => addOkB (L i).vec ys) = true from allN_yes fun i hi => absurd hi (by omega)]; simp, w7.heap.size, 0, L, fun _ => 0, fun _ => .slice none 0 0, rfl, GI.new _ _ _ _, fun i hi => absurd hi (by omega), (by repeat' first | with_reducible exact Below.refl _ _ | with_reducible assumption | with_reducible refine below_drewN ?_ _ | with_reducible refine balloc ?_ _ | with_reducible refine Below.drew ?_ | with_reducible refine Below.setCell ?_ (by first | (simp; done) | (simp; omega) | omega) _ | with_reducible refine bstep ?_ (by assumption))⟩
              case round =>
                obtain ⟨j, hj, rfl, rfl, g8, c8, M, V, sv, rfl, hgi, hmv, hbel⟩ := hrel
                have HG := hide hgi
                have HM := hide hmv
                have HB := hide hbel
                have hs := hbel.size
                obtain ⟨_, _, _, hc8, _⟩ := hgi.shape
                clear hgi hmv hbel
                by_cases hlt : j < m
                · have hlt' : (j : Int) < (m : Int) := by omega
                  have hI := I7.out.below HB.out
                  obtain ⟨c0, c1, va, vn, vc, cv, vr, _⟩ := hI.at_ j hlt
                  have lg := hI.lt
                  have hvn : vn ≤ 1048576 := by rw [← vr.len]; exact HV.out j hlt
                  have ADJ := hide (AD.out va vn vc (L j).vec wr vr (Y7.out.below HB.out) hvn)
                  have NXT := hide (bandN ok0 j (fun i => addOkB (L i).vec ys))
                  obtain ⟨ob, hob⟩ : ∃ b, (ok0 && allN j (fun i => addOkB (L i).vec ys)) = b := ⟨_, rfl⟩
                  rw [hob] at NXT ⊢
                  have HOB := hide hob
                  obtain ⟨oj, hoj⟩ : ∃ b, addOkB (L j).vec ys = b := ⟨_, rfl⟩
                  have KMO := hide (fun W (hb : Below wr.heap.size wr W) => KM.of (w0 := wr) (w := W) hb lg c0 c1)
                  have KML := hide (fun W (hb : Below w7.heap.size w7 W) => (I7.out.below hb).at_ j hlt)
                  have IL7 := hide I7.out.lt
                  unfold IAddPost at ADJ
                  have HOJ := hide hoj
                  rw [hoj] at ADJ
                  clear hob hoj hI vr c0 c1
                  go_wp2_with fail
                  refine ADJ.out.mono ?_
                  rintro e w8 ⟨v8, rfl, fr8, b8⟩
                  obtain ⟨gv, vs8⟩ := fr8.vsl
                  obtain ⟨av, cvv, ev, _⟩ := id vs8
                  subst ev
                  obtain ⟨xl, hxl⟩ : ∃ x, addL (L j).vec ys = x := ⟨_, rfl⟩
                  have HXL := hide hxl
                  rw [hxl] at vs8
                  rw [hxl]
                  have VS := hide vs8
                  have B8 := hide b8
                  have s8 := b8.size
                  have S0 : Hid (KM w7 w8.drew g (j * 3) (L j).id (L j).tags) := hide (by
                    obtain ⟨k0, k1, _⟩ := KML.out w7 (Below.refl _ _)
                    exact KM.of ((bstep HB.out b8).drew) IL7.out k0 k1)
                  have KD := hide (fun W (hb : Below w7.heap.size w7 W) => show KM w7 W g (j * 3) (L j).id (L j).tags from by
                    obtain ⟨k0, k1, _⟩ := KML.out w7 (Below.refl _ _)
                    exact KM.of hb IL7.out k0 k1)
                  clear fr8 vs8 b8 ADJ hxl KMO KML cv
                  obtain ⟨i0, hi, hz0, hz1, hz2⟩ := itemInfo
                  have hI0 := hide hi
                  clear hi
                  obtain ⟨id_, hid⟩ : ∃ x, (L j).id = x := ⟨_, rfl⟩
                  obtain ⟨tg_, htg⟩ : ∃ x, (L j).tags = x := ⟨_, rfl⟩
                  rw [hid, htg] at S0 KD
                  have HMJ : Hid (∀ i, i < j + 1 → M.put j ⟨id_, tg_, xl⟩ i = mvI ys (L i)) := hide (by
                    intro i hi
                    by_cases e : i = j
                    · subst e; rw [IL.put_at]; unfold mvI; rw [hid, htg, HXL.out]
                    · rw [IL.put_off _ _ e]; exact HM.out i (by omega))
                  have NX2 : Hid ((ok0 && allN (j + 1) (fun i => addOkB (L i).vec ys)) = (ob && oj)) := hide (by rw [NXT.out]; simp [HOJ.out])
                  have hown := hide ((HG.out.below B8.out.drew).own.alloc (.cells #[.int .i64 id_, .int .i64 tg_, .slice av xl.length cvv] 37))
                  clear hid htg HM NXT
                  cases ob
                  all_goals
                    go_upto_region 19 with fail
                    refine wp_region_held_drew (S := fun wx => KM w7 wx g (j * 3) id_ tg_) (by kernel_rfl) (S0.out) (fun hH0 => ?_)
                    refine wpAnyH_take (i := 0) (oi := { dst := some 108, op := _, type := _, pos := _, after := _, guard := _ }) (v := ?_) rfl (by kernel_rfl) (by kernel_rfl) (by kernel_rfl) (fun _ _ _ h => h) (Or.inl ⟨by rfl, ?_⟩) (hH0) ?_
                    rotate_left
                    · (intro wx hSw; obtain ⟨_, q0, q1⟩ := hSw; go_simp <;> with_reducible rfl)
                    simp only [Act.put, List.setIfInBounds_toArray, List.set_cons_zero, List.set_cons_succ]
                    refine wpAnyH_take (i := 1) (oi := { dst := some 109, op := _, type := _, pos := _, after := _, guard := _ }) (v := ?_) rfl (by kernel_rfl) (by kernel_rfl) (by kernel_rfl) (fun _ _ _ h => h) (Or.inl ⟨by rfl, ?_⟩) (hH0) ?_
                    rotate_left
                    · (intro wx hSw; obtain ⟨_, q0, q1⟩ := hSw; go_simp <;> with_reducible rfl)
                    simp only [Act.put, List.setIfInBounds_toArray, List.set_cons_zero, List.set_cons_succ]
                    refine wpAnyH_take (i := 2) (oi := { dst := some 110, op := _, type := _, pos := _, after := _, guard := _ }) (v := ?_) rfl (by kernel_rfl) (by kernel_rfl) (by kernel_rfl) (fun _ _ _ h => h) (Or.inl ⟨by rfl, ?_⟩) (hH0) ?_
                    rotate_left
                    · (intro wx hSw; obtain ⟨_, q0, q1⟩ := hSw; go_simp <;> with_reducible rfl)
                    simp only [Act.put, List.setIfInBounds_toArray, List.set_cons_zero, List.set_cons_succ]
                    refine wpAnyH_take (i := 3) (oi := { dst := some 111, op := _, type := _, pos := _, after := _, guard := _ }) (v := ?_) rfl (by kernel_rfl) (by kernel_rfl) (by kernel_rfl) (fun _ _ _ h => h) (Or.inl ⟨by rfl, ?_⟩) (hH0) ?_
                    rotate_left
                    · (intro wx hSw; obtain ⟨_, q0, q1⟩ := hSw; go_simp <;> with_reducible rfl)
                    simp only [Act.put, List.setIfInBounds_toArray, List.set_cons_zero, List.set_cons_succ]
                    refine wpAnyH_take (i := 4) (oi := { dst := some 112, op := _, type := _, pos := _, after := _, guard := _ }) (v := ?_) rfl (by kernel_rfl) (by kernel_rfl) (by kernel_rfl) (fun _ _ _ h => h) (Or.inl ⟨by rfl, ?_⟩) (hH0) ?_
                    rotate_left
                    · (intro wx hSw; obtain ⟨_, q0, q1⟩ := hSw; go_simp <;> with_reducible rfl)
                    simp only [Act.put, List.setIfInBounds_toArray, List.set_cons_zero, List.set_cons_succ]
                    refine wpAnyH_take (i := 5) (oi := { dst := some 113, op := _, type := _, pos := _, after := _, guard := _ }) (v := ?_) rfl (by kernel_rfl) (by kernel_rfl) (by kernel_rfl) (fun _ _ _ h => h) (Or.inl ⟨by rfl, ?_⟩) (hH0) ?_
                    rotate_left
                    · (intro wx hSw; obtain ⟨_, q0, q1⟩ := hSw; go_simp <;> with_reducible rfl)
                    simp only [Act.put, List.setIfInBounds_toArray, List.set_cons_zero, List.set_cons_succ]
                    refine wpAnyH_take (i := 6) (oi := { dst := some 114, op := _, type := _, pos := _, after := _, guard := _ }) (v := ?_) rfl (by kernel_rfl) (by kernel_rfl) (by kernel_rfl) (fun _ _ _ h => h) (Or.inl ⟨by rfl, ?_⟩) (hH0) ?_
                    rotate_left
                    · (intro wx hSw; obtain ⟨_, q0, q1⟩ := hSw; go_simp <;> with_reducible rfl)
                    simp only [Act.put, List.setIfInBounds_toArray, List.set_cons_zero, List.set_cons_succ]
                    refine wpAnyH_take (i := 7) (oi := { dst := some 115, op := _, type := _, pos := _, after := _, guard := _ }) (v := ?_) rfl (by kernel_rfl) (by kernel_rfl) (by kernel_rfl) (fun _ _ _ h => h) (Or.inl ⟨by rfl, ?_⟩) (hH0) ?_
                    rotate_left
                    · (intro wx hSw; obtain ⟨_, q0, q1⟩ := hSw; go_simp <;> with_reducible rfl)
                    simp only [Act.put, List.setIfInBounds_toArray, List.set_cons_zero, List.set_cons_succ]
                    refine wpAnyH_take (i := 8) (oi := { dst := some 116, op := _, type := _, pos := _, after := _, guard := _ }) (v := ?_) rfl (by kernel_rfl) (by kernel_rfl) (by kernel_rfl) (fun _ _ _ h => h) (Or.inl ⟨by rfl, ?_⟩) (hH0) ?_
                    rotate_left
                    · (intro wx hSw; obtain ⟨_, q0, q1⟩ := hSw; go_simp <;> with_reducible rfl)
                    simp only [Act.put, List.setIfInBounds_toArray, List.set_cons_zero, List.set_cons_succ]
                    refine wpAnyH_take (i := 9) (oi := { dst := some 117, op := _, type := _, pos := _, after := _, guard := _ }) (v := ?_) rfl (by kernel_rfl) (by kernel_rfl) (by kernel_rfl) (fun _ _ _ h => h) (Or.inl ⟨by rfl, ?_⟩) (hH0) ?_
                    rotate_left
                    · (intro wx hSw; obtain ⟨_, q0, q1⟩ := hSw; go_simp <;> with_reducible rfl)
                    simp only [Act.put, List.setIfInBounds_toArray, List.set_cons_zero, List.set_cons_succ]
                    refine wpAnyH_take (i := 10) (oi := { dst := some 118, op := _, type := _, pos := _, after := _, guard := _ }) (v := ?_) rfl (by kernel_rfl) (by kernel_rfl) (by kernel_rfl) (fun _ _ _ h => h) (Or.inl ⟨by rfl, ?_⟩) (hH0) ?_
                    rotate_left
                    · (intro wx hSw; obtain ⟨_, q0, q1⟩ := hSw; go_simp <;> with_reducible rfl)
                    simp only [Act.put, List.setIfInBounds_toArray, List.set_cons_zero, List.set_cons_succ]
                    refine wpAnyH_take (i := 11) (oi := { dst := some 119, op := _, type := _, pos := _, after := _, guard := _ }) (v := ?_) rfl (by kernel_rfl) (by kernel_rfl) (by kernel_rfl) (fun _ _ _ h => h) (Or.inl ⟨by rfl, ?_⟩) (hH0) ?_
                    rotate_left
                    · (intro wx hSw; obtain ⟨_, q0, q1⟩ := hSw; go_simp <;> with_reducible rfl)
                    simp only [Act.put, List.setIfInBounds_toArray, List.set_cons_zero, List.set_cons_succ]
                    refine wpAnyH_take (i := 12) (oi := { dst := some 120, op := _, type := _, pos := _, after := _, guard := _ }) (v := ?_) rfl (by kernel_rfl) (by kernel_rfl) (by kernel_rfl) (fun _ _ _ h => h) (Or.inl ⟨by rfl, ?_⟩) (hH0) ?_
                    rotate_left
                    · (intro wx hSw; obtain ⟨_, q0, q1⟩ := hSw; go_simp <;> with_reducible rfl)
                    simp only [Act.put, List.setIfInBounds_toArray, List.set_cons_zero, List.set_cons_succ]
                    refine wpAnyH_ready (rs := [13]) (by kernel_rfl) (by simp) ?_
                    refine AllReadyH.cons (o := { dst := some 121, op := _, type := _, pos := _, after := _, guard := _ }) rfl (fun K hK => ?_) AllReadyH.nil
                    go_simp
                    refine hK.out _ _ (KM.below hH0 (balloc (Below.refl _ _) _)) (fun hH1 => ?_)
                    clear hK K
                    -- behind it: go_wp2_with fail, then go_meet (a cut) or go_ret; the condition at the end: hH1
                    refine wpAnyH_ready (rs := [14]) (by kernel_rfl) (by simp) ?_
                    refine AllReadyH.cons (o := { dst := some 122, op := _, type := _, pos := _, after := _, guard := _ }) rfl (fun K hK => ?_) AllReadyH.nil
                    refine step_append_lies _ rfl _ _ 24 rfl w7.heap.size 37 i0 _ 3 40 Try.underlying24 hI0.out hz0 hz1 hz2 rfl (by decide) _ _ _ rfl hown.out ⟨_, 0, none⟩ 1 1 [.int .i64 id_, .int .i64 tg_, .slice av xl.length cvv] rfl rfl (three_new _ _ _ _ _) (three_one _ _ _ _ _) (by omega) (by unfold maxLen; omega) (by omega) (by simp; omega) _ rfl ?_
                    intro g9 c9 w9 hown9 hgrow hat9 hglt
                    have HG9 := hide (HG.out.step hs B8.out.drew ⟨id_, tg_, xl⟩ _ gv (VS.out.below (Below.drew (Below.refl _ _))) (balloc (Below.refl _ _) _) hown9 hgrow (by rcases hat9 with h | h; exact .inl h; exact .inr (by simp [h])))
                    have HB9 : Hid (Below w7.heap.size w7 w9) := hide ((balloc (bstep HB.out B8.out).drew _).grown hgrow (by simp; omega) fun k' hk' => (hown.out.lt k' hk').1)
                    refine hK.out _ _ (KD.out _ HB9.out) (fun hH3 => ?_)
                    clear hK K hown9 hgrow hat9 hown HB HG B8 VS
                    simp only [Act.put, List.setIfInBounds_toArray, List.set_cons_zero, List.set_cons_succ]
                    refine wpAnyH_take (i := 15) (oi := { dst := some 13, op := _, type := _, pos := _, after := _, guard := _ }) (v := ?_) rfl (by kernel_rfl) (by kernel_rfl) (by kernel_rfl) (fun _ _ _ h => h) (Or.inl ⟨by rfl, ?_⟩) (hH3) ?_
                    rotate_left
                    · (intro wx hSw; obtain ⟨_, q0, q1⟩ := hSw; go_simp <;> with_reducible rfl)
                    simp only [Act.put, List.setIfInBounds_toArray, List.set_cons_zero, List.set_cons_succ]
                    refine wpAnyH_done (by kernel_rfl) ?_ _
                    clear hH0 hH1 hH3
                    go_wp2_with fail
                    go_roundw
                    case rel => exact ⟨j + 1, by omega, by go_num, by rw [NX2.out]; rfl, g9, c9, _, _, _, rfl, HG9.out, HMJ.out, HB9.out⟩
                    case measure => simp [intOf]; omega
                · obtain rfl : j = m := by omega
                  have BF := hide (bstep B7.out HB.out)
                  obtain ⟨ob, hob⟩ : ∃ b, (ok0 && allN j (fun i => addOkB (L i).vec ys)) = b := ⟨_, rfl⟩
                  rw [hob]
                  cases ob
                  · clear hob
                    go_wp2_with fail
                    go_ret
                    exact ⟨rfl, BF.out⟩
                  · simp only [Bool.and_eq_true] at hob
                    have hall : ∀ i, i < j → addOkB (L i).vec ys = true := fun i hi => allN_at (p := fun i => addOkB (L i).vec ys) hob.2 hi
                    have hq : addOkB qs ys = true := by rw [HOK.out]; exact hob.1
                    have e1 := MVM.out M ys HM.out hq hall
                    have e2 := MVA.out M ys HM.out hq hall
                    rw [HTS.out] at e1 e2
                    have C := hide (IN2.out M g8 c8 ta tc ts wr HG.out.its.irow (fun i hi => by rw [HM.out i hi]; exact Nat.le_trans (addL_len _ _) (HV.out i hi)) (RT.out.below HB.out) tl)
                    rw [e1, e2] at C
                    have OF := hide (O7.out.below HB.out)
                    clear hob hall hq e1 e2 IN2 MVM MVA HM HG
                    go_wp2_with fail
                    refine C.out.mono ?_
                    rintro e w9 ⟨a9, c9, rfl, o9, b9⟩
                    have OG := hide (OF.out.below b9)
                    have PG := hide o9.prow
                    have BH := hide (bstep BF.out b9)
                    clear o9 b9
                    go_wp2_with fail
                    refine (EQ.out _ _ _ _ _ PG.out OG.out).mono ?_
                    rintro e wb ⟨rfl, bb⟩
                    have Bb := hide (bstep BH.out bb)
                    clear bb
                    go_wp2_with fail
                    go_ret
                    exact ⟨rfl, Bb.out⟩
        · have hqb : ((qs.length : Int) != dim) = true := by simp [hqd]
          clear hqd
          go_wp2_with fail
          refine (SN.out _ I5.out R5.out).mono ?_
          rintro e wa ⟨aa, ca, rfl, oa, ba⟩
          have Oa := hide (O5.out.below ba)
          have Pa := hide oa.prow
          have Ba := hide (bstep B5.out ba)
          clear oa ba
          go_wp2_with fail
          refine (EQ.out _ _ _ _ _ Oa.out Pa.out).mono ?_
          rintro e wb ⟨rfl, bb⟩
          have Bb := hide (bstep Ba.out bb)
          clear bb
          go_wp2_with fail
          go_ret
          exact ⟨rfl, Bb.out⟩
  · rw [decide_eq_true (show 1048576 < n by omega)] at BG
    go_enter Try.func3, Try.ntmps3
    go_wp2_with fail
    refine BG.out.mono ?_
    rintro e w' ⟨rfl, rfl⟩
    go_wp2
    go_ret
    exact ⟨rfl, (by repeat' first | with_reducible exact Below.refl _ _ | with_reducible assumption | with_reducible refine below_drewN ?_ _ | with_reducible refine balloc ?_ _ | with_reducible refine Below.drew ?_ | with_reducible refine Below.setCell ?_ (by first | (simp; done) | (simp; omega) | omega) _ | with_reducible refine bstep ?_ (by assumption))⟩
end Go.Proofs.Ythhgflclljaakaa
