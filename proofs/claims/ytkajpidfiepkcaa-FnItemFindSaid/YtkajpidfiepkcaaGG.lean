/- The walk of the law FnItemFind. -/
import Derived.Test.YtkajpidfiepkcaaGE
import Derived.Test.YtkajpidfiepkcaaGF
import Derived.Test.YtkajpidfiepkcaaIM
import Derived.Test.YtkajpidfiepkcaaDP
import Derived.OpenShut
namespace Go.Proofs.Ytkajpidfiepkcaa
open Go.RowKit
set_option linter.unusedSimpArgs false
set_option linter.unusedVariables false

/-- A box with an item, and an item that lies in a row: the same. -/
structure TI (w : World) (b g o : Nat) (x : It) (a a' : Option Addr) (n n' c c' : Nat) : Prop where
  t : Tri w b (.int .i64 x.id) (.int .i64 x.tags) (.slice a n c)
  r : Row w a n x.vec
  l : g < w.heap.size
  d0 : w.cell? ⟨g, o, none⟩ = some (.int .i64 x.id)
  d1 : w.cell? ⟨g, o + 1, none⟩ = some (.int .i64 x.tags)
  d2 : w.cell? ⟨g, o + 2, none⟩ = some (.slice a' n' c')
  r' : Row w a' n' x.vec
theorem TI.below {w w' : World} {b g o : Nat} {x : It} {a a' : Option Addr} {n n' c c' : Nat} (h : TI w b g o x a a' n n' c c') (hb : Below w.heap.size w w') : TI w' b g o x a a' n n' c c' :=
  ⟨h.t.below hb, h.r.below hb, Nat.lt_of_lt_of_le h.l hb.size, (hb.cell (p := ⟨g, o, none⟩) h.l).trans h.d0, (hb.cell (p := ⟨g, o + 1, none⟩) h.l).trans h.d1, (hb.cell (p := ⟨g, o + 2, none⟩) h.l).trans h.d2, h.r'.below hb⟩
theorem TI.drew {w : World} {b g o : Nat} {x : It} {a a' : Option Addr} {n n' c c' : Nat} (h : TI w b g o x a a' n n' c c') : TI w.drew b g o x a a' n n' c c' := h.below (Below.drew (Below.refl _ _))
theorem len_big {n : Nat} (h : n ≤ 200) : n ≤ 1048576 := by omega

set_option maxHeartbeats 4000000 in
set_option maxRecDepth 4000 in
theorem itemFind_walk (a : Option Addr) (n cap : Nat) (zs : List Int) (w : World) (h : IsRow .u8 w a n cap zs) :
    Calls Try.prog 3 #[.slice a n cap] w fun e w' => e = .returned (.bool true) ∧ Below w.heap.size w w' := by
  have BG := hide (big_any a n cap w)
  by_cases hn : n ≤ 1048576
  · rw [decide_eq_false (show ¬ 1048576 < n by omega)] at BG
    have DR := hide (drawItemFind_any a n cap w (h.code hn))
    clear h
    go_enter Try.func3, Try.ntmps3
    go_wp2_with fail
    refine BG.out.mono ?_
    rintro e w' ⟨rfl, hw⟩
    obtain rfl := hw.symm
    clear BG hw
    go_wp2_with fail
    refine DR.out.mono ?_
    rintro e w1 ⟨g, m, cp, L, id, rfl, hni⟩
    have hm := hni.few
    have hv : ∀ i, i < m → (L i).vec.length ≤ 1048576 := fun i hi => len_big (hni.len i hi)
    have SF := hide (fun w1 (h : IRow w1 (some ⟨g, 0, none⟩) m L) => sItemFind_any (some ⟨g, 0, none⟩) m cp L id w1 h (by omega) hv)
    have IF := hide (fun w1 (h : IRow w1 (some ⟨g, 0, none⟩) m L) => iItemFind_any (some ⟨g, 0, none⟩) m cp L id w1 h (by omega) hv)
    have hxl : (findX m L id).1.vec.length ≤ 1048576 := findX_len hv
    obtain ⟨x, hx⟩ : ∃ x, (findX m L id).1 = x := ⟨_, rfl⟩
    obtain ⟨ok, hok⟩ : ∃ ok, (findX m L id).2 = ok := ⟨_, rfl⟩
    simp only [hx, hok] at SF IF hxl
    have EQ := hide (fun a a' n n' c c' w1 (h : Row w1 a n x.vec) (h' : Row w1 a' n' x.vec) => sameItem_self x a a' n n' c c' w1 h h' (by rw [← h.len]; exact hxl))
    have hne : (ok != ok) = false := by simp
    have HX := hide hx
    have HK := hide hok
    have HV := hide hv
    have HN := hide hni
    have B1 := hide hni.low
    have I1 := hide hni.hi
    clear hx hok hv hni DR
    go_wp2_with fail
    refine (IF.out _ I1.out.irow).mono ?_
    rintro e w2 ⟨v2, g2, rfl, h2, b2⟩
    obtain ⟨a2, c2, rfl, r2⟩ := h2.row
    have T2 := hide (Tri.new w2 (.int .i64 x.id) (.int .i64 x.tags) (.slice a2 x.vec.length c2) 29)
    have bA : Below w2.heap.size w2 (w2.alloc (.cells #[.int .i64 x.id, .int .i64 x.tags, .slice a2 x.vec.length c2] 29)) := balloc (Below.refl _ _) _
    have I2 := hide ((I1.out.below b2).below bA)
    have R2 := hide (r2.below bA)
    have B2 : Hid (Below w.heap.size w (w2.alloc (.cells #[.int .i64 x.id, .int .i64 x.tags, .slice a2 x.vec.length c2] 29))) := hide (bstep (bstep B1.out b2) bA)
    clear bA b2 h2 r2 I1 B1
    go_wp2_with fail
    refine (SF.out _ I2.out.irow).mono ?_
    rintro e w3 ⟨v3, g3, rfl, h3, b3⟩
    obtain ⟨a3, c3, rfl, r3⟩ := h3.row
    have bA : Below w3.heap.size w3 (w3.alloc (.cells #[.int .i64 x.id, .int .i64 x.tags, .slice a3 x.vec.length c3] 29)) := balloc (Below.refl _ _) _
    have T3 := hide ((T2.out.below b3).below bA)
    have I3 := hide ((I2.out.below b3).below bA)
    have R3 := hide ((R2.out.below b3).below bA)
    have Q3 := hide (r3.below bA)
    have B3 : Hid (Below w.heap.size w (w3.alloc (.cells #[.int .i64 x.id, .int .i64 x.tags, .slice a3 x.vec.length c3] 29))) := hide (bstep (bstep B2.out b3) bA)
    have s3 := b3.size
    simp only [World.size_alloc] at s3
    obtain ⟨_, q1, q2, q3, _, _, _⟩ := T2.out.below b3
    clear bA b3 h3 r3 I2 B2 T2 R2
    go_wp2_with fail
    refine (EQ.out _ _ _ _ _ _ _ R3.out Q3.out).mono ?_
    rintro e w4 ⟨rfl, b4⟩
    have T4 := hide (T3.out.below b4)
    have I4 := hide (I3.out.below b4)
    have R4 := hide (R3.out.below b4)
    have B4 := hide (bstep B3.out b4)
    clear b4 T3 I3 R3 B3 Q3 q1 q2 q3 SF IF
    go_wp2_with fail
    go_loopw [9] (fun i wr => ∃ k : Nat, k ≤ m ∧ i = .int .i64 k ∧ (∀ j, j < k → (L j).id ≠ id) ∧ Below w4.heap.size w4 wr) (fun i _ => m - (intOf i).toNat)
    case atStart => exact ⟨0, Nat.zero_le _, rfl, fun j hj => absurd hj (by omega), Below.refl _ _⟩
    case round =>
      obtain ⟨k, hk, rfl, hp, hbel⟩ := hrel
      have HP := hide hp
      have HB := hide (bstep B4.out hbel)
      by_cases hlt : k < m
      · obtain ⟨c0, c1, a', n', c', c2', vr, _⟩ := (I4.out.below hbel).at_ k hlt
        have hlt' : (k : Int) < (m : Int) := by omega
        have il := (I4.out.below hbel).lt
        by_cases hid : (L k).id = id
        · have hf := findX_hit hlt hid hp
          have e1 : L k = x := by rw [← HX.out, hf]
          have e2 : ok = true := by rw [← HK.out, hf]
          subst e1 e2
          have hidb : ((L k).id == id) = true := by simp [hid]
          have T := hide (TI.mk (T4.out.below hbel) (R4.out.below hbel) il c0 c1 c2' vr)
          have R := hide (fun w1 (t : TI w1 w2.heap.size g (k * 3) (L k) a2 a' (L k).vec.length n' c2 c') => EQ.out a2 a' (L k).vec.length n' c2 c' w1 t.r t.r')
          clear hbel vr c1 c2' hp T4 I4 R4 EQ hf hid
          go_upto_region 12 with fail
          refine wp_region_held_drew (S := fun wx => TI wx w2.heap.size g (k * 3) (L k) a2 a' (L k).vec.length n' c2 c') (by kernel_rfl) (T.out.drew) (fun hH0 => ?_)
          refine wpAnyH_take (i := 0) (oi := { dst := some 51, op := _, type := _, pos := _, after := _, guard := _ }) (v := ?_) rfl (by kernel_rfl) (by kernel_rfl) (by kernel_rfl) (fun _ _ _ h => h) (Or.inl ⟨by rfl, ?_⟩) (hH0) ?_
          rotate_left
          · (intro wx hSw; obtain ⟨⟨_, q1, q2, q3, _, _, _⟩, r0, l0, q4, q5, q6, r1⟩ := hSw; go_simp <;> with_reducible rfl)
          simp only [Act.put, List.setIfInBounds_toArray, List.set_cons_zero, List.set_cons_succ]
          refine wpAnyH_take (i := 1) (oi := { dst := some 52, op := _, type := _, pos := _, after := _, guard := _ }) (v := ?_) rfl (by kernel_rfl) (by kernel_rfl) (by kernel_rfl) (fun _ _ _ h => h) (Or.inl ⟨by rfl, ?_⟩) (hH0) ?_
          rotate_left
          · (intro wx hSw; obtain ⟨⟨_, q1, q2, q3, _, _, _⟩, r0, l0, q4, q5, q6, r1⟩ := hSw; go_simp <;> with_reducible rfl)
          simp only [Act.put, List.setIfInBounds_toArray, List.set_cons_zero, List.set_cons_succ]
          refine wpAnyH_take (i := 2) (oi := { dst := some 53, op := _, type := _, pos := _, after := _, guard := _ }) (v := ?_) rfl (by kernel_rfl) (by kernel_rfl) (by kernel_rfl) (fun _ _ _ h => h) (Or.inl ⟨by rfl, ?_⟩) (hH0) ?_
          rotate_left
          · (intro wx hSw; obtain ⟨⟨_, q1, q2, q3, _, _, _⟩, r0, l0, q4, q5, q6, r1⟩ := hSw; go_simp <;> with_reducible rfl)
          simp only [Act.put, List.setIfInBounds_toArray, List.set_cons_zero, List.set_cons_succ]
          refine wpAnyH_take (i := 3) (oi := { dst := some 54, op := _, type := _, pos := _, after := _, guard := _ }) (v := ?_) rfl (by kernel_rfl) (by kernel_rfl) (by kernel_rfl) (fun _ _ _ h => h) (Or.inl ⟨by rfl, ?_⟩) (hH0) ?_
          rotate_left
          · (intro wx hSw; obtain ⟨⟨_, q1, q2, q3, _, _, _⟩, r0, l0, q4, q5, q6, r1⟩ := hSw; go_simp <;> with_reducible rfl)
          simp only [Act.put, List.setIfInBounds_toArray, List.set_cons_zero, List.set_cons_succ]
          refine wpAnyH_take (i := 4) (oi := { dst := some 55, op := _, type := _, pos := _, after := _, guard := _ }) (v := ?_) rfl (by kernel_rfl) (by kernel_rfl) (by kernel_rfl) (fun _ _ _ h => h) (Or.inl ⟨by rfl, ?_⟩) (hH0) ?_
          rotate_left
          · (intro wx hSw; obtain ⟨⟨_, q1, q2, q3, _, _, _⟩, r0, l0, q4, q5, q6, r1⟩ := hSw; go_simp <;> with_reducible rfl)
          simp only [Act.put, List.setIfInBounds_toArray, List.set_cons_zero, List.set_cons_succ]
          refine wpAnyH_take (i := 5) (oi := { dst := some 56, op := _, type := _, pos := _, after := _, guard := _ }) (v := ?_) rfl (by kernel_rfl) (by kernel_rfl) (by kernel_rfl) (fun _ _ _ h => h) (Or.inl ⟨by rfl, ?_⟩) (hH0) ?_
          rotate_left
          · (intro wx hSw; obtain ⟨⟨_, q1, q2, q3, _, _, _⟩, r0, l0, q4, q5, q6, r1⟩ := hSw; go_simp <;> with_reducible rfl)
          simp only [Act.put, List.setIfInBounds_toArray, List.set_cons_zero, List.set_cons_succ]
          refine wpAnyH_take (i := 6) (oi := { dst := some 57, op := _, type := _, pos := _, after := _, guard := _ }) (v := ?_) rfl (by kernel_rfl) (by kernel_rfl) (by kernel_rfl) (fun _ _ _ h => h) (Or.inl ⟨by rfl, ?_⟩) (hH0) ?_
          rotate_left
          · (intro wx hSw; obtain ⟨⟨_, q1, q2, q3, _, _, _⟩, r0, l0, q4, q5, q6, r1⟩ := hSw; go_simp <;> with_reducible rfl)
          simp only [Act.put, List.setIfInBounds_toArray, List.set_cons_zero, List.set_cons_succ]
          refine wpAnyH_ready (rs := [7]) (by kernel_rfl) (by simp) ?_
          refine AllReadyH.cons (o := { dst := some 58, op := _, type := _, pos := _, after := _, guard := _ }) rfl (fun K hK => ?_) AllReadyH.nil
          go_simp
          refine (R.out _ hH0).mono ?_
          rintro e w_c58_1 ⟨rfl, hb_c58_1⟩
          dsimp only
          refine hK.out _ _ (TI.below hH0 hb_c58_1) (fun hH1 => ?_)
          clear hK K
          refine wpAnyH_take (i := 8) (oi := { dst := some 59, op := _, type := _, pos := _, after := _, guard := _ }) (v := ?_) rfl (by kernel_rfl) (by kernel_rfl) (by kernel_rfl) (fun _ _ _ h => h) (Or.inl ⟨by rfl, ?_⟩) (hH1) ?_
          rotate_left
          · (intro wx hSw; obtain ⟨⟨_, q1, q2, q3, _, _, _⟩, r0, l0, q4, q5, q6, r1⟩ := hSw; go_simp <;> with_reducible rfl)
          simp only [Act.put, List.setIfInBounds_toArray, List.set_cons_zero, List.set_cons_succ]
          refine wpAnyH_take (i := 9) (oi := { dst := some 2, op := _, type := _, pos := _, after := _, guard := _ }) (v := ?_) rfl (by kernel_rfl) (by kernel_rfl) (by kernel_rfl) (fun _ _ _ h => h) (Or.inl ⟨by rfl, ?_⟩) (hH1) ?_
          rotate_left
          · (intro wx hSw; obtain ⟨⟨_, q1, q2, q3, _, _, _⟩, r0, l0, q4, q5, q6, r1⟩ := hSw; go_simp <;> with_reducible rfl)
          simp only [Act.put, List.setIfInBounds_toArray, List.set_cons_zero, List.set_cons_succ]
          refine wpAnyH_done (by kernel_rfl) ?_ _
          -- behind it: go_wp2_with fail, then go_meet (a cut) or go_ret; the condition at the end: hH1
          go_wp2_with fail
          go_ret
          have hbel := HB.out
          exact ⟨rfl, (by repeat' first | with_reducible exact Below.refl _ _ | with_reducible assumption | with_reducible refine below_drewN ?_ _ | with_reducible refine balloc ?_ _ | with_reducible refine Below.drew ?_ | with_reducible refine Below.setCell ?_ (by first | (simp; done) | (simp; omega) | omega) _ | with_reducible refine bstep ?_ (by assumption))⟩
        · have hidb : ((L k).id == id) = false := by simp [hid]
          have HBEL := hide hbel
          have HID := hide hid
          clear hbel vr c1 c2' hp hid
          go_wp2_with fail
          go_roundw
          case rel =>
            refine ⟨k + 1, by omega, by go_num, fun j hj => ?_, HBEL.out⟩
            by_cases e : j = k
            · subst e; exact HID.out
            · exact HP.out j (by omega)
          case measure => simp [intOf]; omega
      · obtain rfl : k = m := by omega
        have hf := findX_miss hp
        have e2 : ok = false := by rw [← HK.out, hf]
        subst e2
        clear hp hf hbel
        go_wp2_with fail
        go_ret
        have hbel := HB.out
        exact ⟨rfl, (by repeat' first | with_reducible exact Below.refl _ _ | with_reducible assumption | with_reducible refine below_drewN ?_ _ | with_reducible refine balloc ?_ _ | with_reducible refine Below.drew ?_ | with_reducible refine Below.setCell ?_ (by first | (simp; done) | (simp; omega) | omega) _ | with_reducible refine bstep ?_ (by assumption))⟩
  · rw [decide_eq_true (show 1048576 < n by omega)] at BG
    go_enter Try.func3, Try.ntmps3
    go_wp2_with fail
    refine BG.out.mono ?_
    rintro e w' ⟨rfl, rfl⟩
    go_wp2
    go_ret
    exact ⟨rfl, (by repeat' first | with_reducible exact Below.refl _ _ | with_reducible assumption | with_reducible refine below_drewN ?_ _ | with_reducible refine balloc ?_ _ | with_reducible refine Below.drew ?_ | with_reducible refine Below.setCell ?_ (by first | (simp; done) | (simp; omega) | omega) _ | with_reducible refine bstep ?_ (by assumption))⟩
end Go.Proofs.Ytkajpidfiepkcaa
