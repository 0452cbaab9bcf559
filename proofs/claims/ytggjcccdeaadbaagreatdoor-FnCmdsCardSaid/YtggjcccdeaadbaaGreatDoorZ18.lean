/- The reader of drawn bytes: tags, hurtVec of whatever length, an append of numbers. -/
import Derived.Test.YtggjcccdeaadbaaGreatDoorZ12
import Derived.Test.YtggjcccdeaadbaaGreatDoorZ15
import Derived.Test.YtggjcccdeaadbaaGreatDoorZ9
import Derived.Deep.AppendSrc
namespace Go.Proofs.YtggjcccdeaadbaaGreatDoor
open Go.RowKit
set_option maxRecDepth 8000
set_option linter.unusedSimpArgs false
set_option linter.unusedVariables false

set_option maxHeartbeats 1000000 in
set_option maxRecDepth 8000 in
theorem tagsC_any (B rb n c : Nat) (a : Option Addr) (w : World) (h : Rd B w rb a n c) :
    Calls Tryz.prog 46 #[.pointer (some ⟨rb, 0, none⟩)] w fun e w' => RdPost B w rb a n c .i64 0 255 e w' := by
  have N := hide (fun w (h : Rd B w rb a n c) => below_any B rb n c a 7 w h (by omega) (by omega))
  have HR := hide h
  have hlt := h.lt
  clear h
  go_enter Tryz.func46, Tryz.ntmps46
  go_wp2_with fail
  refine (N.out _ (HR.out.alloc _)).mono ?_
  rintro e w2 ⟨u, rfl, u0, u1, hr2, hb2⟩
  have k : ∀ (o : Nat) (x : Int), (w.alloc (.cells #[.int .i64 0, .int .i64 1, .int .i64 2, .int .i64 3, .int .i64 3, .int .i64 7, .int .i64 255] 3)).cell? ⟨w.heap.size, o, none⟩ = some (.int .i64 x) → w2.cell? ⟨w.heap.size, o, none⟩ = some (.int .i64 x) := fun o x hx => (hb2.cell (p := ⟨w.heap.size, o, none⟩) (by simp) (by simp; omega)).trans hx
  have k0 := k 0 0 (by simp [go_sem])
  have k1 := k 1 1 (by simp [go_sem])
  have k2 := k 2 2 (by simp [go_sem])
  have k3 := k 3 3 (by simp [go_sem])
  have k4 := k 4 3 (by simp [go_sem])
  have k5 := k 5 7 (by simp [go_sem])
  have k6 := k 6 255 (by simp [go_sem])
  have HB2 := hide ((But.refl rb w).alloc (.cells #[.int .i64 0, .int .i64 1, .int .i64 2, .int .i64 3, .int .i64 3, .int .i64 7, .int .i64 255] 3) |>.trans hb2)
  clear hb2 k
  rcases (show u = 0 ∨ u = 1 ∨ u = 2 ∨ u = 3 ∨ u = 4 ∨ u = 5 ∨ u = 6 by omega) with rfl | rfl | rfl | rfl | rfl | rfl | rfl
  all_goals
    go_wp2
    go_ret
    exact ⟨_, rfl, by omega, by omega, hr2, HB2.out⟩

set_option maxHeartbeats 2000000 in
set_option maxRecDepth 4000 in
theorem hurtVec3_any (B rb n c : Nat) (a : Option Addr) (d cap g : Nat) (f : Nat → Int) (w0 w : World) (h : Rd B w rb a n c) (hB : B ≤ w0.heap.size) (hrb : rb < w0.heap.size) (hb : But rb w0 w) (d2 : d ≤ 100) (ho : w.ownsRow w0.heap.size 2 1 (.slice (some ⟨g, 0, none⟩) d cap) d (vals f d)) :
    Calls Tryz.prog 58 #[.pointer (some ⟨rb, 0, none⟩), .slice (some ⟨g, 0, none⟩) d cap] w fun e w' => HurtPost2 B w0 w rb g a n c e w' := by
  obtain ⟨i0, hi, hz0, hz1, hz2⟩ := info_parts Tryz.infoI64
  have N := hide (below_any B rb n c a 24 w h (by omega) (by omega))
  have HO := hide ho
  have HB := hide hb
  have glt := ho.lt g rfl
  clear h ho hb
  go_enter Tryz.func58, Tryz.ntmps58
  go_wp2_with fail
  refine N.out.mono ?_
  rintro e w1 ⟨v, rfl, v0, v1, hr, hb1⟩
  have HR1 := hide hr
  have HO1 := hide (owns_but HO.out hb1 hrb)
  have HB1 := hide (HB.out.trans hb1)
  have HK1 := hide (KpG.ofBut g hb1)
  have s1 := HB1.out.size
  clear hr hb1 N HO HB
  by_cases e0 : v = 0
  · have b0 : (v == 0) = true := by simp [e0]
    go_wp2_with (at_builtin; refine wpList_append_own _ rfl _ _ 24 rfl w0.heap.size 2 i0 (.int .i64 0) 1 8 Tryz.underlying24 hi hz0 hz1 hz2 rfl (by decide) _ _ _ rfl (HO1.out.alloc _) ⟨_, 0, none⟩ 1 1 [.int .i64 0] rfl rfl ?c1 ?c2 ?c3 ?c4 ?c5 ?_)
    case c1 => exact one_new _ _ _
    case c2 => intro u hu; simp at hu; subst hu; rfl
    case c3 => unfold maxLen; omega
    case c4 => omega
    case c5 => simp; omega
    intro v' w2 hown2 hgrow _
    rw [vals_snoc] at hown2
    have hB2 := but_app HB1.out HO1.out hgrow
    have hR2 := HR1.out.app hrb hB HO1.out hgrow
    have HK2 := hide ((HK1.out.alloc _).grown hgrow)
    have HO2 := hide hown2
    have HB2 := hide hB2
    have HR2 := hide hR2
    clear hgrow hown2 hB2 hR2 HO1
    go_wp2_with fail
    go_ret
    exact ⟨_, d + 1, _, rfl, by omega, HO2.out, HR2.out, HB2.out, HK2.out⟩
  · have b0 : (v == 0) = false := by simp [e0]
    by_cases e1 : v = 1
    · have b1 : (v == 1) = true := by simp [e1]
      go_wp2_with fail
      go_ret
      exact ⟨_, 0, fun _ => 0, rfl, by omega, World.ownsRow_nil _ _ _ _, HR1.out, HB1.out, HK1.out⟩
    · have b1 : (v == 1) = false := by simp [e1]
      by_cases e2 : v = 2
      · have b2 : (v == 2) = true := by simp [e2]
        by_cases d1 : 1 ≤ d
        · have hd0 : (0 : Int) < d := by omega
          have O := hide (off_any B rb n c a (-1048576) 1048576 w1 HR1.out (by omega) (by omega) (by omega) (by omega))
          go_wp2_with fail
          refine O.out.mono ?_
          rintro e w2 ⟨x, rfl, hr2, hb2⟩
          have own2 := owns_but HO1.out hb2 hrb
          have k0 : w2.cell? ⟨g, 0, none⟩ = some (.int .i64 (f 0)) := by
            rw [own2.cellAt 0 (by omega)]; simp [vals, show 0 < d by omega]
          have k1 := own2.frozenAt 0
          have ST := own2.stored 0 (.int .i64 x)
          rw [vals_set0 f d x d1] at ST
          have HO2 := hide ST.1
          have HR2 := hide (hr2.but ((But.refl g w2).setCell 0 (.int .i64 x)) (by omega) (by omega))
          have HB2 := hide (but_far (HB1.out.trans hb2) (g := g) (by omega) 0 (.int .i64 x))
          have HK2 := hide ((HK1.out.but hb2).set 0 (.int .i64 x))
          clear own2 ST hr2 hb2
          go_wp2_with fail
          go_ret
          exact ⟨_, d, _, rfl, by omega, HO2.out, HR2.out, HB2.out, HK2.out⟩
        · obtain rfl : d = 0 := by omega
          go_wp2_with fail
          go_ret
          exact ⟨_, 0, f, rfl, by omega, HO1.out, HR1.out, HB1.out, HK1.out⟩
      · have b2 : (v == 2) = false := by simp [e2]
        by_cases e3 : v = 3
        · have b3 : (v == 3) = true := by simp [e3]
          have N2 := hide (below_any B rb n c a 2 w1 HR1.out (by omega) (by omega))
          go_wp2_with fail
          refine N2.out.mono ?_
          rintro e w2 ⟨x, rfl, x0, x1, hr2, hb2⟩
          obtain ⟨m, hm⟩ : ∃ m : Nat, 8 + x = (m : Int) := ⟨(8 + x).toNat, by omega⟩
          have hmk := run_make_row' (P := Tryz.prog) 24 2 (.int .i64 0) 8 Tryz.underlying24 Tryz.infoI64 rfl .i64 .i64 m (by omega) (by omega)
          have HB2 := hide (HB1.out.trans hb2)
          have HR2 := hide hr2
          have HK2 := hide (HK1.out.but hb2)
          have s2 := HB2.out.size
          clear hr2 hb2
          go_wp2_with fail
          go_ret
          exact ⟨_, m, fun _ => 0, rfl, by omega, made_owns w2 _ m s2 (by omega), HR2.out.alloc _, HB2.out.alloc _, HK2.out.alloc _⟩
        · have b3 : (v == 3) = false := by simp [e3]
          go_wp2_with fail
          go_ret
          exact ⟨_, d, f, rfl, by omega, HO1.out, HR1.out, HB1.out, HK1.out⟩

/-- Numbers are appended to a slice of the call's own that has nothing, and no room. -/
theorem run_app_own {P : Program} (w : World) (t ty e : TypeId) (i : TypeInfo) (ht : P.underlying t = some (.slice e)) (hi : P.info? e = some i) (hz : i.zero = some (.int .i64 0)) (hs : i.size = 1) (hb : i.bytes = 8)
    (B g0 : Nat) (hg : w.ownsRow B 2 1 (.slice (some ⟨g0, 0, none⟩) 0 0) 0 []) (hB : B ≤ w.heap.size) (a : Option Addr) (n c : Nat) (f : Nat → Int) (B' : Nat) (h : w.ownsRow B' 2 1 (.slice a n c) n (vals f n)) (hn : n ≤ 1048576) (he : e = 2 := by rfl) :
    ∃ g c' w', (Builtin.append_ #[t, t] ty #[.slice (some ⟨g0, 0, none⟩) 0 0, .slice a n c]).run P w = .ok (.slice (some ⟨g, 0, none⟩) n c') w' ∧ w'.ownsRow B 2 1 (.slice (some ⟨g, 0, none⟩) n c') n (vals f n) ∧ Below w.heap.size w w' := by
  by_cases h0 : n = 0
  · subst h0
    refine ⟨g0, 0, w, ?_, by simpa [vals] using hg, Below.refl _ _⟩
    exact run_app_empty w t ty e i ht hi ⟨g0, 0, none⟩ 0 0 a c (Nat.le_refl _)
  · obtain ⟨g, c', e1, hcap, hcm⟩ := h.form (by omega)
    obtain ⟨rfl, rfl⟩ : a = some ⟨g, 0, none⟩ ∧ c = c' := by simpa using e1
    have hcell : ∀ j, j < n → w.cell? ⟨g, j, none⟩ = some (.int .i64 (f j)) := fun j hj => by
      rw [h.cellAt j (by omega)]; simp [vals, hj]
    have src : Src P i.size t (.slice (some ⟨g, 0, none⟩) n c) n ((List.range n).map fun x => Value.int .i64 (f x)) w := by
      refine Src.ofSlice w ht ⟨g, 0, none⟩ n c _ (by simp [hs]) (fun j u hu => ?_) (fun u hu => ?_)
      · rw [List.getElem?_map] at hu
        obtain ⟨x, hx, rfl⟩ := Option.map_eq_some_iff.1 hu
        have hj : j < n := by have := (List.getElem?_eq_some_iff.1 hx).1; simpa using this
        have hxj : x = j := by have := (List.getElem?_eq_some_iff.1 hx).2; simpa using this.symm
        subst hxj
        have := hcell x hj
        by_cases hj0 : x = 0
        · subst hj0; simpa [Addr.add] using this
        · simpa [Addr.add, hj0] using this
      · obtain ⟨x, _, rfl⟩ := List.mem_map.1 hu
        rfl
    have hold : (Builtin.firstCells i.size 0 (.slice (some ⟨g0, 0, none⟩) 0 0)).run P w.drew = .ok ([] : List Value).toArray w.drew := by
      have hlc : ∀ (x : Addr), (loadCells x 0).run P w.drew = .ok #[] w.drew := fun x => by simpa using run_loadCells_list (P := P) w.drew x [] (by simp)
      simp [Builtin.firstCells, hlc]
    have r := run_append_grow_src w t t ty e i _ ht hi hz (some ⟨g0, 0, none⟩) 0 0 [] hold _ n _ src (by omega) (by omega) (by rw [hb]; unfold Builtin.nextslicecap; simp [show 0 < n by omega]; omega)
    rw [Nat.zero_add, List.nil_append] at r
    subst he
    refine ⟨w.heap.size, _, _, r, ⟨by simp [vals], .inr ⟨w.heap.size, _, _, rfl, hB, Go.Deep.blk_alloc_new w.drew _, ?_⟩⟩, (Below.refl _ w).drew.alloc (by simp) _⟩
    have hge := grownCap_ge w n 0 2
    have hle := grownCap_le_maxLen w n 0 2 (by unfold maxLen; omega)
    refine ⟨by simpa using hge, by simpa using hle, by simp [size_zeroCells, Value.cells]; omega, ?_⟩
    simp [vals]
end Go.Proofs.YtggjcccdeaadbaaGreatDoor
