/- The reader of drawn bytes: hurtVec; drawn pairs of vectors. -/
import Derived.Test.YtggjcccdeaadbaaGreatDoorZ12
import Derived.Deep.AppendLies
namespace Go.Proofs.YtggjcccdeaadbaaGreatDoor
open Go.RowKit
set_option maxRecDepth 8000
set_option linter.unusedSimpArgs false

def HurtPost (B : Nat) (w0 : World) (rb : Nat) (a : Option Addr) (n c : Nat) (e : Ending) (w' : World) : Prop :=
  ∃ (v : Value) (d : Nat) (f : Nat → Int), e = .returned v ∧ d ≤ 200 ∧ w'.ownsRow w0.heap.size 2 1 v d (vals f d) ∧ Rd B w' rb a n c ∧ But rb w0 w'

theorem made_owns (w : World) (base n : Nat) (hb : base ≤ w.heap.size) (hn : n ≤ 1000) : (w.alloc (.cells (madeCells #[.int .i64 0] n) 2)).ownsRow base 2 1 (.slice (some ⟨w.heap.size, 0, none⟩) n n) n (vals (fun _ => 0) n) := by
  obtain ⟨c, hc, hs, hv⟩ := World.rowIs_made w (.int .i64 0) n 2
  refine ⟨by simp [vals_len], .inr ⟨w.heap.size, n, c, rfl, hb, hc, Nat.le_refl _, by unfold maxLen; omega, by omega, ?_⟩⟩
  rw [Nat.mul_one, List.take_of_length_le (by simp; omega)]
  refine List.ext_getElem? fun i => ?_
  by_cases hi : i < n
  · rw [Array.getElem?_toList, hv i hi]; simp [vals, hi]
  · rw [Array.getElem?_toList, Array.getElem?_eq_none (by omega), List.getElem?_eq_none (by rw [vals_len]; omega)]

theorem vals_set0 (f : Nat → Int) (d : Nat) (x : Int) (_ : 1 ≤ d) : (vals f d).set 0 (.int .i64 x) = vals (fun j => if j = 0 then x else f j) d := by
  refine List.ext_getElem? fun i => ?_
  by_cases hi : i < d
  · by_cases h0 : i = 0
    · subst h0; simp [vals, hi]
    · rw [List.getElem?_set_ne (by omega)]; simp [vals, hi, h0]
  · rw [List.getElem?_eq_none (by simp [vals_len]; omega), List.getElem?_eq_none (by simp [vals_len]; omega)]

set_option maxHeartbeats 2000000 in
set_option maxRecDepth 4000 in
theorem hurtVec_any (B rb n c : Nat) (a : Option Addr) (d cap g : Nat) (f : Nat → Int) (w0 w : World) (h : Rd B w rb a n c) (hB : B ≤ w0.heap.size) (hrb : rb < w0.heap.size) (hb : But rb w0 w) (d1 : 1 ≤ d) (d2 : d ≤ 100) (ho : w.ownsRow w0.heap.size 2 1 (.slice (some ⟨g, 0, none⟩) d cap) d (vals f d)) :
    Calls Tryz.prog 58 #[.pointer (some ⟨rb, 0, none⟩), .slice (some ⟨g, 0, none⟩) d cap] w fun e w' => HurtPost B w0 rb a n c e w' := by
  obtain ⟨i0, hi, hz0, hz1, hz2⟩ := info_parts Tryz.infoI64
  have N := hide (below_any B rb n c a 24 w h (by omega) (by omega))
  have HO := hide ho
  have HB := hide hb
  have glt := ho.lt g rfl
  clear h ho hb
  go_enter Tryz.func58, Tryz.ntmps58
  go_wp2_with fail
  refine N.out.mono ?_
  rintro e w1 ⟨v, rfl, v0, v1, hr, hb1⟩
  have HR1 := hide hr
  have HO1 := hide (owns_but HO.out hb1 hrb)
  have HB1 := hide (HB.out.trans hb1)
  have s1 := HB1.out.size
  clear hr hb1 N HO HB
  by_cases e0 : v = 0
  · have b0 : (v == 0) = true := by simp [e0]
    go_wp2_with (at_builtin; refine wpList_append_own _ rfl _ _ 24 rfl w0.heap.size 2 i0 (.int .i64 0) 1 8 Tryz.underlying24 hi hz0 hz1 hz2 rfl (by decide) _ _ _ rfl (HO1.out.alloc _) ⟨_, 0, none⟩ 1 1 [.int .i64 0] rfl rfl ?c1 ?c2 ?c3 ?c4 ?c5 ?_)
    case c1 => exact one_new _ _ _
    case c2 => intro u hu; simp at hu; subst hu; rfl
    case c3 => unfold maxLen; omega
    case c4 => omega
    case c5 => simp; omega
    intro v' w2 hown2 hgrow _
    rw [vals_snoc] at hown2
    have hB2 := but_app HB1.out HO1.out hgrow
    have hR2 := HR1.out.app hrb hB HO1.out hgrow
    have HO2 := hide hown2
    have HB2 := hide hB2
    have HR2 := hide hR2
    clear hgrow hown2 hB2 hR2 HO1
    go_wp2_with fail
    go_ret
    exact ⟨_, d + 1, _, rfl, by omega, HO2.out, HR2.out, HB2.out⟩
  · have b0 : (v == 0) = false := by simp [e0]
    by_cases e1 : v = 1
    · have b1 : (v == 1) = true := by simp [e1]
      go_wp2_with fail
      go_ret
      exact ⟨_, 0, fun _ => 0, rfl, by omega, World.ownsRow_nil _ _ _ _, HR1.out, HB1.out⟩
    · have b1 : (v == 1) = false := by simp [e1]
      by_cases e2 : v = 2
      · have b2 : (v == 2) = true := by simp [e2]
        have hd0 : (0 : Int) < d := by omega
        have O := hide (off_any B rb n c a (-1048576) 1048576 w1 HR1.out (by omega) (by omega) (by omega) (by omega))
        go_wp2_with fail
        refine O.out.mono ?_
        rintro e w2 ⟨x, rfl, hr2, hb2⟩
        have own2 := owns_but HO1.out hb2 hrb
        have k0 : w2.cell? ⟨g, 0, none⟩ = some (.int .i64 (f 0)) := by
          rw [own2.cellAt 0 (by omega)]; simp [vals, show 0 < d by omega]
        have k1 := own2.frozenAt 0
        have ST := own2.stored 0 (.int .i64 x)
        rw [vals_set0 f d x d1] at ST
        have HO2 := hide ST.1
        have HR2 := hide (hr2.but ((But.refl g w2).setCell 0 (.int .i64 x)) (by omega) (by omega))
        have HB2 := hide (but_far (HB1.out.trans hb2) (g := g) (by omega) 0 (.int .i64 x))
        clear own2 ST hr2 hb2
        go_wp2_with fail
        go_ret
        exact ⟨_, d, _, rfl, by omega, HO2.out, HR2.out, HB2.out⟩
      · have b2 : (v == 2) = false := by simp [e2]
        by_cases e3 : v = 3
        · have b3 : (v == 3) = true := by simp [e3]
          have N2 := hide (below_any B rb n c a 2 w1 HR1.out (by omega) (by omega))
          go_wp2_with fail
          refine N2.out.mono ?_
          rintro e w2 ⟨x, rfl, x0, x1, hr2, hb2⟩
          obtain ⟨m, hm⟩ : ∃ m : Nat, 8 + x = (m : Int) := ⟨(8 + x).toNat, by omega⟩
          have hmk := run_make_row' (P := Tryz.prog) 24 2 (.int .i64 0) 8 Tryz.underlying24 Tryz.infoI64 rfl .i64 .i64 m (by omega) (by omega)
          have HB2 := hide (HB1.out.trans hb2)
          have HR2 := hide hr2
          have s2 := HB2.out.size
          clear hr2 hb2
          go_wp2_with fail
          go_ret
          exact ⟨_, m, fun _ => 0, rfl, by omega, made_owns w2 _ m s2 (by omega), HR2.out.alloc _, HB2.out.alloc _⟩
        · have b3 : (v == 3) = false := by simp [e3]
          go_wp2_with fail
          go_ret
          exact ⟨_, d, f, rfl, by omega, HO1.out, HR1.out, HB1.out⟩

def PairPost (w : World) (e : Ending) (w' : World) : Prop :=
  ∃ (a1 : Option Addr) (n1 c1 : Nat) (xs : List Int) (a2 : Option Addr) (n2 c2 : Nat) (ys : List Int), e = .returned (.tuple #[.slice a1 n1 c1, .slice a2 n2 c2]) ∧ Row w' a1 n1 xs ∧ Row w' a2 n2 ys ∧ n1 ≤ 200 ∧ n2 ≤ 200 ∧ Below w.heap.size w w'



end Go.Proofs.YtggjcccdeaadbaaGreatDoor
/- The reader of drawn bytes: hurtVec, and which blocks it turns. -/
namespace Go.Proofs.YtggjcccdeaadbaaGreatDoor
open Go.RowKit
set_option maxRecDepth 8000
set_option linter.unusedSimpArgs false
set_option linter.unusedVariables false

/-- Of what was there nothing has turned but the blocks rb and g. -/
def KpG (rb g : Nat) (w w' : World) : Prop := w.heap.size ≤ w'.heap.size ∧ ∀ k, k < w.heap.size → k ≠ rb → k ≠ g → w'.heap[k]? = w.heap[k]?

theorem KpG.ofBut {rb : Nat} (g : Nat) {w w' : World} (h : But rb w w') : KpG rb g w w' := ⟨h.size, fun k hk h1 _ => h.block k hk h1⟩

theorem KpG.trans {rb g : Nat} {x y z : World} (h : KpG rb g x y) (k : KpG rb g y z) : KpG rb g x z :=
  ⟨Nat.le_trans h.1 k.1, fun j hj h1 h2 => (k.2 j (Nat.lt_of_lt_of_le hj h.1) h1 h2).trans (h.2 j hj h1 h2)⟩

theorem KpG.but {rb g : Nat} {x y z : World} (h : KpG rb g x y) (k : But rb y z) : KpG rb g x z := h.trans (KpG.ofBut g k)

theorem KpG.alloc {rb g : Nat} {x y : World} (h : KpG rb g x y) (o : Obj) : KpG rb g x (y.alloc o) := h.but ((But.refl rb y).alloc o)

theorem KpG.set {rb g : Nat} {x y : World} (h : KpG rb g x y) (o : Nat) (v : Value) : KpG rb g x (y.setCell ⟨g, o, none⟩ v) :=
  h.trans ⟨by simp [World.setCell], fun k _ _ hne => Below.heap_setCell y _ v k hne⟩

theorem KpG.far {rb g : Nat} {x y : World} (h : KpG rb g x y) (b o : Nat) (v : Value) (hb : x.heap.size ≤ b) : KpG rb g x (y.setCell ⟨b, o, none⟩ v) :=
  ⟨by simpa [World.setCell] using h.1, fun k hk h1 h2 => (Below.heap_setCell y ⟨b, o, none⟩ v k (by simp; omega)).trans (h.2 k hk h1 h2)⟩

theorem KpG.grown {rb g : Nat} {x y z : World} (h : KpG rb g x y) (k : y.grownBy z (some g)) : KpG rb g x z :=
  h.trans ⟨k.size, fun j hj _ hne => k.block j hj (by simpa using hne)⟩

def HurtPost2 (B : Nat) (w0 w : World) (rb g : Nat) (a : Option Addr) (n c : Nat) (e : Ending) (w' : World) : Prop :=
  ∃ (v : Value) (d : Nat) (f : Nat → Int), e = .returned v ∧ d ≤ 200 ∧ w'.ownsRow w0.heap.size 2 1 v d (vals f d) ∧ Rd B w' rb a n c ∧ But rb w0 w' ∧ KpG rb g w w'

set_option maxHeartbeats 2000000 in
set_option maxRecDepth 4000 in
theorem hurtVec2_any (B rb n c : Nat) (a : Option Addr) (d cap g : Nat) (f : Nat → Int) (w0 w : World) (h : Rd B w rb a n c) (hB : B ≤ w0.heap.size) (hrb : rb < w0.heap.size) (hb : But rb w0 w) (d1 : 1 ≤ d) (d2 : d ≤ 100) (ho : w.ownsRow w0.heap.size 2 1 (.slice (some ⟨g, 0, none⟩) d cap) d (vals f d)) :
    Calls Tryz.prog 58 #[.pointer (some ⟨rb, 0, none⟩), .slice (some ⟨g, 0, none⟩) d cap] w fun e w' => HurtPost2 B w0 w rb g a n c e w' := by
  obtain ⟨i0, hi, hz0, hz1, hz2⟩ := info_parts Tryz.infoI64
  have N := hide (below_any B rb n c a 24 w h (by omega) (by omega))
  have HO := hide ho
  have HB := hide hb
  have glt := ho.lt g rfl
  clear h ho hb
  go_enter Tryz.func58, Tryz.ntmps58
  go_wp2_with fail
  refine N.out.mono ?_
  rintro e w1 ⟨v, rfl, v0, v1, hr, hb1⟩
  have HR1 := hide hr
  have HO1 := hide (owns_but HO.out hb1 hrb)
  have HB1 := hide (HB.out.trans hb1)
  have HK1 := hide (KpG.ofBut g hb1)
  have s1 := HB1.out.size
  clear hr hb1 N HO HB
  by_cases e0 : v = 0
  · have b0 : (v == 0) = true := by simp [e0]
    go_wp2_with (at_builtin; refine wpList_append_own _ rfl _ _ 24 rfl w0.heap.size 2 i0 (.int .i64 0) 1 8 Tryz.underlying24 hi hz0 hz1 hz2 rfl (by decide) _ _ _ rfl (HO1.out.alloc _) ⟨_, 0, none⟩ 1 1 [.int .i64 0] rfl rfl ?c1 ?c2 ?c3 ?c4 ?c5 ?_)
    case c1 => exact one_new _ _ _
    case c2 => intro u hu; simp at hu; subst hu; rfl
    case c3 => unfold maxLen; omega
    case c4 => omega
    case c5 => simp; omega
    intro v' w2 hown2 hgrow _
    rw [vals_snoc] at hown2
    have hB2 := but_app HB1.out HO1.out hgrow
    have hR2 := HR1.out.app hrb hB HO1.out hgrow
    have HK2 := hide ((HK1.out.alloc _).grown hgrow)
    have HO2 := hide hown2
    have HB2 := hide hB2
    have HR2 := hide hR2
    clear hgrow hown2 hB2 hR2 HO1
    go_wp2_with fail
    go_ret
    exact ⟨_, d + 1, _, rfl, by omega, HO2.out, HR2.out, HB2.out, HK2.out⟩
  · have b0 : (v == 0) = false := by simp [e0]
    by_cases e1 : v = 1
    · have b1 : (v == 1) = true := by simp [e1]
      go_wp2_with fail
      go_ret
      exact ⟨_, 0, fun _ => 0, rfl, by omega, World.ownsRow_nil _ _ _ _, HR1.out, HB1.out, HK1.out⟩
    · have b1 : (v == 1) = false := by simp [e1]
      by_cases e2 : v = 2
      · have b2 : (v == 2) = true := by simp [e2]
        have hd0 : (0 : Int) < d := by omega
        have O := hide (off_any B rb n c a (-1048576) 1048576 w1 HR1.out (by omega) (by omega) (by omega) (by omega))
        go_wp2_with fail
        refine O.out.mono ?_
        rintro e w2 ⟨x, rfl, hr2, hb2⟩
        have own2 := owns_but HO1.out hb2 hrb
        have k0 : w2.cell? ⟨g, 0, none⟩ = some (.int .i64 (f 0)) := by
          rw [own2.cellAt 0 (by omega)]; simp [vals, show 0 < d by omega]
        have k1 := own2.frozenAt 0
        have ST := own2.stored 0 (.int .i64 x)
        rw [vals_set0 f d x d1] at ST
        have HO2 := hide ST.1
        have HR2 := hide (hr2.but ((But.refl g w2).setCell 0 (.int .i64 x)) (by omega) (by omega))
        have HB2 := hide (but_far (HB1.out.trans hb2) (g := g) (by omega) 0 (.int .i64 x))
        have HK2 := hide ((HK1.out.but hb2).set 0 (.int .i64 x))
        clear own2 ST hr2 hb2
        go_wp2_with fail
        go_ret
        exact ⟨_, d, _, rfl, by omega, HO2.out, HR2.out, HB2.out, HK2.out⟩
      · have b2 : (v == 2) = false := by simp [e2]
        by_cases e3 : v = 3
        · have b3 : (v == 3) = true := by simp [e3]
          have N2 := hide (below_any B rb n c a 2 w1 HR1.out (by omega) (by omega))
          go_wp2_with fail
          refine N2.out.mono ?_
          rintro e w2 ⟨x, rfl, x0, x1, hr2, hb2⟩
          obtain ⟨m, hm⟩ : ∃ m : Nat, 8 + x = (m : Int) := ⟨(8 + x).toNat, by omega⟩
          have hmk := run_make_row' (P := Tryz.prog) 24 2 (.int .i64 0) 8 Tryz.underlying24 Tryz.infoI64 rfl .i64 .i64 m (by omega) (by omega)
          have HB2 := hide (HB1.out.trans hb2)
          have HR2 := hide hr2
          have HK2 := hide (HK1.out.but hb2)
          have s2 := HB2.out.size
          clear hr2 hb2
          go_wp2_with fail
          go_ret
          exact ⟨_, m, fun _ => 0, rfl, by omega, made_owns w2 _ m s2 (by omega), HR2.out.alloc _, HB2.out.alloc _, HK2.out.alloc _⟩
        · have b3 : (v == 3) = false := by simp [e3]
          go_wp2_with fail
          go_ret
          exact ⟨_, d, f, rfl, by omega, HO1.out, HR1.out, HB1.out, HK1.out⟩
end Go.Proofs.YtggjcccdeaadbaaGreatDoor
