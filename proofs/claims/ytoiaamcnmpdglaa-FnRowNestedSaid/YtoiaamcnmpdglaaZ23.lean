/- The row of a vector: of the model, and of the program. -/
import Derived.Test.YtoiaamcnmpdglaaZ16
import Derived.Test.YtoiaamcnmpdglaaZ14
import Derived.Test.YtoiaamcnmpdglaaZ20
import Derived.Deep.RegionHeldLaw
namespace Go.Proofs.Ytoiaamcnmpdglaa
open Go.RowKit
set_option maxRecDepth 8000
set_option linter.unusedSimpArgs false
set_option linter.unusedVariables false

theorem infoI64_parts : ∃ i : TypeInfo, Try.prog.info? 2 = some i ∧ i.zero = some (.int .i64 0) ∧ i.size = 1 ∧ i.bytes = 8 := by
  obtain ⟨i, hi, hzz⟩ := Option.map_eq_some_iff.1 Try.infoI64
  simp only [Prod.mk.injEq] at hzz
  exact ⟨i, hi, hzz.1, hzz.2.1, hzz.2.2⟩

/-- A list that the model has made: where it lies, and what it holds. -/
def Made (w : World) (n : Nat) (c : Nat → Int) (e : Ending) (w' : World) : Prop :=
  ∃ a cap, e = .returned (.slice a n cap) ∧ Row w' a n (ints c n) ∧ (∀ b off, a = some ⟨b, off, none⟩ → w.heap.size ≤ b) ∧ Below w.heap.size w w'

set_option maxHeartbeats 4000000 in
set_option maxRecDepth 4000 in
theorem l5Codes_some (b off n cap b' off' cap' : Nat) (t : Int) (f g : Nat → Int) (xs : List Int) (w : World) (h8 : n ≤ 8) (hb : b < w.heap.size) (hb' : b' < w.heap.size)
    (hc : ∀ i, i < n → w.cell? ⟨b, off + i * 2, none⟩ = some (.int .i64 (f i)) ∧ w.cell? ⟨b, off + i * 2 + 1, none⟩ = some (.int .i64 (g i)))
    (hc' : ∀ i, i < n → w.cell? ⟨b', off' + i, none⟩ = some (.int .i64 (nth xs i))) :
    Calls Try.prog 62 #[.slice (some ⟨b, off, none⟩) n cap, .slice (some ⟨b', off', none⟩) n cap', .int .i64 t] w fun e w' => Made w n (vcode f g xs t) e w' := by
  obtain ⟨i0, hi, hz0, hz1, hz2⟩ := infoI64_parts
  obtain ⟨c, ec⟩ : ∃ c, vcode f g xs t = c := ⟨_, rfl⟩
  have CD := hide (fun (k : Nat) => sCodeOf_any (f k) (g k) t (nth xs k))
  simp only [show ∀ k, codeB (f k) (g k) t (nth xs k) = vcode f g xs t k from fun _ => rfl] at CD
  rw [ec] at CD ⊢
  clear ec
  go_enter Try.func62, Try.ntmps62
  go_wp2_with fail
  go_loopw [7, 8] (fun v i wr => ∃ k : Nat, k ≤ n ∧ i = .int .i64 k ∧ wr.ownsRow w.heap.size 2 1 v k (vals c k) ∧ Below w.heap.size w wr) (fun _ i _ => n - (intOf i).toNat)
  case atStart => exact ⟨0, Nat.zero_le _, rfl, World.ownsRow_made w #[] 0 (Nat.le_refl _) (Nat.zero_le _) rfl, (by repeat' first | with_reducible exact Below.refl _ _ | with_reducible assumption | with_reducible refine below_drewN ?_ _ | with_reducible refine balloc ?_ _ | with_reducible refine Below.drew ?_ | with_reducible refine Below.setCell ?_ (by first | (simp; done) | (simp; omega) | omega) _ | with_reducible refine bstep ?_ (by assumption))⟩
  case round =>
    obtain ⟨k, hk, rfl, hown, hbel⟩ := hrel
    have HC := hide hc
    have HC' := hide hc'
    have HB := hide hbel
    by_cases hlt : k < n
    · have z1 : wr.cell? ⟨b, off + k * 2, none⟩ = some (.int .i64 (f k)) := (hbel.cell (p := ⟨b, off + k * 2, none⟩) hb).trans (hc k hlt).1
      have z2 : wr.cell? ⟨b, off + k * 2 + 1, none⟩ = some (.int .i64 (g k)) := (hbel.cell (p := ⟨b, off + k * 2 + 1, none⟩) hb).trans (hc k hlt).2
      have z3 : wr.cell? ⟨b', off' + k, none⟩ = some (.int .i64 (nth xs k)) := (hbel.cell (p := ⟨b', off' + k, none⟩) hb').trans (hc' k hlt)
      have hlt' : (k : Int) < (n : Int) := by omega
      have l1 : b < wr.heap.size := Nat.lt_of_lt_of_le hb hbel.size
      have l2 : b' < wr.heap.size := Nat.lt_of_lt_of_le hb' hbel.size
      have sz := hbel.size
      have R := hide (CD.out k)
      have HO := hide hown
      clear hbel hc hc' hown
      go_upto_region 5 with fail
      go_region_held_law (fun w' => w'.cell? ⟨b, off + k * 2, none⟩ = some (.int .i64 (f k)) ∧ w'.cell? ⟨b, off + k * 2 + 1, none⟩ = some (.int .i64 (g k)) ∧ w'.cell? ⟨b', off' + k, none⟩ = some (.int .i64 (nth xs k))) (refine ⟨?_, ?_, ?_⟩ <;> first | assumption | (simp [go_sem]; done) | (rw [World.cell?_alloc_past _ _ _ (by omega)]; assumption))
        (first
          | (go_at_call 86; refine (R.out _).mono ?_; rintro e wn ⟨rfl, hbn⟩; have s1 := (hbn.cell (p := ⟨b, off + k * 2, none⟩) l1).trans z1; have s2 := (hbn.cell (p := ⟨b, off + k * 2 + 1, none⟩) l1).trans z2; have s3 := (hbn.cell (p := ⟨b', off' + k, none⟩) l2).trans z3; have szn : wr.heap.size ≤ wn.heap.size := hbn.size; have HOn := hide (owns_below (owns_drewP HO.out) hbn); have HBn := hide (bstep (HB.out.drew) hbn))
          | (refine step_append_lies _ rfl _ _ 25 rfl w.heap.size 2 i0 _ 1 8 Try.underlying25 hi hz0 hz1 hz2 rfl (by decide) _ _ _ rfl (HOn.out.alloc _) ⟨_, 0, none⟩ 1 1 [.int .i64 (c k)] rfl rfl (one_new _ _ _) (by intro u hu; simp at hu; subst hu; rfl) (by omega) (by unfold maxLen; omega) (by omega) (by simp; omega) _ rfl ?_; intro gg cc wq hown1 hgrow hat hglt; have HBq := hide (below_appP (balloc HBn.out _) (by simp; omega) (HOn.out.alloc _) hgrow); have t1 := (HBq.out.cell (p := ⟨b, off + k * 2, none⟩) hb).trans (HC.out k hlt).1; have t2 := (HBq.out.cell (p := ⟨b, off + k * 2 + 1, none⟩) hb).trans (HC.out k hlt).2; have t3 := (HBq.out.cell (p := ⟨b', off' + k, none⟩) hb').trans (HC'.out k hlt)))
      all_goals
        have HO1 := hide hown1
        clear hown1 hgrow hat
        go_wp2_with fail
        go_roundw
        case rel => exact ⟨k + 1, by omega, by go_num, by rw [vals_succ]; exact HO1.out, HBq.out⟩
        case measure => simp [intOf]; omega
    · obtain rfl : k = n := by omega
      obtain ⟨a2, c2, hv2, hr2, hf2⟩ := row_of_owns hown
      subst hv2
      clear hbel hc hc' hown
      go_wp2_with fail
      go_ret
      exact ⟨a2, c2, rfl, hr2, hf2, HB.out⟩

/-- The model's row: three lists that are read. -/
def MadeRow (w : World) (n : Nat) (c1 c2 c3 : Nat → Int) (v : Value) (w' : World) : Prop :=
  ∃ a1 a2 a3 k1 k2 k3, v = .agg #[.slice a1 n k1, .slice a2 n k2, .slice a3 n k3] ∧ Row w' a1 n (ints c1 n) ∧ Row w' a2 n (ints c2 n) ∧ Row w' a3 n (ints c3 n) ∧ Below w.heap.size w w'

/-- The same, and it lies in new memory. -/
def FreshRow (w : World) (n : Nat) (c1 c2 c3 : Nat → Int) (v : Value) (w' : World) : Prop :=
  ∃ a1 a2 a3 k1 k2 k3, v = .agg #[.slice a1 n k1, .slice a2 n k2, .slice a3 n k3] ∧ Row w' a1 n (ints c1 n) ∧ Row w' a2 n (ints c2 n) ∧ Row w' a3 n (ints c3 n) ∧ (∀ b off, a1 = some ⟨b, off, none⟩ → w.heap.size ≤ b) ∧ (∀ b off, a2 = some ⟨b, off, none⟩ → w.heap.size ≤ b) ∧ (∀ b off, a3 = some ⟨b, off, none⟩ → w.heap.size ≤ b) ∧ Below w.heap.size w w'

theorem row_tri {w : World} {a : Option Addr} {n q : Nat} {xs : List Int} (h : Row w a n xs) (hne : ∀ b off, a = some ⟨b, off, none⟩ → b ≠ q) (u v x : Value) :
    Row (((w.setCell ⟨q, 0, none⟩ u).setCell ⟨q, 1, none⟩ v).setCell ⟨q, 2, none⟩ x) a n xs :=
  ((((But.refl q w).setCell 0 u).setCell 1 v).setCell 2 x).row h hne

set_option maxHeartbeats 4000000 in
theorem l5Row_some (b off n cap b' off' cap' : Nat) (f g : Nat → Int) (xs : List Int) (w : World) (h8 : n ≤ 8) (hb : b < w.heap.size) (hb' : b' < w.heap.size)
    (hc : ∀ i, i < n → w.cell? ⟨b, off + i * 2, none⟩ = some (.int .i64 (f i)) ∧ w.cell? ⟨b, off + i * 2 + 1, none⟩ = some (.int .i64 (g i)))
    (hc' : ∀ i, i < n → w.cell? ⟨b', off' + i, none⟩ = some (.int .i64 (nth xs i))) :
    Calls Try.prog 33 #[.slice (some ⟨b, off, none⟩) n cap, .slice (some ⟨b', off', none⟩) n cap'] w fun e w' => ∃ v, e = .returned v ∧ FreshRow w n (vcode f g xs 1) (vcode f g xs 2) (vcode f g xs 3) v w' := by
  have CD := hide (fun (t : Int) (w1 : World) (hB : Below w.heap.size w w1) => l5Codes_some b off n cap b' off' cap' t f g xs w1 h8 (Nat.lt_of_lt_of_le hb hB.size) (Nat.lt_of_lt_of_le hb' hB.size)
    (fun i hi => ⟨(hB.cell (p := ⟨b, off + i * 2, none⟩) hb).trans (hc i hi).1, (hB.cell (p := ⟨b, off + i * 2 + 1, none⟩) hb).trans (hc i hi).2⟩) (fun i hi => (hB.cell (p := ⟨b', off' + i, none⟩) hb').trans (hc' i hi)))
  clear hc hc'
  go_enter Try.func33, Try.ntmps33
  go_wp2_with fail
  refine (CD.out 1 _ (by repeat' first | with_reducible exact Below.refl _ _ | with_reducible assumption | with_reducible refine below_drewN ?_ _ | with_reducible refine balloc ?_ _ | with_reducible refine Below.drew ?_ | with_reducible refine Below.setCell ?_ (by first | (simp; done) | (simp; omega) | omega) _ | with_reducible refine bstep ?_ (by assumption))).mono ?_
  rintro e w1 ⟨a1, k1, rfl, r1, n1, hb1⟩
  have T1 : TriW w1 w.heap.size (.slice none 0 0) (.slice none 0 0) (.slice none 0 0) := (TriW.new w _ _ _ _ _ rfl).below hb1
  have B1 : Below w.heap.size w w1 := (by repeat' first | with_reducible exact Below.refl _ _ | with_reducible assumption | with_reducible refine below_drewN ?_ _ | with_reducible refine balloc ?_ _ | with_reducible refine Below.drew ?_ | with_reducible refine Below.setCell ?_ (by first | (simp; done) | (simp; omega) | omega) _ | with_reducible refine bstep ?_ (by assumption))
  go_wp2_with fail
  refine (CD.out 2 _ B1).mono ?_
  rintro e w2 ⟨a2, k2, rfl, r2, n2, hb2⟩
  have T2 := T1.below hb2
  have r1' := r1.below hb2
  have B2 := bstep B1 hb2
  go_wp2_with fail
  refine (CD.out 3 _ B2).mono ?_
  rintro e w3 ⟨a3, k3, rfl, r3, n3, hb3⟩
  have T3 := T2.below hb3
  have r1'' := r1'.below hb3
  have r2'' := r2.below hb3
  have B3 := bstep B2 hb3
  have lw : w.heap.size < w1.heap.size := T1.lt
  have lw2 : w.heap.size < w2.heap.size := T2.lt
  obtain ⟨ls, s0, s1, s2, f0, f1, f2⟩ := T3
  have hR := hide r3
  have hR1 := hide r1''
  have hR2 := hide r2''
  clear r1 r2 r3 r1' r1'' r2'' T1 T2 hb1 hb2 hb3
  go_wp2_with fail
  refine bodyPost_ret (v := .agg #[.slice a1 n k1, .slice a2 n k2, .slice a3 n k3]) ?_ rfl ⟨_, rfl, a1, a2, a3, k1, k2, k3, rfl, ?_, ?_, ?_, (fun b off e => by have := n1 b off e; simp at this; omega), (fun b off e => by have := n2 b off e; omega), (fun b off e => by have := n3 b off e; omega), ?_⟩
  · simp [results, Try.results33, go_sem, *]
  · exact row_tri hR1.out (fun b off e => by have := n1 b off e; simp at this; omega) _ _ _
  · exact row_tri hR2.out (fun b off e => by have := n2 b off e; omega) _ _ _
  · exact row_tri hR.out (fun b off e => by have := n3 b off e; omega) _ _ _
  · exact ((B3.setCell (by simp) _).setCell (by simp) _).setCell (by simp) _

/-- The answer of the model's RowOf. -/
def SRow (w : World) (F : Bool) (n : Nat) (c1 c2 c3 : Nat → Int) (e : Ending) (w' : World) : Prop :=
  ∃ v, e = .returned (.tuple #[v, .bool F]) ∧ MadeRow w (if F then n else 0) c1 c2 c3 v w'

set_option maxHeartbeats 4000000 in
theorem sRowOf_any (a a' : Option Addr) (n cap n' cap' : Nat) (f g : Nat → Int) (xs : List Int) (w : World) (h : PRow w a n f g) (h' : Row w a' n' xs) (hn : n ≤ 1048576) (hn' : n' ≤ 1048576) :
    Calls Try.prog 9 #[.slice a n cap, .slice a' n' cap'] w fun e w' => SRow w (formB n f g n' xs) n (vcode f g xs 1) (vcode f g xs 2) (vcode f g xs 3) e w' := by
  have FO := hide (fun w1 (hb : Below w.heap.size w w1) => l4Form_any a a' n cap n' cap' f g xs w1 (h.below hb) (h'.below hb) hn hn')
  cases hF : formB n f g n' xs
  · rw [hF] at FO
    clear h h'
    go_enter Try.func9, Try.ntmps9
    go_wp2_with fail
    refine (FO.out _ (by repeat' first | with_reducible exact Below.refl _ _ | with_reducible assumption | with_reducible refine below_drewN ?_ _ | with_reducible refine balloc ?_ _ | with_reducible refine Below.drew ?_ | with_reducible refine Below.setCell ?_ (by first | (simp; done) | (simp; omega) | omega) _ | with_reducible refine bstep ?_ (by assumption))).mono ?_
    rintro e w1 ⟨rfl, hb1⟩
    have T1 : TriW w1 w.heap.size (.slice none 0 0) (.slice none 0 0) (.slice none 0 0) := (TriW.new w _ _ _ _ _ rfl).below hb1
    obtain ⟨ls, s0, s1, s2, f0, f1, f2⟩ := T1
    have B1 : Below w.heap.size w w1 := (by repeat' first | with_reducible exact Below.refl _ _ | with_reducible assumption | with_reducible refine below_drewN ?_ _ | with_reducible refine balloc ?_ _ | with_reducible refine Below.drew ?_ | with_reducible refine Below.setCell ?_ (by first | (simp; done) | (simp; omega) | omega) _ | with_reducible refine bstep ?_ (by assumption))
    clear hb1
    go_wp2_with fail
    refine bodyPost_ret (v := .tuple #[.agg #[.slice none 0 0, .slice none 0 0, .slice none 0 0], .bool false]) ?_ rfl ⟨_, rfl, none, none, none, 0, 0, 0, rfl, ⟨rfl, .inl rfl⟩, ⟨rfl, .inl rfl⟩, ⟨rfl, .inl rfl⟩, ?_⟩
    · simp [results, Try.results9, go_sem, *]
    · exact ((B1.setCell (by simp) _).setCell (by simp) _).setCell (by simp) _
  · rw [hF] at FO
    simp only [formB, Bool.and_eq_true, decide_eq_true_eq] at hF
    obtain ⟨⟨h1, h2⟩, rfl⟩ := hF
    have hn8 := boxB_num' h1
    rcases h.lies with q | ⟨b, off, rfl, lt, hc⟩
    · omega
    · rcases h'.lies with q | ⟨b', off', rfl, lt', hc'⟩
      · omega
      · have LR := hide (fun (w1 : World) (hB : Below w.heap.size w w1) => l5Row_some b off n cap b' off' cap' f g xs w1 hn8.2 (Nat.lt_of_lt_of_le lt hB.size) (Nat.lt_of_lt_of_le lt' hB.size)
          (fun i hi => ⟨(hB.cell (p := ⟨b, off + i * 2, none⟩) lt).trans (hc i hi).1, (hB.cell (p := ⟨b, off + i * 2 + 1, none⟩) lt).trans (hc i hi).2⟩) (fun i hi => (hB.cell (p := ⟨b', off' + i, none⟩) lt').trans (hc' i hi)))
        generalize vcode f g xs 1 = c1 at LR ⊢
        generalize vcode f g xs 2 = c2 at LR ⊢
        generalize vcode f g xs 3 = c3 at LR ⊢
        clear h h' hc hc' h1 h2
        go_enter Try.func9, Try.ntmps9
        go_wp2_with fail
        refine (FO.out _ (by repeat' first | with_reducible exact Below.refl _ _ | with_reducible assumption | with_reducible refine below_drewN ?_ _ | with_reducible refine balloc ?_ _ | with_reducible refine Below.drew ?_ | with_reducible refine Below.setCell ?_ (by first | (simp; done) | (simp; omega) | omega) _ | with_reducible refine bstep ?_ (by assumption))).mono ?_
        rintro e w1 ⟨rfl, hb1⟩
        have T1 : TriW w1 w.heap.size (.slice none 0 0) (.slice none 0 0) (.slice none 0 0) := (TriW.new w _ _ _ _ _ rfl).below hb1
        have B1 : Below w.heap.size w w1 := (by repeat' first | with_reducible exact Below.refl _ _ | with_reducible assumption | with_reducible refine below_drewN ?_ _ | with_reducible refine balloc ?_ _ | with_reducible refine Below.drew ?_ | with_reducible refine Below.setCell ?_ (by first | (simp; done) | (simp; omega) | omega) _ | with_reducible refine bstep ?_ (by assumption))
        go_wp2_with fail
        refine (LR.out _ B1).mono ?_
        rintro e w2 ⟨v, rfl, a1, a2, a3, k1, k2, k3, rfl, r1, r2, r3, n1, n2, n3, hb2⟩
        have lw : w.heap.size < w1.heap.size := T1.lt
        have T2 := T1.below hb2
        obtain ⟨ls, s0, s1, s2, f0, f1, f2⟩ := T2
        have R1 := hide r1
        have R2 := hide r2
        have R3 := hide r3
        have B2 := bstep B1 hb2
        clear hb1 hb2 r1 r2 r3 T1
        go_wp2_with fail
        refine bodyPost_ret (v := .tuple #[.agg #[.slice a1 n k1, .slice a2 n k2, .slice a3 n k3], .bool true]) ?_ rfl ⟨_, rfl, a1, a2, a3, k1, k2, k3, rfl, ?_, ?_, ?_, ?_⟩
        · simp [results, Try.results9, go_sem, *]
        · exact row_tri R1.out (fun b off e => by have := n1 b off e; omega) _ _ _
        · exact row_tri R2.out (fun b off e => by have := n2 b off e; omega) _ _ _
        · exact row_tri R3.out (fun b off e => by have := n3 b off e; omega) _ _ _
        · exact ((B2.setCell (by simp) _).setCell (by simp) _).setCell (by simp) _

end Go.Proofs.Ytoiaamcnmpdglaa

/- The row of a vector, of the model: three lists of its own, apart, in new memory. -/
namespace Go.Proofs.Ytoiaamcnmpdglaa
open Go.RowKit
set_option maxRecDepth 8000
set_option linter.unusedSimpArgs false
set_option linter.unusedVariables false

def MadeO (w : World) (n : Nat) (c : Nat → Int) (e : Ending) (w' : World) : Prop :=
  ∃ v, e = .returned v ∧ w'.ownsRow w.heap.size 2 1 v n (vals c n) ∧ Below w.heap.size w w'

set_option maxHeartbeats 4000000 in
set_option maxRecDepth 4000 in
theorem l5Codes_own (b off n cap b' off' cap' : Nat) (t : Int) (f g : Nat → Int) (xs : List Int) (w : World) (h8 : n ≤ 8) (hb : b < w.heap.size) (hb' : b' < w.heap.size)
    (hc : ∀ i, i < n → w.cell? ⟨b, off + i * 2, none⟩ = some (.int .i64 (f i)) ∧ w.cell? ⟨b, off + i * 2 + 1, none⟩ = some (.int .i64 (g i)))
    (hc' : ∀ i, i < n → w.cell? ⟨b', off' + i, none⟩ = some (.int .i64 (nth xs i))) :
    Calls Try.prog 62 #[.slice (some ⟨b, off, none⟩) n cap, .slice (some ⟨b', off', none⟩) n cap', .int .i64 t] w fun e w' => MadeO w n (vcode f g xs t) e w' := by
  obtain ⟨i0, hi, hz0, hz1, hz2⟩ := infoI64_parts
  obtain ⟨c, ec⟩ : ∃ c, vcode f g xs t = c := ⟨_, rfl⟩
  have CD := hide (fun (k : Nat) => sCodeOf_any (f k) (g k) t (nth xs k))
  simp only [show ∀ k, codeB (f k) (g k) t (nth xs k) = vcode f g xs t k from fun _ => rfl] at CD
  rw [ec] at CD ⊢
  clear ec
  go_enter Try.func62, Try.ntmps62
  go_wp2_with fail
  go_loopw [7, 8] (fun v i wr => ∃ k : Nat, k ≤ n ∧ i = .int .i64 k ∧ wr.ownsRow w.heap.size 2 1 v k (vals c k) ∧ Below w.heap.size w wr) (fun _ i _ => n - (intOf i).toNat)
  case atStart => exact ⟨0, Nat.zero_le _, rfl, World.ownsRow_made w #[] 0 (Nat.le_refl _) (Nat.zero_le _) rfl, (by repeat' first | with_reducible exact Below.refl _ _ | with_reducible assumption | with_reducible refine below_drewN ?_ _ | with_reducible refine balloc ?_ _ | with_reducible refine Below.drew ?_ | with_reducible refine Below.setCell ?_ (by first | (simp; done) | (simp; omega) | omega) _ | with_reducible refine bstep ?_ (by assumption))⟩
  case round =>
    obtain ⟨k, hk, rfl, hown, hbel⟩ := hrel
    have HC := hide hc
    have HC' := hide hc'
    have HB := hide hbel
    by_cases hlt : k < n
    · have z1 : wr.cell? ⟨b, off + k * 2, none⟩ = some (.int .i64 (f k)) := (hbel.cell (p := ⟨b, off + k * 2, none⟩) hb).trans (hc k hlt).1
      have z2 : wr.cell? ⟨b, off + k * 2 + 1, none⟩ = some (.int .i64 (g k)) := (hbel.cell (p := ⟨b, off + k * 2 + 1, none⟩) hb).trans (hc k hlt).2
      have z3 : wr.cell? ⟨b', off' + k, none⟩ = some (.int .i64 (nth xs k)) := (hbel.cell (p := ⟨b', off' + k, none⟩) hb').trans (hc' k hlt)
      have hlt' : (k : Int) < (n : Int) := by omega
      have l1 : b < wr.heap.size := Nat.lt_of_lt_of_le hb hbel.size
      have l2 : b' < wr.heap.size := Nat.lt_of_lt_of_le hb' hbel.size
      have sz := hbel.size
      have R := hide (CD.out k)
      have HO := hide hown
      clear hbel hc hc' hown
      go_upto_region 5 with fail
      go_region_held_law (fun w' => w'.cell? ⟨b, off + k * 2, none⟩ = some (.int .i64 (f k)) ∧ w'.cell? ⟨b, off + k * 2 + 1, none⟩ = some (.int .i64 (g k)) ∧ w'.cell? ⟨b', off' + k, none⟩ = some (.int .i64 (nth xs k))) (refine ⟨?_, ?_, ?_⟩ <;> first | assumption | (simp [go_sem]; done) | (rw [World.cell?_alloc_past _ _ _ (by omega)]; assumption))
        (first
          | (go_at_call 86; refine (R.out _).mono ?_; rintro e wn ⟨rfl, hbn⟩; have s1 := (hbn.cell (p := ⟨b, off + k * 2, none⟩) l1).trans z1; have s2 := (hbn.cell (p := ⟨b, off + k * 2 + 1, none⟩) l1).trans z2; have s3 := (hbn.cell (p := ⟨b', off' + k, none⟩) l2).trans z3; have szn : wr.heap.size ≤ wn.heap.size := hbn.size; have HOn := hide (owns_below (owns_drewP HO.out) hbn); have HBn := hide (bstep (HB.out.drew) hbn))
          | (refine step_append_lies _ rfl _ _ 25 rfl w.heap.size 2 i0 _ 1 8 Try.underlying25 hi hz0 hz1 hz2 rfl (by decide) _ _ _ rfl (HOn.out.alloc _) ⟨_, 0, none⟩ 1 1 [.int .i64 (c k)] rfl rfl (one_new _ _ _) (by intro u hu; simp at hu; subst hu; rfl) (by omega) (by unfold maxLen; omega) (by omega) (by simp; omega) _ rfl ?_; intro gg cc wq hown1 hgrow hat hglt; have HBq := hide (below_appP (balloc HBn.out _) (by simp; omega) (HOn.out.alloc _) hgrow); have t1 := (HBq.out.cell (p := ⟨b, off + k * 2, none⟩) hb).trans (HC.out k hlt).1; have t2 := (HBq.out.cell (p := ⟨b, off + k * 2 + 1, none⟩) hb).trans (HC.out k hlt).2; have t3 := (HBq.out.cell (p := ⟨b', off' + k, none⟩) hb').trans (HC'.out k hlt)))
      all_goals
        have HO1 := hide hown1
        clear hown1 hgrow hat
        go_wp2_with fail
        go_roundw
        case rel => exact ⟨k + 1, by omega, by go_num, by rw [vals_succ]; exact HO1.out, HBq.out⟩
        case measure => simp [intOf]; omega
    · obtain rfl : k = n := by omega
      have HO := hide hown
      clear hbel hc hc' hown
      go_wp2_with fail
      go_ret
      exact ⟨_, rfl, HO.out, HB.out⟩

/-- A cell of an elder block is written. -/
theorem owns_setO {base : Nat} {w : World} {e : TypeId} {size : Nat} {v : Value} {n : Nat} {xs : List Value} (h : w.ownsRow base e size v n xs) {q : Nat} (hq : q < base) (o : Nat) (u : Value) : (w.setCell ⟨q, o, none⟩ u).ownsRow base e size v n xs := by
  refine ⟨h.1, ?_⟩
  rcases h.2 with h0 | ⟨g, cap, cur, hv, hg, hh, rest⟩
  · exact .inl h0
  · exact .inr ⟨g, cap, cur, hv, hg, (Below.heap_setCell w ⟨q, o, none⟩ u g (by simp; omega)).trans hh, rest⟩
/-- Three lists of the call's own, each in a block behind the one ahead. -/
structure Own3 (w : World) (base n : Nat) (v1 v2 v3 : Value) (B2 B3 : Nat) (c1 c2 c3 : Nat → Int) : Prop where
  one : w.ownsRow base 2 1 v1 n (vals c1 n)
  two : w.ownsRow B2 2 1 v2 n (vals c2 n)
  three : w.ownsRow B3 2 1 v3 n (vals c3 n)
  l2 : base ≤ B2
  l3 : B2 ≤ B3
  s1 : ∀ k, v1.ownBlock = some k → k < B2
  s2 : ∀ k, v2.ownBlock = some k → k < B3

theorem Own3.set {w : World} {base n : Nat} {v1 v2 v3 : Value} {B2 B3 : Nat} {c1 c2 c3 : Nat → Int} (h : Own3 w base n v1 v2 v3 B2 B3 c1 c2 c3) {q : Nat} (hq : q < base) (o : Nat) (u : Value) : Own3 (w.setCell ⟨q, o, none⟩ u) base n v1 v2 v3 B2 B3 c1 c2 c3 :=
  ⟨owns_setO h.one hq o u, owns_setO h.two (Nat.lt_of_lt_of_le hq h.l2) o u, owns_setO h.three (Nat.lt_of_lt_of_le hq (Nat.le_trans h.l2 h.l3)) o u, h.l2, h.l3, h.s1, h.s2⟩

theorem Own3.lower {w : World} {base base' n : Nat} {v1 v2 v3 : Value} {B2 B3 : Nat} {c1 c2 c3 : Nat → Int} (h : Own3 w base n v1 v2 v3 B2 B3 c1 c2 c3) (hb : base' ≤ base) : Own3 w base' n v1 v2 v3 B2 B3 c1 c2 c3 := by
  refine ⟨⟨h.one.1, ?_⟩, h.two, h.three, Nat.le_trans hb h.l2, h.l3, h.s1, h.s2⟩
  rcases h.one.2 with h0 | ⟨g, cap, cur, hv, hg, hh, rest⟩
  · exact .inl h0
  · exact .inr ⟨g, cap, cur, hv, Nat.le_trans hb hg, hh, rest⟩
def RowO (w : World) (n : Nat) (c1 c2 c3 : Nat → Int) (v : Value) (w' : World) : Prop :=
  ∃ v1 v2 v3 B2 B3, v = .agg #[v1, v2, v3] ∧ Own3 w' w.heap.size n v1 v2 v3 B2 B3 c1 c2 c3 ∧ Below w.heap.size w w'

set_option maxHeartbeats 4000000 in
theorem l5Row_own (b off n cap b' off' cap' : Nat) (f g : Nat → Int) (xs : List Int) (w : World) (h1n : 1 ≤ n) (h8 : n ≤ 8) (hb : b < w.heap.size) (hb' : b' < w.heap.size)
    (hc : ∀ i, i < n → w.cell? ⟨b, off + i * 2, none⟩ = some (.int .i64 (f i)) ∧ w.cell? ⟨b, off + i * 2 + 1, none⟩ = some (.int .i64 (g i)))
    (hc' : ∀ i, i < n → w.cell? ⟨b', off' + i, none⟩ = some (.int .i64 (nth xs i))) :
    Calls Try.prog 33 #[.slice (some ⟨b, off, none⟩) n cap, .slice (some ⟨b', off', none⟩) n cap'] w fun e w' => ∃ v, e = .returned v ∧ RowO w n (vcode f g xs 1) (vcode f g xs 2) (vcode f g xs 3) v w' := by
  have CD := hide (fun (t : Int) (w1 : World) (hB : Below w.heap.size w w1) => l5Codes_own b off n cap b' off' cap' t f g xs w1 h8 (Nat.lt_of_lt_of_le hb hB.size) (Nat.lt_of_lt_of_le hb' hB.size)
    (fun i hi => ⟨(hB.cell (p := ⟨b, off + i * 2, none⟩) hb).trans (hc i hi).1, (hB.cell (p := ⟨b, off + i * 2 + 1, none⟩) hb).trans (hc i hi).2⟩) (fun i hi => (hB.cell (p := ⟨b', off' + i, none⟩) hb').trans (hc' i hi)))
  clear hc hc'
  go_enter Try.func33, Try.ntmps33
  go_wp2_with fail
  refine (CD.out 1 _ (by repeat' first | with_reducible exact Below.refl _ _ | with_reducible assumption | with_reducible refine below_drewN ?_ _ | with_reducible refine balloc ?_ _ | with_reducible refine Below.drew ?_ | with_reducible refine Below.setCell ?_ (by first | (simp; done) | (simp; omega) | omega) _ | with_reducible refine bstep ?_ (by assumption))).mono ?_
  rintro e w1 ⟨v1, rfl, r1, hb1⟩
  obtain ⟨g1, k1, rfl, _⟩ := r1.form (by omega)
  have T1 : TriW w1 w.heap.size (.slice none 0 0) (.slice none 0 0) (.slice none 0 0) := (TriW.new w _ _ _ _ _ rfl).below hb1
  have B1 : Below w.heap.size w w1 := (by repeat' first | with_reducible exact Below.refl _ _ | with_reducible assumption | with_reducible refine below_drewN ?_ _ | with_reducible refine balloc ?_ _ | with_reducible refine Below.drew ?_ | with_reducible refine Below.setCell ?_ (by first | (simp; done) | (simp; omega) | omega) _ | with_reducible refine bstep ?_ (by assumption))
  go_wp2_with fail
  refine (CD.out 2 _ B1).mono ?_
  rintro e w2 ⟨v2, rfl, r2, hb2⟩
  obtain ⟨g2, k2, rfl, _⟩ := r2.form (by omega)
  have T2 := T1.below hb2
  have r1' := owns_below r1 hb2
  have B2 := bstep B1 hb2
  go_wp2_with fail
  refine (CD.out 3 _ B2).mono ?_
  rintro e w3 ⟨v3, rfl, r3, hb3⟩
  obtain ⟨g3, k3, rfl, _⟩ := r3.form (by omega)
  have T3 := T2.below hb3
  have r1'' := owns_below r1' hb3
  have r2'' := owns_below r2 hb3
  have B3 := bstep B2 hb3
  have lw : w.heap.size < w1.heap.size := T1.lt
  have lw2 : w.heap.size < w2.heap.size := T2.lt
  have z1 := hb2.size
  have O3 : Hid (Own3 w3 (w.heap.size + 1) n (.slice (some ⟨g1, 0, none⟩) n k1) (.slice (some ⟨g2, 0, none⟩) n k2) (.slice (some ⟨g3, 0, none⟩) n k3) w1.heap.size w2.heap.size (vcode f g xs 1) (vcode f g xs 2) (vcode f g xs 3)) := hide ⟨by simpa using r1'', r2'', r3, by omega, z1, fun k hk => (r1.lt k hk).2, fun k hk => (r2.lt k hk).2⟩
  obtain ⟨ls, s0, s1, s2, f0, f1, f2⟩ := T3
  clear r1 r2 r3 r1' r1'' r2'' T1 T2 hb1 hb2 hb3
  go_wp2_with fail
  refine bodyPost_ret (v := .agg #[.slice (some ⟨g1, 0, none⟩) n k1, .slice (some ⟨g2, 0, none⟩) n k2, .slice (some ⟨g3, 0, none⟩) n k3]) ?_ rfl ⟨_, rfl, _, _, _, w1.heap.size, w2.heap.size, rfl, ?_, ?_⟩
  · simp [results, Try.results33, go_sem, *]
  · exact (((O3.out.set (by omega) _ _).set (by omega) _ _).set (by omega) _ _).lower (by omega)
  · exact ((B3.setCell (by simp) _).setCell (by simp) _).setCell (by simp) _

/-- The answer of the model's RowOf, with whose memory it is. -/
def SRowO (w : World) (F : Bool) (n : Nat) (c1 c2 c3 : Nat → Int) (e : Ending) (w' : World) : Prop :=
  ∃ v, e = .returned (.tuple #[v, .bool F]) ∧ ((F = false ∧ v = .agg #[.slice none 0 0, .slice none 0 0, .slice none 0 0] ∧ Below w.heap.size w w') ∨ (F = true ∧ RowO w n c1 c2 c3 v w'))

set_option maxHeartbeats 4000000 in
theorem sRowOf_own (a a' : Option Addr) (n cap n' cap' : Nat) (f g : Nat → Int) (xs : List Int) (w : World) (h : PRow w a n f g) (h' : Row w a' n' xs) (hn : n ≤ 1048576) (hn' : n' ≤ 1048576) :
    Calls Try.prog 9 #[.slice a n cap, .slice a' n' cap'] w fun e w' => SRowO w (formB n f g n' xs) n (vcode f g xs 1) (vcode f g xs 2) (vcode f g xs 3) e w' := by
  have FO := hide (fun w1 (hb : Below w.heap.size w w1) => l4Form_any a a' n cap n' cap' f g xs w1 (h.below hb) (h'.below hb) hn hn')
  cases hF : formB n f g n' xs
  · rw [hF] at FO
    clear h h'
    go_enter Try.func9, Try.ntmps9
    go_wp2_with fail
    refine (FO.out _ (by repeat' first | with_reducible exact Below.refl _ _ | with_reducible assumption | with_reducible refine below_drewN ?_ _ | with_reducible refine balloc ?_ _ | with_reducible refine Below.drew ?_ | with_reducible refine Below.setCell ?_ (by first | (simp; done) | (simp; omega) | omega) _ | with_reducible refine bstep ?_ (by assumption))).mono ?_
    rintro e w1 ⟨rfl, hb1⟩
    have T1 : TriW w1 w.heap.size (.slice none 0 0) (.slice none 0 0) (.slice none 0 0) := (TriW.new w _ _ _ _ _ rfl).below hb1
    obtain ⟨ls, s0, s1, s2, f0, f1, f2⟩ := T1
    have B1 : Below w.heap.size w w1 := (by repeat' first | with_reducible exact Below.refl _ _ | with_reducible assumption | with_reducible refine below_drewN ?_ _ | with_reducible refine balloc ?_ _ | with_reducible refine Below.drew ?_ | with_reducible refine Below.setCell ?_ (by first | (simp; done) | (simp; omega) | omega) _ | with_reducible refine bstep ?_ (by assumption))
    clear hb1
    go_wp2_with fail
    refine bodyPost_ret (v := .tuple #[.agg #[.slice none 0 0, .slice none 0 0, .slice none 0 0], .bool false]) ?_ rfl ⟨_, rfl, .inl ⟨rfl, rfl, ?_⟩⟩
    · simp [results, Try.results9, go_sem, *]
    · exact ((B1.setCell (by simp) _).setCell (by simp) _).setCell (by simp) _
  · rw [hF] at FO
    simp only [formB, Bool.and_eq_true, decide_eq_true_eq] at hF
    obtain ⟨⟨h1, h2⟩, rfl⟩ := hF
    have hn8 := boxB_num' h1
    rcases h.lies with q | ⟨b, off, rfl, lt, hc⟩
    · omega
    · rcases h'.lies with q | ⟨b', off', rfl, lt', hc'⟩
      · omega
      · have LR := hide (fun (w1 : World) (hB : Below w.heap.size w w1) => l5Row_own b off n cap b' off' cap' f g xs w1 hn8.1 hn8.2 (Nat.lt_of_lt_of_le lt hB.size) (Nat.lt_of_lt_of_le lt' hB.size)
          (fun i hi => ⟨(hB.cell (p := ⟨b, off + i * 2, none⟩) lt).trans (hc i hi).1, (hB.cell (p := ⟨b, off + i * 2 + 1, none⟩) lt).trans (hc i hi).2⟩) (fun i hi => (hB.cell (p := ⟨b', off' + i, none⟩) lt').trans (hc' i hi)))
        generalize vcode f g xs 1 = c1 at LR ⊢
        generalize vcode f g xs 2 = c2 at LR ⊢
        generalize vcode f g xs 3 = c3 at LR ⊢
        clear h h' hc hc' h1 h2
        go_enter Try.func9, Try.ntmps9
        go_wp2_with fail
        refine (FO.out _ (by repeat' first | with_reducible exact Below.refl _ _ | with_reducible assumption | with_reducible refine below_drewN ?_ _ | with_reducible refine balloc ?_ _ | with_reducible refine Below.drew ?_ | with_reducible refine Below.setCell ?_ (by first | (simp; done) | (simp; omega) | omega) _ | with_reducible refine bstep ?_ (by assumption))).mono ?_
        rintro e w1 ⟨rfl, hb1⟩
        have T1 : TriW w1 w.heap.size (.slice none 0 0) (.slice none 0 0) (.slice none 0 0) := (TriW.new w _ _ _ _ _ rfl).below hb1
        have B1 : Below w.heap.size w w1 := (by repeat' first | with_reducible exact Below.refl _ _ | with_reducible assumption | with_reducible refine below_drewN ?_ _ | with_reducible refine balloc ?_ _ | with_reducible refine Below.drew ?_ | with_reducible refine Below.setCell ?_ (by first | (simp; done) | (simp; omega) | omega) _ | with_reducible refine bstep ?_ (by assumption))
        go_wp2_with fail
        refine (LR.out _ B1).mono ?_
        rintro e w2 ⟨v, rfl, v1, v2, v3, C2, C3, rfl, ho, hb2⟩
        obtain ⟨g1, k1, rfl, _⟩ := ho.one.form (by omega)
        obtain ⟨g2, k2, rfl, _⟩ := ho.two.form (by omega)
        obtain ⟨g3, k3, rfl, _⟩ := ho.three.form (by omega)
        have lw : w.heap.size < w1.heap.size := T1.lt
        have T2 := T1.below hb2
        obtain ⟨ls, s0, s1, s2, f0, f1, f2⟩ := T2
        have O3 := hide ho
        have B2 := bstep B1 hb2
        clear hb1 hb2 ho T1
        go_wp2_with fail
        refine bodyPost_ret (v := .tuple #[.agg #[.slice (some ⟨g1, 0, none⟩) n k1, .slice (some ⟨g2, 0, none⟩) n k2, .slice (some ⟨g3, 0, none⟩) n k3], .bool true]) ?_ rfl ⟨_, rfl, .inr ⟨rfl, _, _, _, C2, C3, rfl, ?_, ?_⟩⟩
        · simp [results, Try.results9, go_sem, *]
        · exact (((O3.out.set lw _ _).set lw _ _).set lw _ _).lower (by omega)
        · exact ((B2.setCell (by simp) _).setCell (by simp) _).setCell (by simp) _

end Go.Proofs.Ytoiaamcnmpdglaa
