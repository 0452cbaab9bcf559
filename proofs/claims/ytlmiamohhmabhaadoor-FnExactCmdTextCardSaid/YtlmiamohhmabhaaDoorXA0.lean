/- The table of forms; formOf. -/
import Derived.Test.YtlmiamohhmabhaaDoorVA0
import Derived.Deep.MidRow
namespace Go.Proofs.YtlmiamohhmabhaaDoor
open Go.RowKit
set_option maxRecDepth 8000
set_option linter.unusedSimpArgs false
set_option linter.unusedVariables false

/-- The table, cell by cell. -/
def formsL : List Value := [.int .i64 1, .string ⟨#[100, 105, 109]⟩, .int .i64 1, .int .i64 8, .int .i64 0, .int .i64 0, .int .i64 0, .int .i64 0, .bool false, .int .i64 2, .string ⟨#[112, 117, 116]⟩, .int .i64 1, .int .i64 9999, .int .i64 0, .int .i64 255, .int .i64 0, .int .i64 0, .bool true, .int .i64 3, .string ⟨#[100, 114, 111, 112]⟩, .int .i64 1, .int .i64 9999, .int .i64 0, .int .i64 0, .int .i64 0, .int .i64 0, .bool false, .int .i64 4, .string ⟨#[98, 117, 105, 108, 100]⟩, .int .i64 0, .int .i64 0, .int .i64 0, .int .i64 0, .int .i64 0, .int .i64 0, .bool false, .int .i64 5, .string ⟨#[116, 105, 99, 107]⟩, .int .i64 1, .int .i64 60, .int .i64 0, .int .i64 0, .int .i64 0, .int .i64 0, .bool false, .int .i64 6, .string ⟨#[110, 101, 97, 114]⟩, .int .i64 1, .int .i64 20, .int .i64 0, .int .i64 255, .int .i64 0, .int .i64 1000, .bool true, .int .i64 7, .string ⟨#[119, 105, 116, 104, 105, 110]⟩, .int .i64 0, .int .i64 1125899906842624, .int .i64 0, .int .i64 255, .int .i64 0, .int .i64 1000, .bool true]
def formR : Nat → Array Value
  | 0 => #[.int .i64 1, .string ⟨#[100, 105, 109]⟩, .int .i64 1, .int .i64 8, .int .i64 0, .int .i64 0, .int .i64 0, .int .i64 0, .bool false]
  | 1 => #[.int .i64 2, .string ⟨#[112, 117, 116]⟩, .int .i64 1, .int .i64 9999, .int .i64 0, .int .i64 255, .int .i64 0, .int .i64 0, .bool true]
  | 2 => #[.int .i64 3, .string ⟨#[100, 114, 111, 112]⟩, .int .i64 1, .int .i64 9999, .int .i64 0, .int .i64 0, .int .i64 0, .int .i64 0, .bool false]
  | 3 => #[.int .i64 4, .string ⟨#[98, 117, 105, 108, 100]⟩, .int .i64 0, .int .i64 0, .int .i64 0, .int .i64 0, .int .i64 0, .int .i64 0, .bool false]
  | 4 => #[.int .i64 5, .string ⟨#[116, 105, 99, 107]⟩, .int .i64 1, .int .i64 60, .int .i64 0, .int .i64 0, .int .i64 0, .int .i64 0, .bool false]
  | 5 => #[.int .i64 6, .string ⟨#[110, 101, 97, 114]⟩, .int .i64 1, .int .i64 20, .int .i64 0, .int .i64 255, .int .i64 0, .int .i64 1000, .bool true]
  | 6 => #[.int .i64 7, .string ⟨#[119, 105, 116, 104, 105, 110]⟩, .int .i64 0, .int .i64 1125899906842624, .int .i64 0, .int .i64 255, .int .i64 0, .int .i64 1000, .bool true]
  | _ => #[.int .i64 0, .string ⟨#[]⟩, .int .i64 0, .int .i64 0, .int .i64 0, .int .i64 0, .int .i64 0, .int .i64 0, .bool false]
structure Forms (w : World) : Prop where
  lt : 0 < w.heap.size
  cell : ∀ j v, formsL[j]? = some v → w.cell? ⟨0, j, none⟩ = some v

theorem Forms.below {w w' : World} (h : Forms w) (hb : Below w.heap.size w w') : Forms w' :=
  ⟨Nat.lt_of_lt_of_le h.lt hb.size, fun j v hj => (hb.cell (p := ⟨0, j, none⟩) h.lt).trans (h.cell j v hj)⟩
def kindB (x : Int) : Bool := decide (1 ≤ x ∧ x ≤ 7)
def kindN (x : Int) : Nat := if kindB x then (x - 1).toNat else 7
def v9 (a0 a1 a2 a3 a4 a5 a6 a7 a8 : Value) (j : Nat) : Value := if j = 0 then a0 else if j = 1 then a1 else if j = 2 then a2 else if j = 3 then a3 else if j = 4 then a4 else if j = 5 then a5 else if j = 6 then a6 else if j = 7 then a7 else a8

theorem v9_new (w : World) (a0 a1 a2 a3 a4 a5 a6 a7 a8 : Value) (T : TypeId) : (w.alloc (.cells #[a0, a1, a2, a3, a4, a5, a6, a7, a8] T)).rowIs w.heap.size T 9 (v9 a0 a1 a2 a3 a4 a5 a6 a7 a8) :=
  World.rowIs_alloc w #[a0, a1, a2, a3, a4, a5, a6, a7, a8] T (v9 a0 a1 a2 a3 a4 a5 a6 a7 a8) (by intro i hi; rcases (show i = 0 ∨ i = 1 ∨ i = 2 ∨ i = 3 ∨ i = 4 ∨ i = 5 ∨ i = 6 ∨ i = 7 ∨ i = 8 from by simp at hi; omega) with rfl | rfl | rfl | rfl | rfl | rfl | rfl | rfl | rfl <;> rfl)

theorem nine_set {w : World} {T : TypeId} {b : Nat} {F : Nat → Value} (h : w.rowIs b T 9 F) (x0 x1 x2 x3 x4 x5 x6 x7 x8 : Value) :
    (((((((((w.setCell ⟨b, 0, none⟩ x0).setCell ⟨b, 1, none⟩ x1).setCell ⟨b, 2, none⟩ x2).setCell ⟨b, 3, none⟩ x3).setCell ⟨b, 4, none⟩ x4).setCell ⟨b, 5, none⟩ x5).setCell ⟨b, 6, none⟩ x6).setCell ⟨b, 7, none⟩ x7).setCell ⟨b, 8, none⟩ x8).rowIs b T 9 (v9 x0 x1 x2 x3 x4 x5 x6 x7 x8) := by
  refine ((World.rowIs.set (World.rowIs.set (World.rowIs.set (World.rowIs.set (World.rowIs.set (World.rowIs.set (World.rowIs.set (World.rowIs.set (World.rowIs.set h 0 x0) 1 x1) 2 x2) 3 x3) 4 x4) 5 x5) 6 x6) 7 x7) 8 x8)).congr fun j hj => ?_
  rcases (show j = 0 ∨ j = 1 ∨ j = 2 ∨ j = 3 ∨ j = 4 ∨ j = 5 ∨ j = 6 ∨ j = 7 ∨ j = 8 from by omega) with rfl | rfl | rfl | rfl | rfl | rfl | rfl | rfl | rfl <;> rfl

theorem v9_facts {w : World} {T : TypeId} {b : Nat} {a0 a1 a2 a3 a4 a5 a6 a7 a8 : Value} (h : w.rowIs b T 9 (v9 a0 a1 a2 a3 a4 a5 a6 a7 a8)) :
    b < w.heap.size ∧ w.cell? ⟨b, 0, none⟩ = some a0 ∧ w.cell? ⟨b, 1, none⟩ = some a1 ∧ w.cell? ⟨b, 2, none⟩ = some a2 ∧ w.cell? ⟨b, 3, none⟩ = some a3 ∧ w.cell? ⟨b, 4, none⟩ = some a4 ∧ w.cell? ⟨b, 5, none⟩ = some a5 ∧ w.cell? ⟨b, 6, none⟩ = some a6 ∧ w.cell? ⟨b, 7, none⟩ = some a7 ∧ w.cell? ⟨b, 8, none⟩ = some a8 ∧ w.frozen? ⟨b, 0, none⟩ = false ∧ w.frozen? ⟨b, 1, none⟩ = false ∧ w.frozen? ⟨b, 2, none⟩ = false ∧ w.frozen? ⟨b, 3, none⟩ = false ∧ w.frozen? ⟨b, 4, none⟩ = false ∧ w.frozen? ⟨b, 5, none⟩ = false ∧ w.frozen? ⟨b, 6, none⟩ = false ∧ w.frozen? ⟨b, 7, none⟩ = false ∧ w.frozen? ⟨b, 8, none⟩ = false :=
  ⟨World.rowIs.lt h, World.rowIs.cell h (show 0 < 9 by omega), World.rowIs.cell h (show 1 < 9 by omega), World.rowIs.cell h (show 2 < 9 by omega), World.rowIs.cell h (show 3 < 9 by omega), World.rowIs.cell h (show 4 < 9 by omega), World.rowIs.cell h (show 5 < 9 by omega), World.rowIs.cell h (show 6 < 9 by omega), World.rowIs.cell h (show 7 < 9 by omega), World.rowIs.cell h (show 8 < 9 by omega), World.rowIs.frozen h 0, World.rowIs.frozen h 1, World.rowIs.frozen h 2, World.rowIs.frozen h 3, World.rowIs.frozen h 4, World.rowIs.frozen h 5, World.rowIs.frozen h 6, World.rowIs.frozen h 7, World.rowIs.frozen h 8⟩

theorem below9 {w0 w : World} {B b : Nat} (h : Below B w0 w) (hb : B ≤ b) (x0 x1 x2 x3 x4 x5 x6 x7 x8 : Value) : Below B w0 (((((((((w.setCell ⟨b, 0, none⟩ x0).setCell ⟨b, 1, none⟩ x1).setCell ⟨b, 2, none⟩ x2).setCell ⟨b, 3, none⟩ x3).setCell ⟨b, 4, none⟩ x4).setCell ⟨b, 5, none⟩ x5).setCell ⟨b, 6, none⟩ x6).setCell ⟨b, 7, none⟩ x7).setCell ⟨b, 8, none⟩ x8) :=
  ((((((((h.setCell hb _).setCell hb _).setCell hb _).setCell hb _).setCell hb _).setCell hb _).setCell hb _).setCell hb _).setCell hb _

set_option maxHeartbeats 2000000 in
set_option maxRecDepth 8000 in
theorem index_form (k : Nat) (hk : k < 7) (w : World) : (Instr.index 62 (.agg formsL.toArray) (.int .i64 (k : Int))).run Tryd.prog w = .ok (.agg (formR k)) w := by
  have u1 := Tryd.underlying62
  have u2 := Tryd.underlying46
  have s2 := Tryd.sizeOf46
  rcases (show k = 0 ∨ k = 1 ∨ k = 2 ∨ k = 3 ∨ k = 4 ∨ k = 5 ∨ k = 6 from by omega) with rfl | rfl | rfl | rfl | rfl | rfl | rfl
  all_goals
    simp [Instr.index, go_sem, part]
    try rfl

set_option maxHeartbeats 8000000 in
set_option maxRecDepth 8000 in
theorem formOf_any (x : Int) (w : World) (F : Forms w) :
    Calls Tryd.prog 23 #[.int .i64 x] w fun e w' => e = .returned (.tuple #[.agg (formR (kindN x)), .bool (kindB x)]) ∧ Below w.heap.size w w' := by
  have Z0 : Hid ((w.alloc (.cells (formR 7) 46)).rowIs w.heap.size 46 9 (v9 (.int .i64 0) (.string ⟨#[]⟩) (.int .i64 0) (.int .i64 0) (.int .i64 0) (.int .i64 0) (.int .i64 0) (.int .i64 0) (.bool false))) := hide (v9_new w _ _ _ _ _ _ _ _ _ _)
  have B0 : Hid (Below w.heap.size w (w.alloc (.cells (formR 7) 46))) := hide (balloc (Below.refl _ _) _)
  have F0 := hide (F.below B0.out)
  have HF : Hid (World.rangeAt (w.alloc (.cells (formR 7) 46)) 0 0 formsL) := hide (fun j v hj => by rw [Nat.zero_add]; exact F0.out.cell j v hj)
  clear F
  go_enter Tryd.func23, Tryd.ntmps23
  go_wp2_with (refine wpList_load_mid rfl 62 (.global 0) rfl 0 0 rfl formsL _ HF.out Tryd.underlying62 rfl (by kernel_rfl) ?_)
  clear HF F0
  go_loopw [5, 7] (fun _ i wr => ∃ k : Nat, k ≤ 7 ∧ i = .int .i64 k ∧ Hid (∀ j : Nat, j < k → x ≠ (j : Int) + 1) ∧ Hid (wr.rowIs w.heap.size 46 9 (v9 (.int .i64 0) (.string ⟨#[]⟩) (.int .i64 0) (.int .i64 0) (.int .i64 0) (.int .i64 0) (.int .i64 0) (.int .i64 0) (.bool false))) ∧ Hid (Below w.heap.size w wr)) (fun _ i _ => 7 - (intOf i).toNat)
  case atStart => exact ⟨0, by omega, rfl, hide (fun j hj => absurd hj (by omega)), Z0, B0⟩
  case round =>
    obtain ⟨k, hk, rfl, HN, HZ, HB⟩ := hrel
    clear Z0 B0
    obtain ⟨lz, z0, z1, z2, z3, z4, z5, z6, z7, z8, f0, f1, f2, f3, f4, f5, f6, f7, f8⟩ := v9_facts HZ.out
    rcases (show k = 0 ∨ k = 1 ∨ k = 2 ∨ k = 3 ∨ k = 4 ∨ k = 5 ∨ k = 6 ∨ k = 7 from by omega) with rfl | rfl | rfl | rfl | rfl | rfl | rfl | rfl
    · have hix : ∀ wx, (Instr.index 62 (.agg formsL.toArray) (.int .i64 0)).run Tryd.prog wx = .ok (.agg #[.int .i64 1, .string ⟨#[100, 105, 109]⟩, .int .i64 1, .int .i64 8, .int .i64 0, .int .i64 0, .int .i64 0, .int .i64 0, .bool false]) wx := fun wx => index_form 0 (by omega) wx
      by_cases hx : x = 1
      · subst hx
        clear HN
        go_wp2_with fail
        have R := World.rowIs.alloc (nine_set HZ.out (.int .i64 1) (.string ⟨#[100, 105, 109]⟩) (.int .i64 1) (.int .i64 8) (.int .i64 0) (.int .i64 0) (.int .i64 0) (.int .i64 0) (.bool false)) (.cells #[.int .i64 1, .string ⟨#[100, 105, 109]⟩, .int .i64 1, .int .i64 8, .int .i64 0, .int .i64 0, .int .i64 0, .int .i64 0, .bool false] 46)
        obtain ⟨_, s0, s1, s2, s3, s4, s5, s6, s7, s8, _⟩ := v9_facts R
        refine bodyPost_ret (v := .tuple #[.agg #[.int .i64 1, .string ⟨#[100, 105, 109]⟩, .int .i64 1, .int .i64 8, .int .i64 0, .int .i64 0, .int .i64 0, .int .i64 0, .bool false], .bool true]) ?_ rfl ?_
        · simp [results, Tryd.results23, go_sem, s0, s1, s2, s3, s4, s5, s6, s7, s8]
        · exact ⟨by rw [show kindN 1 = 0 from by decide, show kindB 1 = true from by decide]; rfl, balloc (below9 HB.out (Nat.le_refl _) _ _ _ _ _ _ _ _ _) _⟩
      · have hne : ((1 : Int) == x) = false := by simp; omega
        go_wp2_with fail
        go_roundw
        case rel => exact ⟨1, by omega, by go_num, hide (fun j hj => by rcases Nat.lt_succ_iff_lt_or_eq.1 hj with h | rfl; exact HN.out j h; simpa using hx), hide (World.rowIs.alloc HZ.out _), hide (balloc HB.out _)⟩
        case measure => simp [intOf]
    · have hix : ∀ wx, (Instr.index 62 (.agg formsL.toArray) (.int .i64 1)).run Tryd.prog wx = .ok (.agg #[.int .i64 2, .string ⟨#[112, 117, 116]⟩, .int .i64 1, .int .i64 9999, .int .i64 0, .int .i64 255, .int .i64 0, .int .i64 0, .bool true]) wx := fun wx => index_form 1 (by omega) wx
      by_cases hx : x = 2
      · subst hx
        clear HN
        go_wp2_with fail
        have R := World.rowIs.alloc (nine_set HZ.out (.int .i64 2) (.string ⟨#[112, 117, 116]⟩) (.int .i64 1) (.int .i64 9999) (.int .i64 0) (.int .i64 255) (.int .i64 0) (.int .i64 0) (.bool true)) (.cells #[.int .i64 2, .string ⟨#[112, 117, 116]⟩, .int .i64 1, .int .i64 9999, .int .i64 0, .int .i64 255, .int .i64 0, .int .i64 0, .bool true] 46)
        obtain ⟨_, s0, s1, s2, s3, s4, s5, s6, s7, s8, _⟩ := v9_facts R
        refine bodyPost_ret (v := .tuple #[.agg #[.int .i64 2, .string ⟨#[112, 117, 116]⟩, .int .i64 1, .int .i64 9999, .int .i64 0, .int .i64 255, .int .i64 0, .int .i64 0, .bool true], .bool true]) ?_ rfl ?_
        · simp [results, Tryd.results23, go_sem, s0, s1, s2, s3, s4, s5, s6, s7, s8]
        · exact ⟨by rw [show kindN 2 = 1 from by decide, show kindB 2 = true from by decide]; rfl, balloc (below9 HB.out (Nat.le_refl _) _ _ _ _ _ _ _ _ _) _⟩
      · have hne : ((2 : Int) == x) = false := by simp; omega
        go_wp2_with fail
        go_roundw
        case rel => exact ⟨2, by omega, by go_num, hide (fun j hj => by rcases Nat.lt_succ_iff_lt_or_eq.1 hj with h | rfl; exact HN.out j h; simpa using hx), hide (World.rowIs.alloc HZ.out _), hide (balloc HB.out _)⟩
        case measure => simp [intOf]
    · have hix : ∀ wx, (Instr.index 62 (.agg formsL.toArray) (.int .i64 2)).run Tryd.prog wx = .ok (.agg #[.int .i64 3, .string ⟨#[100, 114, 111, 112]⟩, .int .i64 1, .int .i64 9999, .int .i64 0, .int .i64 0, .int .i64 0, .int .i64 0, .bool false]) wx := fun wx => index_form 2 (by omega) wx
      by_cases hx : x = 3
      · subst hx
        clear HN
        go_wp2_with fail
        have R := World.rowIs.alloc (nine_set HZ.out (.int .i64 3) (.string ⟨#[100, 114, 111, 112]⟩) (.int .i64 1) (.int .i64 9999) (.int .i64 0) (.int .i64 0) (.int .i64 0) (.int .i64 0) (.bool false)) (.cells #[.int .i64 3, .string ⟨#[100, 114, 111, 112]⟩, .int .i64 1, .int .i64 9999, .int .i64 0, .int .i64 0, .int .i64 0, .int .i64 0, .bool false] 46)
        obtain ⟨_, s0, s1, s2, s3, s4, s5, s6, s7, s8, _⟩ := v9_facts R
        refine bodyPost_ret (v := .tuple #[.agg #[.int .i64 3, .string ⟨#[100, 114, 111, 112]⟩, .int .i64 1, .int .i64 9999, .int .i64 0, .int .i64 0, .int .i64 0, .int .i64 0, .bool false], .bool true]) ?_ rfl ?_
        · simp [results, Tryd.results23, go_sem, s0, s1, s2, s3, s4, s5, s6, s7, s8]
        · exact ⟨by rw [show kindN 3 = 2 from by decide, show kindB 3 = true from by decide]; rfl, balloc (below9 HB.out (Nat.le_refl _) _ _ _ _ _ _ _ _ _) _⟩
      · have hne : ((3 : Int) == x) = false := by simp; omega
        go_wp2_with fail
        go_roundw
        case rel => exact ⟨3, by omega, by go_num, hide (fun j hj => by rcases Nat.lt_succ_iff_lt_or_eq.1 hj with h | rfl; exact HN.out j h; simpa using hx), hide (World.rowIs.alloc HZ.out _), hide (balloc HB.out _)⟩
        case measure => simp [intOf]
    · have hix : ∀ wx, (Instr.index 62 (.agg formsL.toArray) (.int .i64 3)).run Tryd.prog wx = .ok (.agg #[.int .i64 4, .string ⟨#[98, 117, 105, 108, 100]⟩, .int .i64 0, .int .i64 0, .int .i64 0, .int .i64 0, .int .i64 0, .int .i64 0, .bool false]) wx := fun wx => index_form 3 (by omega) wx
      by_cases hx : x = 4
      · subst hx
        clear HN
        go_wp2_with fail
        have R := World.rowIs.alloc (nine_set HZ.out (.int .i64 4) (.string ⟨#[98, 117, 105, 108, 100]⟩) (.int .i64 0) (.int .i64 0) (.int .i64 0) (.int .i64 0) (.int .i64 0) (.int .i64 0) (.bool false)) (.cells #[.int .i64 4, .string ⟨#[98, 117, 105, 108, 100]⟩, .int .i64 0, .int .i64 0, .int .i64 0, .int .i64 0, .int .i64 0, .int .i64 0, .bool false] 46)
        obtain ⟨_, s0, s1, s2, s3, s4, s5, s6, s7, s8, _⟩ := v9_facts R
        refine bodyPost_ret (v := .tuple #[.agg #[.int .i64 4, .string ⟨#[98, 117, 105, 108, 100]⟩, .int .i64 0, .int .i64 0, .int .i64 0, .int .i64 0, .int .i64 0, .int .i64 0, .bool false], .bool true]) ?_ rfl ?_
        · simp [results, Tryd.results23, go_sem, s0, s1, s2, s3, s4, s5, s6, s7, s8]
        · exact ⟨by rw [show kindN 4 = 3 from by decide, show kindB 4 = true from by decide]; rfl, balloc (below9 HB.out (Nat.le_refl _) _ _ _ _ _ _ _ _ _) _⟩
      · have hne : ((4 : Int) == x) = false := by simp; omega
        go_wp2_with fail
        go_roundw
        case rel => exact ⟨4, by omega, by go_num, hide (fun j hj => by rcases Nat.lt_succ_iff_lt_or_eq.1 hj with h | rfl; exact HN.out j h; simpa using hx), hide (World.rowIs.alloc HZ.out _), hide (balloc HB.out _)⟩
        case measure => simp [intOf]
    · have hix : ∀ wx, (Instr.index 62 (.agg formsL.toArray) (.int .i64 4)).run Tryd.prog wx = .ok (.agg #[.int .i64 5, .string ⟨#[116, 105, 99, 107]⟩, .int .i64 1, .int .i64 60, .int .i64 0, .int .i64 0, .int .i64 0, .int .i64 0, .bool false]) wx := fun wx => index_form 4 (by omega) wx
      by_cases hx : x = 5
      · subst hx
        clear HN
        go_wp2_with fail
        have R := World.rowIs.alloc (nine_set HZ.out (.int .i64 5) (.string ⟨#[116, 105, 99, 107]⟩) (.int .i64 1) (.int .i64 60) (.int .i64 0) (.int .i64 0) (.int .i64 0) (.int .i64 0) (.bool false)) (.cells #[.int .i64 5, .string ⟨#[116, 105, 99, 107]⟩, .int .i64 1, .int .i64 60, .int .i64 0, .int .i64 0, .int .i64 0, .int .i64 0, .bool false] 46)
        obtain ⟨_, s0, s1, s2, s3, s4, s5, s6, s7, s8, _⟩ := v9_facts R
        refine bodyPost_ret (v := .tuple #[.agg #[.int .i64 5, .string ⟨#[116, 105, 99, 107]⟩, .int .i64 1, .int .i64 60, .int .i64 0, .int .i64 0, .int .i64 0, .int .i64 0, .bool false], .bool true]) ?_ rfl ?_
        · simp [results, Tryd.results23, go_sem, s0, s1, s2, s3, s4, s5, s6, s7, s8]
        · exact ⟨by rw [show kindN 5 = 4 from by decide, show kindB 5 = true from by decide]; rfl, balloc (below9 HB.out (Nat.le_refl _) _ _ _ _ _ _ _ _ _) _⟩
      · have hne : ((5 : Int) == x) = false := by simp; omega
        go_wp2_with fail
        go_roundw
        case rel => exact ⟨5, by omega, by go_num, hide (fun j hj => by rcases Nat.lt_succ_iff_lt_or_eq.1 hj with h | rfl; exact HN.out j h; simpa using hx), hide (World.rowIs.alloc HZ.out _), hide (balloc HB.out _)⟩
        case measure => simp [intOf]
    · have hix : ∀ wx, (Instr.index 62 (.agg formsL.toArray) (.int .i64 5)).run Tryd.prog wx = .ok (.agg #[.int .i64 6, .string ⟨#[110, 101, 97, 114]⟩, .int .i64 1, .int .i64 20, .int .i64 0, .int .i64 255, .int .i64 0, .int .i64 1000, .bool true]) wx := fun wx => index_form 5 (by omega) wx
      by_cases hx : x = 6
      · subst hx
        clear HN
        go_wp2_with fail
        have R := World.rowIs.alloc (nine_set HZ.out (.int .i64 6) (.string ⟨#[110, 101, 97, 114]⟩) (.int .i64 1) (.int .i64 20) (.int .i64 0) (.int .i64 255) (.int .i64 0) (.int .i64 1000) (.bool true)) (.cells #[.int .i64 6, .string ⟨#[110, 101, 97, 114]⟩, .int .i64 1, .int .i64 20, .int .i64 0, .int .i64 255, .int .i64 0, .int .i64 1000, .bool true] 46)
        obtain ⟨_, s0, s1, s2, s3, s4, s5, s6, s7, s8, _⟩ := v9_facts R
        refine bodyPost_ret (v := .tuple #[.agg #[.int .i64 6, .string ⟨#[110, 101, 97, 114]⟩, .int .i64 1, .int .i64 20, .int .i64 0, .int .i64 255, .int .i64 0, .int .i64 1000, .bool true], .bool true]) ?_ rfl ?_
        · simp [results, Tryd.results23, go_sem, s0, s1, s2, s3, s4, s5, s6, s7, s8]
        · exact ⟨by rw [show kindN 6 = 5 from by decide, show kindB 6 = true from by decide]; rfl, balloc (below9 HB.out (Nat.le_refl _) _ _ _ _ _ _ _ _ _) _⟩
      · have hne : ((6 : Int) == x) = false := by simp; omega
        go_wp2_with fail
        go_roundw
        case rel => exact ⟨6, by omega, by go_num, hide (fun j hj => by rcases Nat.lt_succ_iff_lt_or_eq.1 hj with h | rfl; exact HN.out j h; simpa using hx), hide (World.rowIs.alloc HZ.out _), hide (balloc HB.out _)⟩
        case measure => simp [intOf]
    · have hix : ∀ wx, (Instr.index 62 (.agg formsL.toArray) (.int .i64 6)).run Tryd.prog wx = .ok (.agg #[.int .i64 7, .string ⟨#[119, 105, 116, 104, 105, 110]⟩, .int .i64 0, .int .i64 1125899906842624, .int .i64 0, .int .i64 255, .int .i64 0, .int .i64 1000, .bool true]) wx := fun wx => index_form 6 (by omega) wx
      by_cases hx : x = 7
      · subst hx
        clear HN
        go_wp2_with fail
        have R := World.rowIs.alloc (nine_set HZ.out (.int .i64 7) (.string ⟨#[119, 105, 116, 104, 105, 110]⟩) (.int .i64 0) (.int .i64 1125899906842624) (.int .i64 0) (.int .i64 255) (.int .i64 0) (.int .i64 1000) (.bool true)) (.cells #[.int .i64 7, .string ⟨#[119, 105, 116, 104, 105, 110]⟩, .int .i64 0, .int .i64 1125899906842624, .int .i64 0, .int .i64 255, .int .i64 0, .int .i64 1000, .bool true] 46)
        obtain ⟨_, s0, s1, s2, s3, s4, s5, s6, s7, s8, _⟩ := v9_facts R
        refine bodyPost_ret (v := .tuple #[.agg #[.int .i64 7, .string ⟨#[119, 105, 116, 104, 105, 110]⟩, .int .i64 0, .int .i64 1125899906842624, .int .i64 0, .int .i64 255, .int .i64 0, .int .i64 1000, .bool true], .bool true]) ?_ rfl ?_
        · simp [results, Tryd.results23, go_sem, s0, s1, s2, s3, s4, s5, s6, s7, s8]
        · exact ⟨by rw [show kindN 7 = 6 from by decide, show kindB 7 = true from by decide]; rfl, balloc (below9 HB.out (Nat.le_refl _) _ _ _ _ _ _ _ _ _) _⟩
      · have hne : ((7 : Int) == x) = false := by simp; omega
        go_wp2_with fail
        go_roundw
        case rel => exact ⟨7, by omega, by go_num, hide (fun j hj => by rcases Nat.lt_succ_iff_lt_or_eq.1 hj with h | rfl; exact HN.out j h; simpa using hx), hide (World.rowIs.alloc HZ.out _), hide (balloc HB.out _)⟩
        case measure => simp [intOf]
    · have nb : kindB x = false := decide_eq_false fun h => by
        have := HN.out (x - 1).toNat (by omega)
        omega
      have NB := hide nb
      clear nb
      go_wp2_with fail
      have R := nine_set HZ.out (.int .i64 0) (.string ⟨#[]⟩) (.int .i64 0) (.int .i64 0) (.int .i64 0) (.int .i64 0) (.int .i64 0) (.int .i64 0) (.bool false)
      obtain ⟨_, s0, s1, s2, s3, s4, s5, s6, s7, s8, _⟩ := v9_facts R
      exact bodyPost_ret (v := .tuple #[.agg #[.int .i64 0, .string ⟨#[]⟩, .int .i64 0, .int .i64 0, .int .i64 0, .int .i64 0, .int .i64 0, .int .i64 0, .bool false], .bool false]) (by simp [results, Tryd.results23, go_sem, s0, s1, s2, s3, s4, s5, s6, s7, s8]) rfl ⟨by unfold kindN; rw [NB.out]; rfl, below9 HB.out (Nat.le_refl _) _ _ _ _ _ _ _ _ _⟩
end Go.Proofs.YtlmiamohhmabhaaDoor
