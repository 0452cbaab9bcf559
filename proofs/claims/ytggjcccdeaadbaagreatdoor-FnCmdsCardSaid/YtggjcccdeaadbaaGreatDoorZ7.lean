/- The table of forms; formOf. -/
import Derived.Test.YtggjcccdeaadbaaGreatDoorZ4
import Derived.Deep.MidRow
import Derived.Test.YtggjcccdeaadbaaGreatDoorZ3
namespace Go.Proofs.YtggjcccdeaadbaaGreatDoor
open Go.RowKit
set_option maxRecDepth 8000
set_option linter.unusedSimpArgs false
set_option linter.unusedVariables false

/-- The table, cell by cell. -/
def formsL : List Value := [.int .i64 1, .string ⟨#[100, 105, 109]⟩, .int .i64 1, .int .i64 8, .int .i64 0, .int .i64 0, .int .i64 0, .int .i64 0, .bool false, .int .i64 2, .string ⟨#[112, 117, 116]⟩, .int .i64 1, .int .i64 9999, .int .i64 0, .int .i64 255, .int .i64 0, .int .i64 0, .bool true, .int .i64 3, .string ⟨#[100, 114, 111, 112]⟩, .int .i64 1, .int .i64 9999, .int .i64 0, .int .i64 0, .int .i64 0, .int .i64 0, .bool false, .int .i64 4, .string ⟨#[98, 117, 105, 108, 100]⟩, .int .i64 0, .int .i64 0, .int .i64 0, .int .i64 0, .int .i64 0, .int .i64 0, .bool false, .int .i64 5, .string ⟨#[116, 105, 99, 107]⟩, .int .i64 1, .int .i64 60, .int .i64 0, .int .i64 0, .int .i64 0, .int .i64 0, .bool false, .int .i64 6, .string ⟨#[110, 101, 97, 114]⟩, .int .i64 1, .int .i64 20, .int .i64 0, .int .i64 255, .int .i64 0, .int .i64 1000, .bool true, .int .i64 7, .string ⟨#[119, 105, 116, 104, 105, 110]⟩, .int .i64 0, .int .i64 1125899906842624, .int .i64 0, .int .i64 255, .int .i64 0, .int .i64 1000, .bool true]
def formR : Nat → Array Value
  | 0 => #[.int .i64 1, .string ⟨#[100, 105, 109]⟩, .int .i64 1, .int .i64 8, .int .i64 0, .int .i64 0, .int .i64 0, .int .i64 0, .bool false]
  | 1 => #[.int .i64 2, .string ⟨#[112, 117, 116]⟩, .int .i64 1, .int .i64 9999, .int .i64 0, .int .i64 255, .int .i64 0, .int .i64 0, .bool true]
  | 2 => #[.int .i64 3, .string ⟨#[100, 114, 111, 112]⟩, .int .i64 1, .int .i64 9999, .int .i64 0, .int .i64 0, .int .i64 0, .int .i64 0, .bool false]
  | 3 => #[.int .i64 4, .string ⟨#[98, 117, 105, 108, 100]⟩, .int .i64 0, .int .i64 0, .int .i64 0, .int .i64 0, .int .i64 0, .int .i64 0, .bool false]
  | 4 => #[.int .i64 5, .string ⟨#[116, 105, 99, 107]⟩, .int .i64 1, .int .i64 60, .int .i64 0, .int .i64 0, .int .i64 0, .int .i64 0, .bool false]
  | 5 => #[.int .i64 6, .string ⟨#[110, 101, 97, 114]⟩, .int .i64 1, .int .i64 20, .int .i64 0, .int .i64 255, .int .i64 0, .int .i64 1000, .bool true]
  | 6 => #[.int .i64 7, .string ⟨#[119, 105, 116, 104, 105, 110]⟩, .int .i64 0, .int .i64 1125899906842624, .int .i64 0, .int .i64 255, .int .i64 0, .int .i64 1000, .bool true]
  | _ => #[.int .i64 0, .string ⟨#[]⟩, .int .i64 0, .int .i64 0, .int .i64 0, .int .i64 0, .int .i64 0, .int .i64 0, .bool false]
structure Forms (w : World) : Prop where
  lt : 0 < w.heap.size
  cell : ∀ j v, formsL[j]? = some v → w.cell? ⟨0, j, none⟩ = some v

theorem Forms.below {w w' : World} (h : Forms w) (hb : Below w.heap.size w w') : Forms w' :=
  ⟨Nat.lt_of_lt_of_le h.lt hb.size, fun j v hj => (hb.cell (p := ⟨0, j, none⟩) h.lt).trans (h.cell j v hj)⟩
def kindB (x : Int) : Bool := decide (1 ≤ x ∧ x ≤ 7)
def kindN (x : Int) : Nat := if kindB x then (x - 1).toNat else 7
def v9 (a0 a1 a2 a3 a4 a5 a6 a7 a8 : Value) (j : Nat) : Value := if j = 0 then a0 else if j = 1 then a1 else if j = 2 then a2 else if j = 3 then a3 else if j = 4 then a4 else if j = 5 then a5 else if j = 6 then a6 else if j = 7 then a7 else a8

theorem v9_new (w : World) (a0 a1 a2 a3 a4 a5 a6 a7 a8 : Value) (T : TypeId) : (w.alloc (.cells #[a0, a1, a2, a3, a4, a5, a6, a7, a8] T)).rowIs w.heap.size T 9 (v9 a0 a1 a2 a3 a4 a5 a6 a7 a8) :=
  World.rowIs_alloc w #[a0, a1, a2, a3, a4, a5, a6, a7, a8] T (v9 a0 a1 a2 a3 a4 a5 a6 a7 a8) (by intro i hi; rcases (show i = 0 ∨ i = 1 ∨ i = 2 ∨ i = 3 ∨ i = 4 ∨ i = 5 ∨ i = 6 ∨ i = 7 ∨ i = 8 from by simp at hi; omega) with rfl | rfl | rfl | rfl | rfl | rfl | rfl | rfl | rfl <;> rfl)

theorem nine_set {w : World} {T : TypeId} {b : Nat} {F : Nat → Value} (h : w.rowIs b T 9 F) (x0 x1 x2 x3 x4 x5 x6 x7 x8 : Value) :
    (((((((((w.setCell ⟨b, 0, none⟩ x0).setCell ⟨b, 1, none⟩ x1).setCell ⟨b, 2, none⟩ x2).setCell ⟨b, 3, none⟩ x3).setCell ⟨b, 4, none⟩ x4).setCell ⟨b, 5, none⟩ x5).setCell ⟨b, 6, none⟩ x6).setCell ⟨b, 7, none⟩ x7).setCell ⟨b, 8, none⟩ x8).rowIs b T 9 (v9 x0 x1 x2 x3 x4 x5 x6 x7 x8) := by
  refine ((World.rowIs.set (World.rowIs.set (World.rowIs.set (World.rowIs.set (World.rowIs.set (World.rowIs.set (World.rowIs.set (World.rowIs.set (World.rowIs.set h 0 x0) 1 x1) 2 x2) 3 x3) 4 x4) 5 x5) 6 x6) 7 x7) 8 x8)).congr fun j hj => ?_
  rcases (show j = 0 ∨ j = 1 ∨ j = 2 ∨ j = 3 ∨ j = 4 ∨ j = 5 ∨ j = 6 ∨ j = 7 ∨ j = 8 from by omega) with rfl | rfl | rfl | rfl | rfl | rfl | rfl | rfl | rfl <;> rfl

theorem v9_facts {w : World} {T : TypeId} {b : Nat} {a0 a1 a2 a3 a4 a5 a6 a7 a8 : Value} (h : w.rowIs b T 9 (v9 a0 a1 a2 a3 a4 a5 a6 a7 a8)) :
    b < w.heap.size ∧ w.cell? ⟨b, 0, none⟩ = some a0 ∧ w.cell? ⟨b, 1, none⟩ = some a1 ∧ w.cell? ⟨b, 2, none⟩ = some a2 ∧ w.cell? ⟨b, 3, none⟩ = some a3 ∧ w.cell? ⟨b, 4, none⟩ = some a4 ∧ w.cell? ⟨b, 5, none⟩ = some a5 ∧ w.cell? ⟨b, 6, none⟩ = some a6 ∧ w.cell? ⟨b, 7, none⟩ = some a7 ∧ w.cell? ⟨b, 8, none⟩ = some a8 ∧ w.frozen? ⟨b, 0, none⟩ = false ∧ w.frozen? ⟨b, 1, none⟩ = false ∧ w.frozen? ⟨b, 2, none⟩ = false ∧ w.frozen? ⟨b, 3, none⟩ = false ∧ w.frozen? ⟨b, 4, none⟩ = false ∧ w.frozen? ⟨b, 5, none⟩ = false ∧ w.frozen? ⟨b, 6, none⟩ = false ∧ w.frozen? ⟨b, 7, none⟩ = false ∧ w.frozen? ⟨b, 8, none⟩ = false :=
  ⟨World.rowIs.lt h, World.rowIs.cell h (show 0 < 9 by omega), World.rowIs.cell h (show 1 < 9 by omega), World.rowIs.cell h (show 2 < 9 by omega), World.rowIs.cell h (show 3 < 9 by omega), World.rowIs.cell h (show 4 < 9 by omega), World.rowIs.cell h (show 5 < 9 by omega), World.rowIs.cell h (show 6 < 9 by omega), World.rowIs.cell h (show 7 < 9 by omega), World.rowIs.cell h (show 8 < 9 by omega), World.rowIs.frozen h 0, World.rowIs.frozen h 1, World.rowIs.frozen h 2, World.rowIs.frozen h 3, World.rowIs.frozen h 4, World.rowIs.frozen h 5, World.rowIs.frozen h 6, World.rowIs.frozen h 7, World.rowIs.frozen h 8⟩

theorem below9 {w0 w : World} {B b : Nat} (h : Below B w0 w) (hb : B ≤ b) (x0 x1 x2 x3 x4 x5 x6 x7 x8 : Value) : Below B w0 (((((((((w.setCell ⟨b, 0, none⟩ x0).setCell ⟨b, 1, none⟩ x1).setCell ⟨b, 2, none⟩ x2).setCell ⟨b, 3, none⟩ x3).setCell ⟨b, 4, none⟩ x4).setCell ⟨b, 5, none⟩ x5).setCell ⟨b, 6, none⟩ x6).setCell ⟨b, 7, none⟩ x7).setCell ⟨b, 8, none⟩ x8) :=
  ((((((((h.setCell hb _).setCell hb _).setCell hb _).setCell hb _).setCell hb _).setCell hb _).setCell hb _).setCell hb _).setCell hb _

set_option maxHeartbeats 2000000 in
set_option maxRecDepth 8000 in
theorem index_form (k : Nat) (hk : k < 7) (w : World) : (Instr.index 50 (.agg formsL.toArray) (.int .i64 (k : Int))).run Tryz.prog w = .ok (.agg (formR k)) w := by
  have u1 := Tryz.underlying50
  have u2 := Tryz.underlying38
  have s2 := Tryz.sizeOf38
  rcases (show k = 0 ∨ k = 1 ∨ k = 2 ∨ k = 3 ∨ k = 4 ∨ k = 5 ∨ k = 6 from by omega) with rfl | rfl | rfl | rfl | rfl | rfl | rfl
  all_goals
    simp [Instr.index, go_sem, part]
    try rfl

set_option maxHeartbeats 8000000 in
set_option maxRecDepth 8000 in
theorem formOf_any (x : Int) (w : World) (F : Forms w) :
    Calls Tryz.prog 15 #[.int .i64 x] w fun e w' => e = .returned (.tuple #[.agg (formR (kindN x)), .bool (kindB x)]) ∧ Below w.heap.size w w' := by
  have Z0 : Hid ((w.alloc (.cells (formR 7) 38)).rowIs w.heap.size 38 9 (v9 (.int .i64 0) (.string ⟨#[]⟩) (.int .i64 0) (.int .i64 0) (.int .i64 0) (.int .i64 0) (.int .i64 0) (.int .i64 0) (.bool false))) := hide (v9_new w _ _ _ _ _ _ _ _ _ _)
  have B0 : Hid (Below w.heap.size w (w.alloc (.cells (formR 7) 38))) := hide (balloc (Below.refl _ _) _)
  have F0 := hide (F.below B0.out)
  have HF : Hid (World.rangeAt (w.alloc (.cells (formR 7) 38)) 0 0 formsL) := hide (fun j v hj => by rw [Nat.zero_add]; exact F0.out.cell j v hj)
  clear F
  go_enter Tryz.func15, Tryz.ntmps15
  go_wp2_with (refine wpList_load_mid rfl 50 (.global 0) rfl 0 0 rfl formsL _ HF.out Tryz.underlying50 rfl (by kernel_rfl) ?_)
  clear HF F0
  go_loopw [5, 7] (fun _ i wr => ∃ k : Nat, k ≤ 7 ∧ i = .int .i64 k ∧ Hid (∀ j : Nat, j < k → x ≠ (j : Int) + 1) ∧ Hid (wr.rowIs w.heap.size 38 9 (v9 (.int .i64 0) (.string ⟨#[]⟩) (.int .i64 0) (.int .i64 0) (.int .i64 0) (.int .i64 0) (.int .i64 0) (.int .i64 0) (.bool false))) ∧ Hid (Below w.heap.size w wr)) (fun _ i _ => 7 - (intOf i).toNat)
  case atStart => exact ⟨0, by omega, rfl, hide (fun j hj => absurd hj (by omega)), Z0, B0⟩
  case round =>
    obtain ⟨k, hk, rfl, HN, HZ, HB⟩ := hrel
    clear Z0 B0
    obtain ⟨lz, z0, z1, z2, z3, z4, z5, z6, z7, z8, f0, f1, f2, f3, f4, f5, f6, f7, f8⟩ := v9_facts HZ.out
    rcases (show k = 0 ∨ k = 1 ∨ k = 2 ∨ k = 3 ∨ k = 4 ∨ k = 5 ∨ k = 6 ∨ k = 7 from by omega) with rfl | rfl | rfl | rfl | rfl | rfl | rfl | rfl
    · have hix : ∀ wx, (Instr.index 50 (.agg formsL.toArray) (.int .i64 0)).run Tryz.prog wx = .ok (.agg #[.int .i64 1, .string ⟨#[100, 105, 109]⟩, .int .i64 1, .int .i64 8, .int .i64 0, .int .i64 0, .int .i64 0, .int .i64 0, .bool false]) wx := fun wx => index_form 0 (by omega) wx
      by_cases hx : x = 1
      · subst hx
        clear HN
        go_wp2_with fail
        have R := World.rowIs.alloc (nine_set HZ.out (.int .i64 1) (.string ⟨#[100, 105, 109]⟩) (.int .i64 1) (.int .i64 8) (.int .i64 0) (.int .i64 0) (.int .i64 0) (.int .i64 0) (.bool false)) (.cells #[.int .i64 1, .string ⟨#[100, 105, 109]⟩, .int .i64 1, .int .i64 8, .int .i64 0, .int .i64 0, .int .i64 0, .int .i64 0, .bool false] 38)
        obtain ⟨_, s0, s1, s2, s3, s4, s5, s6, s7, s8, _⟩ := v9_facts R
        refine bodyPost_ret (v := .tuple #[.agg #[.int .i64 1, .string ⟨#[100, 105, 109]⟩, .int .i64 1, .int .i64 8, .int .i64 0, .int .i64 0, .int .i64 0, .int .i64 0, .bool false], .bool true]) ?_ rfl ?_
        · simp [results, Tryz.results15, go_sem, s0, s1, s2, s3, s4, s5, s6, s7, s8]
        · exact ⟨by rw [show kindN 1 = 0 from by decide, show kindB 1 = true from by decide]; rfl, balloc (below9 HB.out (Nat.le_refl _) _ _ _ _ _ _ _ _ _) _⟩
      · have hne : ((1 : Int) == x) = false := by simp; omega
        go_wp2_with fail
        go_roundw
        case rel => exact ⟨1, by omega, by go_num, hide (fun j hj => by rcases Nat.lt_succ_iff_lt_or_eq.1 hj with h | rfl; exact HN.out j h; simpa using hx), hide (World.rowIs.alloc HZ.out _), hide (balloc HB.out _)⟩
        case measure => simp [intOf]
    · have hix : ∀ wx, (Instr.index 50 (.agg formsL.toArray) (.int .i64 1)).run Tryz.prog wx = .ok (.agg #[.int .i64 2, .string ⟨#[112, 117, 116]⟩, .int .i64 1, .int .i64 9999, .int .i64 0, .int .i64 255, .int .i64 0, .int .i64 0, .bool true]) wx := fun wx => index_form 1 (by omega) wx
      by_cases hx : x = 2
      · subst hx
        clear HN
        go_wp2_with fail
        have R := World.rowIs.alloc (nine_set HZ.out (.int .i64 2) (.string ⟨#[112, 117, 116]⟩) (.int .i64 1) (.int .i64 9999) (.int .i64 0) (.int .i64 255) (.int .i64 0) (.int .i64 0) (.bool true)) (.cells #[.int .i64 2, .string ⟨#[112, 117, 116]⟩, .int .i64 1, .int .i64 9999, .int .i64 0, .int .i64 255, .int .i64 0, .int .i64 0, .bool true] 38)
        obtain ⟨_, s0, s1, s2, s3, s4, s5, s6, s7, s8, _⟩ := v9_facts R
        refine bodyPost_ret (v := .tuple #[.agg #[.int .i64 2, .string ⟨#[112, 117, 116]⟩, .int .i64 1, .int .i64 9999, .int .i64 0, .int .i64 255, .int .i64 0, .int .i64 0, .bool true], .bool true]) ?_ rfl ?_
        · simp [results, Tryz.results15, go_sem, s0, s1, s2, s3, s4, s5, s6, s7, s8]
        · exact ⟨by rw [show kindN 2 = 1 from by decide, show kindB 2 = true from by decide]; rfl, balloc (below9 HB.out (Nat.le_refl _) _ _ _ _ _ _ _ _ _) _⟩
      · have hne : ((2 : Int) == x) = false := by simp; omega
        go_wp2_with fail
        go_roundw
        case rel => exact ⟨2, by omega, by go_num, hide (fun j hj => by rcases Nat.lt_succ_iff_lt_or_eq.1 hj with h | rfl; exact HN.out j h; simpa using hx), hide (World.rowIs.alloc HZ.out _), hide (balloc HB.out _)⟩
        case measure => simp [intOf]
    · have hix : ∀ wx, (Instr.index 50 (.agg formsL.toArray) (.int .i64 2)).run Tryz.prog wx = .ok (.agg #[.int .i64 3, .string ⟨#[100, 114, 111, 112]⟩, .int .i64 1, .int .i64 9999, .int .i64 0, .int .i64 0, .int .i64 0, .int .i64 0, .bool false]) wx := fun wx => index_form 2 (by omega) wx
      by_cases hx : x = 3
      · subst hx
        clear HN
        go_wp2_with fail
        have R := World.rowIs.alloc (nine_set HZ.out (.int .i64 3) (.string ⟨#[100, 114, 111, 112]⟩) (.int .i64 1) (.int .i64 9999) (.int .i64 0) (.int .i64 0) (.int .i64 0) (.int .i64 0) (.bool false)) (.cells #[.int .i64 3, .string ⟨#[100, 114, 111, 112]⟩, .int .i64 1, .int .i64 9999, .int .i64 0, .int .i64 0, .int .i64 0, .int .i64 0, .bool false] 38)
        obtain ⟨_, s0, s1, s2, s3, s4, s5, s6, s7, s8, _⟩ := v9_facts R
        refine bodyPost_ret (v := .tuple #[.agg #[.int .i64 3, .string ⟨#[100, 114, 111, 112]⟩, .int .i64 1, .int .i64 9999, .int .i64 0, .int .i64 0, .int .i64 0, .int .i64 0, .bool false], .bool true]) ?_ rfl ?_
        · simp [results, Tryz.results15, go_sem, s0, s1, s2, s3, s4, s5, s6, s7, s8]
        · exact ⟨by rw [show kindN 3 = 2 from by decide, show kindB 3 = true from by decide]; rfl, balloc (below9 HB.out (Nat.le_refl _) _ _ _ _ _ _ _ _ _) _⟩
      · have hne : ((3 : Int) == x) = false := by simp; omega
        go_wp2_with fail
        go_roundw
        case rel => exact ⟨3, by omega, by go_num, hide (fun j hj => by rcases Nat.lt_succ_iff_lt_or_eq.1 hj with h | rfl; exact HN.out j h; simpa using hx), hide (World.rowIs.alloc HZ.out _), hide (balloc HB.out _)⟩
        case measure => simp [intOf]
    · have hix : ∀ wx, (Instr.index 50 (.agg formsL.toArray) (.int .i64 3)).run Tryz.prog wx = .ok (.agg #[.int .i64 4, .string ⟨#[98, 117, 105, 108, 100]⟩, .int .i64 0, .int .i64 0, .int .i64 0, .int .i64 0, .int .i64 0, .int .i64 0, .bool false]) wx := fun wx => index_form 3 (by omega) wx
      by_cases hx : x = 4
      · subst hx
        clear HN
        go_wp2_with fail
        have R := World.rowIs.alloc (nine_set HZ.out (.int .i64 4) (.string ⟨#[98, 117, 105, 108, 100]⟩) (.int .i64 0) (.int .i64 0) (.int .i64 0) (.int .i64 0) (.int .i64 0) (.int .i64 0) (.bool false)) (.cells #[.int .i64 4, .string ⟨#[98, 117, 105, 108, 100]⟩, .int .i64 0, .int .i64 0, .int .i64 0, .int .i64 0, .int .i64 0, .int .i64 0, .bool false] 38)
        obtain ⟨_, s0, s1, s2, s3, s4, s5, s6, s7, s8, _⟩ := v9_facts R
        refine bodyPost_ret (v := .tuple #[.agg #[.int .i64 4, .string ⟨#[98, 117, 105, 108, 100]⟩, .int .i64 0, .int .i64 0, .int .i64 0, .int .i64 0, .int .i64 0, .int .i64 0, .bool false], .bool true]) ?_ rfl ?_
        · simp [results, Tryz.results15, go_sem, s0, s1, s2, s3, s4, s5, s6, s7, s8]
        · exact ⟨by rw [show kindN 4 = 3 from by decide, show kindB 4 = true from by decide]; rfl, balloc (below9 HB.out (Nat.le_refl _) _ _ _ _ _ _ _ _ _) _⟩
      · have hne : ((4 : Int) == x) = false := by simp; omega
        go_wp2_with fail
        go_roundw
        case rel => exact ⟨4, by omega, by go_num, hide (fun j hj => by rcases Nat.lt_succ_iff_lt_or_eq.1 hj with h | rfl; exact HN.out j h; simpa using hx), hide (World.rowIs.alloc HZ.out _), hide (balloc HB.out _)⟩
        case measure => simp [intOf]
    · have hix : ∀ wx, (Instr.index 50 (.agg formsL.toArray) (.int .i64 4)).run Tryz.prog wx = .ok (.agg #[.int .i64 5, .string ⟨#[116, 105, 99, 107]⟩, .int .i64 1, .int .i64 60, .int .i64 0, .int .i64 0, .int .i64 0, .int .i64 0, .bool false]) wx := fun wx => index_form 4 (by omega) wx
      by_cases hx : x = 5
      · subst hx
        clear HN
        go_wp2_with fail
        have R := World.rowIs.alloc (nine_set HZ.out (.int .i64 5) (.string ⟨#[116, 105, 99, 107]⟩) (.int .i64 1) (.int .i64 60) (.int .i64 0) (.int .i64 0) (.int .i64 0) (.int .i64 0) (.bool false)) (.cells #[.int .i64 5, .string ⟨#[116, 105, 99, 107]⟩, .int .i64 1, .int .i64 60, .int .i64 0, .int .i64 0, .int .i64 0, .int .i64 0, .bool false] 38)
        obtain ⟨_, s0, s1, s2, s3, s4, s5, s6, s7, s8, _⟩ := v9_facts R
        refine bodyPost_ret (v := .tuple #[.agg #[.int .i64 5, .string ⟨#[116, 105, 99, 107]⟩, .int .i64 1, .int .i64 60, .int .i64 0, .int .i64 0, .int .i64 0, .int .i64 0, .bool false], .bool true]) ?_ rfl ?_
        · simp [results, Tryz.results15, go_sem, s0, s1, s2, s3, s4, s5, s6, s7, s8]
        · exact ⟨by rw [show kindN 5 = 4 from by decide, show kindB 5 = true from by decide]; rfl, balloc (below9 HB.out (Nat.le_refl _) _ _ _ _ _ _ _ _ _) _⟩
      · have hne : ((5 : Int) == x) = false := by simp; omega
        go_wp2_with fail
        go_roundw
        case rel => exact ⟨5, by omega, by go_num, hide (fun j hj => by rcases Nat.lt_succ_iff_lt_or_eq.1 hj with h | rfl; exact HN.out j h; simpa using hx), hide (World.rowIs.alloc HZ.out _), hide (balloc HB.out _)⟩
        case measure => simp [intOf]
    · have hix : ∀ wx, (Instr.index 50 (.agg formsL.toArray) (.int .i64 5)).run Tryz.prog wx = .ok (.agg #[.int .i64 6, .string ⟨#[110, 101, 97, 114]⟩, .int .i64 1, .int .i64 20, .int .i64 0, .int .i64 255, .int .i64 0, .int .i64 1000, .bool true]) wx := fun wx => index_form 5 (by omega) wx
      by_cases hx : x = 6
      · subst hx
        clear HN
        go_wp2_with fail
        have R := World.rowIs.alloc (nine_set HZ.out (.int .i64 6) (.string ⟨#[110, 101, 97, 114]⟩) (.int .i64 1) (.int .i64 20) (.int .i64 0) (.int .i64 255) (.int .i64 0) (.int .i64 1000) (.bool true)) (.cells #[.int .i64 6, .string ⟨#[110, 101, 97, 114]⟩, .int .i64 1, .int .i64 20, .int .i64 0, .int .i64 255, .int .i64 0, .int .i64 1000, .bool true] 38)
        obtain ⟨_, s0, s1, s2, s3, s4, s5, s6, s7, s8, _⟩ := v9_facts R
        refine bodyPost_ret (v := .tuple #[.agg #[.int .i64 6, .string ⟨#[110, 101, 97, 114]⟩, .int .i64 1, .int .i64 20, .int .i64 0, .int .i64 255, .int .i64 0, .int .i64 1000, .bool true], .bool true]) ?_ rfl ?_
        · simp [results, Tryz.results15, go_sem, s0, s1, s2, s3, s4, s5, s6, s7, s8]
        · exact ⟨by rw [show kindN 6 = 5 from by decide, show kindB 6 = true from by decide]; rfl, balloc (below9 HB.out (Nat.le_refl _) _ _ _ _ _ _ _ _ _) _⟩
      · have hne : ((6 : Int) == x) = false := by simp; omega
        go_wp2_with fail
        go_roundw
        case rel => exact ⟨6, by omega, by go_num, hide (fun j hj => by rcases Nat.lt_succ_iff_lt_or_eq.1 hj with h | rfl; exact HN.out j h; simpa using hx), hide (World.rowIs.alloc HZ.out _), hide (balloc HB.out _)⟩
        case measure => simp [intOf]
    · have hix : ∀ wx, (Instr.index 50 (.agg formsL.toArray) (.int .i64 6)).run Tryz.prog wx = .ok (.agg #[.int .i64 7, .string ⟨#[119, 105, 116, 104, 105, 110]⟩, .int .i64 0, .int .i64 1125899906842624, .int .i64 0, .int .i64 255, .int .i64 0, .int .i64 1000, .bool true]) wx := fun wx => index_form 6 (by omega) wx
      by_cases hx : x = 7
      · subst hx
        clear HN
        go_wp2_with fail
        have R := World.rowIs.alloc (nine_set HZ.out (.int .i64 7) (.string ⟨#[119, 105, 116, 104, 105, 110]⟩) (.int .i64 0) (.int .i64 1125899906842624) (.int .i64 0) (.int .i64 255) (.int .i64 0) (.int .i64 1000) (.bool true)) (.cells #[.int .i64 7, .string ⟨#[119, 105, 116, 104, 105, 110]⟩, .int .i64 0, .int .i64 1125899906842624, .int .i64 0, .int .i64 255, .int .i64 0, .int .i64 1000, .bool true] 38)
        obtain ⟨_, s0, s1, s2, s3, s4, s5, s6, s7, s8, _⟩ := v9_facts R
        refine bodyPost_ret (v := .tuple #[.agg #[.int .i64 7, .string ⟨#[119, 105, 116, 104, 105, 110]⟩, .int .i64 0, .int .i64 1125899906842624, .int .i64 0, .int .i64 255, .int .i64 0, .int .i64 1000, .bool true], .bool true]) ?_ rfl ?_
        · simp [results, Tryz.results15, go_sem, s0, s1, s2, s3, s4, s5, s6, s7, s8]
        · exact ⟨by rw [show kindN 7 = 6 from by decide, show kindB 7 = true from by decide]; rfl, balloc (below9 HB.out (Nat.le_refl _) _ _ _ _ _ _ _ _ _) _⟩
      · have hne : ((7 : Int) == x) = false := by simp; omega
        go_wp2_with fail
        go_roundw
        case rel => exact ⟨7, by omega, by go_num, hide (fun j hj => by rcases Nat.lt_succ_iff_lt_or_eq.1 hj with h | rfl; exact HN.out j h; simpa using hx), hide (World.rowIs.alloc HZ.out _), hide (balloc HB.out _)⟩
        case measure => simp [intOf]
    · have nb : kindB x = false := decide_eq_false fun h => by
        have := HN.out (x - 1).toNat (by omega)
        omega
      have NB := hide nb
      clear nb
      go_wp2_with fail
      have R := nine_set HZ.out (.int .i64 0) (.string ⟨#[]⟩) (.int .i64 0) (.int .i64 0) (.int .i64 0) (.int .i64 0) (.int .i64 0) (.int .i64 0) (.bool false)
      obtain ⟨_, s0, s1, s2, s3, s4, s5, s6, s7, s8, _⟩ := v9_facts R
      exact bodyPost_ret (v := .tuple #[.agg #[.int .i64 0, .string ⟨#[]⟩, .int .i64 0, .int .i64 0, .int .i64 0, .int .i64 0, .int .i64 0, .int .i64 0, .bool false], .bool false]) (by simp [results, Tryz.results15, go_sem, s0, s1, s2, s3, s4, s5, s6, s7, s8]) rfl ⟨by unfold kindN; rw [NB.out]; rfl, below9 HB.out (Nat.le_refl _) _ _ _ _ _ _ _ _ _⟩
end Go.Proofs.YtggjcccdeaadbaaGreatDoor

/- numbers, has, fits of the program; CmdOk. -/
namespace Go.Proofs.YtggjcccdeaadbaaGreatDoor
open Go.RowKit
set_option maxRecDepth 8000
set_option linter.unusedSimpArgs false
set_option linter.unusedVariables false

def v5 (a0 a1 a2 a3 a4 : Value) (j : Nat) : Value := if j = 0 then a0 else if j = 1 then a1 else if j = 2 then a2 else if j = 3 then a3 else a4

theorem v5_new (w : World) (a0 a1 a2 a3 a4 : Value) (T : TypeId) : (w.alloc (.cells #[a0, a1, a2, a3, a4] T)).rowIs w.heap.size T 5 (v5 a0 a1 a2 a3 a4) :=
  World.rowIs_alloc w #[a0, a1, a2, a3, a4] T (v5 a0 a1 a2 a3 a4) (by intro i hi; rcases (show i = 0 ∨ i = 1 ∨ i = 2 ∨ i = 3 ∨ i = 4 from by simp at hi; omega) with rfl | rfl | rfl | rfl | rfl <;> rfl)

theorem v5_facts {w : World} {q : Nat} {T : TypeId} {a0 a1 a2 a3 a4 : Value} (h : w.rowIs q T 5 (v5 a0 a1 a2 a3 a4)) :
    q < w.heap.size ∧ w.cell? ⟨q, 0, none⟩ = some a0 ∧ w.cell? ⟨q, 1, none⟩ = some a1 ∧ w.cell? ⟨q, 2, none⟩ = some a2 ∧ w.cell? ⟨q, 3, none⟩ = some a3 ∧ w.cell? ⟨q, 4, none⟩ = some a4 ∧ w.frozen? ⟨q, 0, none⟩ = false ∧ w.frozen? ⟨q, 1, none⟩ = false ∧ w.frozen? ⟨q, 2, none⟩ = false ∧ w.frozen? ⟨q, 3, none⟩ = false ∧ w.frozen? ⟨q, 4, none⟩ = false :=
  ⟨World.rowIs.lt h, World.rowIs.cell h (show 0 < 5 by omega), World.rowIs.cell h (show 1 < 5 by omega), World.rowIs.cell h (show 2 < 5 by omega), World.rowIs.cell h (show 3 < 5 by omega), World.rowIs.cell h (show 4 < 5 by omega), World.rowIs.frozen h 0, World.rowIs.frozen h 1, World.rowIs.frozen h 2, World.rowIs.frozen h 3, World.rowIs.frozen h 4⟩

theorem row_belowC {w w' : World} {q n : Nat} {T : TypeId} {F : Nat → Value} (h : w.rowIs q T n F) (hb : Below w.heap.size w w') : w'.rowIs q T n F := h.of_block (hb.block _ (World.rowIs.lt h))

set_option maxHeartbeats 1000000 in
theorem has_any (p q x : Int) (w : World) :
    Calls Tryz.prog 38 #[.agg #[.int .i64 p, .int .i64 q], .int .i64 x] w fun e w' => e = .returned (.bool (decide (p ≤ x) && decide (x ≤ q))) ∧ Below w.heap.size w w' := by
  by_cases h1 : p ≤ x
  · rw [decide_eq_true h1]
    by_cases h2 : x ≤ q
    · rw [decide_eq_true h2]
      go_enter Tryz.func38, Tryz.ntmps38
      go_wp2_with fail
      go_ret
      exact ⟨rfl, (by repeat' first | with_reducible exact Below.refl _ _ | with_reducible assumption | with_reducible refine below_drewN ?_ _ | with_reducible refine balloc ?_ _ | with_reducible refine Below.drew ?_ | with_reducible refine Below.setCell ?_ (by first | (simp; done) | (simp; omega) | omega) _ | with_reducible refine bstep ?_ (by assumption))⟩
    · rw [decide_eq_false h2]
      go_enter Tryz.func38, Tryz.ntmps38
      go_wp2_with fail
      go_ret
      exact ⟨rfl, (by repeat' first | with_reducible exact Below.refl _ _ | with_reducible assumption | with_reducible refine below_drewN ?_ _ | with_reducible refine balloc ?_ _ | with_reducible refine Below.drew ?_ | with_reducible refine Below.setCell ?_ (by first | (simp; done) | (simp; omega) | omega) _ | with_reducible refine bstep ?_ (by assumption))⟩
  · rw [decide_eq_false h1]
    go_enter Tryz.func38, Tryz.ntmps38
    go_wp2_with fail
    go_ret
    exact ⟨rfl, (by repeat' first | with_reducible exact Below.refl _ _ | with_reducible assumption | with_reducible refine below_drewN ?_ _ | with_reducible refine balloc ?_ _ | with_reducible refine Below.drew ?_ | with_reducible refine Below.setCell ?_ (by first | (simp; done) | (simp; omega) | omega) _ | with_reducible refine bstep ?_ (by assumption))⟩

set_option maxHeartbeats 2000000 in
theorem numbers_any (k a b c : Int) (v : Value) (w : World) (va : Option Addr) (vn vc : Nat) (hv : v = .slice va vn vc) :
    Calls Tryz.prog 37 #[.agg #[.int .i64 k, .int .i64 a, .int .i64 b, .int .i64 c, v]] w fun e w' => e = .returned (.agg #[.int .i64 a, .int .i64 b, .int .i64 c]) ∧ Below w.heap.size w w' := by
  subst hv
  go_enter Tryz.func37, Tryz.ntmps37
  go_wp2_with fail
  refine bodyPost_ret (v := .agg #[.int .i64 a, .int .i64 b, .int .i64 c]) (by simp [results, Tryz.results37, go_sem]) rfl ⟨rfl, (by repeat' first | with_reducible exact Below.refl _ _ | with_reducible assumption | with_reducible refine below_drewN ?_ _ | with_reducible refine balloc ?_ _ | with_reducible refine Below.drew ?_ | with_reducible refine Below.setCell ?_ (by first | (simp; done) | (simp; omega) | omega) _ | with_reducible refine bstep ?_ (by assumption))⟩
/-- Whether a command's numbers and vector are what a form asks. -/
def fitsB (p0 q0 p1 q1 p2 q2 : Int) (fv : Bool) (a b c : Int) (vn : Nat) (xs : List Int) : Bool :=
  (decide (p0 ≤ a) && decide (a ≤ q0)) && ((decide (p1 ≤ b) && decide (b ≤ q1)) && ((decide (p2 ≤ c) && decide (c ≤ q2)) && (if fv then vecOkB xs else decide (vn = 0))))

theorem index3 (a b c : Int) (w : World) : (Instr.index 66 (.agg #[.int .i64 a, .int .i64 b, .int .i64 c]) (.int .i64 0)).run Tryz.prog w = .ok (.int .i64 a) w ∧ (Instr.index 66 (.agg #[.int .i64 a, .int .i64 b, .int .i64 c]) (.int .i64 1)).run Tryz.prog w = .ok (.int .i64 b) w ∧ (Instr.index 66 (.agg #[.int .i64 a, .int .i64 b, .int .i64 c]) (.int .i64 2)).run Tryz.prog w = .ok (.int .i64 c) w := by
  have u1 := Tryz.underlying66
  have u2 := Tryz.underlying2
  have s2 := Tryz.sizeOf2
  have k2 := Tryz.isAgg2
  refine ⟨?_, ?_, ?_⟩ <;> (simp [Instr.index, go_sem, part])
structure FitB (w0 w : World) (F G : Nat → Value) : Prop where
  one : w.rowIs w0.heap.size 38 9 F
  two : w.rowIs (w0.heap.size + 1) 26 5 G
  bel : Below w0.heap.size w0 w

theorem FitB.below {w0 w w' : World} {F G : Nat → Value} (h : FitB w0 w F G) (hb : Below w.heap.size w w') : FitB w0 w' F G := ⟨row_belowC h.one hb, row_belowC h.two hb, bstep h.bel hb⟩

set_option maxHeartbeats 8000000 in
set_option maxRecDepth 4000 in
theorem fits_any (fk : Int) (fn : ByteArray) (p0 q0 p1 q1 p2 q2 : Int) (fv : Bool) (k a b c : Int) (va : Option Addr) (vn vc : Nat) (xs : List Int) (w : World) (rv : Row w va vn xs) (hn : vn ≤ 1048576) :
    Calls Tryz.prog 16 #[.agg #[.int .i64 fk, .string fn, .int .i64 p0, .int .i64 q0, .int .i64 p1, .int .i64 q1, .int .i64 p2, .int .i64 q2, .bool fv], .agg #[.int .i64 k, .int .i64 a, .int .i64 b, .int .i64 c, .slice va vn vc]] w fun e w' => e = .returned (.bool (fitsB p0 q0 p1 q1 p2 q2 fv a b c vn xs)) ∧ Below w.heap.size w w' := by
  have H0 := hide (fun w1 => has_any p0 q0 a w1)
  have H1 := hide (fun w1 => has_any p1 q1 b w1)
  have H2 := hide (fun w1 => has_any p2 q2 c w1)
  have NB := hide (fun w1 => numbers_any k a b c (.slice va vn vc) w1 va vn vc rfl)
  have IV := hide (fun w1 (s : Below w.heap.size w w1) => iVecOk_any va vn vc xs w1 (rv.below s) hn)
  unfold fitsB
  generalize (decide (p0 ≤ a) && decide (a ≤ q0)) = e0 at H0 ⊢
  generalize (decide (p1 ≤ b) && decide (b ≤ q1)) = e1 at H1 ⊢
  generalize (decide (p2 ≤ c) && decide (c ≤ q2)) = e2 at H2 ⊢
  obtain ⟨tl, htl⟩ : ∃ tl, (if fv then vecOkB xs else decide (vn = 0)) = tl := ⟨_, rfl⟩
  rw [htl]
  have HTL := hide htl
  clear htl
  have F0 : Hid (FitB w ((w.alloc (.cells #[.int .i64 fk, .string fn, .int .i64 p0, .int .i64 q0, .int .i64 p1, .int .i64 q1, .int .i64 p2, .int .i64 q2, .bool fv] 38)).alloc (.cells #[.int .i64 k, .int .i64 a, .int .i64 b, .int .i64 c, .slice va vn vc] 26)) (v9 (.int .i64 fk) (.string fn) (.int .i64 p0) (.int .i64 q0) (.int .i64 p1) (.int .i64 q1) (.int .i64 p2) (.int .i64 q2) (.bool fv)) (v5 (.int .i64 k) (.int .i64 a) (.int .i64 b) (.int .i64 c) (.slice va vn vc))) := hide
    ⟨World.rowIs.alloc (v9_new w _ _ _ _ _ _ _ _ _ _) _, by simpa using v5_new (w.alloc (.cells #[.int .i64 fk, .string fn, .int .i64 p0, .int .i64 q0, .int .i64 p1, .int .i64 q1, .int .i64 p2, .int .i64 q2, .bool fv] 38)) (.int .i64 k) (.int .i64 a) (.int .i64 b) (.int .i64 c) (.slice va vn vc) 26, balloc (balloc (Below.refl _ _) _) _⟩
  clear rv
  go_enter Tryz.func16, Tryz.ntmps16
  go_wp2_with fail
  refine (NB.out _).mono ?_
  rintro e w1 ⟨rfl, hb1⟩
  have F1 := hide (F0.out.below hb1)
  clear F0 hb1 NB
  go_wp2_with fail
  go_loopw [5, 6, 9] (fun _ _ i wr => ∃ j : Nat, j ≤ 3 ∧ i = .int .i64 j ∧ Hid ((0 < j → e0 = true) ∧ (1 < j → e1 = true) ∧ (2 < j → e2 = true)) ∧ Hid (FitB w wr (v9 (.int .i64 fk) (.string fn) (.int .i64 p0) (.int .i64 q0) (.int .i64 p1) (.int .i64 q1) (.int .i64 p2) (.int .i64 q2) (.bool fv)) (v5 (.int .i64 k) (.int .i64 a) (.int .i64 b) (.int .i64 c) (.slice va vn vc)))) (fun _ _ i _ => 3 - (intOf i).toNat)
  case atStart => exact ⟨0, by omega, rfl, hide ⟨fun h => absurd h (by omega), fun h => absurd h (by omega), fun h => absurd h (by omega)⟩, F1⟩
  case round =>
    obtain ⟨j, hj, rfl, HE, HF⟩ := hrel
    clear F1
    obtain ⟨_, z0, z1, z2, z3, z4, z5, z6, z7, z8, _⟩ := v9_facts HF.out.one
    obtain ⟨_, y0, y1, y2, y3, y4, _⟩ := v5_facts HF.out.two
    rcases (show j = 0 ∨ j = 1 ∨ j = 2 ∨ j = 3 from by omega) with rfl | rfl | rfl | rfl
    · have hix : ∀ wx, (Instr.index 66 (.agg #[.int .i64 a, .int .i64 b, .int .i64 c]) (.int .i64 0)).run Tryz.prog wx = .ok (.int .i64 a) wx := fun wx => (index3 a b c wx).1
      go_wp2_with fail
      refine (H0.out _).mono ?_
      rintro e w3 ⟨rfl, hb3⟩
      have F3 := hide (HF.out.below hb3)
      clear hb3 z0 z1 z2 z3 z4 z5 z6 z7 z8 y0 y1 y2 y3 y4
      cases e0
      · go_wp2_with fail
        go_ret
        exact ⟨by simp, F3.out.bel⟩
      · go_wp2_with fail
        go_roundw
        case rel => exact ⟨1, by omega, by go_num, hide (by refine ⟨?_, ?_, ?_⟩ <;> intro h <;> first | trivial | rfl | (exfalso; omega) | exact HE.out.1 (by omega) | exact HE.out.2.1 (by omega)), F3⟩
        case measure => simp [intOf]
    · have hix : ∀ wx, (Instr.index 66 (.agg #[.int .i64 a, .int .i64 b, .int .i64 c]) (.int .i64 1)).run Tryz.prog wx = .ok (.int .i64 b) wx := fun wx => (index3 a b c wx).2.1
      go_wp2_with fail
      refine (H1.out _).mono ?_
      rintro e w3 ⟨rfl, hb3⟩
      have F3 := hide (HF.out.below hb3)
      clear hb3 z0 z1 z2 z3 z4 z5 z6 z7 z8 y0 y1 y2 y3 y4
      cases e1
      · go_wp2_with fail
        go_ret
        exact ⟨by simp, F3.out.bel⟩
      · go_wp2_with fail
        go_roundw
        case rel => exact ⟨2, by omega, by go_num, hide (by refine ⟨?_, ?_, ?_⟩ <;> intro h <;> first | trivial | rfl | (exfalso; omega) | exact HE.out.1 (by omega) | exact HE.out.2.1 (by omega)), F3⟩
        case measure => simp [intOf]
    · have hix : ∀ wx, (Instr.index 66 (.agg #[.int .i64 a, .int .i64 b, .int .i64 c]) (.int .i64 2)).run Tryz.prog wx = .ok (.int .i64 c) wx := fun wx => (index3 a b c wx).2.2
      go_wp2_with fail
      refine (H2.out _).mono ?_
      rintro e w3 ⟨rfl, hb3⟩
      have F3 := hide (HF.out.below hb3)
      clear hb3 z0 z1 z2 z3 z4 z5 z6 z7 z8 y0 y1 y2 y3 y4
      cases e2
      · go_wp2_with fail
        go_ret
        exact ⟨by simp, F3.out.bel⟩
      · go_wp2_with fail
        go_roundw
        case rel => exact ⟨3, by omega, by go_num, hide (by refine ⟨?_, ?_, ?_⟩ <;> intro h <;> first | trivial | rfl | (exfalso; omega) | exact HE.out.1 (by omega) | exact HE.out.2.1 (by omega)), F3⟩
        case measure => simp [intOf]
    · have he := HE.out
      obtain rfl : e0 = true := he.1 (by omega)
      obtain rfl : e1 = true := he.2.1 (by omega)
      obtain rfl : e2 = true := he.2.2 (by omega)
      clear he HE
      cases fv
      · by_cases h0 : vn = 0
        · have h0' : ((vn : Int) == 0) = true := by simp [h0]
          obtain rfl : tl = true := by have := HTL.out; simpa [h0] using this.symm
          clear h0 HTL
          go_wp2_with fail
          go_ret
          exact ⟨rfl, HF.out.bel⟩
        · have h0' : ((vn : Int) == 0) = false := by simp [h0]
          obtain rfl : tl = false := by have := HTL.out; simpa [h0] using this.symm
          clear h0 HTL
          go_wp2_with fail
          go_ret
          exact ⟨rfl, HF.out.bel⟩
      · obtain rfl : tl = vecOkB xs := by have := HTL.out; simpa using this.symm
        clear HTL
        go_wp2_with fail
        refine (IV.out _ HF.out.bel).mono ?_
        rintro e w3 ⟨rfl, hb3⟩
        have B3 := hide (bstep HF.out.bel hb3)
        clear hb3
        go_wp2_with fail
        go_ret
        exact ⟨rfl, B3.out⟩
end Go.Proofs.YtggjcccdeaadbaaGreatDoor

/- CmdOk of the program. -/
namespace Go.Proofs.YtggjcccdeaadbaaGreatDoor
open Go.RowKit
set_option maxRecDepth 8000
set_option linter.unusedSimpArgs false
set_option linter.unusedVariables false

/-- Whether a command is right. -/
def cmdB (k a b c : Int) (vn : Nat) (xs : List Int) : Bool :=
  if k = 1 then fitsB 1 8 0 0 0 0 false a b c vn xs else
  if k = 2 then fitsB 1 9999 0 255 0 0 true a b c vn xs else
  if k = 3 then fitsB 1 9999 0 0 0 0 false a b c vn xs else
  if k = 4 then fitsB 0 0 0 0 0 0 false a b c vn xs else
  if k = 5 then fitsB 1 60 0 0 0 0 false a b c vn xs else
  if k = 6 then fitsB 1 20 0 255 0 1000 true a b c vn xs else
  if k = 7 then fitsB 0 1125899906842624 0 255 0 1000 true a b c vn xs else
  false

theorem cmdB_no {k : Int} (h : kindB k = false) (a b c : Int) (vn : Nat) (xs : List Int) : cmdB k a b c vn xs = false := by
  have h' : ¬ (1 ≤ k ∧ k ≤ 7) := of_decide_eq_false h
  unfold cmdB
  rw [if_neg (show ¬ k = 1 by omega), if_neg (show ¬ k = 2 by omega), if_neg (show ¬ k = 3 by omega), if_neg (show ¬ k = 4 by omega), if_neg (show ¬ k = 5 by omega), if_neg (show ¬ k = 6 by omega), if_neg (show ¬ k = 7 by omega)]

set_option maxHeartbeats 8000000 in
set_option maxRecDepth 4000 in
theorem iCmdOk_any (k a b c : Int) (va : Option Addr) (vn vc : Nat) (xs : List Int) (w : World) (rv : Row w va vn xs) (hn : vn ≤ 1048576) (F : Forms w) :
    Calls Tryz.prog 13 #[.agg #[.int .i64 k, .int .i64 a, .int .i64 b, .int .i64 c, .slice va vn vc]] w fun e w' => e = .returned (.bool (cmdB k a b c vn xs)) ∧ Below w.heap.size w w' := by
  have C0 := hide (v5_new w (.int .i64 k) (.int .i64 a) (.int .i64 b) (.int .i64 c) (.slice va vn vc) 26)
  have B0 : Hid (Below w.heap.size w (w.alloc (.cells #[.int .i64 k, .int .i64 a, .int .i64 b, .int .i64 c, .slice va vn vc] 26))) := hide (balloc (Below.refl _ _) _)
  have RV := hide rv
  have FO := hide (fun w1 (s : Below w.heap.size w w1) => formOf_any k w1 (F.below s))
  clear rv F
  obtain ⟨_, y0, y1, y2, y3, y4, _⟩ := v5_facts C0.out
  cases hk : kindB k
  · have CN := hide (cmdB_no hk a b c vn xs)
    rw [CN.out]
    have e7 : formR (kindN k) = #[.int .i64 0, .string ⟨#[]⟩, .int .i64 0, .int .i64 0, .int .i64 0, .int .i64 0, .int .i64 0, .int .i64 0, .bool false] := by unfold kindN; rw [hk]; rfl
    rw [e7, hk] at FO
    clear hk e7
    go_enter Tryz.func13, Tryz.ntmps13
    go_wp2_with fail
    refine (FO.out _ B0.out).mono ?_
    rintro e w1 ⟨rfl, hb1⟩
    have B1 := hide (bstep B0.out hb1)
    clear hb1
    go_wp2_with fail
    go_ret
    exact ⟨rfl, balloc B1.out _⟩
  · have h' : 1 ≤ k ∧ k ≤ 7 := of_decide_eq_true hk
    clear hk
    rcases (show k = 1 ∨ k = 2 ∨ k = 3 ∨ k = 4 ∨ k = 5 ∨ k = 6 ∨ k = 7 from by omega) with rfl | rfl | rfl | rfl | rfl | rfl | rfl
    · have e1 : formR (kindN 1) = #[.int .i64 1, .string ⟨#[100, 105, 109]⟩, .int .i64 1, .int .i64 8, .int .i64 0, .int .i64 0, .int .i64 0, .int .i64 0, .bool false] := by rw [show kindN 1 = 0 from by decide]; rfl
      have e2 : kindB 1 = true := by decide
      have e3 : cmdB 1 a b c vn xs = fitsB 1 8 0 0 0 0 false a b c vn xs := rfl
      rw [e1, e2] at FO
      rw [e3]
      have FI := hide (fun w1 (s : Below w.heap.size w w1) => fits_any 1 ⟨#[100, 105, 109]⟩ 1 8 0 0 0 0 false 1 a b c va vn vc xs w1 (RV.out.below s) hn)
      generalize fitsB 1 8 0 0 0 0 false a b c vn xs = R at FI ⊢
      clear h' e1 e2 e3
      go_enter Tryz.func13, Tryz.ntmps13
      go_wp2_with fail
      refine (FO.out _ B0.out).mono ?_
      rintro e w1 ⟨rfl, hb1⟩
      have B1 := hide (balloc (bstep B0.out hb1) (.cells #[.int .i64 1, .string ⟨#[100, 105, 109]⟩, .int .i64 1, .int .i64 8, .int .i64 0, .int .i64 0, .int .i64 0, .int .i64 0, .bool false] 38))
      have C1 := hide (row_belowC (row_belowC C0.out hb1) (balloc (Below.refl w1.heap.size w1) (.cells #[.int .i64 1, .string ⟨#[100, 105, 109]⟩, .int .i64 1, .int .i64 8, .int .i64 0, .int .i64 0, .int .i64 0, .int .i64 0, .bool false] 38)))
      clear hb1 y0 y1 y2 y3 y4 C0
      obtain ⟨_, y0, y1, y2, y3, y4, _⟩ := v5_facts C1.out
      go_wp2_with fail
      refine (FI.out _ B1.out).mono ?_
      rintro e w2 ⟨rfl, hb2⟩
      have B2 := hide (bstep B1.out hb2)
      clear hb2
      go_wp2_with fail
      go_ret
      exact ⟨rfl, B2.out⟩
    · have e1 : formR (kindN 2) = #[.int .i64 2, .string ⟨#[112, 117, 116]⟩, .int .i64 1, .int .i64 9999, .int .i64 0, .int .i64 255, .int .i64 0, .int .i64 0, .bool true] := by rw [show kindN 2 = 1 from by decide]; rfl
      have e2 : kindB 2 = true := by decide
      have e3 : cmdB 2 a b c vn xs = fitsB 1 9999 0 255 0 0 true a b c vn xs := rfl
      rw [e1, e2] at FO
      rw [e3]
      have FI := hide (fun w1 (s : Below w.heap.size w w1) => fits_any 2 ⟨#[112, 117, 116]⟩ 1 9999 0 255 0 0 true 2 a b c va vn vc xs w1 (RV.out.below s) hn)
      generalize fitsB 1 9999 0 255 0 0 true a b c vn xs = R at FI ⊢
      clear h' e1 e2 e3
      go_enter Tryz.func13, Tryz.ntmps13
      go_wp2_with fail
      refine (FO.out _ B0.out).mono ?_
      rintro e w1 ⟨rfl, hb1⟩
      have B1 := hide (balloc (bstep B0.out hb1) (.cells #[.int .i64 2, .string ⟨#[112, 117, 116]⟩, .int .i64 1, .int .i64 9999, .int .i64 0, .int .i64 255, .int .i64 0, .int .i64 0, .bool true] 38))
      have C1 := hide (row_belowC (row_belowC C0.out hb1) (balloc (Below.refl w1.heap.size w1) (.cells #[.int .i64 2, .string ⟨#[112, 117, 116]⟩, .int .i64 1, .int .i64 9999, .int .i64 0, .int .i64 255, .int .i64 0, .int .i64 0, .bool true] 38)))
      clear hb1 y0 y1 y2 y3 y4 C0
      obtain ⟨_, y0, y1, y2, y3, y4, _⟩ := v5_facts C1.out
      go_wp2_with fail
      refine (FI.out _ B1.out).mono ?_
      rintro e w2 ⟨rfl, hb2⟩
      have B2 := hide (bstep B1.out hb2)
      clear hb2
      go_wp2_with fail
      go_ret
      exact ⟨rfl, B2.out⟩
    · have e1 : formR (kindN 3) = #[.int .i64 3, .string ⟨#[100, 114, 111, 112]⟩, .int .i64 1, .int .i64 9999, .int .i64 0, .int .i64 0, .int .i64 0, .int .i64 0, .bool false] := by rw [show kindN 3 = 2 from by decide]; rfl
      have e2 : kindB 3 = true := by decide
      have e3 : cmdB 3 a b c vn xs = fitsB 1 9999 0 0 0 0 false a b c vn xs := rfl
      rw [e1, e2] at FO
      rw [e3]
      have FI := hide (fun w1 (s : Below w.heap.size w w1) => fits_any 3 ⟨#[100, 114, 111, 112]⟩ 1 9999 0 0 0 0 false 3 a b c va vn vc xs w1 (RV.out.below s) hn)
      generalize fitsB 1 9999 0 0 0 0 false a b c vn xs = R at FI ⊢
      clear h' e1 e2 e3
      go_enter Tryz.func13, Tryz.ntmps13
      go_wp2_with fail
      refine (FO.out _ B0.out).mono ?_
      rintro e w1 ⟨rfl, hb1⟩
      have B1 := hide (balloc (bstep B0.out hb1) (.cells #[.int .i64 3, .string ⟨#[100, 114, 111, 112]⟩, .int .i64 1, .int .i64 9999, .int .i64 0, .int .i64 0, .int .i64 0, .int .i64 0, .bool false] 38))
      have C1 := hide (row_belowC (row_belowC C0.out hb1) (balloc (Below.refl w1.heap.size w1) (.cells #[.int .i64 3, .string ⟨#[100, 114, 111, 112]⟩, .int .i64 1, .int .i64 9999, .int .i64 0, .int .i64 0, .int .i64 0, .int .i64 0, .bool false] 38)))
      clear hb1 y0 y1 y2 y3 y4 C0
      obtain ⟨_, y0, y1, y2, y3, y4, _⟩ := v5_facts C1.out
      go_wp2_with fail
      refine (FI.out _ B1.out).mono ?_
      rintro e w2 ⟨rfl, hb2⟩
      have B2 := hide (bstep B1.out hb2)
      clear hb2
      go_wp2_with fail
      go_ret
      exact ⟨rfl, B2.out⟩
    · have e1 : formR (kindN 4) = #[.int .i64 4, .string ⟨#[98, 117, 105, 108, 100]⟩, .int .i64 0, .int .i64 0, .int .i64 0, .int .i64 0, .int .i64 0, .int .i64 0, .bool false] := by rw [show kindN 4 = 3 from by decide]; rfl
      have e2 : kindB 4 = true := by decide
      have e3 : cmdB 4 a b c vn xs = fitsB 0 0 0 0 0 0 false a b c vn xs := rfl
      rw [e1, e2] at FO
      rw [e3]
      have FI := hide (fun w1 (s : Below w.heap.size w w1) => fits_any 4 ⟨#[98, 117, 105, 108, 100]⟩ 0 0 0 0 0 0 false 4 a b c va vn vc xs w1 (RV.out.below s) hn)
      generalize fitsB 0 0 0 0 0 0 false a b c vn xs = R at FI ⊢
      clear h' e1 e2 e3
      go_enter Tryz.func13, Tryz.ntmps13
      go_wp2_with fail
      refine (FO.out _ B0.out).mono ?_
      rintro e w1 ⟨rfl, hb1⟩
      have B1 := hide (balloc (bstep B0.out hb1) (.cells #[.int .i64 4, .string ⟨#[98, 117, 105, 108, 100]⟩, .int .i64 0, .int .i64 0, .int .i64 0, .int .i64 0, .int .i64 0, .int .i64 0, .bool false] 38))
      have C1 := hide (row_belowC (row_belowC C0.out hb1) (balloc (Below.refl w1.heap.size w1) (.cells #[.int .i64 4, .string ⟨#[98, 117, 105, 108, 100]⟩, .int .i64 0, .int .i64 0, .int .i64 0, .int .i64 0, .int .i64 0, .int .i64 0, .bool false] 38)))
      clear hb1 y0 y1 y2 y3 y4 C0
      obtain ⟨_, y0, y1, y2, y3, y4, _⟩ := v5_facts C1.out
      go_wp2_with fail
      refine (FI.out _ B1.out).mono ?_
      rintro e w2 ⟨rfl, hb2⟩
      have B2 := hide (bstep B1.out hb2)
      clear hb2
      go_wp2_with fail
      go_ret
      exact ⟨rfl, B2.out⟩
    · have e1 : formR (kindN 5) = #[.int .i64 5, .string ⟨#[116, 105, 99, 107]⟩, .int .i64 1, .int .i64 60, .int .i64 0, .int .i64 0, .int .i64 0, .int .i64 0, .bool false] := by rw [show kindN 5 = 4 from by decide]; rfl
      have e2 : kindB 5 = true := by decide
      have e3 : cmdB 5 a b c vn xs = fitsB 1 60 0 0 0 0 false a b c vn xs := rfl
      rw [e1, e2] at FO
      rw [e3]
      have FI := hide (fun w1 (s : Below w.heap.size w w1) => fits_any 5 ⟨#[116, 105, 99, 107]⟩ 1 60 0 0 0 0 false 5 a b c va vn vc xs w1 (RV.out.below s) hn)
      generalize fitsB 1 60 0 0 0 0 false a b c vn xs = R at FI ⊢
      clear h' e1 e2 e3
      go_enter Tryz.func13, Tryz.ntmps13
      go_wp2_with fail
      refine (FO.out _ B0.out).mono ?_
      rintro e w1 ⟨rfl, hb1⟩
      have B1 := hide (balloc (bstep B0.out hb1) (.cells #[.int .i64 5, .string ⟨#[116, 105, 99, 107]⟩, .int .i64 1, .int .i64 60, .int .i64 0, .int .i64 0, .int .i64 0, .int .i64 0, .bool false] 38))
      have C1 := hide (row_belowC (row_belowC C0.out hb1) (balloc (Below.refl w1.heap.size w1) (.cells #[.int .i64 5, .string ⟨#[116, 105, 99, 107]⟩, .int .i64 1, .int .i64 60, .int .i64 0, .int .i64 0, .int .i64 0, .int .i64 0, .bool false] 38)))
      clear hb1 y0 y1 y2 y3 y4 C0
      obtain ⟨_, y0, y1, y2, y3, y4, _⟩ := v5_facts C1.out
      go_wp2_with fail
      refine (FI.out _ B1.out).mono ?_
      rintro e w2 ⟨rfl, hb2⟩
      have B2 := hide (bstep B1.out hb2)
      clear hb2
      go_wp2_with fail
      go_ret
      exact ⟨rfl, B2.out⟩
    · have e1 : formR (kindN 6) = #[.int .i64 6, .string ⟨#[110, 101, 97, 114]⟩, .int .i64 1, .int .i64 20, .int .i64 0, .int .i64 255, .int .i64 0, .int .i64 1000, .bool true] := by rw [show kindN 6 = 5 from by decide]; rfl
      have e2 : kindB 6 = true := by decide
      have e3 : cmdB 6 a b c vn xs = fitsB 1 20 0 255 0 1000 true a b c vn xs := rfl
      rw [e1, e2] at FO
      rw [e3]
      have FI := hide (fun w1 (s : Below w.heap.size w w1) => fits_any 6 ⟨#[110, 101, 97, 114]⟩ 1 20 0 255 0 1000 true 6 a b c va vn vc xs w1 (RV.out.below s) hn)
      generalize fitsB 1 20 0 255 0 1000 true a b c vn xs = R at FI ⊢
      clear h' e1 e2 e3
      go_enter Tryz.func13, Tryz.ntmps13
      go_wp2_with fail
      refine (FO.out _ B0.out).mono ?_
      rintro e w1 ⟨rfl, hb1⟩
      have B1 := hide (balloc (bstep B0.out hb1) (.cells #[.int .i64 6, .string ⟨#[110, 101, 97, 114]⟩, .int .i64 1, .int .i64 20, .int .i64 0, .int .i64 255, .int .i64 0, .int .i64 1000, .bool true] 38))
      have C1 := hide (row_belowC (row_belowC C0.out hb1) (balloc (Below.refl w1.heap.size w1) (.cells #[.int .i64 6, .string ⟨#[110, 101, 97, 114]⟩, .int .i64 1, .int .i64 20, .int .i64 0, .int .i64 255, .int .i64 0, .int .i64 1000, .bool true] 38)))
      clear hb1 y0 y1 y2 y3 y4 C0
      obtain ⟨_, y0, y1, y2, y3, y4, _⟩ := v5_facts C1.out
      go_wp2_with fail
      refine (FI.out _ B1.out).mono ?_
      rintro e w2 ⟨rfl, hb2⟩
      have B2 := hide (bstep B1.out hb2)
      clear hb2
      go_wp2_with fail
      go_ret
      exact ⟨rfl, B2.out⟩
    · have e1 : formR (kindN 7) = #[.int .i64 7, .string ⟨#[119, 105, 116, 104, 105, 110]⟩, .int .i64 0, .int .i64 1125899906842624, .int .i64 0, .int .i64 255, .int .i64 0, .int .i64 1000, .bool true] := by rw [show kindN 7 = 6 from by decide]; rfl
      have e2 : kindB 7 = true := by decide
      have e3 : cmdB 7 a b c vn xs = fitsB 0 1125899906842624 0 255 0 1000 true a b c vn xs := rfl
      rw [e1, e2] at FO
      rw [e3]
      have FI := hide (fun w1 (s : Below w.heap.size w w1) => fits_any 7 ⟨#[119, 105, 116, 104, 105, 110]⟩ 0 1125899906842624 0 255 0 1000 true 7 a b c va vn vc xs w1 (RV.out.below s) hn)
      generalize fitsB 0 1125899906842624 0 255 0 1000 true a b c vn xs = R at FI ⊢
      clear h' e1 e2 e3
      go_enter Tryz.func13, Tryz.ntmps13
      go_wp2_with fail
      refine (FO.out _ B0.out).mono ?_
      rintro e w1 ⟨rfl, hb1⟩
      have B1 := hide (balloc (bstep B0.out hb1) (.cells #[.int .i64 7, .string ⟨#[119, 105, 116, 104, 105, 110]⟩, .int .i64 0, .int .i64 1125899906842624, .int .i64 0, .int .i64 255, .int .i64 0, .int .i64 1000, .bool true] 38))
      have C1 := hide (row_belowC (row_belowC C0.out hb1) (balloc (Below.refl w1.heap.size w1) (.cells #[.int .i64 7, .string ⟨#[119, 105, 116, 104, 105, 110]⟩, .int .i64 0, .int .i64 1125899906842624, .int .i64 0, .int .i64 255, .int .i64 0, .int .i64 1000, .bool true] 38)))
      clear hb1 y0 y1 y2 y3 y4 C0
      obtain ⟨_, y0, y1, y2, y3, y4, _⟩ := v5_facts C1.out
      go_wp2_with fail
      refine (FI.out _ B1.out).mono ?_
      rintro e w2 ⟨rfl, hb2⟩
      have B2 := hide (bstep B1.out hb2)
      clear hb2
      go_wp2_with fail
      go_ret
      exact ⟨rfl, B2.out⟩
end Go.Proofs.YtggjcccdeaadbaaGreatDoor

/- CmdOk of the model. -/
namespace Go.Proofs.YtggjcccdeaadbaaGreatDoor
open Go.RowKit
set_option maxRecDepth 8000
set_option linter.unusedSimpArgs false
set_option linter.unusedVariables false

theorem in_and (x lo hi : Int) : (decide (lo ≤ x) && decide (x ≤ hi)) = inB x lo hi := by unfold inB; simp [Bool.decide_and]

theorem in_zero {x : Int} (h : inB x 0 0 = true) : x = 0 := by
  have : 0 ≤ x ∧ x ≤ 0 := of_decide_eq_true h
  omega

theorem in_some {x : Int} (h : inB x 0 0 = false) : (x != 0) = true := by
  have : ¬ (0 ≤ x ∧ x ≤ 0) := of_decide_eq_false h
  simp; omega

set_option maxHeartbeats 400000 in
theorem l7DimC_any (n : Int) (w : World) :
    Calls Tryz.prog 54 #[.int .i64 n] w fun e w' => e = .returned (.bool (inB n 1 8)) ∧ w' = w := by
  go_enter Tryz.func54, Tryz.ntmps54
  go_wp2_with (go_at_call 33; refine (l1In_any _ _ _ _).mono ?_; rintro e w' ⟨rfl, rfl⟩)
  go_ret
  exact ⟨rfl, rfl⟩

set_option maxHeartbeats 2000000 in
theorem nums1 (a b c : Int) (va : Option Addr) (vn vc : Nat) (w : World) :
    Calls Tryz.prog 34 #[.agg #[.int .i64 1, .int .i64 a, .int .i64 b, .int .i64 c, .slice va vn vc]] w fun e w' => e = .returned (.bool (inB a 1 8)) ∧ Below w.heap.size w w' := by
  have B0 : Hid (Below w.heap.size w (w.alloc (.cells #[.int .i64 1, .int .i64 a, .int .i64 b, .int .i64 c, .slice va vn vc] 26))) := hide (balloc (Below.refl _ _) _)
  have L0 := hide (fun w1 => l7DimC_any a w1)
  generalize inB a 1 8 = e0 at L0 ⊢
  go_enter Tryz.func34, Tryz.ntmps34
  go_wp2_with fail
  refine (L0.out _).mono ?_
  rintro e w1 ⟨rfl, hw⟩
  obtain rfl := hw.symm
  clear hw
  go_wp2_with fail
  go_ret
  exact ⟨by simp, B0.out⟩

set_option maxHeartbeats 2000000 in
theorem nums2 (a b c : Int) (va : Option Addr) (vn vc : Nat) (w : World) :
    Calls Tryz.prog 34 #[.agg #[.int .i64 2, .int .i64 a, .int .i64 b, .int .i64 c, .slice va vn vc]] w fun e w' => e = .returned (.bool ((inB a 1 9999 && inB b 0 255))) ∧ Below w.heap.size w w' := by
  have B0 : Hid (Below w.heap.size w (w.alloc (.cells #[.int .i64 2, .int .i64 a, .int .i64 b, .int .i64 c, .slice va vn vc] 26))) := hide (balloc (Below.refl _ _) _)
  have L0 := hide (fun w1 => l6Id_any a w1)
  have L1 := hide (fun w1 => l1In_any b 0 255 w1)
  generalize inB a 1 9999 = e0 at L0 ⊢
  generalize inB b 0 255 = e1 at L1 ⊢
  cases e0
  · skip
    go_enter Tryz.func34, Tryz.ntmps34
    go_wp2_with fail
    refine (L0.out _).mono ?_
    rintro e w1 ⟨rfl, hw⟩
    obtain rfl := hw.symm
    clear hw
    go_wp2_with fail
    go_ret
    exact ⟨by simp, B0.out⟩
  · skip
    go_enter Tryz.func34, Tryz.ntmps34
    go_wp2_with fail
    refine (L0.out _).mono ?_
    rintro e w1 ⟨rfl, hw⟩
    obtain rfl := hw.symm
    clear hw
    go_wp2_with fail
    refine (L1.out _).mono ?_
    rintro e w2 ⟨rfl, hw⟩
    obtain rfl := hw.symm
    clear hw
    go_wp2_with fail
    go_ret
    exact ⟨by simp, B0.out⟩

set_option maxHeartbeats 2000000 in
theorem nums3 (a b c : Int) (va : Option Addr) (vn vc : Nat) (w : World) :
    Calls Tryz.prog 34 #[.agg #[.int .i64 3, .int .i64 a, .int .i64 b, .int .i64 c, .slice va vn vc]] w fun e w' => e = .returned (.bool (inB a 1 9999)) ∧ Below w.heap.size w w' := by
  have B0 : Hid (Below w.heap.size w (w.alloc (.cells #[.int .i64 3, .int .i64 a, .int .i64 b, .int .i64 c, .slice va vn vc] 26))) := hide (balloc (Below.refl _ _) _)
  have L0 := hide (fun w1 => l6Id_any a w1)
  generalize inB a 1 9999 = e0 at L0 ⊢
  go_enter Tryz.func34, Tryz.ntmps34
  go_wp2_with fail
  refine (L0.out _).mono ?_
  rintro e w1 ⟨rfl, hw⟩
  obtain rfl := hw.symm
  clear hw
  go_wp2_with fail
  go_ret
  exact ⟨by simp, B0.out⟩

set_option maxHeartbeats 2000000 in
theorem nums4 (a b c : Int) (va : Option Addr) (vn vc : Nat) (w : World) :
    Calls Tryz.prog 34 #[.agg #[.int .i64 4, .int .i64 a, .int .i64 b, .int .i64 c, .slice va vn vc]] w fun e w' => e = .returned (.bool (true)) ∧ Below w.heap.size w w' := by
  have B0 : Hid (Below w.heap.size w (w.alloc (.cells #[.int .i64 4, .int .i64 a, .int .i64 b, .int .i64 c, .slice va vn vc] 26))) := hide (balloc (Below.refl _ _) _)
  go_enter Tryz.func34, Tryz.ntmps34
  go_wp2_with fail
  go_ret
  exact ⟨by simp, B0.out⟩

set_option maxHeartbeats 2000000 in
theorem nums5 (a b c : Int) (va : Option Addr) (vn vc : Nat) (w : World) :
    Calls Tryz.prog 34 #[.agg #[.int .i64 5, .int .i64 a, .int .i64 b, .int .i64 c, .slice va vn vc]] w fun e w' => e = .returned (.bool (inB a 1 60)) ∧ Below w.heap.size w w' := by
  have B0 : Hid (Below w.heap.size w (w.alloc (.cells #[.int .i64 5, .int .i64 a, .int .i64 b, .int .i64 c, .slice va vn vc] 26))) := hide (balloc (Below.refl _ _) _)
  have L0 := hide (fun w1 => l1In_any a 1 60 w1)
  generalize inB a 1 60 = e0 at L0 ⊢
  go_enter Tryz.func34, Tryz.ntmps34
  go_wp2_with fail
  refine (L0.out _).mono ?_
  rintro e w1 ⟨rfl, hw⟩
  obtain rfl := hw.symm
  clear hw
  go_wp2_with fail
  go_ret
  exact ⟨by simp, B0.out⟩

set_option maxHeartbeats 2000000 in
theorem nums6 (a b c : Int) (va : Option Addr) (vn vc : Nat) (w : World) :
    Calls Tryz.prog 34 #[.agg #[.int .i64 6, .int .i64 a, .int .i64 b, .int .i64 c, .slice va vn vc]] w fun e w' => e = .returned (.bool (((inB a 1 20 && inB b 0 255) && inB c 0 1000))) ∧ Below w.heap.size w w' := by
  have B0 : Hid (Below w.heap.size w (w.alloc (.cells #[.int .i64 6, .int .i64 a, .int .i64 b, .int .i64 c, .slice va vn vc] 26))) := hide (balloc (Below.refl _ _) _)
  have L0 := hide (fun w1 => l1In_any a 1 20 w1)
  have L1 := hide (fun w1 => l1In_any b 0 255 w1)
  have L2 := hide (fun w1 => l1In_any c 0 1000 w1)
  generalize inB a 1 20 = e0 at L0 ⊢
  generalize inB b 0 255 = e1 at L1 ⊢
  generalize inB c 0 1000 = e2 at L2 ⊢
  cases e0
  · skip
    go_enter Tryz.func34, Tryz.ntmps34
    go_wp2_with fail
    refine (L0.out _).mono ?_
    rintro e w1 ⟨rfl, hw⟩
    obtain rfl := hw.symm
    clear hw
    go_wp2_with fail
    go_ret
    exact ⟨by simp, B0.out⟩
  · cases e1
    · skip
      go_enter Tryz.func34, Tryz.ntmps34
      go_wp2_with fail
      refine (L0.out _).mono ?_
      rintro e w1 ⟨rfl, hw⟩
      obtain rfl := hw.symm
      clear hw
      go_wp2_with fail
      refine (L1.out _).mono ?_
      rintro e w2 ⟨rfl, hw⟩
      obtain rfl := hw.symm
      clear hw
      go_wp2_with fail
      go_ret
      exact ⟨by simp, B0.out⟩
    · skip
      go_enter Tryz.func34, Tryz.ntmps34
      go_wp2_with fail
      refine (L0.out _).mono ?_
      rintro e w1 ⟨rfl, hw⟩
      obtain rfl := hw.symm
      clear hw
      go_wp2_with fail
      refine (L1.out _).mono ?_
      rintro e w2 ⟨rfl, hw⟩
      obtain rfl := hw.symm
      clear hw
      go_wp2_with fail
      refine (L2.out _).mono ?_
      rintro e w3 ⟨rfl, hw⟩
      obtain rfl := hw.symm
      clear hw
      go_wp2_with fail
      go_ret
      exact ⟨by simp, B0.out⟩

set_option maxHeartbeats 2000000 in
theorem nums7 (a b c : Int) (va : Option Addr) (vn vc : Nat) (w : World) :
    Calls Tryz.prog 34 #[.agg #[.int .i64 7, .int .i64 a, .int .i64 b, .int .i64 c, .slice va vn vc]] w fun e w' => e = .returned (.bool (((inB a 0 1125899906842624 && inB b 0 255) && inB c 0 1000))) ∧ Below w.heap.size w w' := by
  have B0 : Hid (Below w.heap.size w (w.alloc (.cells #[.int .i64 7, .int .i64 a, .int .i64 b, .int .i64 c, .slice va vn vc] 26))) := hide (balloc (Below.refl _ _) _)
  have L0 := hide (fun w1 => l1In_any a 0 1125899906842624 w1)
  have L1 := hide (fun w1 => l1In_any b 0 255 w1)
  have L2 := hide (fun w1 => l1In_any c 0 1000 w1)
  generalize inB a 0 1125899906842624 = e0 at L0 ⊢
  generalize inB b 0 255 = e1 at L1 ⊢
  generalize inB c 0 1000 = e2 at L2 ⊢
  cases e0
  · skip
    go_enter Tryz.func34, Tryz.ntmps34
    go_wp2_with fail
    refine (L0.out _).mono ?_
    rintro e w1 ⟨rfl, hw⟩
    obtain rfl := hw.symm
    clear hw
    go_wp2_with fail
    go_ret
    exact ⟨by simp, B0.out⟩
  · cases e1
    · skip
      go_enter Tryz.func34, Tryz.ntmps34
      go_wp2_with fail
      refine (L0.out _).mono ?_
      rintro e w1 ⟨rfl, hw⟩
      obtain rfl := hw.symm
      clear hw
      go_wp2_with fail
      refine (L1.out _).mono ?_
      rintro e w2 ⟨rfl, hw⟩
      obtain rfl := hw.symm
      clear hw
      go_wp2_with fail
      go_ret
      exact ⟨by simp, B0.out⟩
    · skip
      go_enter Tryz.func34, Tryz.ntmps34
      go_wp2_with fail
      refine (L0.out _).mono ?_
      rintro e w1 ⟨rfl, hw⟩
      obtain rfl := hw.symm
      clear hw
      go_wp2_with fail
      refine (L1.out _).mono ?_
      rintro e w2 ⟨rfl, hw⟩
      obtain rfl := hw.symm
      clear hw
      go_wp2_with fail
      refine (L2.out _).mono ?_
      rintro e w3 ⟨rfl, hw⟩
      obtain rfl := hw.symm
      clear hw
      go_wp2_with fail
      go_ret
      exact ⟨by simp, B0.out⟩

set_option maxHeartbeats 1000000 in
theorem uses1 (w : World) : Calls Tryz.prog 27 #[.int .i64 1] w fun e w' => e = .returned (.tuple #[.int .i64 1, .bool false]) ∧ Below w.heap.size w w' := by
  go_enter Tryz.func27, Tryz.ntmps27
  go_wp2_with fail
  refine bodyPost_ret (v := .tuple #[.int .i64 1, .bool false]) (by simp [results, Tryz.results27, go_sem]) rfl ⟨rfl, (by repeat' first | with_reducible exact Below.refl _ _ | with_reducible assumption | with_reducible refine below_drewN ?_ _ | with_reducible refine balloc ?_ _ | with_reducible refine Below.drew ?_ | with_reducible refine Below.setCell ?_ (by first | (simp; done) | (simp; omega) | omega) _ | with_reducible refine bstep ?_ (by assumption))⟩

set_option maxHeartbeats 1000000 in
theorem uses2 (w : World) : Calls Tryz.prog 27 #[.int .i64 2] w fun e w' => e = .returned (.tuple #[.int .i64 2, .bool true]) ∧ Below w.heap.size w w' := by
  go_enter Tryz.func27, Tryz.ntmps27
  go_wp2_with fail
  refine bodyPost_ret (v := .tuple #[.int .i64 2, .bool true]) (by simp [results, Tryz.results27, go_sem]) rfl ⟨rfl, (by repeat' first | with_reducible exact Below.refl _ _ | with_reducible assumption | with_reducible refine below_drewN ?_ _ | with_reducible refine balloc ?_ _ | with_reducible refine Below.drew ?_ | with_reducible refine Below.setCell ?_ (by first | (simp; done) | (simp; omega) | omega) _ | with_reducible refine bstep ?_ (by assumption))⟩

set_option maxHeartbeats 1000000 in
theorem uses3 (w : World) : Calls Tryz.prog 27 #[.int .i64 3] w fun e w' => e = .returned (.tuple #[.int .i64 1, .bool false]) ∧ Below w.heap.size w w' := by
  go_enter Tryz.func27, Tryz.ntmps27
  go_wp2_with fail
  refine bodyPost_ret (v := .tuple #[.int .i64 1, .bool false]) (by simp [results, Tryz.results27, go_sem]) rfl ⟨rfl, (by repeat' first | with_reducible exact Below.refl _ _ | with_reducible assumption | with_reducible refine below_drewN ?_ _ | with_reducible refine balloc ?_ _ | with_reducible refine Below.drew ?_ | with_reducible refine Below.setCell ?_ (by first | (simp; done) | (simp; omega) | omega) _ | with_reducible refine bstep ?_ (by assumption))⟩

set_option maxHeartbeats 1000000 in
theorem uses4 (w : World) : Calls Tryz.prog 27 #[.int .i64 4] w fun e w' => e = .returned (.tuple #[.int .i64 0, .bool false]) ∧ Below w.heap.size w w' := by
  go_enter Tryz.func27, Tryz.ntmps27
  go_wp2_with fail
  refine bodyPost_ret (v := .tuple #[.int .i64 0, .bool false]) (by simp [results, Tryz.results27, go_sem]) rfl ⟨rfl, (by repeat' first | with_reducible exact Below.refl _ _ | with_reducible assumption | with_reducible refine below_drewN ?_ _ | with_reducible refine balloc ?_ _ | with_reducible refine Below.drew ?_ | with_reducible refine Below.setCell ?_ (by first | (simp; done) | (simp; omega) | omega) _ | with_reducible refine bstep ?_ (by assumption))⟩

set_option maxHeartbeats 1000000 in
theorem uses5 (w : World) : Calls Tryz.prog 27 #[.int .i64 5] w fun e w' => e = .returned (.tuple #[.int .i64 1, .bool false]) ∧ Below w.heap.size w w' := by
  go_enter Tryz.func27, Tryz.ntmps27
  go_wp2_with fail
  refine bodyPost_ret (v := .tuple #[.int .i64 1, .bool false]) (by simp [results, Tryz.results27, go_sem]) rfl ⟨rfl, (by repeat' first | with_reducible exact Below.refl _ _ | with_reducible assumption | with_reducible refine below_drewN ?_ _ | with_reducible refine balloc ?_ _ | with_reducible refine Below.drew ?_ | with_reducible refine Below.setCell ?_ (by first | (simp; done) | (simp; omega) | omega) _ | with_reducible refine bstep ?_ (by assumption))⟩

set_option maxHeartbeats 1000000 in
theorem uses6 (w : World) : Calls Tryz.prog 27 #[.int .i64 6] w fun e w' => e = .returned (.tuple #[.int .i64 3, .bool true]) ∧ Below w.heap.size w w' := by
  go_enter Tryz.func27, Tryz.ntmps27
  go_wp2_with fail
  refine bodyPost_ret (v := .tuple #[.int .i64 3, .bool true]) (by simp [results, Tryz.results27, go_sem]) rfl ⟨rfl, (by repeat' first | with_reducible exact Below.refl _ _ | with_reducible assumption | with_reducible refine below_drewN ?_ _ | with_reducible refine balloc ?_ _ | with_reducible refine Below.drew ?_ | with_reducible refine Below.setCell ?_ (by first | (simp; done) | (simp; omega) | omega) _ | with_reducible refine bstep ?_ (by assumption))⟩

set_option maxHeartbeats 1000000 in
theorem uses7 (w : World) : Calls Tryz.prog 27 #[.int .i64 7] w fun e w' => e = .returned (.tuple #[.int .i64 3, .bool true]) ∧ Below w.heap.size w w' := by
  go_enter Tryz.func27, Tryz.ntmps27
  go_wp2_with fail
  refine bodyPost_ret (v := .tuple #[.int .i64 3, .bool true]) (by simp [results, Tryz.results27, go_sem]) rfl ⟨rfl, (by repeat' first | with_reducible exact Below.refl _ _ | with_reducible assumption | with_reducible refine below_drewN ?_ _ | with_reducible refine balloc ?_ _ | with_reducible refine Below.drew ?_ | with_reducible refine Below.setCell ?_ (by first | (simp; done) | (simp; omega) | omega) _ | with_reducible refine bstep ?_ (by assumption))⟩
end Go.Proofs.YtggjcccdeaadbaaGreatDoor

/- CmdOk of the model: the walk. -/
namespace Go.Proofs.YtggjcccdeaadbaaGreatDoor
open Go.RowKit
set_option maxRecDepth 8000
set_option linter.unusedSimpArgs false
set_option linter.unusedVariables false

set_option maxHeartbeats 8000000 in
set_option maxRecDepth 4000 in
theorem sCmdOk1 (a b c : Int) (va : Option Addr) (vn vc : Nat) (xs : List Int) (w : World) (rv : Row w va vn xs) (hn : vn ≤ 1048576) :
    Calls Tryz.prog 12 #[.agg #[.int .i64 1, .int .i64 a, .int .i64 b, .int .i64 c, .slice va vn vc]] w fun e w' => e = .returned (.bool (cmdB 1 a b c vn xs)) ∧ Below w.heap.size w w' := by
  have C0 := hide (v5_new w (.int .i64 1) (.int .i64 a) (.int .i64 b) (.int .i64 c) (.slice va vn vc) 26)
  have B0 : Hid (Below w.heap.size w (w.alloc (.cells #[.int .i64 1, .int .i64 a, .int .i64 b, .int .i64 c, .slice va vn vc] 26))) := hide (balloc (Below.refl _ _) _)
  have LK := hide (fun w1 => l1In_any 1 1 7 w1)
  rw [show inB 1 1 7 = true from by decide] at LK
  have NU := hide (fun w1 => nums1 a b c va vn vc w1)
  have US := hide (fun w1 => uses1 w1)
  have VO := hide (fun w1 (s : Below w.heap.size w w1) => sVecOk_any va vn vc xs w1 (rv.below s) hn)
  clear rv
  obtain ⟨_, y0, y1, y2, y3, y4, _⟩ := v5_facts C0.out
  have hE : cmdB 1 a b c vn xs = (inB a 1 8 && (inB b 0 0 && (inB c 0 0 && (if false then vecOkB xs else decide (vn = 0))))) := by
    rw [show cmdB 1 a b c vn xs = fitsB 1 8 0 0 0 0 false a b c vn xs from rfl]
    unfold fitsB
    rw [in_and, in_and, in_and]
  rw [hE]
  clear hE
  obtain ⟨e0, he0⟩ : ∃ e, inB a 1 8 = e := ⟨_, rfl⟩
  rw [he0] at NU ⊢
  obtain ⟨e1, he1⟩ : ∃ e, inB b 0 0 = e := ⟨_, rfl⟩
  rw [he1]
  obtain ⟨e2, he2⟩ : ∃ e, inB c 0 0 = e := ⟨_, rfl⟩
  rw [he2]
  have H0 := hide he0
  clear he0
  have H1 := hide he1
  clear he1
  have H2 := hide he2
  clear he2
  cases e0
  · skip
    go_enter Tryz.func12, Tryz.ntmps12
    go_wp2_with fail
    refine (LK.out _).mono ?_
    rintro e w1 ⟨rfl, hw⟩
    obtain rfl := hw.symm
    clear hw
    go_wp2_with fail
    refine (NU.out _).mono ?_
    rintro e w2 ⟨rfl, hb2⟩
    have C2 := hide (row_belowC C0.out hb2)
    have B2 := hide (bstep B0.out hb2)
    clear hb2 C0 B0 NU y0 y1 y2 y3 y4
    go_wp2_with fail
    go_ret
    exact ⟨by simp, B2.out⟩
  · skip
    cases e1
    · skip
      have z1 := in_some H1.out
      go_enter Tryz.func12, Tryz.ntmps12
      go_wp2_with fail
      refine (LK.out _).mono ?_
      rintro e w1 ⟨rfl, hw⟩
      obtain rfl := hw.symm
      clear hw
      go_wp2_with fail
      refine (NU.out _).mono ?_
      rintro e w2 ⟨rfl, hb2⟩
      have C2 := hide (row_belowC C0.out hb2)
      have B2 := hide (bstep B0.out hb2)
      clear hb2 C0 B0 NU y0 y1 y2 y3 y4
      obtain ⟨_, y0, y1, y2, y3, y4, _⟩ := v5_facts C2.out
      go_wp2_with fail
      refine (US.out _).mono ?_
      rintro e w3 ⟨rfl, hb3⟩
      have C3 := hide (row_belowC C2.out hb3)
      have B3 := hide (bstep B2.out hb3)
      clear hb3 C2 B2 US y0 y1 y2 y3 y4
      obtain ⟨_, y0, y1, y2, y3, y4, _⟩ := v5_facts C3.out
      go_wp2_with fail
      go_ret
      exact ⟨by simp, B3.out⟩
    · skip
      have z1 : (b != 0) = false := by rw [in_zero H1.out]; rfl
      cases e2
      · skip
        have z2 := in_some H2.out
        go_enter Tryz.func12, Tryz.ntmps12
        go_wp2_with fail
        refine (LK.out _).mono ?_
        rintro e w1 ⟨rfl, hw⟩
        obtain rfl := hw.symm
        clear hw
        go_wp2_with fail
        refine (NU.out _).mono ?_
        rintro e w2 ⟨rfl, hb2⟩
        have C2 := hide (row_belowC C0.out hb2)
        have B2 := hide (bstep B0.out hb2)
        clear hb2 C0 B0 NU y0 y1 y2 y3 y4
        obtain ⟨_, y0, y1, y2, y3, y4, _⟩ := v5_facts C2.out
        go_wp2_with fail
        refine (US.out _).mono ?_
        rintro e w3 ⟨rfl, hb3⟩
        have C3 := hide (row_belowC C2.out hb3)
        have B3 := hide (bstep B2.out hb3)
        clear hb3 C2 B2 US y0 y1 y2 y3 y4
        obtain ⟨_, y0, y1, y2, y3, y4, _⟩ := v5_facts C3.out
        go_wp2_with fail
        go_ret
        exact ⟨by simp, B3.out⟩
      · skip
        have z2 : (c != 0) = false := by rw [in_zero H2.out]; rfl
        go_enter Tryz.func12, Tryz.ntmps12
        go_wp2_with fail
        refine (LK.out _).mono ?_
        rintro e w1 ⟨rfl, hw⟩
        obtain rfl := hw.symm
        clear hw
        go_wp2_with fail
        refine (NU.out _).mono ?_
        rintro e w2 ⟨rfl, hb2⟩
        have C2 := hide (row_belowC C0.out hb2)
        have B2 := hide (bstep B0.out hb2)
        clear hb2 C0 B0 NU y0 y1 y2 y3 y4
        obtain ⟨_, y0, y1, y2, y3, y4, _⟩ := v5_facts C2.out
        go_wp2_with fail
        refine (US.out _).mono ?_
        rintro e w3 ⟨rfl, hb3⟩
        have C3 := hide (row_belowC C2.out hb3)
        have B3 := hide (bstep B2.out hb3)
        clear hb3 C2 B2 US y0 y1 y2 y3 y4
        obtain ⟨_, y0, y1, y2, y3, y4, _⟩ := v5_facts C3.out
        by_cases hv : vn = 0
        · have h1 : ((vn : Int) == 0) = true := by simp [hv]
          have HV := hide hv
          clear hv
          go_wp2_with fail
          go_ret
          exact ⟨by simp [HV.out], B3.out⟩
        · have h1 : ((vn : Int) == 0) = false := by simp [hv]
          have HV := hide hv
          clear hv
          go_wp2_with fail
          go_ret
          exact ⟨by simp [HV.out], B3.out⟩

set_option maxHeartbeats 8000000 in
set_option maxRecDepth 4000 in
theorem sCmdOk2 (a b c : Int) (va : Option Addr) (vn vc : Nat) (xs : List Int) (w : World) (rv : Row w va vn xs) (hn : vn ≤ 1048576) :
    Calls Tryz.prog 12 #[.agg #[.int .i64 2, .int .i64 a, .int .i64 b, .int .i64 c, .slice va vn vc]] w fun e w' => e = .returned (.bool (cmdB 2 a b c vn xs)) ∧ Below w.heap.size w w' := by
  have C0 := hide (v5_new w (.int .i64 2) (.int .i64 a) (.int .i64 b) (.int .i64 c) (.slice va vn vc) 26)
  have B0 : Hid (Below w.heap.size w (w.alloc (.cells #[.int .i64 2, .int .i64 a, .int .i64 b, .int .i64 c, .slice va vn vc] 26))) := hide (balloc (Below.refl _ _) _)
  have LK := hide (fun w1 => l1In_any 2 1 7 w1)
  rw [show inB 2 1 7 = true from by decide] at LK
  have NU := hide (fun w1 => nums2 a b c va vn vc w1)
  have US := hide (fun w1 => uses2 w1)
  have VO := hide (fun w1 (s : Below w.heap.size w w1) => sVecOk_any va vn vc xs w1 (rv.below s) hn)
  clear rv
  obtain ⟨_, y0, y1, y2, y3, y4, _⟩ := v5_facts C0.out
  have hE : cmdB 2 a b c vn xs = (inB a 1 9999 && (inB b 0 255 && (inB c 0 0 && (if true then vecOkB xs else decide (vn = 0))))) := by
    rw [show cmdB 2 a b c vn xs = fitsB 1 9999 0 255 0 0 true a b c vn xs from rfl]
    unfold fitsB
    rw [in_and, in_and, in_and]
  rw [hE]
  clear hE
  obtain ⟨e0, he0⟩ : ∃ e, inB a 1 9999 = e := ⟨_, rfl⟩
  rw [he0] at NU ⊢
  obtain ⟨e1, he1⟩ : ∃ e, inB b 0 255 = e := ⟨_, rfl⟩
  rw [he1] at NU ⊢
  obtain ⟨e2, he2⟩ : ∃ e, inB c 0 0 = e := ⟨_, rfl⟩
  rw [he2]
  have H0 := hide he0
  clear he0
  have H1 := hide he1
  clear he1
  have H2 := hide he2
  clear he2
  cases e0
  · skip
    go_enter Tryz.func12, Tryz.ntmps12
    go_wp2_with fail
    refine (LK.out _).mono ?_
    rintro e w1 ⟨rfl, hw⟩
    obtain rfl := hw.symm
    clear hw
    go_wp2_with fail
    refine (NU.out _).mono ?_
    rintro e w2 ⟨rfl, hb2⟩
    have C2 := hide (row_belowC C0.out hb2)
    have B2 := hide (bstep B0.out hb2)
    clear hb2 C0 B0 NU y0 y1 y2 y3 y4
    go_wp2_with fail
    go_ret
    exact ⟨by simp, B2.out⟩
  · skip
    cases e1
    · skip
      go_enter Tryz.func12, Tryz.ntmps12
      go_wp2_with fail
      refine (LK.out _).mono ?_
      rintro e w1 ⟨rfl, hw⟩
      obtain rfl := hw.symm
      clear hw
      go_wp2_with fail
      refine (NU.out _).mono ?_
      rintro e w2 ⟨rfl, hb2⟩
      have C2 := hide (row_belowC C0.out hb2)
      have B2 := hide (bstep B0.out hb2)
      clear hb2 C0 B0 NU y0 y1 y2 y3 y4
      go_wp2_with fail
      go_ret
      exact ⟨by simp, B2.out⟩
    · skip
      cases e2
      · skip
        have z2 := in_some H2.out
        go_enter Tryz.func12, Tryz.ntmps12
        go_wp2_with fail
        refine (LK.out _).mono ?_
        rintro e w1 ⟨rfl, hw⟩
        obtain rfl := hw.symm
        clear hw
        go_wp2_with fail
        refine (NU.out _).mono ?_
        rintro e w2 ⟨rfl, hb2⟩
        have C2 := hide (row_belowC C0.out hb2)
        have B2 := hide (bstep B0.out hb2)
        clear hb2 C0 B0 NU y0 y1 y2 y3 y4
        obtain ⟨_, y0, y1, y2, y3, y4, _⟩ := v5_facts C2.out
        go_wp2_with fail
        refine (US.out _).mono ?_
        rintro e w3 ⟨rfl, hb3⟩
        have C3 := hide (row_belowC C2.out hb3)
        have B3 := hide (bstep B2.out hb3)
        clear hb3 C2 B2 US y0 y1 y2 y3 y4
        obtain ⟨_, y0, y1, y2, y3, y4, _⟩ := v5_facts C3.out
        go_wp2_with fail
        go_ret
        exact ⟨by simp, B3.out⟩
      · skip
        have z2 : (c != 0) = false := by rw [in_zero H2.out]; rfl
        go_enter Tryz.func12, Tryz.ntmps12
        go_wp2_with fail
        refine (LK.out _).mono ?_
        rintro e w1 ⟨rfl, hw⟩
        obtain rfl := hw.symm
        clear hw
        go_wp2_with fail
        refine (NU.out _).mono ?_
        rintro e w2 ⟨rfl, hb2⟩
        have C2 := hide (row_belowC C0.out hb2)
        have B2 := hide (bstep B0.out hb2)
        clear hb2 C0 B0 NU y0 y1 y2 y3 y4
        obtain ⟨_, y0, y1, y2, y3, y4, _⟩ := v5_facts C2.out
        go_wp2_with fail
        refine (US.out _).mono ?_
        rintro e w3 ⟨rfl, hb3⟩
        have C3 := hide (row_belowC C2.out hb3)
        have B3 := hide (bstep B2.out hb3)
        clear hb3 C2 B2 US y0 y1 y2 y3 y4
        obtain ⟨_, y0, y1, y2, y3, y4, _⟩ := v5_facts C3.out
        go_wp2_with fail
        refine (VO.out _ B3.out).mono ?_
        rintro e w4 ⟨rfl, hw⟩
        obtain rfl := hw.symm
        clear hw
        obtain ⟨R, hR⟩ : ∃ R, vecOkB xs = R := ⟨_, rfl⟩
        rw [hR]
        have HR := hide hR
        clear hR
        cases R
        all_goals
          go_wp2_with fail
          go_ret
          exact ⟨by simp [HR.out], B3.out⟩

set_option maxHeartbeats 8000000 in
set_option maxRecDepth 4000 in
theorem sCmdOk3 (a b c : Int) (va : Option Addr) (vn vc : Nat) (xs : List Int) (w : World) (rv : Row w va vn xs) (hn : vn ≤ 1048576) :
    Calls Tryz.prog 12 #[.agg #[.int .i64 3, .int .i64 a, .int .i64 b, .int .i64 c, .slice va vn vc]] w fun e w' => e = .returned (.bool (cmdB 3 a b c vn xs)) ∧ Below w.heap.size w w' := by
  have C0 := hide (v5_new w (.int .i64 3) (.int .i64 a) (.int .i64 b) (.int .i64 c) (.slice va vn vc) 26)
  have B0 : Hid (Below w.heap.size w (w.alloc (.cells #[.int .i64 3, .int .i64 a, .int .i64 b, .int .i64 c, .slice va vn vc] 26))) := hide (balloc (Below.refl _ _) _)
  have LK := hide (fun w1 => l1In_any 3 1 7 w1)
  rw [show inB 3 1 7 = true from by decide] at LK
  have NU := hide (fun w1 => nums3 a b c va vn vc w1)
  have US := hide (fun w1 => uses3 w1)
  have VO := hide (fun w1 (s : Below w.heap.size w w1) => sVecOk_any va vn vc xs w1 (rv.below s) hn)
  clear rv
  obtain ⟨_, y0, y1, y2, y3, y4, _⟩ := v5_facts C0.out
  have hE : cmdB 3 a b c vn xs = (inB a 1 9999 && (inB b 0 0 && (inB c 0 0 && (if false then vecOkB xs else decide (vn = 0))))) := by
    rw [show cmdB 3 a b c vn xs = fitsB 1 9999 0 0 0 0 false a b c vn xs from rfl]
    unfold fitsB
    rw [in_and, in_and, in_and]
  rw [hE]
  clear hE
  obtain ⟨e0, he0⟩ : ∃ e, inB a 1 9999 = e := ⟨_, rfl⟩
  rw [he0] at NU ⊢
  obtain ⟨e1, he1⟩ : ∃ e, inB b 0 0 = e := ⟨_, rfl⟩
  rw [he1]
  obtain ⟨e2, he2⟩ : ∃ e, inB c 0 0 = e := ⟨_, rfl⟩
  rw [he2]
  have H0 := hide he0
  clear he0
  have H1 := hide he1
  clear he1
  have H2 := hide he2
  clear he2
  cases e0
  · skip
    go_enter Tryz.func12, Tryz.ntmps12
    go_wp2_with fail
    refine (LK.out _).mono ?_
    rintro e w1 ⟨rfl, hw⟩
    obtain rfl := hw.symm
    clear hw
    go_wp2_with fail
    refine (NU.out _).mono ?_
    rintro e w2 ⟨rfl, hb2⟩
    have C2 := hide (row_belowC C0.out hb2)
    have B2 := hide (bstep B0.out hb2)
    clear hb2 C0 B0 NU y0 y1 y2 y3 y4
    go_wp2_with fail
    go_ret
    exact ⟨by simp, B2.out⟩
  · skip
    cases e1
    · skip
      have z1 := in_some H1.out
      go_enter Tryz.func12, Tryz.ntmps12
      go_wp2_with fail
      refine (LK.out _).mono ?_
      rintro e w1 ⟨rfl, hw⟩
      obtain rfl := hw.symm
      clear hw
      go_wp2_with fail
      refine (NU.out _).mono ?_
      rintro e w2 ⟨rfl, hb2⟩
      have C2 := hide (row_belowC C0.out hb2)
      have B2 := hide (bstep B0.out hb2)
      clear hb2 C0 B0 NU y0 y1 y2 y3 y4
      obtain ⟨_, y0, y1, y2, y3, y4, _⟩ := v5_facts C2.out
      go_wp2_with fail
      refine (US.out _).mono ?_
      rintro e w3 ⟨rfl, hb3⟩
      have C3 := hide (row_belowC C2.out hb3)
      have B3 := hide (bstep B2.out hb3)
      clear hb3 C2 B2 US y0 y1 y2 y3 y4
      obtain ⟨_, y0, y1, y2, y3, y4, _⟩ := v5_facts C3.out
      go_wp2_with fail
      go_ret
      exact ⟨by simp, B3.out⟩
    · skip
      have z1 : (b != 0) = false := by rw [in_zero H1.out]; rfl
      cases e2
      · skip
        have z2 := in_some H2.out
        go_enter Tryz.func12, Tryz.ntmps12
        go_wp2_with fail
        refine (LK.out _).mono ?_
        rintro e w1 ⟨rfl, hw⟩
        obtain rfl := hw.symm
        clear hw
        go_wp2_with fail
        refine (NU.out _).mono ?_
        rintro e w2 ⟨rfl, hb2⟩
        have C2 := hide (row_belowC C0.out hb2)
        have B2 := hide (bstep B0.out hb2)
        clear hb2 C0 B0 NU y0 y1 y2 y3 y4
        obtain ⟨_, y0, y1, y2, y3, y4, _⟩ := v5_facts C2.out
        go_wp2_with fail
        refine (US.out _).mono ?_
        rintro e w3 ⟨rfl, hb3⟩
        have C3 := hide (row_belowC C2.out hb3)
        have B3 := hide (bstep B2.out hb3)
        clear hb3 C2 B2 US y0 y1 y2 y3 y4
        obtain ⟨_, y0, y1, y2, y3, y4, _⟩ := v5_facts C3.out
        go_wp2_with fail
        go_ret
        exact ⟨by simp, B3.out⟩
      · skip
        have z2 : (c != 0) = false := by rw [in_zero H2.out]; rfl
        go_enter Tryz.func12, Tryz.ntmps12
        go_wp2_with fail
        refine (LK.out _).mono ?_
        rintro e w1 ⟨rfl, hw⟩
        obtain rfl := hw.symm
        clear hw
        go_wp2_with fail
        refine (NU.out _).mono ?_
        rintro e w2 ⟨rfl, hb2⟩
        have C2 := hide (row_belowC C0.out hb2)
        have B2 := hide (bstep B0.out hb2)
        clear hb2 C0 B0 NU y0 y1 y2 y3 y4
        obtain ⟨_, y0, y1, y2, y3, y4, _⟩ := v5_facts C2.out
        go_wp2_with fail
        refine (US.out _).mono ?_
        rintro e w3 ⟨rfl, hb3⟩
        have C3 := hide (row_belowC C2.out hb3)
        have B3 := hide (bstep B2.out hb3)
        clear hb3 C2 B2 US y0 y1 y2 y3 y4
        obtain ⟨_, y0, y1, y2, y3, y4, _⟩ := v5_facts C3.out
        by_cases hv : vn = 0
        · have h1 : ((vn : Int) == 0) = true := by simp [hv]
          have HV := hide hv
          clear hv
          go_wp2_with fail
          go_ret
          exact ⟨by simp [HV.out], B3.out⟩
        · have h1 : ((vn : Int) == 0) = false := by simp [hv]
          have HV := hide hv
          clear hv
          go_wp2_with fail
          go_ret
          exact ⟨by simp [HV.out], B3.out⟩

set_option maxHeartbeats 8000000 in
set_option maxRecDepth 4000 in
theorem sCmdOk4 (a b c : Int) (va : Option Addr) (vn vc : Nat) (xs : List Int) (w : World) (rv : Row w va vn xs) (hn : vn ≤ 1048576) :
    Calls Tryz.prog 12 #[.agg #[.int .i64 4, .int .i64 a, .int .i64 b, .int .i64 c, .slice va vn vc]] w fun e w' => e = .returned (.bool (cmdB 4 a b c vn xs)) ∧ Below w.heap.size w w' := by
  have C0 := hide (v5_new w (.int .i64 4) (.int .i64 a) (.int .i64 b) (.int .i64 c) (.slice va vn vc) 26)
  have B0 : Hid (Below w.heap.size w (w.alloc (.cells #[.int .i64 4, .int .i64 a, .int .i64 b, .int .i64 c, .slice va vn vc] 26))) := hide (balloc (Below.refl _ _) _)
  have LK := hide (fun w1 => l1In_any 4 1 7 w1)
  rw [show inB 4 1 7 = true from by decide] at LK
  have NU := hide (fun w1 => nums4 a b c va vn vc w1)
  have US := hide (fun w1 => uses4 w1)
  have VO := hide (fun w1 (s : Below w.heap.size w w1) => sVecOk_any va vn vc xs w1 (rv.below s) hn)
  clear rv
  obtain ⟨_, y0, y1, y2, y3, y4, _⟩ := v5_facts C0.out
  have hE : cmdB 4 a b c vn xs = (inB a 0 0 && (inB b 0 0 && (inB c 0 0 && (if false then vecOkB xs else decide (vn = 0))))) := by
    rw [show cmdB 4 a b c vn xs = fitsB 0 0 0 0 0 0 false a b c vn xs from rfl]
    unfold fitsB
    rw [in_and, in_and, in_and]
  rw [hE]
  clear hE
  obtain ⟨e0, he0⟩ : ∃ e, inB a 0 0 = e := ⟨_, rfl⟩
  rw [he0]
  obtain ⟨e1, he1⟩ : ∃ e, inB b 0 0 = e := ⟨_, rfl⟩
  rw [he1]
  obtain ⟨e2, he2⟩ : ∃ e, inB c 0 0 = e := ⟨_, rfl⟩
  rw [he2]
  have H0 := hide he0
  clear he0
  have H1 := hide he1
  clear he1
  have H2 := hide he2
  clear he2
  cases e0
  · skip
    have z0 := in_some H0.out
    go_enter Tryz.func12, Tryz.ntmps12
    go_wp2_with fail
    refine (LK.out _).mono ?_
    rintro e w1 ⟨rfl, hw⟩
    obtain rfl := hw.symm
    clear hw
    go_wp2_with fail
    refine (NU.out _).mono ?_
    rintro e w2 ⟨rfl, hb2⟩
    have C2 := hide (row_belowC C0.out hb2)
    have B2 := hide (bstep B0.out hb2)
    clear hb2 C0 B0 NU y0 y1 y2 y3 y4
    obtain ⟨_, y0, y1, y2, y3, y4, _⟩ := v5_facts C2.out
    go_wp2_with fail
    refine (US.out _).mono ?_
    rintro e w3 ⟨rfl, hb3⟩
    have C3 := hide (row_belowC C2.out hb3)
    have B3 := hide (bstep B2.out hb3)
    clear hb3 C2 B2 US y0 y1 y2 y3 y4
    obtain ⟨_, y0, y1, y2, y3, y4, _⟩ := v5_facts C3.out
    go_wp2_with fail
    go_ret
    exact ⟨by simp, B3.out⟩
  · skip
    have z0 : (a != 0) = false := by rw [in_zero H0.out]; rfl
    cases e1
    · skip
      have z1 := in_some H1.out
      go_enter Tryz.func12, Tryz.ntmps12
      go_wp2_with fail
      refine (LK.out _).mono ?_
      rintro e w1 ⟨rfl, hw⟩
      obtain rfl := hw.symm
      clear hw
      go_wp2_with fail
      refine (NU.out _).mono ?_
      rintro e w2 ⟨rfl, hb2⟩
      have C2 := hide (row_belowC C0.out hb2)
      have B2 := hide (bstep B0.out hb2)
      clear hb2 C0 B0 NU y0 y1 y2 y3 y4
      obtain ⟨_, y0, y1, y2, y3, y4, _⟩ := v5_facts C2.out
      go_wp2_with fail
      refine (US.out _).mono ?_
      rintro e w3 ⟨rfl, hb3⟩
      have C3 := hide (row_belowC C2.out hb3)
      have B3 := hide (bstep B2.out hb3)
      clear hb3 C2 B2 US y0 y1 y2 y3 y4
      obtain ⟨_, y0, y1, y2, y3, y4, _⟩ := v5_facts C3.out
      go_wp2_with fail
      go_ret
      exact ⟨by simp, B3.out⟩
    · skip
      have z1 : (b != 0) = false := by rw [in_zero H1.out]; rfl
      cases e2
      · skip
        have z2 := in_some H2.out
        go_enter Tryz.func12, Tryz.ntmps12
        go_wp2_with fail
        refine (LK.out _).mono ?_
        rintro e w1 ⟨rfl, hw⟩
        obtain rfl := hw.symm
        clear hw
        go_wp2_with fail
        refine (NU.out _).mono ?_
        rintro e w2 ⟨rfl, hb2⟩
        have C2 := hide (row_belowC C0.out hb2)
        have B2 := hide (bstep B0.out hb2)
        clear hb2 C0 B0 NU y0 y1 y2 y3 y4
        obtain ⟨_, y0, y1, y2, y3, y4, _⟩ := v5_facts C2.out
        go_wp2_with fail
        refine (US.out _).mono ?_
        rintro e w3 ⟨rfl, hb3⟩
        have C3 := hide (row_belowC C2.out hb3)
        have B3 := hide (bstep B2.out hb3)
        clear hb3 C2 B2 US y0 y1 y2 y3 y4
        obtain ⟨_, y0, y1, y2, y3, y4, _⟩ := v5_facts C3.out
        go_wp2_with fail
        go_ret
        exact ⟨by simp, B3.out⟩
      · skip
        have z2 : (c != 0) = false := by rw [in_zero H2.out]; rfl
        go_enter Tryz.func12, Tryz.ntmps12
        go_wp2_with fail
        refine (LK.out _).mono ?_
        rintro e w1 ⟨rfl, hw⟩
        obtain rfl := hw.symm
        clear hw
        go_wp2_with fail
        refine (NU.out _).mono ?_
        rintro e w2 ⟨rfl, hb2⟩
        have C2 := hide (row_belowC C0.out hb2)
        have B2 := hide (bstep B0.out hb2)
        clear hb2 C0 B0 NU y0 y1 y2 y3 y4
        obtain ⟨_, y0, y1, y2, y3, y4, _⟩ := v5_facts C2.out
        go_wp2_with fail
        refine (US.out _).mono ?_
        rintro e w3 ⟨rfl, hb3⟩
        have C3 := hide (row_belowC C2.out hb3)
        have B3 := hide (bstep B2.out hb3)
        clear hb3 C2 B2 US y0 y1 y2 y3 y4
        obtain ⟨_, y0, y1, y2, y3, y4, _⟩ := v5_facts C3.out
        by_cases hv : vn = 0
        · have h1 : ((vn : Int) == 0) = true := by simp [hv]
          have HV := hide hv
          clear hv
          go_wp2_with fail
          go_ret
          exact ⟨by simp [HV.out], B3.out⟩
        · have h1 : ((vn : Int) == 0) = false := by simp [hv]
          have HV := hide hv
          clear hv
          go_wp2_with fail
          go_ret
          exact ⟨by simp [HV.out], B3.out⟩

set_option maxHeartbeats 8000000 in
set_option maxRecDepth 4000 in
theorem sCmdOk5 (a b c : Int) (va : Option Addr) (vn vc : Nat) (xs : List Int) (w : World) (rv : Row w va vn xs) (hn : vn ≤ 1048576) :
    Calls Tryz.prog 12 #[.agg #[.int .i64 5, .int .i64 a, .int .i64 b, .int .i64 c, .slice va vn vc]] w fun e w' => e = .returned (.bool (cmdB 5 a b c vn xs)) ∧ Below w.heap.size w w' := by
  have C0 := hide (v5_new w (.int .i64 5) (.int .i64 a) (.int .i64 b) (.int .i64 c) (.slice va vn vc) 26)
  have B0 : Hid (Below w.heap.size w (w.alloc (.cells #[.int .i64 5, .int .i64 a, .int .i64 b, .int .i64 c, .slice va vn vc] 26))) := hide (balloc (Below.refl _ _) _)
  have LK := hide (fun w1 => l1In_any 5 1 7 w1)
  rw [show inB 5 1 7 = true from by decide] at LK
  have NU := hide (fun w1 => nums5 a b c va vn vc w1)
  have US := hide (fun w1 => uses5 w1)
  have VO := hide (fun w1 (s : Below w.heap.size w w1) => sVecOk_any va vn vc xs w1 (rv.below s) hn)
  clear rv
  obtain ⟨_, y0, y1, y2, y3, y4, _⟩ := v5_facts C0.out
  have hE : cmdB 5 a b c vn xs = (inB a 1 60 && (inB b 0 0 && (inB c 0 0 && (if false then vecOkB xs else decide (vn = 0))))) := by
    rw [show cmdB 5 a b c vn xs = fitsB 1 60 0 0 0 0 false a b c vn xs from rfl]
    unfold fitsB
    rw [in_and, in_and, in_and]
  rw [hE]
  clear hE
  obtain ⟨e0, he0⟩ : ∃ e, inB a 1 60 = e := ⟨_, rfl⟩
  rw [he0] at NU ⊢
  obtain ⟨e1, he1⟩ : ∃ e, inB b 0 0 = e := ⟨_, rfl⟩
  rw [he1]
  obtain ⟨e2, he2⟩ : ∃ e, inB c 0 0 = e := ⟨_, rfl⟩
  rw [he2]
  have H0 := hide he0
  clear he0
  have H1 := hide he1
  clear he1
  have H2 := hide he2
  clear he2
  cases e0
  · skip
    go_enter Tryz.func12, Tryz.ntmps12
    go_wp2_with fail
    refine (LK.out _).mono ?_
    rintro e w1 ⟨rfl, hw⟩
    obtain rfl := hw.symm
    clear hw
    go_wp2_with fail
    refine (NU.out _).mono ?_
    rintro e w2 ⟨rfl, hb2⟩
    have C2 := hide (row_belowC C0.out hb2)
    have B2 := hide (bstep B0.out hb2)
    clear hb2 C0 B0 NU y0 y1 y2 y3 y4
    go_wp2_with fail
    go_ret
    exact ⟨by simp, B2.out⟩
  · skip
    cases e1
    · skip
      have z1 := in_some H1.out
      go_enter Tryz.func12, Tryz.ntmps12
      go_wp2_with fail
      refine (LK.out _).mono ?_
      rintro e w1 ⟨rfl, hw⟩
      obtain rfl := hw.symm
      clear hw
      go_wp2_with fail
      refine (NU.out _).mono ?_
      rintro e w2 ⟨rfl, hb2⟩
      have C2 := hide (row_belowC C0.out hb2)
      have B2 := hide (bstep B0.out hb2)
      clear hb2 C0 B0 NU y0 y1 y2 y3 y4
      obtain ⟨_, y0, y1, y2, y3, y4, _⟩ := v5_facts C2.out
      go_wp2_with fail
      refine (US.out _).mono ?_
      rintro e w3 ⟨rfl, hb3⟩
      have C3 := hide (row_belowC C2.out hb3)
      have B3 := hide (bstep B2.out hb3)
      clear hb3 C2 B2 US y0 y1 y2 y3 y4
      obtain ⟨_, y0, y1, y2, y3, y4, _⟩ := v5_facts C3.out
      go_wp2_with fail
      go_ret
      exact ⟨by simp, B3.out⟩
    · skip
      have z1 : (b != 0) = false := by rw [in_zero H1.out]; rfl
      cases e2
      · skip
        have z2 := in_some H2.out
        go_enter Tryz.func12, Tryz.ntmps12
        go_wp2_with fail
        refine (LK.out _).mono ?_
        rintro e w1 ⟨rfl, hw⟩
        obtain rfl := hw.symm
        clear hw
        go_wp2_with fail
        refine (NU.out _).mono ?_
        rintro e w2 ⟨rfl, hb2⟩
        have C2 := hide (row_belowC C0.out hb2)
        have B2 := hide (bstep B0.out hb2)
        clear hb2 C0 B0 NU y0 y1 y2 y3 y4
        obtain ⟨_, y0, y1, y2, y3, y4, _⟩ := v5_facts C2.out
        go_wp2_with fail
        refine (US.out _).mono ?_
        rintro e w3 ⟨rfl, hb3⟩
        have C3 := hide (row_belowC C2.out hb3)
        have B3 := hide (bstep B2.out hb3)
        clear hb3 C2 B2 US y0 y1 y2 y3 y4
        obtain ⟨_, y0, y1, y2, y3, y4, _⟩ := v5_facts C3.out
        go_wp2_with fail
        go_ret
        exact ⟨by simp, B3.out⟩
      · skip
        have z2 : (c != 0) = false := by rw [in_zero H2.out]; rfl
        go_enter Tryz.func12, Tryz.ntmps12
        go_wp2_with fail
        refine (LK.out _).mono ?_
        rintro e w1 ⟨rfl, hw⟩
        obtain rfl := hw.symm
        clear hw
        go_wp2_with fail
        refine (NU.out _).mono ?_
        rintro e w2 ⟨rfl, hb2⟩
        have C2 := hide (row_belowC C0.out hb2)
        have B2 := hide (bstep B0.out hb2)
        clear hb2 C0 B0 NU y0 y1 y2 y3 y4
        obtain ⟨_, y0, y1, y2, y3, y4, _⟩ := v5_facts C2.out
        go_wp2_with fail
        refine (US.out _).mono ?_
        rintro e w3 ⟨rfl, hb3⟩
        have C3 := hide (row_belowC C2.out hb3)
        have B3 := hide (bstep B2.out hb3)
        clear hb3 C2 B2 US y0 y1 y2 y3 y4
        obtain ⟨_, y0, y1, y2, y3, y4, _⟩ := v5_facts C3.out
        by_cases hv : vn = 0
        · have h1 : ((vn : Int) == 0) = true := by simp [hv]
          have HV := hide hv
          clear hv
          go_wp2_with fail
          go_ret
          exact ⟨by simp [HV.out], B3.out⟩
        · have h1 : ((vn : Int) == 0) = false := by simp [hv]
          have HV := hide hv
          clear hv
          go_wp2_with fail
          go_ret
          exact ⟨by simp [HV.out], B3.out⟩

set_option maxHeartbeats 8000000 in
set_option maxRecDepth 4000 in
theorem sCmdOk6 (a b c : Int) (va : Option Addr) (vn vc : Nat) (xs : List Int) (w : World) (rv : Row w va vn xs) (hn : vn ≤ 1048576) :
    Calls Tryz.prog 12 #[.agg #[.int .i64 6, .int .i64 a, .int .i64 b, .int .i64 c, .slice va vn vc]] w fun e w' => e = .returned (.bool (cmdB 6 a b c vn xs)) ∧ Below w.heap.size w w' := by
  have C0 := hide (v5_new w (.int .i64 6) (.int .i64 a) (.int .i64 b) (.int .i64 c) (.slice va vn vc) 26)
  have B0 : Hid (Below w.heap.size w (w.alloc (.cells #[.int .i64 6, .int .i64 a, .int .i64 b, .int .i64 c, .slice va vn vc] 26))) := hide (balloc (Below.refl _ _) _)
  have LK := hide (fun w1 => l1In_any 6 1 7 w1)
  rw [show inB 6 1 7 = true from by decide] at LK
  have NU := hide (fun w1 => nums6 a b c va vn vc w1)
  have US := hide (fun w1 => uses6 w1)
  have VO := hide (fun w1 (s : Below w.heap.size w w1) => sVecOk_any va vn vc xs w1 (rv.below s) hn)
  clear rv
  obtain ⟨_, y0, y1, y2, y3, y4, _⟩ := v5_facts C0.out
  have hE : cmdB 6 a b c vn xs = (inB a 1 20 && (inB b 0 255 && (inB c 0 1000 && (if true then vecOkB xs else decide (vn = 0))))) := by
    rw [show cmdB 6 a b c vn xs = fitsB 1 20 0 255 0 1000 true a b c vn xs from rfl]
    unfold fitsB
    rw [in_and, in_and, in_and]
  rw [hE]
  clear hE
  obtain ⟨e0, he0⟩ : ∃ e, inB a 1 20 = e := ⟨_, rfl⟩
  rw [he0] at NU ⊢
  obtain ⟨e1, he1⟩ : ∃ e, inB b 0 255 = e := ⟨_, rfl⟩
  rw [he1] at NU ⊢
  obtain ⟨e2, he2⟩ : ∃ e, inB c 0 1000 = e := ⟨_, rfl⟩
  rw [he2] at NU ⊢
  have H0 := hide he0
  clear he0
  have H1 := hide he1
  clear he1
  have H2 := hide he2
  clear he2
  cases e0
  · skip
    go_enter Tryz.func12, Tryz.ntmps12
    go_wp2_with fail
    refine (LK.out _).mono ?_
    rintro e w1 ⟨rfl, hw⟩
    obtain rfl := hw.symm
    clear hw
    go_wp2_with fail
    refine (NU.out _).mono ?_
    rintro e w2 ⟨rfl, hb2⟩
    have C2 := hide (row_belowC C0.out hb2)
    have B2 := hide (bstep B0.out hb2)
    clear hb2 C0 B0 NU y0 y1 y2 y3 y4
    go_wp2_with fail
    go_ret
    exact ⟨by simp, B2.out⟩
  · skip
    cases e1
    · skip
      go_enter Tryz.func12, Tryz.ntmps12
      go_wp2_with fail
      refine (LK.out _).mono ?_
      rintro e w1 ⟨rfl, hw⟩
      obtain rfl := hw.symm
      clear hw
      go_wp2_with fail
      refine (NU.out _).mono ?_
      rintro e w2 ⟨rfl, hb2⟩
      have C2 := hide (row_belowC C0.out hb2)
      have B2 := hide (bstep B0.out hb2)
      clear hb2 C0 B0 NU y0 y1 y2 y3 y4
      go_wp2_with fail
      go_ret
      exact ⟨by simp, B2.out⟩
    · skip
      cases e2
      · skip
        go_enter Tryz.func12, Tryz.ntmps12
        go_wp2_with fail
        refine (LK.out _).mono ?_
        rintro e w1 ⟨rfl, hw⟩
        obtain rfl := hw.symm
        clear hw
        go_wp2_with fail
        refine (NU.out _).mono ?_
        rintro e w2 ⟨rfl, hb2⟩
        have C2 := hide (row_belowC C0.out hb2)
        have B2 := hide (bstep B0.out hb2)
        clear hb2 C0 B0 NU y0 y1 y2 y3 y4
        go_wp2_with fail
        go_ret
        exact ⟨by simp, B2.out⟩
      · skip
        go_enter Tryz.func12, Tryz.ntmps12
        go_wp2_with fail
        refine (LK.out _).mono ?_
        rintro e w1 ⟨rfl, hw⟩
        obtain rfl := hw.symm
        clear hw
        go_wp2_with fail
        refine (NU.out _).mono ?_
        rintro e w2 ⟨rfl, hb2⟩
        have C2 := hide (row_belowC C0.out hb2)
        have B2 := hide (bstep B0.out hb2)
        clear hb2 C0 B0 NU y0 y1 y2 y3 y4
        obtain ⟨_, y0, y1, y2, y3, y4, _⟩ := v5_facts C2.out
        go_wp2_with fail
        refine (US.out _).mono ?_
        rintro e w3 ⟨rfl, hb3⟩
        have C3 := hide (row_belowC C2.out hb3)
        have B3 := hide (bstep B2.out hb3)
        clear hb3 C2 B2 US y0 y1 y2 y3 y4
        obtain ⟨_, y0, y1, y2, y3, y4, _⟩ := v5_facts C3.out
        go_wp2_with fail
        refine (VO.out _ B3.out).mono ?_
        rintro e w4 ⟨rfl, hw⟩
        obtain rfl := hw.symm
        clear hw
        obtain ⟨R, hR⟩ : ∃ R, vecOkB xs = R := ⟨_, rfl⟩
        rw [hR]
        have HR := hide hR
        clear hR
        cases R
        all_goals
          go_wp2_with fail
          go_ret
          exact ⟨by simp [HR.out], B3.out⟩

set_option maxHeartbeats 8000000 in
set_option maxRecDepth 4000 in
theorem sCmdOk7 (a b c : Int) (va : Option Addr) (vn vc : Nat) (xs : List Int) (w : World) (rv : Row w va vn xs) (hn : vn ≤ 1048576) :
    Calls Tryz.prog 12 #[.agg #[.int .i64 7, .int .i64 a, .int .i64 b, .int .i64 c, .slice va vn vc]] w fun e w' => e = .returned (.bool (cmdB 7 a b c vn xs)) ∧ Below w.heap.size w w' := by
  have C0 := hide (v5_new w (.int .i64 7) (.int .i64 a) (.int .i64 b) (.int .i64 c) (.slice va vn vc) 26)
  have B0 : Hid (Below w.heap.size w (w.alloc (.cells #[.int .i64 7, .int .i64 a, .int .i64 b, .int .i64 c, .slice va vn vc] 26))) := hide (balloc (Below.refl _ _) _)
  have LK := hide (fun w1 => l1In_any 7 1 7 w1)
  rw [show inB 7 1 7 = true from by decide] at LK
  have NU := hide (fun w1 => nums7 a b c va vn vc w1)
  have US := hide (fun w1 => uses7 w1)
  have VO := hide (fun w1 (s : Below w.heap.size w w1) => sVecOk_any va vn vc xs w1 (rv.below s) hn)
  clear rv
  obtain ⟨_, y0, y1, y2, y3, y4, _⟩ := v5_facts C0.out
  have hE : cmdB 7 a b c vn xs = (inB a 0 1125899906842624 && (inB b 0 255 && (inB c 0 1000 && (if true then vecOkB xs else decide (vn = 0))))) := by
    rw [show cmdB 7 a b c vn xs = fitsB 0 1125899906842624 0 255 0 1000 true a b c vn xs from rfl]
    unfold fitsB
    rw [in_and, in_and, in_and]
  rw [hE]
  clear hE
  obtain ⟨e0, he0⟩ : ∃ e, inB a 0 1125899906842624 = e := ⟨_, rfl⟩
  rw [he0] at NU ⊢
  obtain ⟨e1, he1⟩ : ∃ e, inB b 0 255 = e := ⟨_, rfl⟩
  rw [he1] at NU ⊢
  obtain ⟨e2, he2⟩ : ∃ e, inB c 0 1000 = e := ⟨_, rfl⟩
  rw [he2] at NU ⊢
  have H0 := hide he0
  clear he0
  have H1 := hide he1
  clear he1
  have H2 := hide he2
  clear he2
  cases e0
  · skip
    go_enter Tryz.func12, Tryz.ntmps12
    go_wp2_with fail
    refine (LK.out _).mono ?_
    rintro e w1 ⟨rfl, hw⟩
    obtain rfl := hw.symm
    clear hw
    go_wp2_with fail
    refine (NU.out _).mono ?_
    rintro e w2 ⟨rfl, hb2⟩
    have C2 := hide (row_belowC C0.out hb2)
    have B2 := hide (bstep B0.out hb2)
    clear hb2 C0 B0 NU y0 y1 y2 y3 y4
    go_wp2_with fail
    go_ret
    exact ⟨by simp, B2.out⟩
  · skip
    cases e1
    · skip
      go_enter Tryz.func12, Tryz.ntmps12
      go_wp2_with fail
      refine (LK.out _).mono ?_
      rintro e w1 ⟨rfl, hw⟩
      obtain rfl := hw.symm
      clear hw
      go_wp2_with fail
      refine (NU.out _).mono ?_
      rintro e w2 ⟨rfl, hb2⟩
      have C2 := hide (row_belowC C0.out hb2)
      have B2 := hide (bstep B0.out hb2)
      clear hb2 C0 B0 NU y0 y1 y2 y3 y4
      go_wp2_with fail
      go_ret
      exact ⟨by simp, B2.out⟩
    · skip
      cases e2
      · skip
        go_enter Tryz.func12, Tryz.ntmps12
        go_wp2_with fail
        refine (LK.out _).mono ?_
        rintro e w1 ⟨rfl, hw⟩
        obtain rfl := hw.symm
        clear hw
        go_wp2_with fail
        refine (NU.out _).mono ?_
        rintro e w2 ⟨rfl, hb2⟩
        have C2 := hide (row_belowC C0.out hb2)
        have B2 := hide (bstep B0.out hb2)
        clear hb2 C0 B0 NU y0 y1 y2 y3 y4
        go_wp2_with fail
        go_ret
        exact ⟨by simp, B2.out⟩
      · skip
        go_enter Tryz.func12, Tryz.ntmps12
        go_wp2_with fail
        refine (LK.out _).mono ?_
        rintro e w1 ⟨rfl, hw⟩
        obtain rfl := hw.symm
        clear hw
        go_wp2_with fail
        refine (NU.out _).mono ?_
        rintro e w2 ⟨rfl, hb2⟩
        have C2 := hide (row_belowC C0.out hb2)
        have B2 := hide (bstep B0.out hb2)
        clear hb2 C0 B0 NU y0 y1 y2 y3 y4
        obtain ⟨_, y0, y1, y2, y3, y4, _⟩ := v5_facts C2.out
        go_wp2_with fail
        refine (US.out _).mono ?_
        rintro e w3 ⟨rfl, hb3⟩
        have C3 := hide (row_belowC C2.out hb3)
        have B3 := hide (bstep B2.out hb3)
        clear hb3 C2 B2 US y0 y1 y2 y3 y4
        obtain ⟨_, y0, y1, y2, y3, y4, _⟩ := v5_facts C3.out
        go_wp2_with fail
        refine (VO.out _ B3.out).mono ?_
        rintro e w4 ⟨rfl, hw⟩
        obtain rfl := hw.symm
        clear hw
        obtain ⟨R, hR⟩ : ∃ R, vecOkB xs = R := ⟨_, rfl⟩
        rw [hR]
        have HR := hide hR
        clear hR
        cases R
        all_goals
          go_wp2_with fail
          go_ret
          exact ⟨by simp [HR.out], B3.out⟩

theorem sCmdOk_any (k a b c : Int) (va : Option Addr) (vn vc : Nat) (xs : List Int) (w : World) (rv : Row w va vn xs) (hn : vn ≤ 1048576) :
    Calls Tryz.prog 12 #[.agg #[.int .i64 k, .int .i64 a, .int .i64 b, .int .i64 c, .slice va vn vc]] w fun e w' => e = .returned (.bool (cmdB k a b c vn xs)) ∧ Below w.heap.size w w' := by
  cases hk : kindB k
  · rw [cmdB_no hk]
    have C0 := hide (v5_new w (.int .i64 k) (.int .i64 a) (.int .i64 b) (.int .i64 c) (.slice va vn vc) 26)
    have B0 : Hid (Below w.heap.size w (w.alloc (.cells #[.int .i64 k, .int .i64 a, .int .i64 b, .int .i64 c, .slice va vn vc] 26))) := hide (balloc (Below.refl _ _) _)
    have LK := hide (fun w1 => l1In_any k 1 7 w1)
    rw [show inB k 1 7 = false from hk] at LK
    clear hk rv
    obtain ⟨_, y0, y1, y2, y3, y4, _⟩ := v5_facts C0.out
    go_enter Tryz.func12, Tryz.ntmps12
    go_wp2_with fail
    refine (LK.out _).mono ?_
    rintro e w1 ⟨rfl, hw⟩
    obtain rfl := hw.symm
    clear hw
    go_wp2_with fail
    go_ret
    exact ⟨rfl, B0.out⟩
  · have h' : 1 ≤ k ∧ k ≤ 7 := of_decide_eq_true hk
    rcases (show k = 1 ∨ k = 2 ∨ k = 3 ∨ k = 4 ∨ k = 5 ∨ k = 6 ∨ k = 7 from by omega) with rfl | rfl | rfl | rfl | rfl | rfl | rfl
    · exact sCmdOk1 a b c va vn vc xs w rv hn
    · exact sCmdOk2 a b c va vn vc xs w rv hn
    · exact sCmdOk3 a b c va vn vc xs w rv hn
    · exact sCmdOk4 a b c va vn vc xs w rv hn
    · exact sCmdOk5 a b c va vn vc xs w rv hn
    · exact sCmdOk6 a b c va vn vc xs w rv hn
    · exact sCmdOk7 a b c va vn vc xs w rv hn
end Go.Proofs.YtggjcccdeaadbaaGreatDoor

/- named of the program: how many numbers a form asks. -/
namespace Go.Proofs.YtggjcccdeaadbaaGreatDoor
open Go.RowKit
set_option maxRecDepth 8000
set_option linter.unusedSimpArgs false
set_option linter.unusedVariables false

def posN (q : Int) : Nat := if 0 < q then 1 else 0
def nmN (q0 q1 q2 : Int) : Nat := posN q0 + posN q1 + posN q2

theorem posN_le (q : Int) : posN q ≤ 1 := by unfold posN; split <;> omega

theorem posN_pos {q : Int} (h : 0 < q) : posN q = 1 := if_pos h

theorem posN_not {q : Int} (h : ¬ 0 < q) : posN q = 0 := if_neg h

theorem indexL (p0 q0 p1 q1 p2 q2 : Int) (w : World) : (Instr.index 36 (.agg #[.int .i64 p0, .int .i64 q0, .int .i64 p1, .int .i64 q1, .int .i64 p2, .int .i64 q2]) (.int .i64 0)).run Tryz.prog w = .ok (.agg #[.int .i64 p0, .int .i64 q0]) w ∧ (Instr.index 36 (.agg #[.int .i64 p0, .int .i64 q0, .int .i64 p1, .int .i64 q1, .int .i64 p2, .int .i64 q2]) (.int .i64 1)).run Tryz.prog w = .ok (.agg #[.int .i64 p1, .int .i64 q1]) w ∧ (Instr.index 36 (.agg #[.int .i64 p0, .int .i64 q0, .int .i64 p1, .int .i64 q1, .int .i64 p2, .int .i64 q2]) (.int .i64 2)).run Tryz.prog w = .ok (.agg #[.int .i64 p2, .int .i64 q2]) w := by
  have u1 := Tryz.underlying36
  have u2 := Tryz.underlying35
  have s2 := Tryz.sizeOf35
  refine ⟨?_, ?_, ?_⟩ <;> (simp [Instr.index, go_sem, part])
structure NmB (w0 w : World) (F : Nat → Value) : Prop where
  one : w.rowIs w0.heap.size 38 9 F
  bel : Below w0.heap.size w0 w

theorem NmB.below {w0 w w' : World} {F : Nat → Value} (h : NmB w0 w F) (hb : Below w.heap.size w w') : NmB w0 w' F := ⟨row_belowC h.one hb, bstep h.bel hb⟩

set_option maxHeartbeats 8000000 in
set_option maxRecDepth 4000 in
theorem named_any (fk : Int) (fn : ByteArray) (p0 q0 p1 q1 p2 q2 : Int) (fv : Bool) (w : World) :
    Calls Tryz.prog 43 #[.agg #[.int .i64 fk, .string fn, .int .i64 p0, .int .i64 q0, .int .i64 p1, .int .i64 q1, .int .i64 p2, .int .i64 q2, .bool fv]] w fun e w' => e = .returned (.int .i64 (nmN q0 q1 q2 : Nat)) ∧ Below w.heap.size w w' := by
  have F0 : Hid (NmB w (w.alloc (.cells #[.int .i64 fk, .string fn, .int .i64 p0, .int .i64 q0, .int .i64 p1, .int .i64 q1, .int .i64 p2, .int .i64 q2, .bool fv] 38)) (v9 (.int .i64 fk) (.string fn) (.int .i64 p0) (.int .i64 q0) (.int .i64 p1) (.int .i64 q1) (.int .i64 p2) (.int .i64 q2) (.bool fv))) := hide
    ⟨v9_new w _ _ _ _ _ _ _ _ _ _, balloc (Below.refl _ _) _⟩
  unfold nmN
  go_enter Tryz.func43, Tryz.ntmps43
  go_wp2_with fail
  go_loopw [3, 8] (fun t i wr => ∃ j m : Nat, j ≤ 3 ∧ m ≤ j ∧ i = .int .i64 j ∧ t = .int .i64 m ∧ Hid (m = (if 0 < j then posN q0 else 0) + (if 1 < j then posN q1 else 0) + (if 2 < j then posN q2 else 0)) ∧ Hid (NmB w wr (v9 (.int .i64 fk) (.string fn) (.int .i64 p0) (.int .i64 q0) (.int .i64 p1) (.int .i64 q1) (.int .i64 p2) (.int .i64 q2) (.bool fv)))) (fun _ i _ => 3 - (intOf i).toNat)
  case atStart => exact ⟨0, 0, by omega, by omega, rfl, rfl, hide (by simp), F0⟩
  case round =>
    obtain ⟨j, m, hj, hm, rfl, rfl, HM, HF⟩ := hrel
    clear F0
    rcases (show j = 0 ∨ j = 1 ∨ j = 2 ∨ j = 3 from by omega) with rfl | rfl | rfl | rfl
    · have hix : ∀ wx, (Instr.index 36 (.agg #[.int .i64 p0, .int .i64 q0, .int .i64 p1, .int .i64 q1, .int .i64 p2, .int .i64 q2]) (.int .i64 0)).run Tryz.prog wx = .ok (.agg #[.int .i64 p0, .int .i64 q0]) wx := fun wx => (indexL p0 q0 p1 q1 p2 q2 wx).1
      by_cases h : 0 < q0
      · go_wp2_with fail
        go_roundw
        case rel => exact ⟨1, m + 1, by omega, by omega, by go_num, by go_num, hide (by have := HM.out; simp [posN_pos h] at this ⊢; omega), hide (HF.out.below (balloc (Below.refl _ _) _))⟩
        case measure => simp [intOf]
      · go_wp2_with fail
        go_roundw
        case rel => exact ⟨1, m, by omega, by omega, by go_num, rfl, hide (by have := HM.out; simp [posN_not h] at this ⊢; omega), hide (HF.out.below (balloc (Below.refl _ _) _))⟩
        case measure => simp [intOf]
    · have hix : ∀ wx, (Instr.index 36 (.agg #[.int .i64 p0, .int .i64 q0, .int .i64 p1, .int .i64 q1, .int .i64 p2, .int .i64 q2]) (.int .i64 1)).run Tryz.prog wx = .ok (.agg #[.int .i64 p1, .int .i64 q1]) wx := fun wx => (indexL p0 q0 p1 q1 p2 q2 wx).2.1
      by_cases h : 0 < q1
      · go_wp2_with fail
        go_roundw
        case rel => exact ⟨2, m + 1, by omega, by omega, by go_num, by go_num, hide (by have := HM.out; simp [posN_pos h] at this ⊢; omega), hide (HF.out.below (balloc (Below.refl _ _) _))⟩
        case measure => simp [intOf]
      · go_wp2_with fail
        go_roundw
        case rel => exact ⟨2, m, by omega, by omega, by go_num, rfl, hide (by have := HM.out; simp [posN_not h] at this ⊢; omega), hide (HF.out.below (balloc (Below.refl _ _) _))⟩
        case measure => simp [intOf]
    · have hix : ∀ wx, (Instr.index 36 (.agg #[.int .i64 p0, .int .i64 q0, .int .i64 p1, .int .i64 q1, .int .i64 p2, .int .i64 q2]) (.int .i64 2)).run Tryz.prog wx = .ok (.agg #[.int .i64 p2, .int .i64 q2]) wx := fun wx => (indexL p0 q0 p1 q1 p2 q2 wx).2.2
      by_cases h : 0 < q2
      · go_wp2_with fail
        go_roundw
        case rel => exact ⟨3, m + 1, by omega, by omega, by go_num, by go_num, hide (by have := HM.out; simp [posN_pos h] at this ⊢; omega), hide (HF.out.below (balloc (Below.refl _ _) _))⟩
        case measure => simp [intOf]
      · go_wp2_with fail
        go_roundw
        case rel => exact ⟨3, m, by omega, by omega, by go_num, rfl, hide (by have := HM.out; simp [posN_not h] at this ⊢; omega), hide (HF.out.below (balloc (Below.refl _ _) _))⟩
        case measure => simp [intOf]
    · obtain rfl : m = posN q0 + posN q1 + posN q2 := by have := HM.out; simpa using this
      go_wp2_with fail
      go_ret
      exact ⟨rfl, HF.out.bel⟩
end Go.Proofs.YtggjcccdeaadbaaGreatDoor
