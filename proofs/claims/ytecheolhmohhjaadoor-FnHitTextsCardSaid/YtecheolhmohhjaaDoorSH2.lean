/- readNumbers of the program. -/
import Derived.Test.YtecheolhmohhjaaDoorSF1
import Derived.Test.YtecheolhmohhjaaDoorSF0
namespace Go.Proofs.YtecheolhmohhjaaDoor
open Go.RowKit
set_option maxRecDepth 8000
set_option linter.unusedSimpArgs false
set_option linter.unusedVariables false

theorem copy_stepT {w : World} {T : TypeId} {g n k : Nat} {xs : List Int} (h : w.rowIs g T n (fun j => .int .i64 (if j < k then nth xs j else 0))) :
    (w.setCell ⟨g, k, none⟩ (.int .i64 (nth xs k))).rowIs g T n (fun j => .int .i64 (if j < k + 1 then nth xs j else 0)) := by
  refine (World.rowIs.set h k _).congr fun j hj => ?_
  by_cases e : j = k
  · subst e; simp
  · by_cases l : j < k
    · rw [if_neg e, if_pos l, if_pos (by omega)]
    · rw [if_neg e, if_neg l, if_neg (by omega)]

theorem three_set {w : World} {T : TypeId} {b : Nat} {F : Nat → Value} (h : w.rowIs b T 3 F) (v0 v1 v2 : Value) :
    (((w.setCell ⟨b, 0, none⟩ v0).setCell ⟨b, 1, none⟩ v1).setCell ⟨b, 2, none⟩ v2).cell? ⟨b, 0, none⟩ = some v0 ∧ (((w.setCell ⟨b, 0, none⟩ v0).setCell ⟨b, 1, none⟩ v1).setCell ⟨b, 2, none⟩ v2).cell? ⟨b, 1, none⟩ = some v1 ∧ (((w.setCell ⟨b, 0, none⟩ v0).setCell ⟨b, 1, none⟩ v1).setCell ⟨b, 2, none⟩ v2).cell? ⟨b, 2, none⟩ = some v2 := by
  have W3 := World.rowIs.set (World.rowIs.set (World.rowIs.set h 0 v0) 1 v1) 2 v2
  exact ⟨by simpa using World.rowIs.cell W3 (show 0 < 3 by omega), by simpa using World.rowIs.cell W3 (show 1 < 3 by omega), by simpa using World.rowIs.cell W3 (show 2 < 3 by omega)⟩

/-- The answer of readNumbers: three numbers, and whether all are read; then they are the texts' numbers, 0 behind them. -/
def INums (w : World) (P : List (List UInt8)) (e : Ending) (w' : World) : Prop :=
  ∃ x0 x1 x2 : Int, e = .returned (.tuple #[.agg #[.int .i64 x0, .int .i64 x1, .int .i64 x2], .bool (allNum P)]) ∧ (allNum P = true → x0 = nth (P.map numV) 0 ∧ x1 = nth (P.map numV) 1 ∧ x2 = nth (P.map numV) 2) ∧ Below w.heap.size w w'

set_option maxHeartbeats 4000000 in
theorem iReadNumbers_any (g n c : Nat) (P : List (List UInt8)) (w : World) (hn : n ≤ 3) (hc : n ≤ c) (S : Strs w g n P) (hsz : ∀ x ∈ P, x.length ≤ 1048576) (V : Vars w) :
    Calls Tryd.prog 18 #[.slice (some ⟨g, 0, none⟩) n c, .int .i64 n] w fun e w' => INums w P e w' := by
  have HSZ := hide hsz
  have HS := hide S
  have HV := hide V
  clear S V hsz
  have R0 : Hid (((w.alloc (.cells #[.int .i64 0, .int .i64 0, .int .i64 0] 41)).alloc (.cells #[.int .i64 0, .int .i64 0, .int .i64 0] 41)).rowIs (w.heap.size + 1) 41 3 (fun j => .int .i64 (if j < 0 then nth (P.map numV) j else 0))) := hide (by
    have := World.rowIs_alloc (w.alloc (.cells #[.int .i64 0, .int .i64 0, .int .i64 0] 41)) #[.int .i64 0, .int .i64 0, .int .i64 0] 41 (fun j => .int .i64 (if j < 0 then nth (P.map numV) j else 0)) (by intro i hi; rcases (show i = 0 ∨ i = 1 ∨ i = 2 from by simp at hi; omega) with rfl | rfl | rfl <;> rfl)
    simpa using this)
  have Z0 : Hid (((w.alloc (.cells #[.int .i64 0, .int .i64 0, .int .i64 0] 41)).alloc (.cells #[.int .i64 0, .int .i64 0, .int .i64 0] 41)).rowIs w.heap.size 41 3 (fun _ => .int .i64 0)) := hide (World.rowIs.alloc (World.rowIs_alloc w #[.int .i64 0, .int .i64 0, .int .i64 0] 41 (fun _ => .int .i64 0) (by intro i hi; rcases (show i = 0 ∨ i = 1 ∨ i = 2 from by simp at hi; omega) with rfl | rfl | rfl <;> rfl)) _)
  go_enter Tryd.func18, Tryd.ntmps18
  go_wp2_with fail
  go_loopw [21] (fun i wr => ∃ (k : Nat), k ≤ n ∧ i = .int .i64 k ∧ Hid (allNum (P.take k) = true) ∧ Hid (wr.rowIs (w.heap.size + 1) 41 3 (fun j => .int .i64 (if j < k then nth (P.map numV) j else 0))) ∧ Hid (wr.rowIs w.heap.size 41 3 (fun _ => .int .i64 0)) ∧ Hid (Below w.heap.size w wr)) (fun i _ => n - (intOf i).toNat)
  case atStart => exact ⟨0, Nat.zero_le _, rfl, hide rfl, R0, Z0, hide (by repeat' first | with_reducible exact Below.refl _ _ | with_reducible assumption | with_reducible refine below_drewN ?_ _ | with_reducible refine balloc ?_ _ | with_reducible refine Below.drew ?_ | with_reducible refine Below.setCell ?_ (by first | (simp; done) | (simp; omega) | omega) _ | with_reducible refine bstep ?_ (by assumption))⟩
  case round =>
    clear R0 Z0
    obtain ⟨k, hk, rfl, HA, HR, HZ, HB⟩ := hrel
    by_cases hlt : k < n
    · obtain ⟨x, hx, hcx⟩ := (HS.out.below HB.out).cell k hlt
      have RN := hide (readNumber_any (bs x) wr (by rw [bs_size]; exact HSZ.out x (List.mem_of_getElem? hx)) (HV.out.below HB.out))
      rw [bs_list] at RN
      have HX := hide (nth_map P k x hx)
      have HT : Hid (P.take (k + 1) = P.take k ++ [x]) := hide (by
        have hl : k < P.length := (List.getElem?_eq_some_iff.1 hx).1
        rw [List.take_succ_eq_append_getElem hl, (List.getElem?_eq_some_iff.1 hx).2])
      have HM := hide (List.mem_of_getElem? hx)
      have lw := World.rowIs.lt HR.out
      have lz := World.rowIs.lt HZ.out
      clear hx
      cases hs : (numL x).isSome
      · rw [hs] at RN
        have NB := hide (show allNum P = false from by
          cases q : allNum P
          · rfl
          · have := List.all_eq_true.1 q x HM.out
            rw [hs] at this; cases this)
        clear hs
        go_wp2_with fail
        refine RN.out.mono ?_
        rintro e w3 ⟨rfl, hb3⟩
        have R3 := hide (HR.out.of_block (hb3.block _ lw))
        have Z3 := hide (HZ.out.of_block (hb3.block _ lz))
        have B3 := hide (bstep HB.out hb3)
        have r0 := World.rowIs.cell R3.out (show 0 < 3 by omega)
        have r1 := World.rowIs.cell R3.out (show 1 < 3 by omega)
        have r2 := World.rowIs.cell R3.out (show 2 < 3 by omega)
        have z0 := World.rowIs.cell Z3.out (show 0 < 3 by omega)
        have z1 := World.rowIs.cell Z3.out (show 1 < 3 by omega)
        have z2 := World.rowIs.cell Z3.out (show 2 < 3 by omega)
        have f0 := World.rowIs.frozen Z3.out 0
        have f1 := World.rowIs.frozen Z3.out 1
        have f2 := World.rowIs.frozen Z3.out 2
        clear hcx hb3 HR HZ
        generalize (if 0 < k then nth (P.map numV) 0 else 0) = y0 at r0
        generalize (if 1 < k then nth (P.map numV) 1 else 0) = y1 at r1
        generalize (if 2 < k then nth (P.map numV) 2 else 0) = y2 at r2
        go_wp2_with fail
        obtain ⟨e0, e1, e2⟩ := three_set Z3.out (.int .i64 y0) (.int .i64 y1) (.int .i64 y2)
        refine bodyPost_ret (v := .tuple #[.agg #[.int .i64 y0, .int .i64 y1, .int .i64 y2], .bool false]) (by simp [results, Tryd.results18, go_sem, e0, e1, e2]) rfl ⟨y0, y1, y2, by rw [NB.out], fun h => absurd (NB.out.symm.trans h) (by decide), ?_⟩
        exact ((B3.out.setCell (Nat.le_refl _) _).setCell (Nat.le_refl _) _).setCell (Nat.le_refl _) _
      · rw [hs] at RN
        have HA2 : Hid (allNum (P.take (k + 1)) = true) := hide (by
          have ha := HA.out
          unfold allNum at ha ⊢
          rw [HT.out, List.all_append, ha, List.all_cons, hs]; rfl)
        clear hs
        go_wp2_with fail
        refine RN.out.mono ?_
        rintro e w3 ⟨rfl, hb3⟩
        have R3 := hide (HR.out.of_block (hb3.block _ lw))
        have Z3 := hide (HZ.out.of_block (hb3.block _ lz))
        have Z4 := hide (World.rowIs.setOther Z3.out (a := ⟨w.heap.size + 1, k, none⟩) (by simp) (.int .i64 (nth (P.map numV) k)))
        have B3 := hide (bstep HB.out hb3)
        have h2 := World.rowIs.cell R3.out (show k < 3 by omega)
        have h3 := World.rowIs.frozen R3.out k
        have hk3 : (k : Int) < 3 := by omega
        have RS := hide (copy_stepT R3.out)
        rw [HX.out] at RS Z4
        clear hcx hb3 HR HZ
        go_wp2_with fail
        go_roundw
        case rel => exact ⟨k + 1, by omega, by go_num, HA2, RS, Z4, hide (B3.out.setCell (by simp) _)⟩
        case measure => simp [intOf]; omega
    · obtain rfl : k = n := by omega
      have hl := hide HS.out.len
      have AL := hide (show allNum P = true from by
        have := HA.out
        rw [List.take_of_length_le (by have := hl.out; omega)] at this
        exact this)
      have VA : Hid (∀ j, (if j < k then nth (P.map numV) j else 0) = nth (P.map numV) j) := hide (fun j => by
        by_cases e : j < k
        · rw [if_pos e]
        · rw [if_neg e]; symm
          unfold nth
          rw [List.getD_eq_getElem?_getD, List.getElem?_eq_none (by rw [List.length_map]; have := hl.out; omega)]; rfl)
      have r0 := World.rowIs.cell HR.out (show 0 < 3 by omega)
      have r1 := World.rowIs.cell HR.out (show 1 < 3 by omega)
      have r2 := World.rowIs.cell HR.out (show 2 < 3 by omega)
      have z0 := World.rowIs.cell HZ.out (show 0 < 3 by omega)
      have z1 := World.rowIs.cell HZ.out (show 1 < 3 by omega)
      have z2 := World.rowIs.cell HZ.out (show 2 < 3 by omega)
      have f0 := World.rowIs.frozen HZ.out 0
      have f1 := World.rowIs.frozen HZ.out 1
      have f2 := World.rowIs.frozen HZ.out 2
      rw [VA.out] at r0 r1 r2
      obtain ⟨y0, hy0⟩ : ∃ y, nth (P.map numV) 0 = y := ⟨_, rfl⟩
      obtain ⟨y1, hy1⟩ : ∃ y, nth (P.map numV) 1 = y := ⟨_, rfl⟩
      obtain ⟨y2, hy2⟩ : ∃ y, nth (P.map numV) 2 = y := ⟨_, rfl⟩
      rw [hy0] at r0
      rw [hy1] at r1
      rw [hy2] at r2
      have HY := hide (show y0 = nth (P.map numV) 0 ∧ y1 = nth (P.map numV) 1 ∧ y2 = nth (P.map numV) 2 from ⟨hy0.symm, hy1.symm, hy2.symm⟩)
      clear hy0 hy1 hy2 HR
      go_wp2_with fail
      obtain ⟨e0, e1, e2⟩ := three_set HZ.out (.int .i64 y0) (.int .i64 y1) (.int .i64 y2)
      refine bodyPost_ret (v := .tuple #[.agg #[.int .i64 y0, .int .i64 y1, .int .i64 y2], .bool true]) (by simp [results, Tryd.results18, go_sem, e0, e1, e2]) rfl ⟨y0, y1, y2, by rw [AL.out], fun _ => HY.out, ?_⟩
      exact ((HB.out.setCell (Nat.le_refl _) _).setCell (Nat.le_refl _) _).setCell (Nat.le_refl _) _
end Go.Proofs.YtecheolhmohhjaaDoor
