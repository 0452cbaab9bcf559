/- The walk of ReadVec of the program. -/
import Derived.Test.YtgckhnnkphlciaaDoorSF2
namespace Go.Proofs.YtgckhnnkphlciaaDoor
open Go.RowKit
set_option maxRecDepth 8000
set_option linter.unusedSimpArgs false
set_option linter.unusedVariables false

/-- What bytealg.MaxLen holds: whatever number. -/
structure Mlen (w : World) : Prop where
  lt : 1 < w.heap.size
  is : ∃ m, w.cell? ⟨1, 0, none⟩ = some (.int .i64 m)

theorem Mlen.below {w w' : World} (h : Mlen w) (hb : Below w.heap.size w w') : Mlen w' := by
  obtain ⟨lt, m, hm⟩ := h
  exact ⟨Nat.lt_of_lt_of_le lt hb.size, m, (hb.cell (p := ⟨1, 0, none⟩) lt).trans hm⟩
/-- A slice of texts that is read. -/
structure Strs (w : World) (g n : Nat) (P : List (List UInt8)) : Prop where
  lt : g < w.heap.size
  len : P.length = n
  cell : ∀ j, j < n → ∃ x, P[j]? = some x ∧ w.cell? ⟨g, j, none⟩ = some (.string (bs x))

theorem Strs.below {w w' : World} {g n : Nat} {P : List (List UInt8)} (h : Strs w g n P) (hb : Below w.heap.size w w') : Strs w' g n P :=
  ⟨Nat.lt_of_lt_of_le h.lt hb.size, h.len, fun j hj => by obtain ⟨x, a, b⟩ := h.cell j hj; exact ⟨x, a, (hb.cell (p := ⟨g, j, none⟩) h.lt).trans b⟩⟩

theorem splitN_any (s : ByteArray) (w : World) (hs : s.size ≤ 1048576) (M : Mlen w) :
    Calls Tryd.prog 49 #[.string s, .string ⟨#[44]⟩, .int .i64 9] w fun e w' => ∃ n c, e = .returned (.slice (some ⟨w.heap.size, 0, none⟩) n c) ∧ n ≤ 9 ∧ Strs w' w.heap.size n (partsN s.data.toList) ∧ Below w.heap.size w w' := by
  obtain ⟨_, m, hm⟩ := M
  refine (Tryd.strings_SplitN s ⟨#[44]⟩ 9 m w (by omega) hm (by decide) (by omega) (by omega)).mono fun e w' ⟨he, hw⟩ => ?_
  obtain ⟨L, hL⟩ : ∃ L, Lib.splitB ⟨#[44]⟩ 0 (min 9 (s.size + 1) - 1) s = L := ⟨_, rfl⟩
  have hp := parts_min s
  have hn := Lib.splitB_length_le ⟨#[44]⟩ 0 (min 9 (s.size + 1) - 1) s
  rw [hL] at he hw hp hn
  have hpl : (partsN s.data.toList).length = L.length := by rw [← hp, List.length_map]
  refine ⟨L.length, _, he, by omega, ⟨by rw [hw]; simp, hpl, fun j hj => ?_⟩, by rw [hw]; exact balloc (Below.refl _ _) _⟩
  refine ⟨L[j].data.toList, by rw [← hp, List.getElem?_map, List.getElem?_eq_getElem hj]; rfl, ?_⟩
  rw [hw, bs_of]
  have : (L.map Value.string ++ List.replicate (min 9 (s.size + 1) - L.length) (Value.string ByteArray.empty))[j]? = some (Value.string L[j]) := by
    rw [List.getElem?_append_left (by simpa using hj), List.getElem?_map, List.getElem?_eq_getElem hj]; rfl
  simp [Lib.cellsOf, this]

/-- The answer of the program's ReadVec. -/
def IRead (w : World) (l : List UInt8) (e : Ending) (w' : World) : Prop :=
  ∃ v, e = .returned (.tuple #[v, .bool (readVB l)]) ∧ Fresh w.heap.size w' v (readVL l) ∧ Below w.heap.size w w'

set_option maxHeartbeats 4000000 in
theorem iReadVec_any (s : ByteArray) (w : World) (hs : s.size ≤ 1048576) (V : Vars w) (M : Mlen w) :
    Calls Tryd.prog 36 #[.string s] w fun e w' => IRead w s.data.toList e w' := by
  have SP := hide (splitN_any s w hs M)
  have HV := hide V
  obtain ⟨P, hP⟩ : ∃ P, partsN s.data.toList = P := ⟨_, rfl⟩
  have NO : Hid (¬ (allNum P = true ∧ vecOkB (P.map numV) = true) → ∀ w', Below w.heap.size w w' → IRead w s.data.toList (.returned (.tuple #[.slice none 0 0, .bool false])) w') := hide fun h w' hb => by
    have e1 : readVB s.data.toList = false := by
      cases q : readVB s.data.toList
      · rfl
      · exact absurd (hP ▸ read_no q) h
    have e2 : readVL s.data.toList = [] := by unfold readVL; rw [e1]; rfl
    unfold IRead
    rw [e1, e2]
    exact ⟨_, rfl, .inl ⟨rfl, rfl⟩, hb⟩
  have YES : Hid (allNum P = true → vecOkB (P.map numV) = true → readVB s.data.toList = true ∧ readVL s.data.toList = P.map numV) := hide fun a b => by
    subst hP
    obtain ⟨e1, e2⟩ := read_yes a b
    exact ⟨e1, by unfold readVL; rw [e1, if_pos rfl, e2]⟩
  rw [hP] at SP
  have hsz : ∀ x ∈ P, x.length ≤ 1048576 := fun x hx => by
    have : ∀ (k : Nat) (l : List UInt8), ∀ x ∈ splitK 44 k l, x.length ≤ l.length := by
      intro k
      induction k with
      | zero => intro l x hx; rw [List.mem_singleton.1 hx]; exact Nat.le_refl _
      | succ k ih =>
        intro l x hx
        have hcb := congrArg List.length (cut_back 44 l).2
        rw [List.length_append] at hcb
        have hcl := cut_len 44 l
        unfold splitK at hx
        split at hx
        · rcases List.mem_cons.1 hx with rfl | hx
          · omega
          · have := ih _ x hx; omega
        · rw [List.mem_singleton.1 hx]; exact Nat.le_refl _
    have := this 8 s.data.toList x (by rw [← hP] at hx; exact hx)
    rw [← size_list] at this
    omega
  have HSZ := hide hsz
  clear V M hP hsz
  go_enter Tryd.func36, Tryd.ntmps36
  go_wp2_with fail
  refine SP.out.mono ?_
  rintro e w1 ⟨n, c, rfl, hn9, hS, hb1⟩
  have hmk := run_make_row' (P := Tryd.prog) 22 2 (.int .i64 0) 8 Tryd.underlying22 Tryd.infoI64 rfl .i64 .i64 n (by omega) (by omega)
  have S1 := hide hS
  have B1 := hide hb1
  have V1 := hide (HV.out.below hb1)
  have l1 := hb1.size
  clear hS hb1 SP HV
  go_wp2_with fail
  go_loopw [6, 7, 8, 9, 17] (fun _ _ _ _ i wr => ∃ (k : Nat), k ≤ n ∧ i = .int .i64 k ∧ Hid (allNum (P.take k) = true) ∧ Hid (wr.rowIs w1.heap.size 2 n (fun j => .int .i64 (if j < k then nth (P.map numV) j else 0))) ∧ Hid (Below w1.heap.size w1 wr)) (fun _ _ _ _ i _ => n - (intOf i).toNat)
  case atStart => exact ⟨0, Nat.zero_le _, rfl, hide rfl, hide ((World.rowIs_made w1 (.int .i64 0) n 2).congr (fun j _ => by simp)), hide (by repeat' first | with_reducible exact Below.refl _ _ | with_reducible assumption | with_reducible refine below_drewN ?_ _ | with_reducible refine balloc ?_ _ | with_reducible refine Below.drew ?_ | with_reducible refine Below.setCell ?_ (by first | (simp; done) | (simp; omega) | omega) _ | with_reducible refine bstep ?_ (by assumption))⟩
  case round =>
    obtain ⟨k, hk, rfl, HA, HR, HB⟩ := hrel
    by_cases hlt : k < n
    · obtain ⟨x, hx, hc⟩ := (S1.out.below HB.out).cell k hlt
      have RN := hide (readNumber_any (bs x) wr (by rw [bs_size]; exact HSZ.out x (List.mem_of_getElem? hx)) (V1.out.below HB.out))
      rw [bs_list] at RN
      have HX := hide (nth_map P k x hx)
      have HT : Hid (P.take (k + 1) = P.take k ++ [x]) := hide (by
        have hl : k < P.length := (List.getElem?_eq_some_iff.1 hx).1
        rw [List.take_succ_eq_append_getElem hl, (List.getElem?_eq_some_iff.1 hx).2])
      have lw := World.rowIs.lt HR.out
      have HM := hide (List.mem_of_getElem? hx)
      clear hx
      cases hs : (numL x).isSome
      · rw [hs] at RN
        have NB := hide (NO.out (fun q => by
          have := List.all_eq_true.1 q.1 x HM.out
          rw [hs] at this; cases this))
        clear hs
        go_wp2_with fail
        refine RN.out.mono ?_
        rintro e w3 ⟨rfl, hb3⟩
        have B3 := hide (bstep B1.out (bstep HB.out hb3))
        clear hc hb3
        go_wp2_with fail
        refine bodyPost_ret (v := .tuple #[.slice none 0 0, .bool false]) (by simp [results, Tryd.results36, go_sem]) rfl (NB.out _ B3.out)
      · rw [hs] at RN
        have HA2 : Hid (allNum (P.take (k + 1)) = true) := hide (by
          have ha := HA.out
          unfold allNum at ha ⊢
          rw [HT.out, List.all_append, ha, List.all_cons, hs]; rfl)
        clear hs
        go_wp2_with fail
        refine RN.out.mono ?_
        rintro e w3 ⟨rfl, hb3⟩
        have R3 := hide (HR.out.of_block (hb3.block _ lw))
        have h2 := World.rowIs.cell R3.out hlt
        have h3 := World.rowIs.frozen R3.out k
        have RS := hide (copy_step R3.out)
        rw [HX.out] at RS
        have B3 := hide (bstep HB.out hb3)
        clear hc hb3 HR
        go_wp2_with fail
        go_roundw
        case rel => exact ⟨k + 1, by omega, by go_num, HA2, RS, hide (B3.out.setCell (Nat.le_refl _) _)⟩
        case measure => simp [intOf]; omega
    · obtain rfl : k = n := by omega
      have ha : allNum P = true := by have := HA.out; rwa [← S1.out.len, List.take_length] at this
      have own : Own wr w1.heap.size (P.map numV) := by
        unfold Own
        rw [List.length_map, S1.out.len]
        exact HR.out.congr fun j hj => by rw [if_pos hj]
      have OW := hide own
      have hVl : (P.map numV).length = k := by rw [List.length_map, S1.out.len]
      have rw1 := own.row
      rw [hVl] at rw1
      have VO := hide (iVecOk_any _ k k _ wr rw1 (by omega))
      have BB := hide (bstep B1.out HB.out)
      cases hv : vecOkB (P.map numV)
      · rw [hv] at VO
        have NB := hide (NO.out (fun q => by rw [hv] at q; exact absurd q.2 (by decide)))
        clear hv own rw1 ha hVl
        go_wp2_with fail
        refine VO.out.mono ?_
        rintro e w3 ⟨rfl, hb3⟩
        go_wp2_with fail
        refine bodyPost_ret (v := .tuple #[.slice none 0 0, .bool false]) (by simp [results, Tryd.results36, go_sem]) rfl (NB.out _ (bstep BB.out hb3))
      · rw [hv] at VO
        obtain ⟨y1, y2⟩ := YES.out ha hv
        have FF : Hid (∀ w', Below wr.heap.size wr w' → IRead w s.data.toList (.returned (.tuple #[.slice (some ⟨w1.heap.size, 0, none⟩) k k, .bool true])) w') := hide fun w' hb' => by
          unfold IRead
          rw [y1, y2]
          exact ⟨_, rfl, .inr ⟨w1.heap.size, by rw [hVl], l1, OW.out.below hb'⟩, bstep BB.out hb'⟩
        clear hv own rw1 ha hVl y1 y2
        go_wp2_with fail
        refine VO.out.mono ?_
        rintro e w3 ⟨rfl, hb3⟩
        go_wp2_with fail
        refine bodyPost_ret (v := .tuple #[.slice (some ⟨w1.heap.size, 0, none⟩) k k, .bool true]) (by simp [results, Tryd.results36, go_sem]) rfl (FF.out _ hb3)
end Go.Proofs.YtgckhnnkphlciaaDoor
