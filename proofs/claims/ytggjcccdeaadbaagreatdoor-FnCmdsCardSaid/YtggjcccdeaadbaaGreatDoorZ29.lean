/- ReadVec of the program. -/
import Derived.Test.YtggjcccdeaadbaaGreatDoorZ28
import Derived.Test.YtggjcccdeaadbaaGreatDoorZ22
import Derived.Test.YtggjcccdeaadbaaGreatDoorZ25
import Derived.Test.YtggjcccdeaadbaaGreatDoorZ10
import Derived.Lib.SplitLaws
import Derived.Lib.IndexLaws
import Derived.Lib.IndexBytes
import Derived.Test.YtggjcccdeaadbaaGreatDoorZ17
namespace Go.Proofs.YtggjcccdeaadbaaGreatDoor
open Go.RowKit
set_option maxRecDepth 8000
set_option linter.unusedSimpArgs false
set_option linter.unusedVariables false

theorem libSplit (c : UInt8) : ∀ (k : Nat) (l : List UInt8), Lib.splitK [c] 0 k l = splitK c k l
  | 0, l => rfl
  | k + 1, l => by
    unfold Lib.splitK
    rw [Lib.index_one]
    have ge := Lib.indexByte_ge l c
    by_cases h : Lib.indexByte l c = -1
    · rw [h]
      have hm := cut_miss c l fun j hj => Lib.indexByte_none h j
      show [l] = (if (cutL c l).2.2 then _ else _)
      rw [hm]; rfl
    · obtain ⟨i, hi⟩ : ∃ i : Nat, Lib.indexByte l c = (i : Int) := ⟨(Lib.indexByte l c).toNat, by omega⟩
      obtain ⟨h1, h2⟩ := Lib.indexByte_some hi
      have hh := cut_hit c i l h2 h1
      rw [hi, if_neg (by first | (simp; done) | (simp; omega))]
      show _ = (if (cutL c l).2.2 then (cutL c l).1 :: splitK c k (cutL c l).2.1 else [l])
      rw [hh, if_pos rfl, libSplit c k]
      simp

theorem splitK_len (c : UInt8) (k : Nat) (l : List UInt8) (h : l.length ≤ k) : splitK c k l = splitC c l :=
  splitK_all c k l (by have := split_len c _ l (Nat.lt_succ_self _); omega)
/-- The parts that SplitN tells. -/
def partsN (l : List UInt8) : List (List UInt8) := splitK 44 8 l

theorem parts_min (s : ByteArray) : (Lib.splitB ⟨#[44]⟩ 0 (min 9 (s.size + 1) - 1) s).map (·.data.toList) = partsN s.data.toList := by
  rw [Lib.splitB_data, show (⟨#[44]⟩ : ByteArray).data.toList = [44] from rfl, libSplit]
  unfold partsN
  by_cases h : 8 ≤ s.size
  · rw [show min 9 (s.size + 1) - 1 = 8 by omega]
  · rw [splitK_len 44 (min 9 (s.size + 1) - 1) s.data.toList (by rw [← size_list]; omega), splitK_len 44 8 s.data.toList (by rw [← size_list]; omega)]

theorem dec_len7 {n : Nat} (h : n ≤ 1048576) : (Lib.decDigits n).length ≤ 7 := by
  rw [Lib.decDigits_length]
  rcases Nat.lt_or_ge 7 (Lib.nDigits n) with q | q
  · have : ∀ (k n : Nat), k + 1 < Lib.nDigits n → 10 ^ (k + 1) ≤ n := by
      intro k
      induction k with
      | zero =>
        intro n h
        rcases Nat.lt_or_ge n 10 with p | p
        · rw [Lib.nDigits_small p] at h; omega
        · simpa using p
      | succ k ih =>
        intro n h
        rcases Nat.lt_or_ge n 10 with p | p
        · rw [Lib.nDigits_small p] at h; omega
        · rw [Lib.nDigits_big (by omega)] at h
          have := ih (n / 10) (by omega)
          rw [Nat.pow_succ]
          omega
    have := this 6 n (by omega)
    have c : (10 : Nat) ^ (6 + 1) = 10000000 := by decide
    omega
  · exact q

theorem itoa_len8 {x : Int} (h : compB x = true) : (Lib.itoa x).length ≤ 8 := by
  have h' : -1048576 ≤ x ∧ x ≤ 1048576 := of_decide_eq_true h
  rcases lt_or_geI x 0 with p | p
  · rw [itoa_min p, List.length_cons]
    have := dec_len7 (n := x.natAbs) (by omega)
    omega
  · rw [itoa_pos p]
    have := dec_len7 (n := x.toNat) (by omega)
    omega

theorem vecT_len9 : ∀ (k : Nat) (xs : List Int), xs.length = k → (∀ x ∈ xs, compB x = true) → (vecT xs).length ≤ 9 * k
  | 0, xs, h, _ => by
    have : xs = [] := List.length_eq_zero_iff.1 h
    subst this; simp [vecT, Lib.join_nil]
  | k + 1, xs, h, hx => by
    rcases List.eq_nil_or_concat xs with rfl | ⟨ys, y, rfl⟩
    · simp at h
    · rw [List.concat_eq_append] at h hx ⊢
      have hy : ys.length = k := by simpa using h
      have ly := itoa_len8 (hx y (by simp))
      by_cases e : ys = []
      · subst e
        rw [List.nil_append, vecT_one]; omega
      · have := vecT_len9 k ys hy (fun x q => hx x (by simp [q]))
        rw [vecT_snoc _ _ e, List.length_append, List.length_cons]; omega
/-- The program reads a vector just where the model does, and the same one. -/
theorem read_yes {l : List UInt8} (ha : allNum (partsN l) = true) (hv : vecOkB ((partsN l).map numV) = true) : readVB l = true ∧ valV l = (partsN l).map numV := by
  obtain ⟨⟨n1, n8⟩, hm⟩ := vecOk_mem hv
  rw [List.length_map] at n8
  have hp : partsN l = splitC 44 l := by
    rcases Nat.lt_or_ge 9 (splitC 44 l).length with q | q
    · have := (splitK_more 44 8 l q).1
      unfold partsN at n8
      omega
    · exact splitK_all 44 8 l q
  have hval : valV l = (partsN l).map numV := by unfold valV; rw [hp]
  have hT : vecT (valV l) = l := by
    unfold vecT
    rw [hval, all_map ha, hp]
    exact (join_split 44 _ l (Nat.lt_succ_self _)).1
  have hTB : vecTB (valV l) = l := by unfold vecTB; rw [hval, hv, if_pos rfl, ← hval, hT]
  have hne : l ≠ [] := fun e => by
    subst e
    have : allNum (partsN []) = false := by decide
    rw [this] at ha; cases ha
  have hlen : l.length ≤ 80 := by
    have := vecT_len9 _ (valV l) rfl (by rw [hval]; exact hm)
    rw [hT, hval, List.length_map] at this
    omega
  refine ⟨?_, hval⟩
  unfold readVB
  rw [decide_eq_true hne, decide_eq_true hlen, decide_eq_true hTB]; rfl

theorem read_no {l : List UInt8} (h : readVB l = true) : allNum (partsN l) = true ∧ vecOkB ((partsN l).map numV) = true := by
  unfold readVB at h
  simp only [Bool.and_eq_true, decide_eq_true_eq] at h
  obtain ⟨hne, hlen, hT⟩ := h
  have hv : vecOkB (valV l) = true := by
    cases q : vecOkB (valV l)
    · unfold vecTB at hT
      rw [q] at hT
      exact absurd hT.symm hne
    · rfl
  obtain ⟨⟨n1, n8⟩, hm⟩ := vecOk_mem hv
  have hp : partsN l = splitC 44 l := splitK_all 44 8 l (by unfold valV at n8; rw [List.length_map] at n8; omega)
  have hT' : vecT (valV l) = l := by unfold vecTB at hT; rwa [hv, if_pos rfl] at hT
  have hs : splitC 44 l = (valV l).map Lib.itoa := by
    have := vecT_split (xs := valV l) (by intro e; rw [e] at n1; simp at n1)
    rwa [hT'] at this
  obtain ⟨a, b⟩ := all_itoa (xs := valV l) fun x hx => by
    have : -1048576 ≤ x ∧ x ≤ 1048576 := of_decide_eq_true (hm x hx)
    omega
  rw [hp]
  exact ⟨by rw [hs]; exact a, hv⟩
end Go.Proofs.YtggjcccdeaadbaaGreatDoor

/- The walk of ReadVec of the program. -/
namespace Go.Proofs.YtggjcccdeaadbaaGreatDoor
open Go.RowKit
set_option maxRecDepth 8000
set_option linter.unusedSimpArgs false
set_option linter.unusedVariables false

/-- What bytealg.MaxLen holds: whatever number. -/
structure Mlen (w : World) : Prop where
  lt : 1 < w.heap.size
  is : ∃ m, w.cell? ⟨1, 0, none⟩ = some (.int .i64 m)

theorem Mlen.below {w w' : World} (h : Mlen w) (hb : Below w.heap.size w w') : Mlen w' := by
  obtain ⟨lt, m, hm⟩ := h
  exact ⟨Nat.lt_of_lt_of_le lt hb.size, m, (hb.cell (p := ⟨1, 0, none⟩) lt).trans hm⟩

theorem splitN_any (s : ByteArray) (w : World) (hs : s.size ≤ 1048576) (M : Mlen w) :
    Calls Tryz.prog 23 #[.string s, .string ⟨#[44]⟩, .int .i64 9] w fun e w' => ∃ n c, e = .returned (.slice (some ⟨w.heap.size, 0, none⟩) n c) ∧ n ≤ 9 ∧ Strs w' w.heap.size n (partsN s.data.toList) ∧ Below w.heap.size w w' := by
  obtain ⟨_, m, hm⟩ := M
  refine (Tryz.strings_SplitN s ⟨#[44]⟩ 9 m w (by omega) hm (by decide) (by omega) (by omega)).mono fun e w' ⟨he, hw⟩ => ?_
  obtain ⟨L, hL⟩ : ∃ L, Lib.splitB ⟨#[44]⟩ 0 (min 9 (s.size + 1) - 1) s = L := ⟨_, rfl⟩
  have hp := parts_min s
  have hn := Lib.splitB_length_le ⟨#[44]⟩ 0 (min 9 (s.size + 1) - 1) s
  rw [hL] at he hw hp hn
  have hpl : (partsN s.data.toList).length = L.length := by rw [← hp, List.length_map]
  refine ⟨L.length, _, he, by omega, ⟨by rw [hw]; simp, hpl, fun j hj => ?_⟩, by rw [hw]; exact balloc (Below.refl _ _) _⟩
  refine ⟨L[j].data.toList, by rw [← hp, List.getElem?_map, List.getElem?_eq_getElem hj]; rfl, ?_⟩
  rw [hw, bs_of]
  have : (L.map Value.string ++ List.replicate (min 9 (s.size + 1) - L.length) (Value.string ByteArray.empty))[j]? = some (Value.string L[j]) := by
    rw [List.getElem?_append_left (by simpa using hj), List.getElem?_map, List.getElem?_eq_getElem hj]; rfl
  simp [Lib.cellsOf, this]

/-- The answer of the program's ReadVec. -/
def IRead (w : World) (l : List UInt8) (e : Ending) (w' : World) : Prop :=
  ∃ v, e = .returned (.tuple #[v, .bool (readVB l)]) ∧ Fresh w.heap.size w' v (readVL l) ∧ Below w.heap.size w w'

set_option maxHeartbeats 4000000 in
theorem iReadVec_any (s : ByteArray) (w : World) (hs : s.size ≤ 1048576) (V : Vars w) (M : Mlen w) :
    Calls Tryz.prog 51 #[.string s] w fun e w' => IRead w s.data.toList e w' := by
  have SP := hide (splitN_any s w hs M)
  have HV := hide V
  obtain ⟨P, hP⟩ : ∃ P, partsN s.data.toList = P := ⟨_, rfl⟩
  have NO : Hid (¬ (allNum P = true ∧ vecOkB (P.map numV) = true) → ∀ w', Below w.heap.size w w' → IRead w s.data.toList (.returned (.tuple #[.slice none 0 0, .bool false])) w') := hide fun h w' hb => by
    have e1 : readVB s.data.toList = false := by
      cases q : readVB s.data.toList
      · rfl
      · exact absurd (hP ▸ read_no q) h
    have e2 : readVL s.data.toList = [] := by unfold readVL; rw [e1]; rfl
    unfold IRead
    rw [e1, e2]
    exact ⟨_, rfl, .inl ⟨rfl, rfl⟩, hb⟩
  have YES : Hid (allNum P = true → vecOkB (P.map numV) = true → readVB s.data.toList = true ∧ readVL s.data.toList = P.map numV) := hide fun a b => by
    subst hP
    obtain ⟨e1, e2⟩ := read_yes a b
    exact ⟨e1, by unfold readVL; rw [e1, if_pos rfl, e2]⟩
  rw [hP] at SP
  have hsz : ∀ x ∈ P, x.length ≤ 1048576 := fun x hx => by
    have : ∀ (k : Nat) (l : List UInt8), ∀ x ∈ splitK 44 k l, x.length ≤ l.length := by
      intro k
      induction k with
      | zero => intro l x hx; rw [List.mem_singleton.1 hx]; exact Nat.le_refl _
      | succ k ih =>
        intro l x hx
        have hcb := congrArg List.length (cut_back 44 l).2
        rw [List.length_append] at hcb
        have hcl := cut_len 44 l
        unfold splitK at hx
        split at hx
        · rcases List.mem_cons.1 hx with rfl | hx
          · omega
          · have := ih _ x hx; omega
        · rw [List.mem_singleton.1 hx]; exact Nat.le_refl _
    have := this 8 s.data.toList x (by rw [← hP] at hx; exact hx)
    rw [← size_list] at this
    omega
  have HSZ := hide hsz
  clear V M hP hsz
  go_enter Tryz.func51, Tryz.ntmps51
  go_wp2_with fail
  refine SP.out.mono ?_
  rintro e w1 ⟨n, c, rfl, hn9, hS, hb1⟩
  have hmk := run_make_row' (P := Tryz.prog) 24 2 (.int .i64 0) 8 Tryz.underlying24 Tryz.infoI64 rfl .i64 .i64 n (by omega) (by omega)
  have S1 := hide hS
  have B1 := hide hb1
  have V1 := hide (HV.out.below hb1)
  have l1 := hb1.size
  clear hS hb1 SP HV
  go_wp2_with fail
  go_loopw [6, 7, 8, 9, 17] (fun _ _ _ _ i wr => ∃ (k : Nat), k ≤ n ∧ i = .int .i64 k ∧ Hid (allNum (P.take k) = true) ∧ Hid (wr.rowIs w1.heap.size 2 n (fun j => .int .i64 (if j < k then nth (P.map numV) j else 0))) ∧ Hid (Below w1.heap.size w1 wr)) (fun _ _ _ _ i _ => n - (intOf i).toNat)
  case atStart => exact ⟨0, Nat.zero_le _, rfl, hide rfl, hide ((World.rowIs_made w1 (.int .i64 0) n 2).congr (fun j _ => by simp)), hide (by repeat' first | with_reducible exact Below.refl _ _ | with_reducible assumption | with_reducible refine below_drewN ?_ _ | with_reducible refine balloc ?_ _ | with_reducible refine Below.drew ?_ | with_reducible refine Below.setCell ?_ (by first | (simp; done) | (simp; omega) | omega) _ | with_reducible refine bstep ?_ (by assumption))⟩
  case round =>
    obtain ⟨k, hk, rfl, HA, HR, HB⟩ := hrel
    by_cases hlt : k < n
    · obtain ⟨x, hx, hc⟩ := (S1.out.below HB.out).cell k hlt
      have RN := hide (readNumber_any (bs x) wr (by rw [bs_size]; exact HSZ.out x (List.mem_of_getElem? hx)) (V1.out.below HB.out))
      rw [bs_list] at RN
      have HX := hide (nth_map P k x hx)
      have HT : Hid (P.take (k + 1) = P.take k ++ [x]) := hide (by
        have hl : k < P.length := (List.getElem?_eq_some_iff.1 hx).1
        rw [List.take_succ_eq_append_getElem hl, (List.getElem?_eq_some_iff.1 hx).2])
      have lw := World.rowIs.lt HR.out
      have HM := hide (List.mem_of_getElem? hx)
      clear hx
      cases hs : (numL x).isSome
      · rw [hs] at RN
        have NB := hide (NO.out (fun q => by
          have := List.all_eq_true.1 q.1 x HM.out
          rw [hs] at this; cases this))
        clear hs
        go_wp2_with fail
        refine RN.out.mono ?_
        rintro e w3 ⟨rfl, hb3⟩
        have B3 := hide (bstep B1.out (bstep HB.out hb3))
        clear hc hb3
        go_wp2_with fail
        refine bodyPost_ret (v := .tuple #[.slice none 0 0, .bool false]) (by simp [results, Tryz.results51, go_sem]) rfl (NB.out _ B3.out)
      · rw [hs] at RN
        have HA2 : Hid (allNum (P.take (k + 1)) = true) := hide (by
          have ha := HA.out
          unfold allNum at ha ⊢
          rw [HT.out, List.all_append, ha, List.all_cons, hs]; rfl)
        clear hs
        go_wp2_with fail
        refine RN.out.mono ?_
        rintro e w3 ⟨rfl, hb3⟩
        have R3 := hide (HR.out.of_block (hb3.block _ lw))
        have h2 := World.rowIs.cell R3.out hlt
        have h3 := World.rowIs.frozen R3.out k
        have RS := hide (copy_step R3.out)
        rw [HX.out] at RS
        have B3 := hide (bstep HB.out hb3)
        clear hc hb3 HR
        go_wp2_with fail
        go_roundw
        case rel => exact ⟨k + 1, by omega, by go_num, HA2, RS, hide (B3.out.setCell (Nat.le_refl _) _)⟩
        case measure => simp [intOf]; omega
    · obtain rfl : k = n := by omega
      have ha : allNum P = true := by have := HA.out; rwa [← S1.out.len, List.take_length] at this
      have own : Own wr w1.heap.size (P.map numV) := by
        unfold Own
        rw [List.length_map, S1.out.len]
        exact HR.out.congr fun j hj => by rw [if_pos hj]
      have OW := hide own
      have hVl : (P.map numV).length = k := by rw [List.length_map, S1.out.len]
      have rw1 := own.row
      rw [hVl] at rw1
      have VO := hide (iVecOk_any _ k k _ wr rw1 (by omega))
      have BB := hide (bstep B1.out HB.out)
      cases hv : vecOkB (P.map numV)
      · rw [hv] at VO
        have NB := hide (NO.out (fun q => by rw [hv] at q; exact absurd q.2 (by decide)))
        clear hv own rw1 ha hVl
        go_wp2_with fail
        refine VO.out.mono ?_
        rintro e w3 ⟨rfl, hb3⟩
        go_wp2_with fail
        refine bodyPost_ret (v := .tuple #[.slice none 0 0, .bool false]) (by simp [results, Tryz.results51, go_sem]) rfl (NB.out _ (bstep BB.out hb3))
      · rw [hv] at VO
        obtain ⟨y1, y2⟩ := YES.out ha hv
        have FF : Hid (∀ w', Below wr.heap.size wr w' → IRead w s.data.toList (.returned (.tuple #[.slice (some ⟨w1.heap.size, 0, none⟩) k k, .bool true])) w') := hide fun w' hb' => by
          unfold IRead
          rw [y1, y2]
          exact ⟨_, rfl, .inr ⟨w1.heap.size, by rw [hVl], l1, OW.out.below hb'⟩, bstep BB.out hb'⟩
        clear hv own rw1 ha hVl y1 y2
        go_wp2_with fail
        refine VO.out.mono ?_
        rintro e w3 ⟨rfl, hb3⟩
        go_wp2_with fail
        refine bodyPost_ret (v := .tuple #[.slice (some ⟨w1.heap.size, 0, none⟩) k k, .bool true]) (by simp [results, Tryz.results51, go_sem]) rfl (FF.out _ hb3)
end Go.Proofs.YtggjcccdeaadbaaGreatDoor

/- Vectors and their texts, there and back; plain. -/
namespace Go.Proofs.YtggjcccdeaadbaaGreatDoor
open Go.RowKit
set_option maxRecDepth 8000
set_option linter.unusedSimpArgs false
set_option linter.unusedVariables false

/-- A vector comes back from its text. -/
theorem read_back (xs : List Int) : readVB (vecTB xs) = vecOkB xs ∧ readVL (vecTB xs) = (if vecOkB xs then xs else []) := by
  cases hv : vecOkB xs
  · have e : vecTB xs = [] := by unfold vecTB; rw [hv]; rfl
    have r : readVB [] = false := by decide
    rw [e, r]
    exact ⟨rfl, by unfold readVL; rw [r]; rfl⟩
  · obtain ⟨⟨n1, n8⟩, hm⟩ := vecOk_mem hv
    have hne : xs ≠ [] := by intro e; rw [e] at n1; simp at n1
    have e : vecTB xs = vecT xs := by unfold vecTB; rw [hv, if_pos rfl]
    have hs := vecT_split hne
    obtain ⟨_, b⟩ := all_itoa (xs := xs) fun x hx => by
      have : -1048576 ≤ x ∧ x ≤ 1048576 := of_decide_eq_true (hm x hx)
      omega
    have hval : valV (vecT xs) = xs := by unfold valV; rw [hs, b]
    have hn : vecT xs ≠ [] := fun q => by
      rw [q] at hs
      have h0 : splitC 44 [] = [[]] := rfl
      rw [h0] at hs
      cases xs with
      | nil => exact hne rfl
      | cons x r =>
        have hx : Lib.itoa x = [] := (List.cons.inj hs).1.symm
        rcases lt_or_geI x 0 with p | p
        · rw [itoa_min p] at hx; cases hx
        · rw [itoa_pos p] at hx; exact dec_ne _ hx
    have hl : (vecT xs).length ≤ 80 := by have := vecT_len9 _ xs rfl hm; omega
    have r : readVB (vecT xs) = true := by
      unfold readVB
      rw [decide_eq_true hn, decide_eq_true hl, hval, decide_eq_true e]; rfl
    rw [e, r]
    exact ⟨rfl, by unfold readVL; rw [r, if_pos rfl, if_pos rfl, hval]⟩
/-- What is read, written again, is that text. -/
theorem text_back {l : List UInt8} (h : readVB l = true) : vecTB (readVL l) = l := by
  have h' := h
  unfold readVB at h'
  simp only [Bool.and_eq_true, decide_eq_true_eq] at h'
  unfold readVL
  rw [h, if_pos rfl]
  exact h'.2.2

end Go.Proofs.YtggjcccdeaadbaaGreatDoor
