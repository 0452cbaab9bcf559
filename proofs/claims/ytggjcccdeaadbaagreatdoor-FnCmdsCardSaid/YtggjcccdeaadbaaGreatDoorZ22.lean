/- ReadVec of the model. -/
import Derived.Test.YtggjcccdeaadbaaGreatDoorZ21
import Derived.Test.YtggjcccdeaadbaaGreatDoorZ17
import Derived.Test.YtggjcccdeaadbaaGreatDoorZ4
import Derived.Deep.AppendLies
namespace Go.Proofs.YtggjcccdeaadbaaGreatDoor
open Go.RowKit
set_option maxRecDepth 8000
set_option linter.unusedSimpArgs false
set_option linter.unusedVariables false

theorem owns_belowS {w w' : World} {base : Nat} {e : TypeId} {size : Nat} {v : Value} {n : Nat} {xs : List Value} (h : w.ownsRow base e size v n xs) (hb : Below w.heap.size w w') : w'.ownsRow base e size v n xs := by
  refine ⟨h.1, ?_⟩
  rcases h.2 with h0 | ⟨g, cap, cur, hv, hb0, hg, hrest⟩
  · exact .inl h0
  · exact .inr ⟨g, cap, cur, hv, hb0, (hb.block g (Array.getElem?_eq_some_iff.1 hg).1).trans hg, hrest⟩
/-- Behind an append the old memory is as it was. -/
theorem sEq5 {a b : ByteArray} (h : a.data.toList = b.data.toList) : (a.toList == b.toList) = true := by rw [ByteArray.toList_eq, ByteArray.toList_eq, h]; simp

theorem sNe5 {a b : ByteArray} (h : ¬ a.data.toList = b.data.toList) : (a.toList == b.toList) = false := by rw [ByteArray.toList_eq, ByteArray.toList_eq]; simpa using h

theorem split_len (c : UInt8) : ∀ (f : Nat) (l : List UInt8), l.length < f → (splitC c l).length ≤ l.length + 1
  | 0, l, h => absurd h (by omega)
  | f + 1, l, h => by
    cases hc : (cutL c l).2.2
    · rw [split_miss hc]; simp
    · have hl := cut_len c l
      rw [hc, if_pos rfl] at hl
      have := split_len c f (cutL c l).2.1 (by omega)
      rw [split_hit hc, List.length_cons]; omega
/-- What a text is read as, by the numbers of its parts. -/
def valV (l : List UInt8) : List Int := (splitC 44 l).map numV
def readVB (l : List UInt8) : Bool := decide (l ≠ []) && (decide (l.length ≤ 80) && decide (vecTB (valV l) = l))
def readVL (l : List UInt8) : List Int := if readVB l then valV l else []
def mesV (more rest : Value) : Nat := match more, rest with
  | .bool true, .string s => s.size + 1
  | _, _ => 0

theorem cut_comma (s : ByteArray) (w : World) (hs : s.size ≤ 9223372036854775807) :
    Calls Tryz.prog 53 #[.string s, .int .u8 44] w fun e w' => e = .returned (.tuple #[.string (bs (cutL 44 s.data.toList).1), .string (bs (cutL 44 s.data.toList).2.1), .bool (cutL 44 s.data.toList).2.2]) ∧ Below w.heap.size w w' := l1Cut_any s 44 w hs
/-- The answer of the model's ReadVec. -/
def SRead (w : World) (l : List UInt8) (e : Ending) (w' : World) : Prop :=
  ∃ a cap, e = .returned (.tuple #[.slice a (readVL l).length cap, .bool (readVB l)]) ∧ Row w' a (readVL l).length (readVL l) ∧ (readVL l).length ≤ 8 ∧ Below w.heap.size w w'
/-- And its block, where it has one, is new. -/
def SReadF (w : World) (l : List UInt8) (e : Ending) (w' : World) : Prop :=
  ∃ a cap, e = .returned (.tuple #[.slice a (readVL l).length cap, .bool (readVB l)]) ∧ Row w' a (readVL l).length (readVL l) ∧ (readVL l).length ≤ 8 ∧ Below w.heap.size w w' ∧ ∀ b off, a = some ⟨b, off, none⟩ → w.heap.size ≤ b

theorem list_eqS {n : Nat} {L : List Int} {F : Nat → Int} (hl : L.length = n) (h : ∀ i, i < n → F i = nth L i) : ints F n = L := by
  refine List.ext_getElem (by rw [ints_len, hl]) fun i h1 h2 => ?_
  have a := nth_ints F n i (by omega)
  have b := h i (by omega)
  unfold nth at a b
  rw [List.getD_eq_getElem?_getD, List.getElem?_eq_getElem h1] at a
  rw [List.getD_eq_getElem?_getD, List.getElem?_eq_getElem h2] at b
  simp only [Option.getD_some] at a b
  omega

set_option maxHeartbeats 4000000 in
theorem sReadVec_own (s : ByteArray) (w : World) (hs : s.size ≤ 1048576) :
    Calls Tryz.prog 29 #[.string s] w fun e w' => SReadF w s.data.toList e w' := by
  have HL := hide (size_list s)
  have no : readVB s.data.toList = false → ∀ w', Below w.heap.size w w' → SReadF w s.data.toList (.returned (.tuple #[.slice none 0 0, .bool false])) w' := fun h w' hb => by
    have e : readVL s.data.toList = [] := by unfold readVL; rw [h]; rfl
    unfold SReadF
    rw [h, e]
    exact ⟨none, 0, rfl, ⟨rfl, .inl rfl⟩, by simp, hb, fun b off e => by cases e⟩
  by_cases hbig : 80 < s.size
  · have NO := hide (no (by
      unfold readVB
      rw [decide_eq_false (show ¬ s.data.toList.length ≤ 80 by rw [← HL.out]; omega)]
      simp))
    clear no
    go_enter Tryz.func29, Tryz.ntmps29
    go_wp2_with fail
    refine bodyPost_ret (v := .tuple #[.slice none 0 0, .bool false]) (by simp [results, Tryz.results29, go_sem]) rfl (NO.out _ (by repeat' first | with_reducible exact Below.refl _ _ | with_reducible assumption | with_reducible refine below_drewN ?_ _ | with_reducible refine balloc ?_ _ | with_reducible refine Below.drew ?_ | with_reducible refine Below.setCell ?_ (by first | (simp; done) | (simp; omega) | omega) _ | with_reducible refine bstep ?_ (by assumption)))
  · obtain ⟨i0, hi, hz0, hz1, hz2⟩ := info_parts Tryz.infoI64
    obtain ⟨P, hP⟩ : ∃ P, splitC 44 s.data.toList = P := ⟨_, rfl⟩
    have hPl : P.length ≤ 81 := by
      have := split_len 44 _ s.data.toList (Nat.lt_succ_self _)
      rw [hP, ← HL.out] at this
      omega
    have HP := hide hP
    have NO := hide no
    clear hP no
    go_enter Tryz.func29, Tryz.ntmps29
    go_wp2_with fail
    go_loopw [4, 5, 6, 7, 8, 9, 10, 11] (fun v rest more _ _ _ _ _ wr => ∃ (k : Nat) (R : ByteArray) (m : Bool), rest = .string R ∧ more = .bool m ∧ R.size ≤ 80 ∧ k ≤ P.length ∧ Hid (if m then P.drop k = splitC 44 R.data.toList else k = P.length) ∧ Hid (wr.ownsRow w.heap.size 2 1 v k (vals (nth (P.map numV)) k)) ∧ Hid (Below w.heap.size w wr)) (fun _ rest more _ _ _ _ _ _ => mesV more rest)
    case atStart => exact ⟨0, s, true, rfl, rfl, by omega, Nat.zero_le _, hide (by rw [if_pos rfl, HP.out]; rfl), hide (World.ownsRow_made w #[] 0 (Nat.le_refl _) (Nat.zero_le _) rfl), hide (by repeat' first | with_reducible exact Below.refl _ _ | with_reducible assumption | with_reducible refine below_drewN ?_ _ | with_reducible refine balloc ?_ _ | with_reducible refine Below.drew ?_ | with_reducible refine Below.setCell ?_ (by first | (simp; done) | (simp; omega) | omega) _ | with_reducible refine bstep ?_ (by assumption))⟩
    case round =>
      obtain ⟨k, R, m, rfl, rfl, hR, hk, HR, HO, HB⟩ := hrel
      cases m
      · have hkP : k = P.length := by have := HR.out; simpa using this
        subst hkP
        have hVl : (P.map numV).length = P.length := List.length_map _
        obtain ⟨a, c, rfl, row, fr⟩ := row_of_owns HO.out
        rw [list_eqS hVl (fun i _ => rfl)] at row
        have hv : valV s.data.toList = P.map numV := by unfold valV; rw [HP.out]
        have HV := hide hv
        obtain ⟨V, hVV⟩ : ∃ V, P.map numV = V := ⟨_, rfl⟩
        rw [hVV] at row hVl HV
        have RW := hide row
        have FR := hide fr
        have VT := hide (sVecText_any a P.length c V wr row (by omega))
        clear hv hVV row HO fr HR
        by_cases hz : s.data.toList = []
        · have NB := hide (NO.out (by unfold readVB; rw [hz]; rfl))
          have q1 : s.toList = [] := by rw [ByteArray.toList_eq, hz]
          clear hz NO
          go_wp2_with fail
          refine bodyPost_ret (v := .tuple #[.slice none 0 0, .bool false]) (by simp [results, Tryz.results29, go_sem]) rfl (NB.out _ HB.out)
        · have q1 : ¬ s.toList = [] := by rw [ByteArray.toList_eq]; exact hz
          have q2 : s.toList.isEmpty = false := by rw [List.isEmpty_eq_false_iff]; exact q1
          have hl80 : s.data.toList.length ≤ 80 := by rw [← HL.out]; omega
          by_cases he : vecTB V = s.data.toList
          · have hok : readVB s.data.toList = true := by
              unfold readVB
              rw [decide_eq_true hz, decide_eq_true hl80, HV.out, decide_eq_true he]; rfl
            have hrl : readVL s.data.toList = V := by unfold readVL; rw [hok, if_pos rfl, HV.out]
            have q3 : ((bs (vecTB V)).toList == s.toList) = true := sEq5 (by rw [bs_list, he])
            have v8 : V.length ≤ 8 := by
              by_cases hvo : vecOkB V = true
              · exact (vecOk_mem hvo).1.2
              · exfalso
                unfold vecTB at he
                rw [if_neg hvo] at he
                exact hz he.symm
            have FF : Hid (∀ w', Below wr.heap.size wr w' → SReadF w s.data.toList (.returned (.tuple #[.slice a P.length c, .bool true])) w') := hide fun w' hb' => by
              unfold SReadF
              rw [hok, hrl, hVl]
              exact ⟨a, c, rfl, RW.out.below hb', by omega, bstep HB.out hb', FR.out⟩
            clear hz NO he hok hrl hl80 v8
            go_wp2_with fail
            refine VT.out.mono ?_
            rintro e w2 ⟨rfl, hb2⟩
            go_wp2_with fail
            refine bodyPost_ret (v := .tuple #[.slice a P.length c, .bool true]) (by simp [results, Tryz.results29, go_sem]) rfl (FF.out _ hb2)
          · have NB := hide (NO.out (by unfold readVB; rw [HV.out, decide_eq_false he]; simp))
            have q3 : ((bs (vecTB V)).toList == s.toList) = false := sNe5 (by rw [bs_list]; exact he)
            clear hz NO he hl80
            go_wp2_with fail
            refine VT.out.mono ?_
            rintro e w2 ⟨rfl, hb2⟩
            go_wp2_with fail
            refine bodyPost_ret (v := .tuple #[.slice none 0 0, .bool false]) (by simp [results, Tryz.results29, go_sem]) rfl (NB.out _ (bstep HB.out hb2))
      · have hd : P.drop k = splitC 44 R.data.toList := by have := HR.out; simpa using this
        have CC := hide (cut_comma R wr (by omega))
        have hcl := cut_len 44 R.data.toList
        rw [← size_list] at hcl
        have hkP : k < P.length := by
          rcases Nat.lt_or_ge k P.length with q | q
          · exact q
          · rw [List.drop_eq_nil_of_le q] at hd
            exact absurd hd.symm (join_split 44 _ R.data.toList (Nat.lt_succ_self _)).2
        have hPk : P[k]? = some (cutL 44 R.data.toList).1 := by
          have : (P.drop k)[0]? = some (cutL 44 R.data.toList).1 := by
            rw [hd]
            cases hc : (cutL 44 R.data.toList).2.2
            · rw [split_miss hc]
              have := (cut_back 44 R.data.toList).2
              rw [hc, if_neg (by decide), List.append_nil] at this
              rw [← this]; rfl
            · rw [split_hit hc]; rfl
          rw [List.getElem?_drop, Nat.add_zero] at this
          exact this
        have hnext : if (cutL 44 R.data.toList).2.2 then P.drop (k + 1) = splitC 44 (bs (cutL 44 R.data.toList).2.1).data.toList else k + 1 = P.length := by
          rw [bs_list]
          have e : P.drop (k + 1) = (splitC 44 R.data.toList).tail := by rw [← hd, List.tail_drop]
          cases hc : (cutL 44 R.data.toList).2.2
          · rw [if_neg (by decide)]
            have := congrArg List.length hd
            rw [split_miss hc, List.length_drop] at this
            simp at this
            omega
          · rw [if_pos rfl, e, split_hit hc]; rfl
        have hval := nth_map P k _ hPk
        have HN := hide hnext
        have HV := hide hval
        have hh : (cutL 44 R.data.toList).1.length ≤ 80 := by
          have := congrArg List.length (cut_back 44 R.data.toList).2
          rw [List.length_append, ← size_list] at this
          omega
        obtain ⟨H, hH⟩ : ∃ H, (cutL 44 R.data.toList).1 = H := ⟨_, rfl⟩
        obtain ⟨X, hX⟩ : ∃ X, bs (cutL 44 R.data.toList).2.1 = X := ⟨_, rfl⟩
        obtain ⟨b, hb⟩ : ∃ b, (cutL 44 R.data.toList).2.2 = b := ⟨_, rfl⟩
        have hXs : X.size = (cutL 44 R.data.toList).2.1.length := by rw [← hX, bs_size]
        rw [← hXs, hb] at hcl
        rw [hH, hX, hb] at CC
        rw [hX, hb] at HN
        rw [hH] at HV hh
        have NU := hide (fun w1 => l1Num_any (bs H) w1 (by rw [bs_size]; omega))
        rw [bs_list] at NU
        clear hd hPk hnext hval hH hX hb hXs HR
        go_wp2_with fail
        refine CC.out.mono ?_
        rintro e w2 ⟨rfl, hb2⟩
        have B2 := hide (bstep HB.out hb2)
        have O2 := hide (owns_belowS HO.out hb2)
        clear hb2
        go_wp2_with fail
        refine (NU.out _).mono ?_
        rintro e w3 ⟨rfl, hb3⟩
        have B3 := hide (bstep B2.out hb3)
        have O3 := hide (owns_belowS O2.out hb3)
        clear hb3 HO O2
        go_wp2_with (at_builtin; refine wpList_append_own _ rfl _ _ 24 rfl w.heap.size 2 i0 (.int .i64 0) 1 8 Tryz.underlying24 hi hz0 hz1 hz2 rfl (by decide) _ _ _ rfl (O3.out.alloc _) ⟨_, 0, none⟩ 1 1 [.int .i64 (numV H)] rfl rfl ?c1 ?c2 ?c3 ?c4 ?c5 ?_)
        case c1 => exact one_new _ _ _
        case c2 => intro u hu; simp at hu; subst hu; rfl
        case c3 => unfold maxLen; omega
        case c4 => omega
        case c5 => have := B3.out.size; simp; omega
        intro v' w4 hown2 hgrow _
        have hB4 := hide (below_app B3.out O3.out hgrow)
        have O4 := hide hown2
        clear hgrow hown2 O3
        go_wp2_with fail
        go_roundw
        case rel => exact ⟨k + 1, X, b, rfl, rfl, by omega, by omega, HN, hide (by rw [vals_succ, HV.out]; exact O4.out), hB4⟩
        case measure =>
          show mesV (.bool b) (.string X) < R.size + 1
          cases b
          · exact Nat.succ_pos _
          · rw [if_pos rfl] at hcl
            show X.size + 1 < R.size + 1
            omega

theorem sReadVec_any (s : ByteArray) (w : World) (hs : s.size ≤ 1048576) :
    Calls Tryz.prog 29 #[.string s] w fun e w' => SRead w s.data.toList e w' :=
  (sReadVec_own s w hs).mono fun e w' ⟨a, c, h1, h2, h3, h4, _⟩ => ⟨a, c, h1, h2, h3, h4⟩
end Go.Proofs.YtggjcccdeaadbaaGreatDoor
