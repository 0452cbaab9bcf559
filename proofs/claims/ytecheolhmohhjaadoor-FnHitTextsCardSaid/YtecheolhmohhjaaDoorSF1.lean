/- readNumber of the program, over the library's contracts. -/
import Derived.Test.YtecheolhmohhjaaDoorSD1
import Derived.Lib.ParseIntBTie
import Derived.Lib.AtoiErrMem
import Derived.Lib.AtoiAllMem
import Derived.Lib.IfaceEq
namespace Go.Proofs.YtecheolhmohhjaaDoor
open Go.RowKit
set_option maxRecDepth 8000
set_option linter.unusedSimpArgs false
set_option linter.unusedVariables false

/-- What the library's variables hold that a text is read with. -/
structure Vars (w : World) : Prop where
  tab : Tab w
  ls : 1 < w.heap.size
  syn : ∃ te pe, w.cell? ⟨1, 0, none⟩ = some (.iface te pe)
  lr : 2 < w.heap.size
  rng : ∃ te pe, w.cell? ⟨2, 0, none⟩ = some (.iface te pe)

theorem Vars.below {w w' : World} (h : Vars w) (hb : Below w.heap.size w w') : Vars w' := by
  obtain ⟨t, ls, ⟨te, pe, hs⟩, lr, ⟨te', pe', hr⟩⟩ := h
  exact ⟨t.below hb, Nat.lt_of_lt_of_le ls hb.size, ⟨te, pe, (hb.cell (p := ⟨1, 0, none⟩) ls).trans hs⟩, Nat.lt_of_lt_of_le lr hb.size, ⟨te', pe', (hb.cell (p := ⟨2, 0, none⟩) lr).trans hr⟩⟩

theorem sEq {a b : ByteArray} (h : a.data.toList = b.data.toList) : (a.toList == b.toList) = true := by rw [ByteArray.toList_eq, ByteArray.toList_eq, h]; simp

theorem sNe {a b : ByteArray} (h : ¬ a.data.toList = b.data.toList) : (a.toList == b.toList) = false := by rw [ByteArray.toList_eq, ByteArray.toList_eq]; simpa using h

theorem trimMinus (l : List UInt8) : Lib.trimPrefix l [45] = magL l := by
  unfold Lib.trimPrefix Lib.hasPrefix magL minusL
  cases l with
  | nil => rfl
  | cons c r =>
    by_cases h : c = 45
    · subst h; simp
    · have h' : ¬ (45 : UInt8) = c := fun e => h e.symm
      simp [h, h']

theorem trim_any (s : ByteArray) (w : World) :
    Calls Tryd.prog 32 #[.string s, .string ⟨#[45]⟩] w fun e w' => e = .returned (.string (bs (magL s.data.toList))) ∧ w' = w := by
  have := Tryd.strings_TrimPrefix s ⟨#[45]⟩ w
  rw [show (⟨#[45]⟩ : ByteArray).data.toList = [45] from rfl, trimMinus] at this
  exact this
/-- How ParseInt ends: the number and no error, or an error. -/
def ParseEnd (s : ByteArray) (w : World) (e : Ending) (w' : World) : Prop :=
  ((∃ v, Lib.parseIntB 64 s.data.toList = .ok v ∧ e = .returned (.tuple #[.int .i64 v, .nilIface])) ∨ ((∀ v, Lib.parseIntB 64 s.data.toList ≠ .ok v) ∧ ∃ x t p, e = .returned (.tuple #[.int .i64 x, .iface t p]))) ∧ Below w.heap.size w w'

theorem bytes_below (w : World) (t : TypeId) (s : ByteArray) : Below w.heap.size w (Lib.bytesWorld w t s) := Lib.bytesWorld_below w t s

theorem eqlErr (x y : Int) (w : World) : (binOp .eql 60 (.iface 78 (.int .i64 x)) (.iface 78 (.int .i64 y))).run Tryd.prog w = .ok (.bool (x == y)) w := by
  exact Lib.run_eql_iface_int w x y Tryd.underlying60 (by kernel_rfl) Tryd.underlying78

set_option maxHeartbeats 1000000 in
set_option maxRecDepth 100000 in
theorem toErr_two (fn s : ByteArray) (b c : Int) (w : World) (hs : s.size ≤ 1048576) (V : Vars w) :
    Calls Tryd.prog 41 #[.string fn, .string s, .int .i64 b, .int .i64 c, .iface 78 (.int .i64 2)] w fun e w' => ∃ t p, e = .returned (.iface t p) ∧ Below w.heap.size w w' := by
  obtain ⟨te, pe, hv⟩ := V.syn
  have SE := hide (Tryd.strconv_syntaxError fn s _ w (by omega) hv (.inr ⟨te, pe, rfl⟩))
  have q := eqlErr 2 2
  rw [show ((2 : Int) == 2) = true from rfl] at q
  clear hv V
  go_enter Tryd.func41, Tryd.ntmps41
  go_wp2_with fail
  refine SE.out.mono ?_
  rintro e w1 ⟨N, rfl, _, _, hb1⟩
  go_wp2_with fail
  go_ret
  exact ⟨_, _, rfl, hb1⟩

set_option maxHeartbeats 1000000 in
set_option maxRecDepth 100000 in
theorem toErr_one (fn s : ByteArray) (b c : Int) (w : World) (hs : s.size ≤ 1048576) (V : Vars w) :
    Calls Tryd.prog 41 #[.string fn, .string s, .int .i64 b, .int .i64 c, .iface 78 (.int .i64 1)] w fun e w' => ∃ t p, e = .returned (.iface t p) ∧ Below w.heap.size w w' := by
  obtain ⟨te, pe, hv⟩ := V.rng
  have SE := hide (Tryd.strconv_rangeError fn s _ w (by omega) hv (.inr ⟨te, pe, rfl⟩))
  have q := eqlErr 1 1
  have q' := eqlErr 1 2
  rw [show ((1 : Int) == 1) = true from rfl] at q
  rw [show ((1 : Int) == 2) = false from rfl] at q'
  clear hv V
  go_enter Tryd.func41, Tryd.ntmps41
  go_wp2_with fail
  refine SE.out.mono ?_
  rintro e w1 ⟨N, rfl, _, _, hb1⟩
  go_wp2_with fail
  go_ret
  exact ⟨_, _, rfl, hb1⟩

theorem intEnd (T : TypeId) (sat : Int) (x : Lib.NumEnd Int) : (∃ v, x = .ok v ∧ Lib.intTuple T sat x = .tuple #[.int .i64 v, .nilIface]) ∨ ((∀ v, x ≠ .ok v) ∧ ∃ z c, (c = 1 ∨ c = 2) ∧ Lib.intTuple T sat x = .tuple #[.int .i64 z, .iface T (.int .i64 c)]) := by
  rcases x with v | _ | _
  · exact .inl ⟨v, rfl, rfl⟩
  · exact .inr ⟨fun v q => (by cases q), 0, 2, .inr rfl, rfl⟩
  · exact .inr ⟨fun v q => (by cases q), sat, 1, .inl rfl, rfl⟩

set_option maxHeartbeats 1000000 in
set_option maxRecDepth 100000 in
theorem parse_any (s : ByteArray) (w : World) (hs : s.size ≤ 1048576) (V : Vars w) :
    Calls Tryd.prog 33 #[.string s, .int .i64 10, .int .i64 64] w fun e w' => ParseEnd s w e w' := by
  have IN := Tryd.internal_strconv_ParseInt_10_all64 s (by omega) w
  have HV := hide V
  rcases intEnd 78 (Lib.intSat 64 s.data.toList) (Lib.parseIntB 64 s.data.toList) with ⟨v, h, hE⟩ | ⟨hno, z, c, hc, hE⟩
  · rw [hE] at IN
    have HI := hide IN
    have HH := hide h
    clear IN h hE V
    go_enter Tryd.func33, Tryd.ntmps33
    go_wp2_with fail
    refine HI.out.mono ?_
    rintro e w1 ⟨rfl, hw⟩
    have B1 : Hid (Below w.heap.size w w1) := hide (by
      rcases hw with rfl | ⟨t, rfl⟩
      · exact Below.refl _ _
      · exact bytes_below _ _ _)
    clear hw
    go_wp2_with fail
    go_ret2
    exact ⟨.inl ⟨v, HH.out, rfl⟩, B1.out⟩
  · rw [hE] at IN
    have HI := hide IN
    have HN := hide hno
    clear IN hno hE V
    go_enter Tryd.func33, Tryd.ntmps33
    go_wp2_with fail
    refine HI.out.mono ?_
    rintro e w1 ⟨rfl, hw⟩
    have B1 : Hid (Below w.heap.size w w1) := hide (by
      rcases hw with rfl | ⟨t, rfl⟩
      · exact Below.refl _ _
      · exact bytes_below _ _ _)
    have V1 := HV.out.below B1.out
    clear hw
    rcases hc with rfl | rfl
    · have TE := hide (fun fn b c => toErr_one fn s b c w1 hs V1)
      clear V1
      go_wp2_with fail
      refine (TE.out _ _ _).mono ?_
      rintro e w2 ⟨t, p, rfl, hb2⟩
      go_wp2_with fail
      go_ret2
      exact ⟨.inr ⟨HN.out, _, _, _, rfl⟩, bstep B1.out hb2⟩
    · have TE := hide (fun fn b c => toErr_two fn s b c w1 hs V1)
      clear V1
      go_wp2_with fail
      refine (TE.out _ _ _).mono ?_
      rintro e w2 ⟨t, p, rfl, hb2⟩
      go_wp2_with fail
      go_ret2
      exact ⟨.inr ⟨HN.out, _, _, _, rfl⟩, bstep B1.out hb2⟩

set_option maxHeartbeats 1000000 in
theorem readNumber_any (s : ByteArray) (w : World) (hs : s.size ≤ 1048576) (V : Vars w) :
    Calls Tryd.prog 28 #[.string s] w fun e w' => e = .returned (.tuple #[.int .i64 (numV s.data.toList), .bool (numL s.data.toList).isSome]) ∧ Below w.heap.size w w' := by
  have TR := hide (trim_any s w)
  have PA := hide (parse_any s w hs V)
  have HV := hide V
  have none' : numL s.data.toList = none → numV s.data.toList = 0 ∧ (numL s.data.toList).isSome = false := fun h => by unfold numV; rw [h]; exact ⟨rfl, rfl⟩
  clear V
  obtain ⟨m, hm⟩ : ∃ m, (magL s.data.toList).length = m := ⟨_, rfl⟩
  have hms : (bs (magL s.data.toList)).size = m := by rw [bs_size, hm]
  have hml : m ≤ 1048576 := by
    rw [← hm]
    have := size_list s
    unfold magL
    split
    · rw [List.length_tail]; omega
    · omega
  by_cases hbig : 16 < m
  · obtain ⟨n1, n2⟩ := none' (by
      cases e : numL s.data.toList with
      | none => rfl
      | some x => have := ((numL_iff _ _).1 e).2; omega)
    rw [n1, n2]
    clear none' n1 n2 PA
    go_enter Tryd.func28, Tryd.ntmps28
    go_wp2_with fail
    refine TR.out.mono ?_
    rintro e w1 ⟨rfl, hw⟩
    have hw' := hw.symm
    subst hw'
    clear hw
    go_wp2_with fail
    refine bodyPost_ret (v := .tuple #[.int .i64 0, .bool false]) (by simp [results, Tryd.results28, go_sem]) rfl ⟨rfl, (by repeat' first | with_reducible exact Below.refl _ _ | with_reducible assumption | with_reducible refine below_drewN ?_ _ | with_reducible refine balloc ?_ _ | with_reducible refine Below.drew ?_ | with_reducible refine Below.setCell ?_ (by first | (simp; done) | (simp; omega) | omega) _ | with_reducible refine bstep ?_ (by assumption))⟩
  · have hle : m ≤ 16 := by omega
    have HM := hide hm
    clear hm
    go_enter Tryd.func28, Tryd.ntmps28
    go_wp2_with fail
    refine TR.out.mono ?_
    rintro e w1 ⟨rfl, hw⟩
    have hw' := hw.symm
    subst hw'
    clear hw
    go_wp2_with fail
    refine PA.out.mono ?_
    rintro e w2 ⟨hE, hb2⟩
    have B2 := hide hb2
    have V2 := hide (HV.out.below hb2)
    clear hb2
    rcases hE with ⟨v, hv, rfl⟩ | ⟨hno, x, t, p, rfl⟩
    · have vb := Lib.parseIntB_bounds hv
      have v0 : -9223372036854775808 ≤ v ∧ v ≤ 9223372036854775807 := by
        have : ((2 ^ (64 - 1) : Nat) : Int) = 9223372036854775808 := by decide
        omega
      have NT := hide (numberText_any v w2 v0.1 v0.2 V2.out.tab)
      have HOK := hide hv
      clear hv vb v0
      by_cases he : Lib.itoa v = s.data.toList
      · have hn : numL s.data.toList = some v := (numL_iff _ _).2 ⟨he, by rw [HM.out]; omega⟩
        have n1 : numV s.data.toList = v := by unfold numV; rw [hn]; rfl
        have N1 := hide n1
        have N2 : Hid ((numL s.data.toList).isSome = true) := hide (by rw [hn]; rfl)
        have hes : ((bs (Lib.itoa v)).toList == s.toList) = true := sEq (by rw [bs_list, he])
        clear none' hn n1 he
        go_wp2_with fail
        refine NT.out.mono ?_
        rintro e w3 ⟨rfl, hb3⟩
        go_wp2_with fail
        refine bodyPost_ret (v := .tuple #[.int .i64 v, .bool true]) (by simp [results, Tryd.results28, go_sem]) rfl ⟨by rw [N1.out, N2.out], bstep B2.out hb3⟩
      · obtain ⟨n1, n2⟩ := none' (by
          cases e : numL s.data.toList with
          | none => rfl
          | some x =>
            exfalso
            obtain ⟨ex, _⟩ := (numL_iff _ _).1 e
            have := parse_itoa e
            exact he (by rw [← ex]; congr 1; exact Lib.NumEnd.ok.inj ((HOK.out).symm.trans this)))
        have N1 := hide n1
        have N2 := hide n2
        have hes : ((bs (Lib.itoa v)).toList == s.toList) = false := sNe (by rw [bs_list]; exact he)
        clear none' n1 n2 he
        go_wp2_with fail
        refine NT.out.mono ?_
        rintro e w3 ⟨rfl, hb3⟩
        go_wp2_with fail
        refine bodyPost_ret (v := .tuple #[.int .i64 0, .bool false]) (by simp [results, Tryd.results28, go_sem]) rfl ⟨by rw [N1.out, N2.out], bstep B2.out hb3⟩
    · obtain ⟨n1, n2⟩ := none' (by
        cases e : numL s.data.toList with
        | none => rfl
        | some x => exact absurd (parse_itoa e) (hno x))
      have N1 := hide n1
      have N2 := hide n2
      clear none' n1 n2 hno
      go_wp2_with fail
      refine bodyPost_ret (v := .tuple #[.int .i64 0, .bool false]) (by simp [results, Tryd.results28, go_sem]) rfl ⟨by rw [N1.out, N2.out], B2.out⟩
end Go.Proofs.YtecheolhmohhjaaDoor
