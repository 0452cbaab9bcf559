/- readNumber of the program, over the library's contracts. -/
import Derived.Test.YtggjcccdeaadbaaGreatDoorZ25
import Derived.Lib.ParseIntBTie
import Derived.Lib.AtoiErrMem
import Derived.Lib.AtoiAllMem
import Derived.Lib.IfaceEq
import Derived.Test.YtggjcccdeaadbaaGreatDoorZ17
import Derived.Test.YtggjcccdeaadbaaGreatDoorZ5
namespace Go.Proofs.YtggjcccdeaadbaaGreatDoor
open Go.RowKit
set_option maxRecDepth 8000
set_option linter.unusedSimpArgs false
set_option linter.unusedVariables false

/-- What the library's variables hold that a text is read with. -/
structure Vars (w : World) : Prop where
  tab : Tab w
  ls : 5 < w.heap.size
  syn : ∃ te pe, w.cell? ⟨5, 0, none⟩ = some (.iface te pe)
  lr : 6 < w.heap.size
  rng : ∃ te pe, w.cell? ⟨6, 0, none⟩ = some (.iface te pe)

theorem Vars.below {w w' : World} (h : Vars w) (hb : Below w.heap.size w w') : Vars w' := by
  obtain ⟨t, ls, ⟨te, pe, hs⟩, lr, ⟨te', pe', hr⟩⟩ := h
  exact ⟨t.below hb, Nat.lt_of_lt_of_le ls hb.size, ⟨te, pe, (hb.cell (p := ⟨5, 0, none⟩) ls).trans hs⟩, Nat.lt_of_lt_of_le lr hb.size, ⟨te', pe', (hb.cell (p := ⟨6, 0, none⟩) lr).trans hr⟩⟩

theorem sEq {a b : ByteArray} (h : a.data.toList = b.data.toList) : (a.toList == b.toList) = true := by rw [ByteArray.toList_eq, ByteArray.toList_eq, h]; simp

theorem sNe {a b : ByteArray} (h : ¬ a.data.toList = b.data.toList) : (a.toList == b.toList) = false := by rw [ByteArray.toList_eq, ByteArray.toList_eq]; simpa using h

theorem trimMinus (l : List UInt8) : Lib.trimPrefix l [45] = magL l := by
  unfold Lib.trimPrefix Lib.hasPrefix magL minusL
  cases l with
  | nil => rfl
  | cons c r =>
    by_cases h : c = 45
    · subst h; simp
    · have h' : ¬ (45 : UInt8) = c := fun e => h e.symm
      simp [h, h']

theorem trim_any (s : ByteArray) (w : World) :
    Calls Tryz.prog 78 #[.string s, .string ⟨#[45]⟩] w fun e w' => e = .returned (.string (bs (magL s.data.toList))) ∧ w' = w := by
  have := Tryz.strings_TrimPrefix s ⟨#[45]⟩ w
  rw [show (⟨#[45]⟩ : ByteArray).data.toList = [45] from rfl, trimMinus] at this
  exact this
/-- How ParseInt ends: the number and no error, or an error. -/
def ParseEnd (s : ByteArray) (w : World) (e : Ending) (w' : World) : Prop :=
  ((∃ v, Lib.parseIntB 64 s.data.toList = .ok v ∧ e = .returned (.tuple #[.int .i64 v, .nilIface])) ∨ ((∀ v, Lib.parseIntB 64 s.data.toList ≠ .ok v) ∧ ∃ x t p, e = .returned (.tuple #[.int .i64 x, .iface t p]))) ∧ Below w.heap.size w w'

theorem bytes_below (w : World) (t : TypeId) (s : ByteArray) : Below w.heap.size w (Lib.bytesWorld w t s) := Lib.bytesWorld_below w t s

theorem eqlErr (x y : Int) (w : World) : (binOp .eql 74 (.iface 133 (.int .i64 x)) (.iface 133 (.int .i64 y))).run Tryz.prog w = .ok (.bool (x == y)) w := by
  exact Lib.run_eql_iface_int w x y Tryz.underlying74 (by kernel_rfl) Tryz.underlying133

set_option maxHeartbeats 1000000 in
set_option maxRecDepth 100000 in
theorem toErr_two (fn s : ByteArray) (b c : Int) (w : World) (hs : s.size ≤ 1048576) (V : Vars w) :
    Calls Tryz.prog 91 #[.string fn, .string s, .int .i64 b, .int .i64 c, .iface 133 (.int .i64 2)] w fun e w' => ∃ t p, e = .returned (.iface t p) ∧ Below w.heap.size w w' := by
  obtain ⟨te, pe, hv⟩ := V.syn
  have SE := hide (Tryz.strconv_syntaxError fn s _ w (by omega) hv (.inr ⟨te, pe, rfl⟩))
  have q := eqlErr 2 2
  rw [show ((2 : Int) == 2) = true from rfl] at q
  clear hv V
  go_enter Tryz.func91, Tryz.ntmps91
  go_wp2_with fail
  refine SE.out.mono ?_
  rintro e w1 ⟨N, rfl, _, _, hb1⟩
  go_wp2_with fail
  go_ret
  exact ⟨_, _, rfl, hb1⟩

set_option maxHeartbeats 1000000 in
set_option maxRecDepth 100000 in
theorem toErr_one (fn s : ByteArray) (b c : Int) (w : World) (hs : s.size ≤ 1048576) (V : Vars w) :
    Calls Tryz.prog 91 #[.string fn, .string s, .int .i64 b, .int .i64 c, .iface 133 (.int .i64 1)] w fun e w' => ∃ t p, e = .returned (.iface t p) ∧ Below w.heap.size w w' := by
  obtain ⟨te, pe, hv⟩ := V.rng
  have SE := hide (Tryz.strconv_rangeError fn s _ w (by omega) hv (.inr ⟨te, pe, rfl⟩))
  have q := eqlErr 1 1
  have q' := eqlErr 1 2
  rw [show ((1 : Int) == 1) = true from rfl] at q
  rw [show ((1 : Int) == 2) = false from rfl] at q'
  clear hv V
  go_enter Tryz.func91, Tryz.ntmps91
  go_wp2_with fail
  refine SE.out.mono ?_
  rintro e w1 ⟨N, rfl, _, _, hb1⟩
  go_wp2_with fail
  go_ret
  exact ⟨_, _, rfl, hb1⟩

theorem intEnd (T : TypeId) (sat : Int) (x : Lib.NumEnd Int) : (∃ v, x = .ok v ∧ Lib.intTuple T sat x = .tuple #[.int .i64 v, .nilIface]) ∨ ((∀ v, x ≠ .ok v) ∧ ∃ z c, (c = 1 ∨ c = 2) ∧ Lib.intTuple T sat x = .tuple #[.int .i64 z, .iface T (.int .i64 c)]) := by
  rcases x with v | _ | _
  · exact .inl ⟨v, rfl, rfl⟩
  · exact .inr ⟨fun v q => (by cases q), 0, 2, .inr rfl, rfl⟩
  · exact .inr ⟨fun v q => (by cases q), sat, 1, .inl rfl, rfl⟩

set_option maxHeartbeats 1000000 in
set_option maxRecDepth 100000 in
theorem parse_any (s : ByteArray) (w : World) (hs : s.size ≤ 1048576) (V : Vars w) :
    Calls Tryz.prog 79 #[.string s, .int .i64 10, .int .i64 64] w fun e w' => ParseEnd s w e w' := by
  have IN := Tryz.internal_strconv_ParseInt_10_all64 s (by omega) w
  have HV := hide V
  rcases intEnd 133 (Lib.intSat 64 s.data.toList) (Lib.parseIntB 64 s.data.toList) with ⟨v, h, hE⟩ | ⟨hno, z, c, hc, hE⟩
  · rw [hE] at IN
    have HI := hide IN
    have HH := hide h
    clear IN h hE V
    go_enter Tryz.func79, Tryz.ntmps79
    go_wp2_with fail
    refine HI.out.mono ?_
    rintro e w1 ⟨rfl, hw⟩
    have B1 : Hid (Below w.heap.size w w1) := hide (by
      rcases hw with rfl | ⟨t, rfl⟩
      · exact Below.refl _ _
      · exact bytes_below _ _ _)
    clear hw
    go_wp2_with fail
    go_ret2
    exact ⟨.inl ⟨v, HH.out, rfl⟩, B1.out⟩
  · rw [hE] at IN
    have HI := hide IN
    have HN := hide hno
    clear IN hno hE V
    go_enter Tryz.func79, Tryz.ntmps79
    go_wp2_with fail
    refine HI.out.mono ?_
    rintro e w1 ⟨rfl, hw⟩
    have B1 : Hid (Below w.heap.size w w1) := hide (by
      rcases hw with rfl | ⟨t, rfl⟩
      · exact Below.refl _ _
      · exact bytes_below _ _ _)
    have V1 := HV.out.below B1.out
    clear hw
    rcases hc with rfl | rfl
    · have TE := hide (fun fn b c => toErr_one fn s b c w1 hs V1)
      clear V1
      go_wp2_with fail
      refine (TE.out _ _ _).mono ?_
      rintro e w2 ⟨t, p, rfl, hb2⟩
      go_wp2_with fail
      go_ret2
      exact ⟨.inr ⟨HN.out, _, _, _, rfl⟩, bstep B1.out hb2⟩
    · have TE := hide (fun fn b c => toErr_two fn s b c w1 hs V1)
      clear V1
      go_wp2_with fail
      refine (TE.out _ _ _).mono ?_
      rintro e w2 ⟨t, p, rfl, hb2⟩
      go_wp2_with fail
      go_ret2
      exact ⟨.inr ⟨HN.out, _, _, _, rfl⟩, bstep B1.out hb2⟩

set_option maxHeartbeats 1000000 in
theorem readNumber_any (s : ByteArray) (w : World) (hs : s.size ≤ 1048576) (V : Vars w) :
    Calls Tryz.prog 67 #[.string s] w fun e w' => e = .returned (.tuple #[.int .i64 (numV s.data.toList), .bool (numL s.data.toList).isSome]) ∧ Below w.heap.size w w' := by
  have TR := hide (trim_any s w)
  have PA := hide (parse_any s w hs V)
  have HV := hide V
  have none' : numL s.data.toList = none → numV s.data.toList = 0 ∧ (numL s.data.toList).isSome = false := fun h => by unfold numV; rw [h]; exact ⟨rfl, rfl⟩
  clear V
  obtain ⟨m, hm⟩ : ∃ m, (magL s.data.toList).length = m := ⟨_, rfl⟩
  have hms : (bs (magL s.data.toList)).size = m := by rw [bs_size, hm]
  have hml : m ≤ 1048576 := by
    rw [← hm]
    have := size_list s
    unfold magL
    split
    · rw [List.length_tail]; omega
    · omega
  by_cases hbig : 16 < m
  · obtain ⟨n1, n2⟩ := none' (by
      cases e : numL s.data.toList with
      | none => rfl
      | some x => have := ((numL_iff _ _).1 e).2; omega)
    rw [n1, n2]
    clear none' n1 n2 PA
    go_enter Tryz.func67, Tryz.ntmps67
    go_wp2_with fail
    refine TR.out.mono ?_
    rintro e w1 ⟨rfl, hw⟩
    have hw' := hw.symm
    subst hw'
    clear hw
    go_wp2_with fail
    refine bodyPost_ret (v := .tuple #[.int .i64 0, .bool false]) (by simp [results, Tryz.results67, go_sem]) rfl ⟨rfl, (by repeat' first | with_reducible exact Below.refl _ _ | with_reducible assumption | with_reducible refine below_drewN ?_ _ | with_reducible refine balloc ?_ _ | with_reducible refine Below.drew ?_ | with_reducible refine Below.setCell ?_ (by first | (simp; done) | (simp; omega) | omega) _ | with_reducible refine bstep ?_ (by assumption))⟩
  · have hle : m ≤ 16 := by omega
    have HM := hide hm
    clear hm
    go_enter Tryz.func67, Tryz.ntmps67
    go_wp2_with fail
    refine TR.out.mono ?_
    rintro e w1 ⟨rfl, hw⟩
    have hw' := hw.symm
    subst hw'
    clear hw
    go_wp2_with fail
    refine PA.out.mono ?_
    rintro e w2 ⟨hE, hb2⟩
    have B2 := hide hb2
    have V2 := hide (HV.out.below hb2)
    clear hb2
    rcases hE with ⟨v, hv, rfl⟩ | ⟨hno, x, t, p, rfl⟩
    · have vb := Lib.parseIntB_bounds hv
      have v0 : -9223372036854775808 ≤ v ∧ v ≤ 9223372036854775807 := by
        have : ((2 ^ (64 - 1) : Nat) : Int) = 9223372036854775808 := by decide
        omega
      have NT := hide (numberText_any v w2 v0.1 v0.2 V2.out.tab)
      have HOK := hide hv
      clear hv vb v0
      by_cases he : Lib.itoa v = s.data.toList
      · have hn : numL s.data.toList = some v := (numL_iff _ _).2 ⟨he, by rw [HM.out]; omega⟩
        have n1 : numV s.data.toList = v := by unfold numV; rw [hn]; rfl
        have N1 := hide n1
        have N2 : Hid ((numL s.data.toList).isSome = true) := hide (by rw [hn]; rfl)
        have hes : ((bs (Lib.itoa v)).toList == s.toList) = true := sEq (by rw [bs_list, he])
        clear none' hn n1 he
        go_wp2_with fail
        refine NT.out.mono ?_
        rintro e w3 ⟨rfl, hb3⟩
        go_wp2_with fail
        refine bodyPost_ret (v := .tuple #[.int .i64 v, .bool true]) (by simp [results, Tryz.results67, go_sem]) rfl ⟨by rw [N1.out, N2.out], bstep B2.out hb3⟩
      · obtain ⟨n1, n2⟩ := none' (by
          cases e : numL s.data.toList with
          | none => rfl
          | some x =>
            exfalso
            obtain ⟨ex, _⟩ := (numL_iff _ _).1 e
            have := parse_itoa e
            exact he (by rw [← ex]; congr 1; exact Lib.NumEnd.ok.inj ((HOK.out).symm.trans this)))
        have N1 := hide n1
        have N2 := hide n2
        have hes : ((bs (Lib.itoa v)).toList == s.toList) = false := sNe (by rw [bs_list]; exact he)
        clear none' n1 n2 he
        go_wp2_with fail
        refine NT.out.mono ?_
        rintro e w3 ⟨rfl, hb3⟩
        go_wp2_with fail
        refine bodyPost_ret (v := .tuple #[.int .i64 0, .bool false]) (by simp [results, Tryz.results67, go_sem]) rfl ⟨by rw [N1.out, N2.out], bstep B2.out hb3⟩
    · obtain ⟨n1, n2⟩ := none' (by
        cases e : numL s.data.toList with
        | none => rfl
        | some x => exact absurd (parse_itoa e) (hno x))
      have N1 := hide n1
      have N2 := hide n2
      clear none' n1 n2 hno
      go_wp2_with fail
      refine bodyPost_ret (v := .tuple #[.int .i64 0, .bool false]) (by simp [results, Tryz.results67, go_sem]) rfl ⟨by rw [N1.out, N2.out], B2.out⟩
end Go.Proofs.YtggjcccdeaadbaaGreatDoor

/- readNumbers of the program. -/
namespace Go.Proofs.YtggjcccdeaadbaaGreatDoor
open Go.RowKit
set_option maxRecDepth 8000
set_option linter.unusedSimpArgs false
set_option linter.unusedVariables false

theorem copy_stepT {w : World} {T : TypeId} {g n k : Nat} {xs : List Int} (h : w.rowIs g T n (fun j => .int .i64 (if j < k then nth xs j else 0))) :
    (w.setCell ⟨g, k, none⟩ (.int .i64 (nth xs k))).rowIs g T n (fun j => .int .i64 (if j < k + 1 then nth xs j else 0)) := by
  refine (World.rowIs.set h k _).congr fun j hj => ?_
  by_cases e : j = k
  · subst e; simp
  · by_cases l : j < k
    · rw [if_neg e, if_pos l, if_pos (by omega)]
    · rw [if_neg e, if_neg l, if_neg (by omega)]

/-- The answer of readNumbers: three numbers, and whether all are read; then they are the texts' numbers, 0 behind them. -/
def INums (w : World) (P : List (List UInt8)) (e : Ending) (w' : World) : Prop :=
  ∃ x0 x1 x2 : Int, e = .returned (.tuple #[.agg #[.int .i64 x0, .int .i64 x1, .int .i64 x2], .bool (allNum P)]) ∧ (allNum P = true → x0 = nth (P.map numV) 0 ∧ x1 = nth (P.map numV) 1 ∧ x2 = nth (P.map numV) 2) ∧ Below w.heap.size w w'

set_option maxHeartbeats 4000000 in
theorem iReadNumbers_any (g n c : Nat) (P : List (List UInt8)) (w : World) (hn : n ≤ 3) (hc : n ≤ c) (S : Strs w g n P) (hsz : ∀ x ∈ P, x.length ≤ 1048576) (V : Vars w) :
    Calls Tryz.prog 52 #[.slice (some ⟨g, 0, none⟩) n c, .int .i64 n] w fun e w' => INums w P e w' := by
  have HSZ := hide hsz
  have HS := hide S
  have HV := hide V
  clear S V hsz
  have R0 : Hid (((w.alloc (.cells #[.int .i64 0, .int .i64 0, .int .i64 0] 66)).alloc (.cells #[.int .i64 0, .int .i64 0, .int .i64 0] 66)).rowIs (w.heap.size + 1) 66 3 (fun j => .int .i64 (if j < 0 then nth (P.map numV) j else 0))) := hide (by
    have := World.rowIs_alloc (w.alloc (.cells #[.int .i64 0, .int .i64 0, .int .i64 0] 66)) #[.int .i64 0, .int .i64 0, .int .i64 0] 66 (fun j => .int .i64 (if j < 0 then nth (P.map numV) j else 0)) (by intro i hi; rcases (show i = 0 ∨ i = 1 ∨ i = 2 from by simp at hi; omega) with rfl | rfl | rfl <;> rfl)
    simpa using this)
  have Z0 : Hid (((w.alloc (.cells #[.int .i64 0, .int .i64 0, .int .i64 0] 66)).alloc (.cells #[.int .i64 0, .int .i64 0, .int .i64 0] 66)).rowIs w.heap.size 66 3 (fun _ => .int .i64 0)) := hide (World.rowIs.alloc (World.rowIs_alloc w #[.int .i64 0, .int .i64 0, .int .i64 0] 66 (fun _ => .int .i64 0) (by intro i hi; rcases (show i = 0 ∨ i = 1 ∨ i = 2 from by simp at hi; omega) with rfl | rfl | rfl <;> rfl)) _)
  go_enter Tryz.func52, Tryz.ntmps52
  go_wp2_with fail
  go_loopw [21] (fun i wr => ∃ (k : Nat), k ≤ n ∧ i = .int .i64 k ∧ Hid (allNum (P.take k) = true) ∧ Hid (wr.rowIs (w.heap.size + 1) 66 3 (fun j => .int .i64 (if j < k then nth (P.map numV) j else 0))) ∧ Hid (wr.rowIs w.heap.size 66 3 (fun _ => .int .i64 0)) ∧ Hid (Below w.heap.size w wr)) (fun i _ => n - (intOf i).toNat)
  case atStart => exact ⟨0, Nat.zero_le _, rfl, hide rfl, R0, Z0, hide (by repeat' first | with_reducible exact Below.refl _ _ | with_reducible assumption | with_reducible refine below_drewN ?_ _ | with_reducible refine balloc ?_ _ | with_reducible refine Below.drew ?_ | with_reducible refine Below.setCell ?_ (by first | (simp; done) | (simp; omega) | omega) _ | with_reducible refine bstep ?_ (by assumption))⟩
  case round =>
    clear R0 Z0
    obtain ⟨k, hk, rfl, HA, HR, HZ, HB⟩ := hrel
    by_cases hlt : k < n
    · obtain ⟨x, hx, hcx⟩ := (HS.out.below HB.out).cell k hlt
      have RN := hide (readNumber_any (bs x) wr (by rw [bs_size]; exact HSZ.out x (List.mem_of_getElem? hx)) (HV.out.below HB.out))
      rw [bs_list] at RN
      have HX := hide (nth_map P k x hx)
      have HT : Hid (P.take (k + 1) = P.take k ++ [x]) := hide (by
        have hl : k < P.length := (List.getElem?_eq_some_iff.1 hx).1
        rw [List.take_succ_eq_append_getElem hl, (List.getElem?_eq_some_iff.1 hx).2])
      have HM := hide (List.mem_of_getElem? hx)
      have lw := World.rowIs.lt HR.out
      have lz := World.rowIs.lt HZ.out
      clear hx
      cases hs : (numL x).isSome
      · rw [hs] at RN
        have NB := hide (show allNum P = false from by
          cases q : allNum P
          · rfl
          · have := List.all_eq_true.1 q x HM.out
            rw [hs] at this; cases this)
        clear hs
        go_wp2_with fail
        refine RN.out.mono ?_
        rintro e w3 ⟨rfl, hb3⟩
        have R3 := hide (HR.out.of_block (hb3.block _ lw))
        have Z3 := hide (HZ.out.of_block (hb3.block _ lz))
        have B3 := hide (bstep HB.out hb3)
        have r0 := World.rowIs.cell R3.out (show 0 < 3 by omega)
        have r1 := World.rowIs.cell R3.out (show 1 < 3 by omega)
        have r2 := World.rowIs.cell R3.out (show 2 < 3 by omega)
        have z0 := World.rowIs.cell Z3.out (show 0 < 3 by omega)
        have z1 := World.rowIs.cell Z3.out (show 1 < 3 by omega)
        have z2 := World.rowIs.cell Z3.out (show 2 < 3 by omega)
        have f0 := World.rowIs.frozen Z3.out 0
        have f1 := World.rowIs.frozen Z3.out 1
        have f2 := World.rowIs.frozen Z3.out 2
        clear hcx hb3 HR HZ
        generalize (if 0 < k then nth (P.map numV) 0 else 0) = y0 at r0
        generalize (if 1 < k then nth (P.map numV) 1 else 0) = y1 at r1
        generalize (if 2 < k then nth (P.map numV) 2 else 0) = y2 at r2
        go_wp2_with fail
        obtain ⟨e0, e1, e2⟩ := three_set Z3.out (.int .i64 y0) (.int .i64 y1) (.int .i64 y2)
        refine bodyPost_ret (v := .tuple #[.agg #[.int .i64 y0, .int .i64 y1, .int .i64 y2], .bool false]) (by simp [results, Tryz.results52, go_sem, e0, e1, e2]) rfl ⟨y0, y1, y2, by rw [NB.out], fun h => absurd (NB.out.symm.trans h) (by decide), ?_⟩
        exact ((B3.out.setCell (Nat.le_refl _) _).setCell (Nat.le_refl _) _).setCell (Nat.le_refl _) _
      · rw [hs] at RN
        have HA2 : Hid (allNum (P.take (k + 1)) = true) := hide (by
          have ha := HA.out
          unfold allNum at ha ⊢
          rw [HT.out, List.all_append, ha, List.all_cons, hs]; rfl)
        clear hs
        go_wp2_with fail
        refine RN.out.mono ?_
        rintro e w3 ⟨rfl, hb3⟩
        have R3 := hide (HR.out.of_block (hb3.block _ lw))
        have Z3 := hide (HZ.out.of_block (hb3.block _ lz))
        have Z4 := hide (World.rowIs.setOther Z3.out (a := ⟨w.heap.size + 1, k, none⟩) (by simp) (.int .i64 (nth (P.map numV) k)))
        have B3 := hide (bstep HB.out hb3)
        have h2 := World.rowIs.cell R3.out (show k < 3 by omega)
        have h3 := World.rowIs.frozen R3.out k
        have hk3 : (k : Int) < 3 := by omega
        have RS := hide (copy_stepT R3.out)
        rw [HX.out] at RS Z4
        clear hcx hb3 HR HZ
        go_wp2_with fail
        go_roundw
        case rel => exact ⟨k + 1, by omega, by go_num, HA2, RS, Z4, hide (B3.out.setCell (by simp) _)⟩
        case measure => simp [intOf]; omega
    · obtain rfl : k = n := by omega
      have hl := hide HS.out.len
      have AL := hide (show allNum P = true from by
        have := HA.out
        rw [List.take_of_length_le (by have := hl.out; omega)] at this
        exact this)
      have VA : Hid (∀ j, (if j < k then nth (P.map numV) j else 0) = nth (P.map numV) j) := hide (fun j => by
        by_cases e : j < k
        · rw [if_pos e]
        · rw [if_neg e]; symm
          unfold nth
          rw [List.getD_eq_getElem?_getD, List.getElem?_eq_none (by rw [List.length_map]; have := hl.out; omega)]; rfl)
      have r0 := World.rowIs.cell HR.out (show 0 < 3 by omega)
      have r1 := World.rowIs.cell HR.out (show 1 < 3 by omega)
      have r2 := World.rowIs.cell HR.out (show 2 < 3 by omega)
      have z0 := World.rowIs.cell HZ.out (show 0 < 3 by omega)
      have z1 := World.rowIs.cell HZ.out (show 1 < 3 by omega)
      have z2 := World.rowIs.cell HZ.out (show 2 < 3 by omega)
      have f0 := World.rowIs.frozen HZ.out 0
      have f1 := World.rowIs.frozen HZ.out 1
      have f2 := World.rowIs.frozen HZ.out 2
      rw [VA.out] at r0 r1 r2
      obtain ⟨y0, hy0⟩ : ∃ y, nth (P.map numV) 0 = y := ⟨_, rfl⟩
      obtain ⟨y1, hy1⟩ : ∃ y, nth (P.map numV) 1 = y := ⟨_, rfl⟩
      obtain ⟨y2, hy2⟩ : ∃ y, nth (P.map numV) 2 = y := ⟨_, rfl⟩
      rw [hy0] at r0
      rw [hy1] at r1
      rw [hy2] at r2
      have HY := hide (show y0 = nth (P.map numV) 0 ∧ y1 = nth (P.map numV) 1 ∧ y2 = nth (P.map numV) 2 from ⟨hy0.symm, hy1.symm, hy2.symm⟩)
      clear hy0 hy1 hy2 HR
      go_wp2_with fail
      obtain ⟨e0, e1, e2⟩ := three_set HZ.out (.int .i64 y0) (.int .i64 y1) (.int .i64 y2)
      refine bodyPost_ret (v := .tuple #[.agg #[.int .i64 y0, .int .i64 y1, .int .i64 y2], .bool true]) (by simp [results, Tryz.results52, go_sem, e0, e1, e2]) rfl ⟨y0, y1, y2, by rw [AL.out], fun _ => HY.out, ?_⟩
      exact ((HB.out.setCell (Nat.le_refl _) _).setCell (Nat.le_refl _) _).setCell (Nat.le_refl _) _
end Go.Proofs.YtggjcccdeaadbaaGreatDoor
