/- Numbers as the program writes them: numberText, over the library's contract. -/
import Derived.Test.YtggjcccdeaadbaaGreatDoorZ6
import Derived.Test.YtggjcccdeaadbaaGreatDoorZ21
import Derived.Test.YtggjcccdeaadbaaGreatDoorZ2
import Derived.Lib.SmallJoins
import Derived.Lib.AppendIntMem
import Derived.Test.YtggjcccdeaadbaaGreatDoorZ4
namespace Go.Proofs.YtggjcccdeaadbaaGreatDoor
open Go.RowKit
set_option maxRecDepth 8000
set_option linter.unusedSimpArgs false
set_option linter.unusedVariables false

/-- The library's table of powers reads as it is laid. -/
def Tab (w : World) : Prop := Lib.TabIs Tryz.prog w "internal/strconv.uint64pow10" .u64 Lib.pow10Tab

theorem tabG : Tryz.prog.globalNamed "internal/strconv.uint64pow10" = some 2 := by kernel_rfl

theorem Tab.below {w w' : World} (h : Tab w) (hb : Below w.heap.size w w') : Tab w' := Go.Joins.tab_stays tabG h hb (Nat.le_refl _)

theorem format_any (x : Int) (w : World) (h0 : -9223372036854775808 ≤ x) (h1 : x ≤ 9223372036854775807) (T : Tab w) :
    Calls Tryz.prog 62 #[.int .i64 x, .int .i64 10] w fun e w' => e = .returned (.string (bs (Lib.itoa x))) ∧ Below w.heap.size w w' :=
  (Tryz.strconv_FormatInt_10 x h0 h1 w T).mono fun e w' ⟨h, k, os, hw⟩ => ⟨h, by rw [hw]; exact Lib.below_grow _ w (Nat.le_refl _) k os⟩

set_option maxHeartbeats 400000 in
theorem numberText_any (x : Int) (w : World) (h0 : -9223372036854775808 ≤ x) (h1 : x ≤ 9223372036854775807) (T : Tab w) :
    Calls Tryz.prog 44 #[.int .i64 x] w fun e w' => e = .returned (.string (bs (Lib.itoa x))) ∧ Below w.heap.size w w' := by
  have FT := hide (format_any x w h0 h1 T)
  clear T
  go_enter Tryz.func44, Tryz.ntmps44
  go_wp2_with fail
  refine FT.out.mono ?_
  rintro e w1 ⟨rfl, hb1⟩
  go_wp2_with fail
  go_ret
  exact ⟨rfl, (by repeat' first | with_reducible exact Below.refl _ _ | with_reducible assumption | with_reducible refine below_drewN ?_ _ | with_reducible refine balloc ?_ _ | with_reducible refine Below.drew ?_ | with_reducible refine Below.setCell ?_ (by first | (simp; done) | (simp; omega) | omega) _ | with_reducible refine bstep ?_ (by assumption))⟩
end Go.Proofs.YtggjcccdeaadbaaGreatDoor

/- VecText of the program. -/
namespace Go.Proofs.YtggjcccdeaadbaaGreatDoor
open Go.RowKit
set_option maxRecDepth 8000
set_option linter.unusedSimpArgs false
set_option linter.unusedVariables false

theorem Tryz.infoStr : (Tryz.prog.info? 9).map (fun i => (i.zero, i.size, i.bytes)) = some (some (.string ⟨#[]⟩), 1, 16) := by kernel_rfl

theorem words_step {w : World} {g n k : Nat} {f : Nat → ByteArray} (h : w.rowIs g 9 n (fun j => .string (if j < k then f j else ⟨#[]⟩))) :
    (w.setCell ⟨g, k, none⟩ (.string (f k))).rowIs g 9 n (fun j => .string (if j < k + 1 then f j else ⟨#[]⟩)) := by
  refine (World.rowIs.set h k _).congr fun j hj => ?_
  by_cases e : j = k
  · subst e; simp
  · by_cases l : j < k
    · rw [if_neg e, if_pos l, if_pos (by omega)]
    · rw [if_neg e, if_neg l, if_neg (by omega)]

set_option maxHeartbeats 2000000 in
theorem iVecText_any (a : Option Addr) (n cap : Nat) (xs : List Int) (w : World) (h : Row w a n xs) (hn : n ≤ 1048576) (T : Tab w) :
    Calls Tryz.prog 45 #[.slice a n cap] w fun e w' => e = .returned (.string (bs (vecTB xs))) ∧ Below w.heap.size w w' := by
  have VO := hide (iVecOk_any a n cap xs w h hn)
  have hl := h.len
  unfold vecTB
  cases hv : vecOkB xs
  · rw [hv] at VO
    clear hv hl h T
    rw [if_neg (by decide)]
    go_enter Tryz.func45, Tryz.ntmps45
    go_wp2_with fail
    refine VO.out.mono ?_
    rintro e w1 ⟨rfl, hb1⟩
    go_wp2_with fail
    go_ret
    exact ⟨rfl, (by repeat' first | with_reducible exact Below.refl _ _ | with_reducible assumption | with_reducible refine below_drewN ?_ _ | with_reducible refine balloc ?_ _ | with_reducible refine Below.drew ?_ | with_reducible refine Below.setCell ?_ (by first | (simp; done) | (simp; omega) | omega) _ | with_reducible refine bstep ?_ (by assumption))⟩
  · rw [hv] at VO
    rw [if_pos rfl]
    obtain ⟨⟨n1, n8⟩, hmem⟩ := vecOk_mem hv
    rw [hl] at n1 n8
    have BND : Hid (∀ k, k < n → -1048576 ≤ nth xs k ∧ nth xs k ≤ 1048576) := hide fun k hk => by
      have : compB (nth xs k) = true := vecOkB_at4 hv (by omega)
      exact of_decide_eq_true this
    have HM := hide hmem
    have HL := hide hl
    have HT := hide T
    rcases h.lies with h0 | ⟨b, off, rfl, lt, hc⟩
    · omega
    · have HC := hide hc
      clear hv hl h hmem hc T
      go_enter Tryz.func45, Tryz.ntmps45
      go_wp2_with fail
      refine VO.out.mono ?_
      rintro e w1 ⟨rfl, hb1⟩
      have hmk := run_make_row' (P := Tryz.prog) 42 9 (.string ⟨#[]⟩) 16 Tryz.underlying42 Tryz.infoStr rfl .i64 .i64 n (by omega) (by omega)
      have B1 := hide hb1
      have T1 := hide (HT.out.below hb1)
      have l1 := hb1.size
      clear hb1
      go_wp2_with fail
      go_loopw [4, 5, 14] (fun _ _ i wr => ∃ (k : Nat), k ≤ n ∧ i = .int .i64 k ∧ Hid (wr.rowIs w1.heap.size 9 n (fun j => .string (if j < k then bs (Lib.itoa (nth xs j)) else ⟨#[]⟩))) ∧ Hid (Below w1.heap.size w1 wr)) (fun _ _ i _ => n - (intOf i).toNat)
      case atStart => exact ⟨0, Nat.zero_le _, rfl, hide ((World.rowIs_made w1 (.string ⟨#[]⟩) n 9).congr (fun j _ => by simp)), hide (by repeat' first | with_reducible exact Below.refl _ _ | with_reducible assumption | with_reducible refine below_drewN ?_ _ | with_reducible refine balloc ?_ _ | with_reducible refine Below.drew ?_ | with_reducible refine Below.setCell ?_ (by first | (simp; done) | (simp; omega) | omega) _ | with_reducible refine bstep ?_ (by assumption))⟩
      case round =>
        obtain ⟨k, hk, rfl, HR, HB⟩ := hrel
        by_cases hlt : k < n
        · have ck := (HB.out.cell (p := ⟨b, off + k, none⟩) (Nat.lt_of_lt_of_le lt l1)).trans ((B1.out.cell (p := ⟨b, off + k, none⟩) lt).trans (HC.out k hlt))
          have bk := BND.out k hlt
          have NT := hide (numberText_any (nth xs k) wr (by omega) (by omega) (T1.out.below HB.out))
          have lw := World.rowIs.lt HR.out
          clear bk
          go_wp2_with fail
          refine NT.out.mono ?_
          rintro e w3 ⟨rfl, hb3⟩
          have R3 := hide (HR.out.of_block (hb3.block _ lw))
          have h2 := World.rowIs.cell R3.out hlt
          have h3 := World.rowIs.frozen R3.out k
          have RS := hide (words_step (f := fun j => bs (Lib.itoa (nth xs j))) R3.out)
          have B3 := hide (bstep HB.out hb3)
          clear ck hb3 HR
          go_wp2_with fail
          go_roundw
          case rel => exact ⟨k + 1, by omega, by go_num, RS, hide (B3.out.setCell (Nat.le_refl _) _)⟩
          case measure => simp [intOf]; omega
        · obtain rfl : k = n := by omega
          have lw := World.rowIs.lt HR.out
          obtain ⟨L, hL⟩ : ∃ L : List ByteArray, xs.map (fun x => bs (Lib.itoa x)) = L := ⟨_, rfl⟩
          have ll : L.length = k := by rw [← hL, List.length_map, HL.out]
          have e1 : L.map (·.data.toList) = xs.map Lib.itoa := by rw [← hL, List.map_map]; exact List.map_congr_left fun x _ => bs_list _
          have JN := hide (Tryz.strings_Join w1.heap.size 0 k L ⟨#[44]⟩ wr (fun j x hj => by
            have hlt : j < L.length := (List.getElem?_eq_some_iff.1 hj).1
            have hx : x = bs (Lib.itoa (nth xs j)) := by
              rw [← hL, List.getElem?_map] at hj
              have hj' : j < xs.length := by rw [HL.out]; omega
              rw [List.getElem?_eq_getElem hj'] at hj
              have := Option.some.inj hj
              rw [← this]
              unfold nth
              rw [List.getD_eq_getElem?_getD, List.getElem?_eq_getElem hj']; rfl
            rw [Nat.zero_add, World.rowIs.cell HR.out (by omega), if_pos (by omega), hx]) lw (by omega) (by omega) (by
              rw [e1]
              have := vecT_len k xs HL.out HM.out
              show (vecT xs).length ≤ _
              omega))
          rw [e1, ll] at JN
          clear hL ll e1
          go_wp2_with fail
          refine JN.out.mono ?_
          rintro e w3 ⟨rfl, hb3⟩
          have B3 := hide (bstep B1.out (bstep HB.out hb3))
          clear hb3
          go_wp2_with fail
          go_ret
          exact ⟨rfl, B3.out⟩
end Go.Proofs.YtggjcccdeaadbaaGreatDoor
