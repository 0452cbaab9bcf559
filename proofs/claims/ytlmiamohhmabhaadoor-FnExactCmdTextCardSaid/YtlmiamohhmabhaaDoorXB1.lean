/- CmdText of the model, at all arguments. -/
import Derived.Test.YtlmiamohhmabhaaDoorXB0
namespace Go.Proofs.YtlmiamohhmabhaaDoor
open Go.RowKit
set_option maxRecDepth 8000
set_option linter.unusedSimpArgs false
set_option linter.unusedVariables false

theorem cmdT_no {k : Int} (h : kindB k = false) (a b c : Int) (vn : Nat) (xs : List Int) : cmdT k a b c vn xs = [] := by
  unfold cmdT
  rw [cmdB_no h, if_neg (by decide)]

theorem sCmdText_any (k a b c : Int) (va : Option Addr) (vn vc : Nat) (xs : List Int) (w : World) (rv : Row w va vn xs) (hn : vn ≤ 1048576) :
    Calls Tryd.prog 11 #[.agg #[.int .i64 k, .int .i64 a, .int .i64 b, .int .i64 c, .slice va vn vc]] w fun e w' => e = .returned (.string (bs (cmdT k a b c vn xs))) ∧ Below w.heap.size w w' := by
  cases hk : kindB k
  · rw [cmdT_no hk]
    have F0 : Hid (CdB w (w.alloc (.cells #[.int .i64 k, .int .i64 a, .int .i64 b, .int .i64 c, .slice va vn vc] 27)) (v5 (.int .i64 k) (.int .i64 a) (.int .i64 b) (.int .i64 c) (.slice va vn vc))) := hide ⟨v5_new w _ _ _ _ _ _, balloc (Below.refl _ _) _⟩
    have SC := hide (fun w1 (s : Below w.heap.size w w1) => sCmdOk_any k a b c va vn vc xs w1 (rv.below s) hn)
    rw [cmdB_no hk] at SC
    rw [show bs [] = ⟨#[]⟩ from rfl]
    clear hk rv
    obtain ⟨_, y0, y1, y2, y3, y4, _⟩ := v5_facts F0.out.box
    go_enter Tryd.func11, Tryd.ntmps11
    go_wp2_with fail
    refine (SC.out _ F0.out.bel).mono ?_
    rintro e w1 ⟨rfl, hb1⟩
    have B1 := hide (bstep F0.out.bel hb1)
    clear hb1
    go_wp2_with fail
    go_ret
    exact ⟨rfl, B1.out⟩
  · have h' : 1 ≤ k ∧ k ≤ 7 := of_decide_eq_true hk
    rcases (show k = 1 ∨ k = 2 ∨ k = 3 ∨ k = 4 ∨ k = 5 ∨ k = 6 ∨ k = 7 from by omega) with rfl | rfl | rfl | rfl | rfl | rfl | rfl
    · exact sCmdText1 a b c va vn vc xs w rv hn
    · exact sCmdText2 a b c va vn vc xs w rv hn
    · exact sCmdText3 a b c va vn vc xs w rv hn
    · exact sCmdText4 a b c va vn vc xs w rv hn
    · exact sCmdText5 a b c va vn vc xs w rv hn
    · exact sCmdText6 a b c va vn vc xs w rv hn
    · exact sCmdText7 a b c va vn vc xs w rv hn
end Go.Proofs.YtlmiamohhmabhaaDoor
