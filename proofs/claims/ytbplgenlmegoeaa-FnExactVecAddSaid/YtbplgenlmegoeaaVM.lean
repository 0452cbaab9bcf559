/- An answer that the program made ('Mine'): nil, or a row of its own: read, marked, held. -/
import Derived.Test.YtbplgenlmegoeaaVL
import Derived.Test.YtbplgenlmegoeaaVD
namespace Go.Proofs.Ytbplgenlmegoeaa
open Go.RowKit
set_option linter.unusedSimpArgs false

structure Mine (base : Nat) (w : World) (a : Option Addr) (n : Nat) (xs : List Int) : Prop where
  len : xs.length = n
  lies : (a = none ∧ n = 0) ∨ ∃ g, a = some ⟨g, 0, none⟩ ∧ base ≤ g ∧ Own w g xs

theorem Fresh.mine {base : Nat} {w : World} {v : Value} {xs : List Int} (h : Fresh base w v xs) : ∃ a cap, v = .slice a xs.length cap ∧ Mine base w a xs.length xs := by
  rcases h with ⟨rfl, rfl⟩ | ⟨g, rfl, hb, ho⟩
  · exact ⟨none, 0, rfl, rfl, .inl ⟨rfl, rfl⟩⟩
  · exact ⟨_, _, rfl, rfl, .inr ⟨g, rfl, hb, ho⟩⟩
theorem Mine.row {base : Nat} {w : World} {a : Option Addr} {n : Nat} {xs : List Int} (h : Mine base w a n xs) : Row w a n xs := by
  rcases h.lies with ⟨rfl, h0⟩ | ⟨g, rfl, hb, ho⟩
  · exact ⟨h.len, .inl h0⟩
  · have := ho.row
    rw [h.len] at this
    exact this
theorem Mine.below {base : Nat} {w w' : World} {a : Option Addr} {n : Nat} {xs : List Int} (h : Mine base w a n xs) (hb : Below w.heap.size w w') : Mine base w' a n xs := by
  refine ⟨h.len, ?_⟩
  rcases h.lies with h0 | ⟨g, e, hg, ho⟩
  · exact .inl h0
  · exact .inr ⟨g, e, hg, ho.below hb⟩
theorem Mine.but {base g' : Nat} {w w' : World} {a : Option Addr} {n : Nat} {xs : List Int} (h : Mine base w a n xs) (hb : But g' w w') (hg : g' < base) : Mine base w' a n xs := by
  refine ⟨h.len, ?_⟩
  rcases h.lies with h0 | ⟨g, e, hg, ho⟩
  · exact .inl h0
  · exact .inr ⟨g, e, hg, hb.own ho (by omega)⟩
/-- What lies below a base is as it was, where all below it is. -/
theorem Row.belowAt {B : Nat} {w w' : World} {a : Option Addr} {n : Nat} {xs : List Int} (h : Row w a n xs) (hb : Below B w w') (hlt : ∀ b off, a = some ⟨b, off, none⟩ → b < B) : Row w' a n xs := by
  refine ⟨h.len, ?_⟩
  rcases h.lies with h0 | ⟨b, off, e, lt, hc⟩
  · exact .inl h0
  · exact .inr ⟨b, off, e, Nat.lt_of_lt_of_le lt hb.size, fun i hi => (hb.cell (p := ⟨b, off + i, none⟩) (hlt b off e)).trans (hc i hi)⟩
theorem Row.lt {w : World} {a : Option Addr} {n : Nat} {xs : List Int} (h : Row w a n xs) (hn : 0 < n) : ∀ b off, a = some ⟨b, off, none⟩ → b < w.heap.size := by
  intro b off e
  rcases h.lies with h0 | ⟨b', off', e', lt, _⟩
  · omega
  · rw [e] at e'; cases e'; exact lt
theorem Row.belowFrom {B : Nat} {w0 w w' : World} {a : Option Addr} {n : Nat} {xs : List Int} (h0 : Row w0 a n xs) (h : Row w a n xs) (hb : Below B w w') (hB : w0.heap.size ≤ B) : Row w' a n xs := by
  by_cases hn : n = 0
  · exact ⟨h.len, .inl hn⟩
  · exact h.belowAt hb fun b off e => Nat.lt_of_lt_of_le (h0.lt (by omega) b off e) hB

theorem Row.butFrom {g : Nat} {w0 w w' : World} {a : Option Addr} {n : Nat} {xs : List Int} (h0 : Row w0 a n xs) (h : Row w a n xs) (hb : But g w w') (hg : w0.heap.size ≤ g) : Row w' a n xs := by
  by_cases hn : n = 0
  · exact ⟨h.len, .inl hn⟩
  · exact hb.row h fun b off e => by have := h0.lt (by omega) b off e; omega

theorem markMine_any (base n cap : Nat) (a : Option Addr) (q : Int) (xs : List Int) (w : World) (hm : Mine base w a n xs) (hB : base ≤ w.heap.size) (hn : n ≤ 1048576) (hq : 0 ≤ q) (hq2 : q ≤ 100000000) :
    Calls Try.prog 15 #[.slice a n cap, .int .i64 q] w fun e w' => e = .returned (.int .i64 (q + (n : Int))) ∧ Mine base w' a n (marks q n) ∧ Below base w w' := by
  rcases hm.lies with ⟨rfl, h0⟩ | ⟨g, rfl, hg, ho⟩
  · refine (markInts_none none n cap q w (by omega)).mono ?_
    rintro e w' ⟨rfl, rfl⟩
    exact ⟨by rw [h0]; simp, ⟨marks_len q n, .inl ⟨rfl, h0⟩⟩, Below.refl _ _⟩
  · refine (markInts_any g n cap q xs w ho hm.len hn hq hq2).mono ?_
    rintro e w' ⟨rfl, ho', hbut⟩
    exact ⟨rfl, ⟨marks_len q n, .inr ⟨g, rfl, hg, ho'⟩⟩, hbut.below hg hB⟩

theorem heldMine_any (base n cap : Nat) (a : Option Addr) (q : Int) (w : World) (hm : Mine base w a n (marks q n)) (hn : n ≤ 1048576) (hq : 0 ≤ q) (hq2 : q ≤ 100000000) :
    Calls Try.prog 16 #[.slice a n cap, .int .i64 q] w fun e w' => e = .returned (.int .i64 (q + (n : Int))) ∧ w' = w := by
  rcases hm.lies with ⟨rfl, h0⟩ | ⟨g, rfl, hg, ho⟩
  · refine (heldInts_none none n cap q w (by omega)).mono ?_
    rintro e w' ⟨rfl, rfl⟩
    exact ⟨by rw [h0]; simp, rfl⟩
  · exact heldInts_any g n cap q w ho hn hq hq2

theorem negL_len (xs : List Int) : (negL xs).length ≤ 8 := by
  unfold negL
  cases h : vecOkB xs
  · simp
  · simp only [if_true, ints_len]
    exact (vecOk_bd h rfl).2.1

set_option maxHeartbeats 2000000 in
theorem exactVecNeg_walk (a : Option Addr) (n cap : Nat) (zs : List Int) (w : World) (h : IsRow .i64 w a n cap zs) :
    Calls Try.prog 6 #[.slice a n cap] w fun e w' => e = .returned (.bool true) ∧ Below w.heap.size w w' := by
  by_cases hn : n ≤ 1048576
  · have hr := h.row
    generalize zs.take n = xs at hr
    clear h
    have hl := hr.len
    subst hl
    have HR := hide hr
    clear hr
    obtain ⟨m, hm⟩ : ∃ m, (negL xs).length = m := ⟨_, rfl⟩
    have hm8 := negL_len xs
    rw [hm] at hm8
    have SN := hide (fun a n cap w h hn => sVecNeg_any a n cap xs w h hn)
    have IN := hide (fun a n cap w h hn => iVecNeg_any a n cap xs w h hn)
    rw [hm] at SN
    go_enter Try.func6, Try.ntmps6
    go_wp2_with fail
    refine (toInts_any a xs.length cap xs _ HR.out hn).mono ?_
    rintro e w1 ⟨g1, rfl, hg1, ho1, hb1⟩
    go_wp2_with fail
    refine (SN.out _ _ _ _ ho1.row hn).mono ?_
    rintro e w2 ⟨a2, c2, rfl, hr2, _, hb2⟩
    go_wp2_with fail
    refine (toInts_any a xs.length cap xs _ ((HR.out.below hb1).below hb2) hn).mono ?_
    rintro e w3 ⟨g3, rfl, hg3, ho3, hb3⟩
    go_wp2_with fail
    refine (IN.out _ _ _ _ ho3.row hn).mono ?_
    rintro e w4 ⟨v, rfl, hf, hb4⟩
    obtain ⟨a4, c4, rfl, hm4⟩ := hf.mine
    rw [hm] at hm4 ⊢
    have hr4 := (hr2.below hb3).below hb4
    go_wp2_with fail
    refine (eqInts_any _ _ _ _ _ _ _ _ _ hm4.row hr4 (by omega)).mono ?_
    rintro e w5 ⟨rfl, hb5⟩
    rw [decide_eq_true rfl]
    have R5 := hide ((((HR.out.below hb1).below hb2).below hb3).below hb4 |>.below hb5)
    have hm5 := hm4.below hb5
    have hr5 := hr4.below hb5
    have ho5 := (ho3.below hb4).below hb5
    have g35 : g3 < w4.heap.size := by have := World.rowIs.lt (ho3.below hb4); exact this
    have g33 : g3 < w3.heap.size := World.rowIs.lt ho3
    have hz2 := hb3.size
    go_wp2_with fail
    refine (toInts_any a xs.length cap xs _ R5.out hn).mono ?_
    rintro e w6 ⟨g6, rfl, hg6, ho6, hb6⟩
    go_wp2_with fail
    refine (eqInts_any _ _ _ _ _ _ _ _ _ (ho5.below hb6).row ho6.row hn).mono ?_
    rintro e w7 ⟨rfl, hb7⟩
    rw [decide_eq_true rfl]
    have hm7 := (hm5.below hb6).below hb7
    have hr7 := (hr5.below hb6).below hb7
    have ho7 := (ho5.below hb6).below hb7
    have R7 := hide ((R5.out.below hb6).below hb7)
    go_wp2_with fail
    refine (markInts_any g3 xs.length _ 1 xs _ ho7 rfl hn (by omega) (by omega)).mono ?_
    rintro e w8 ⟨rfl, ho8, hbut8⟩
    have hm8' := hm7.but hbut8 g33
    have hr8 := hr2.butFrom hr7 hbut8 hg3
    have hz1 := hb1.size
    have hzz := hb2.size
    have R8 := hide (HR.out.butFrom R7.out hbut8 (by omega))
    have B7 : Below w.heap.size w w7 := (by repeat' first | with_reducible exact Below.refl _ _ | with_reducible assumption | with_reducible refine below_drewN ?_ _ | with_reducible refine balloc ?_ _ | with_reducible refine Below.drew ?_ | with_reducible refine Below.setCell ?_ (by first | (simp; done) | (simp; omega) | omega) _ | with_reducible refine bstep ?_ (by assumption))
    have hz37 : w3.heap.size ≤ w7.heap.size := by have := hb4.size; have := hb5.size; have := hb6.size; have := hb7.size; omega
    have B8 : Below w.heap.size w w8 := B7.trans (hbut8.below (by omega) (by omega))
    have hz38 : w3.heap.size ≤ w8.heap.size := by have := hbut8.size; omega
    clear hm7 hr7 ho7 hbut8 hm5 hr5 ho5 hb6 hb7
    go_wp2_with fail
    refine (eqInts_any _ _ _ _ _ _ _ _ _ hm8'.row hr8 (by omega)).mono ?_
    rintro e w9 ⟨rfl, hb9⟩
    rw [decide_eq_true rfl]
    have hm9 := hm8'.below hb9
    have hr9 := hr8.below hb9
    have R9 := hide (R8.out.below hb9)
    have B9 : Below w.heap.size w w9 := (by repeat' first | with_reducible exact Below.refl _ _ | with_reducible assumption | with_reducible refine below_drewN ?_ _ | with_reducible refine balloc ?_ _ | with_reducible refine Below.drew ?_ | with_reducible refine Below.setCell ?_ (by first | (simp; done) | (simp; omega) | omega) _ | with_reducible refine bstep ?_ (by assumption))
    have hz39 : w3.heap.size ≤ w9.heap.size := by have := hb9.size; omega
    clear hm8' hr8 hb9
    go_wp2_with fail
    refine (markMine_any w3.heap.size m _ a4 1 _ _ hm9 hz39 (by omega) (by omega) (by omega)).mono ?_
    rintro e w10 ⟨rfl, hm10, hb10⟩
    have hr10 := hr2.belowFrom hr9 hb10 (by omega)
    have R10 := hide (HR.out.belowFrom R9.out hb10 (by omega))
    have B10 : Below w.heap.size w w10 := B9.trans (hb10.mono (by omega))
    clear hm9 hr9 hb10
    go_wp2_with fail
    refine (heldMine_any w3.heap.size m _ a4 1 _ hm10 (by omega) (by omega) (by omega)).mono ?_
    rintro e w11 ⟨rfl, rfl⟩
    have hne : ((1 : Int) + (m : Int) != 1 + (m : Int)) = false := by simp
    go_wp2_with fail
    refine (toInts_any a xs.length cap xs _ R10.out hn).mono ?_
    rintro e w12 ⟨g12, rfl, hg12, ho12, hb12⟩
    go_wp2_with fail
    refine (IN.out _ _ _ _ ho12.row hn).mono ?_
    rintro e w13 ⟨v, rfl, hf, hb13⟩
    obtain ⟨a13, c13, rfl, hm13⟩ := hf.mine
    rw [hm] at hm13 ⊢
    have hr13 := (hr10.below hb12).below hb13
    go_wp2_with fail
    refine (eqInts_any _ _ _ _ _ _ _ _ _ hm13.row hr13 (by omega)).mono ?_
    rintro e w14 ⟨rfl, hb14⟩
    rw [decide_eq_true rfl]
    have hm14 := ((hm10.below hb12).below hb13).below hb14
    go_wp2_with fail
    refine (heldMine_any w3.heap.size m _ a4 1 _ hm14 (by omega) (by omega) (by omega)).mono ?_
    rintro e w15 ⟨rfl, rfl⟩
    go_wp2
    go_ret
    exact ⟨rfl, (by repeat' first | with_reducible exact Below.refl _ _ | with_reducible assumption | with_reducible refine below_drewN ?_ _ | with_reducible refine balloc ?_ _ | with_reducible refine Below.drew ?_ | with_reducible refine Below.setCell ?_ (by first | (simp; done) | (simp; omega) | omega) _ | with_reducible refine bstep ?_ (by assumption))⟩
  · have hn' : (1048576 : Int) < n := by omega
    go_enter Try.func6, Try.ntmps6
    go_wp2
    go_ret
    exact ⟨rfl, (by repeat' first | with_reducible exact Below.refl _ _ | with_reducible assumption | with_reducible refine below_drewN ?_ _ | with_reducible refine balloc ?_ _ | with_reducible refine Below.drew ?_ | with_reducible refine Below.setCell ?_ (by first | (simp; done) | (simp; omega) | omega) _ | with_reducible refine bstep ?_ (by assumption))⟩
end Go.Proofs.Ytbplgenlmegoeaa
