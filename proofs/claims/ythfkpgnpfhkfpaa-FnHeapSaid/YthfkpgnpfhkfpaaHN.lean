/- HeapPut of the program. -/
import Derived.Test.YthfkpgnpfhkfpaaHM
import Derived.Test.YthfkpgnpfhkfpaaHE
namespace Go.Proofs.Ythfkpgnpfhkfpaa
open Go.RowKit
set_option maxRecDepth 8000
set_option linter.unusedSimpArgs false
set_option linter.unusedVariables false

/-- How many there are behind a put, and which. -/
def putN (K : Int) (n : Nat) : Nat := if K < (n : Int) + 1 then n else n + 1
def putL1 (n : Nat) (f g : Nat → Int) (i d : Int) : NL := upL n ((listL n f g).put n (i, d))
def putL (K : Int) (n : Nat) (f g : Nat → Int) (i d : Int) : NL := if K < (n : Int) + 1 then dnL n 0 (swp (putL1 n f g i d) 0 n) else putL1 n f g i d
def putB (K : Int) (n : Nat) (f g : Nat → Int) (i d : Int) : Bool := heapB K n f g && nearB i d

def Put (w : World) (K : Int) (n : Nat) (f g : Nat → Int) (i d : Int) (e : Ending) (w' : World) : Prop :=
  Below w.heap.size w w' ∧ ((putB K n f g i d = false ∧ e = .returned (.tuple #[.agg #[.int .i64 0, .slice none 0 0], .bool false])) ∨
    (putB K n f g i d = true ∧ ∃ b cap m, e = .returned (.tuple #[.agg #[.int .i64 K, .slice (some ⟨b, 0, none⟩) (putN K n) cap], .bool true]) ∧ w.heap.size ≤ b ∧ putN K n ≤ m ∧ m ≤ 22 ∧ OwnL w' b m (putL K n f g i d)))

/-- The boxes of HeapPut: the heap, the Near, the result. -/
structure PBx (w : World) (B : Nat) (K : Int) (a : Option Addr) (n cap : Nat) (i d : Int) : Prop where
  lt : B + 2 < w.heap.size
  h0 : w.cell? ⟨B, 0, none⟩ = some (.int .i64 K)
  h1 : w.cell? ⟨B, 1, none⟩ = some (.slice a n cap)
  n0 : w.cell? ⟨B + 1, 0, none⟩ = some (.int .i64 i)
  n1 : w.cell? ⟨B + 1, 1, none⟩ = some (.int .i64 d)
  r0 : w.cell? ⟨B + 1 + 1, 0, none⟩ = some (.int .i64 0)
  r1 : w.cell? ⟨B + 1 + 1, 1, none⟩ = some (.slice none 0 0)
  f0 : w.frozen? ⟨B + 1 + 1, 0, none⟩ = false
  f1 : w.frozen? ⟨B + 1 + 1, 1, none⟩ = false

theorem PBx.low {w w' : World} {B X : Nat} {K : Int} {a : Option Addr} {n cap : Nat} {i d : Int} (h : PBx w B K a n cap i d) (b : Below X w w') (hX : B + 2 < X) : PBx w' B K a n cap i d := by
  have l0 : B < X := by omega
  have l1 : B + 1 < X := by omega
  have l2 : B + 1 + 1 < X := hX
  exact ⟨Nat.lt_of_lt_of_le h.lt b.size, (b.cell (p := ⟨B, 0, none⟩) l0).trans h.h0, (b.cell (p := ⟨B, 1, none⟩) l0).trans h.h1, (b.cell (p := ⟨B + 1, 0, none⟩) l1).trans h.n0, (b.cell (p := ⟨B + 1, 1, none⟩) l1).trans h.n1,
    (b.cell (p := ⟨B + 1 + 1, 0, none⟩) l2).trans h.r0, (b.cell (p := ⟨B + 1 + 1, 1, none⟩) l2).trans h.r1, (b.frozen (p := ⟨B + 1 + 1, 0, none⟩) l2).trans h.f0, (b.frozen (p := ⟨B + 1 + 1, 1, none⟩) l2).trans h.f1⟩

theorem PBx.below {w w' : World} {B : Nat} {K : Int} {a : Option Addr} {n cap : Nat} {i d : Int} (h : PBx w B K a n cap i d) (b : Below w.heap.size w w') : PBx w' B K a n cap i d := h.low b h.lt

def KOk (v : Bool) (K : Int) (n : Nat) : Prop := v = true → (1 ≤ K ∧ K ≤ 20) ∧ (n : Int) ≤ K

theorem putN_le {K : Int} {n : Nat} (h : (n : Int) ≤ K) : putN K n ≤ n + 1 := by unfold putN; split <;> omega

set_option maxHeartbeats 1600000 in
theorem iHeapPut_any (K : Int) (a : Option Addr) (n cap : Nat) (f g : Nat → Int) (i d : Int) (w : World) (h : PRow w a n f g) :
    Calls Try.prog 6 #[.agg #[.int .i64 K, .slice a n cap], .agg #[.int .i64 i, .int .i64 d]] w fun e w' => Put w K n f g i d e w' := by
  have HO := hide (fun w1 (hb : Below w.heap.size w w1) => iHeapOk_any K a n cap f g w1 (h.below hb))
  have NO := hide (iNearOk_any i d)
  have HP := hide h
  clear h
  obtain ⟨v, hv⟩ : ∃ v, heapB K n f g = v := ⟨_, rfl⟩
  obtain ⟨u, hu⟩ : ∃ u, nearB i d = u := ⟨_, rfl⟩
  rw [hv] at HO
  rw [hu] at NO
  have hput : putB K n f g i d = (v && u) := by unfold putB; rw [hv, hu]
  have hK : KOk v K n := by
    rintro rfl
    unfold heapB inB at hv
    simp only [Bool.and_eq_true, decide_eq_true_eq] at hv
    exact hv.1
  have HPUT := hide hput
  have HK := hide hK
  clear hv hu hput hK
  go_enter Try.func6, Try.ntmps6
  go_wp2_with fail
  refine (HO.out _ (by repeat' first | with_reducible exact Below.refl _ _ | with_reducible assumption | with_reducible refine below_drewN ?_ _ | with_reducible refine balloc ?_ _ | with_reducible refine Below.drew ?_ | with_reducible refine Below.setCell ?_ (by first | (simp; done) | (simp; omega) | omega) _ | with_reducible refine bstep ?_ (by assumption))).mono ?_
  rintro e w1 ⟨rfl, hb1⟩
  have P1 : PBx w1 w.heap.size K a n cap i d := by
    refine PBx.below ⟨?_, ?_, ?_, ?_, ?_, ?_, ?_, ?_, ?_⟩ hb1 <;> simp [go_sem]
  have B1 : Below w.heap.size w w1 := (by repeat' first | with_reducible exact Below.refl _ _ | with_reducible assumption | with_reducible refine below_drewN ?_ _ | with_reducible refine balloc ?_ _ | with_reducible refine Below.drew ?_ | with_reducible refine Below.setCell ?_ (by first | (simp; done) | (simp; omega) | omega) _ | with_reducible refine bstep ?_ (by assumption))
  clear hb1 HO
  have P1' := P1
  obtain ⟨l0, h0, h1, n0, n1, r0, r1, f0, f1⟩ := P1'
  cases v
  · go_wp2_with fail
    refine bodyPost_ret (v := .tuple #[.agg #[.int .i64 0, .slice none 0 0], .bool false]) ?_ rfl ⟨?_, .inl ⟨HPUT.out, rfl⟩⟩
    · simp [results, Try.results6, go_sem, r0, r1]
    · exact (by repeat' first | with_reducible exact Below.refl _ _ | with_reducible assumption | with_reducible refine below_drewN ?_ _ | with_reducible refine balloc ?_ _ | with_reducible refine Below.drew ?_ | with_reducible refine Below.setCell ?_ (by first | (simp; done) | (simp; omega) | omega) _ | with_reducible refine bstep ?_ (by assumption))
  · go_wp2_with fail
    refine (NO.out _).mono ?_
    rintro e w2 ⟨rfl, hb2⟩
    have P2 := P1.below hb2
    have B2 : Below w.heap.size w w2 := (by repeat' first | with_reducible exact Below.refl _ _ | with_reducible assumption | with_reducible refine below_drewN ?_ _ | with_reducible refine balloc ?_ _ | with_reducible refine Below.drew ?_ | with_reducible refine Below.setCell ?_ (by first | (simp; done) | (simp; omega) | omega) _ | with_reducible refine bstep ?_ (by assumption))
    clear l0 h0 h1 n0 n1 r0 r1 f0 f1 hb2 P1 B1
    have P2' := P2
    obtain ⟨l0, h0, h1, n0, n1, r0, r1, f0, f1⟩ := P2'
    cases u
    · go_wp2_with fail
      refine bodyPost_ret (v := .tuple #[.agg #[.int .i64 0, .slice none 0 0], .bool false]) ?_ rfl ⟨?_, .inl ⟨HPUT.out, rfl⟩⟩
      · simp [results, Try.results6, go_sem, r0, r1]
      · exact (by repeat' first | with_reducible exact Below.refl _ _ | with_reducible assumption | with_reducible refine below_drewN ?_ _ | with_reducible refine balloc ?_ _ | with_reducible refine Below.drew ?_ | with_reducible refine Below.setCell ?_ (by first | (simp; done) | (simp; omega) | omega) _ | with_reducible refine bstep ?_ (by assumption))
    · obtain ⟨⟨hK1, hK2⟩, hnK⟩ := HK.out rfl
      have hn20 : n ≤ 20 := by omega
      have GO := hide (fun w1 (hb : Below w.heap.size w w1) => greatestOf_any K a n cap f g w1 (HP.out.below hb) hn20)
      go_wp2_with fail
      refine (GO.out _ B2).mono ?_
      rintro e w3 ⟨b, rfl, hbl, hown, hb3⟩
      have P3 := P2.below hb3
      have B3 : Below w.heap.size w w3 := (by repeat' first | with_reducible exact Below.refl _ _ | with_reducible assumption | with_reducible refine below_drewN ?_ _ | with_reducible refine balloc ?_ _ | with_reducible refine Below.drew ?_ | with_reducible refine Below.setCell ?_ (by first | (simp; done) | (simp; omega) | omega) _ | with_reducible refine bstep ?_ (by assumption))
      have hsz := P2.lt
      have hs3 := B3.size
      clear l0 h0 h1 n0 n1 r0 r1 f0 f1 hb3 P2 B2
      generalize hw4 : w3.alloc (Obj.cells #[Value.slice (some ⟨b, 0, none⟩) n (n + 1)] 42) = w4
      have B34 : Below w3.heap.size w3 w4 := by rw [← hw4]; exact balloc (Below.refl _ _) _
      have hbw := hown.lt
      have G4 : GV w4 w3.heap.size b (n + 1) n (n + 1) (listL n f g) := by
        refine ⟨?_, by omega, ?_, ?_, hown.below B34, by omega, by omega⟩ <;> rw [← hw4] <;> simp [go_sem]
      have P4 := P3.below B34
      have B4 : Below w.heap.size w w4 := (by repeat' first | with_reducible exact Below.refl _ _ | with_reducible assumption | with_reducible refine below_drewN ?_ _ | with_reducible refine balloc ?_ _ | with_reducible refine Below.drew ?_ | with_reducible refine Below.setCell ?_ (by first | (simp; done) | (simp; omega) | omega) _ | with_reducible refine bstep ?_ (by assumption))
      have P4' := P4
      obtain ⟨l0, h0, h1, n0, n1, r0, r1, f0, f1⟩ := P4'
      have PU := hide (hPush_any (w.heap.size + 3) w3.heap.size b (n + 1) n (n + 1) (listL n f g) i d w4 G4 (by omega) (by omega) (by have := P3.lt; omega) (by omega))
      have hl3 := P3.lt
      clear hown G4 P3 B3 B34
      subst hw4
      go_wp2_with fail
      refine PU.out.mono ?_
      rintro e w5 ⟨rfl, hb5, G5⟩
      have P5 := P4.low hb5 (by omega)
      have B5 : Below w.heap.size w w5 := B4.trans (hb5.mono (by omega))
      clear l0 h0 h1 n0 n1 r0 r1 f0 f1 hb5 P4 B4 PU
      have P5' := P5
      obtain ⟨l0, h0, h1, n0, n1, r0, r1, f0, f1⟩ := P5'
      have g5c := G5.cell
      have g5l := G5.lt
      have G5' := hide G5
      clear G5
      by_cases hbig : K < (n : Int) + 1
      · have PO := hide (hPop_any (w.heap.size + 3) w3.heap.size b (n + 1) n (n + 1) (putL1 n f g i d) w5 G5'.out (by omega) (by omega) (by omega))
        go_wp2_with fail
        refine PO.out.mono ?_
        rintro e w6 ⟨⟨v6, rfl⟩, hb6, G6⟩
        have P6 := P5.low hb6 (by omega)
        have B6 : Below w.heap.size w w6 := B5.trans (hb6.mono (by omega))
        clear l0 h0 h1 n0 n1 r0 r1 f0 f1 hb6 P5 B5 PO g5c
        obtain ⟨l0, h0, h1, n0, n1, r0, r1, f0, f1⟩ := P6
        have g6c := G6.cell
        have G6' := hide G6
        clear G6
        go_wp2_with fail
        refine bodyPost_ret (v := .tuple #[.agg #[.int .i64 K, .slice (some ⟨b, 0, none⟩) n (n + 1)], .bool true]) ?_ rfl ⟨?_, .inr ⟨HPUT.out, b, n + 1, n + 1, ?_, by omega, ?_, by omega, ?_⟩⟩
        · simp [results, Try.results6, go_sem, r0, r1]
        · exact (by repeat' first | with_reducible exact Below.refl _ _ | with_reducible assumption | with_reducible refine below_drewN ?_ _ | with_reducible refine balloc ?_ _ | with_reducible refine Below.drew ?_ | with_reducible refine Below.setCell ?_ (by first | (simp; done) | (simp; omega) | omega) _ | with_reducible refine bstep ?_ (by assumption))
        · unfold putN; rw [if_pos hbig]
        · unfold putN; rw [if_pos hbig]; omega
        · unfold putL; rw [if_pos hbig]
          exact (G6'.out.own.away _ _ (by simp; omega)).away _ _ (by simp; omega)
      · go_wp2_with fail
        refine bodyPost_ret (v := .tuple #[.agg #[.int .i64 K, .slice (some ⟨b, 0, none⟩) (n + 1) (n + 1)], .bool true]) ?_ rfl ⟨?_, .inr ⟨HPUT.out, b, n + 1, n + 1, ?_, by omega, ?_, by omega, ?_⟩⟩
        · simp [results, Try.results6, go_sem, r0, r1]
        · exact (by repeat' first | with_reducible exact Below.refl _ _ | with_reducible assumption | with_reducible refine below_drewN ?_ _ | with_reducible refine balloc ?_ _ | with_reducible refine Below.drew ?_ | with_reducible refine Below.setCell ?_ (by first | (simp; done) | (simp; omega) | omega) _ | with_reducible refine bstep ?_ (by assumption))
        · unfold putN; rw [if_neg (show ¬ K < (n : Int) + 1 by omega)]
        · unfold putN; rw [if_neg (show ¬ K < (n : Int) + 1 by omega)]; omega
        · unfold putL; rw [if_neg (show ¬ K < (n : Int) + 1 by omega)]
          exact (G5'.out.own.away _ _ (by simp; omega)).away _ _ (by simp; omega)
end Go.Proofs.Ythfkpgnpfhkfpaa
