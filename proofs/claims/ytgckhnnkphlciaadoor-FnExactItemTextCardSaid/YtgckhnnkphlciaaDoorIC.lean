/- eqItem, eqItemS of the laws, where both are the same items. -/
import Derived.Test.YtgckhnnkphlciaaDoorIB
namespace Go.Proofs.YtgckhnnkphlciaaDoor
open Go.RowKit
set_option maxRecDepth 8000
set_option linter.unusedSimpArgs false
set_option linter.unusedVariables false

set_option maxHeartbeats 800000 in
theorem eqItem_self (x : It) (a a' : Option Addr) (n n' cap cap1 : Nat) (w : World) (h : Row w a n x.vec) (h' : Row w a' n' x.vec) (hn : n ≤ 1048576) :
    Calls Tryd.prog 11 #[.agg #[.int .i64 x.id, .int .i64 x.tags, .slice a n cap], .agg #[.int .i64 x.id, .int .i64 x.tags, .slice a' n' cap1]] w fun e w' => e = .returned (.bool true) ∧ Below w.heap.size w w' := by
  have R := hide (fun w1 (hb : Below w.heap.size w w1) => eqInts_any a a' n cap n' cap1 x.vec x.vec w1 (h.below hb) (h'.below hb) hn)
  have g1 : (x.id != x.id) = false := by simp
  have g2 : (x.tags != x.tags) = false := by simp
  clear h h'
  go_enter Tryd.func11, Tryd.ntmps11
  go_wp2_with fail
  refine (R.out _ (by repeat' first | with_reducible exact Below.refl _ _ | with_reducible assumption | with_reducible refine below_drewN ?_ _ | with_reducible refine balloc ?_ _ | with_reducible refine Below.drew ?_ | with_reducible refine Below.setCell ?_ (by first | (simp; done) | (simp; omega) | omega) _ | with_reducible refine bstep ?_ (by assumption))).mono ?_
  rintro e w1 ⟨rfl, hb1⟩
  rw [show decide True = true from rfl]
  go_wp2_with fail
  go_ret
  exact ⟨rfl, (by repeat' first | with_reducible exact Below.refl _ _ | with_reducible assumption | with_reducible refine below_drewN ?_ _ | with_reducible refine balloc ?_ _ | with_reducible refine Below.drew ?_ | with_reducible refine Below.setCell ?_ (by first | (simp; done) | (simp; omega) | omega) _ | with_reducible refine bstep ?_ (by assumption))⟩

/-- The cells of two items, as a comparison reads them. -/
structure Two (w : World) (b o b1 o' : Nat) (x : It) (a a' : Option Addr) (n n' c c' : Nat) : Prop where
  l : b < w.heap.size
  l' : b1 < w.heap.size
  r : Row w a n x.vec
  r' : Row w a' n' x.vec
  c0 : w.cell? ⟨b, o, none⟩ = some (.int .i64 x.id)
  c1 : w.cell? ⟨b, o + 1, none⟩ = some (.int .i64 x.tags)
  c2 : w.cell? ⟨b, o + 2, none⟩ = some (.slice a n c)
  d0 : w.cell? ⟨b1, o', none⟩ = some (.int .i64 x.id)
  d1 : w.cell? ⟨b1, o' + 1, none⟩ = some (.int .i64 x.tags)
  d2 : w.cell? ⟨b1, o' + 2, none⟩ = some (.slice a' n' c')

theorem Two.below {w w' : World} {b o b1 o' : Nat} {x : It} {a a' : Option Addr} {n n' c c' : Nat} (h : Two w b o b1 o' x a a' n n' c c') (hb : Below w.heap.size w w') : Two w' b o b1 o' x a a' n n' c c' :=
  ⟨Nat.lt_of_lt_of_le h.l hb.size, Nat.lt_of_lt_of_le h.l' hb.size, h.r.below hb, h.r'.below hb,
    (hb.cell (p := ⟨b, o, none⟩) h.l).trans h.c0, (hb.cell (p := ⟨b, o + 1, none⟩) h.l).trans h.c1, (hb.cell (p := ⟨b, o + 2, none⟩) h.l).trans h.c2,
    (hb.cell (p := ⟨b1, o', none⟩) h.l').trans h.d0, (hb.cell (p := ⟨b1, o' + 1, none⟩) h.l').trans h.d1, (hb.cell (p := ⟨b1, o' + 2, none⟩) h.l').trans h.d2⟩

theorem Two.drew {w : World} {b o b1 o' : Nat} {x : It} {a a' : Option Addr} {n n' c c' : Nat} (h : Two w b o b1 o' x a a' n n' c c') : Two w.drew b o b1 o' x a a' n n' c c' :=
  ⟨h.l, h.l', ⟨h.r.len, h.r.lies⟩, ⟨h.r'.len, h.r'.lies⟩, h.c0, h.c1, h.c2, h.d0, h.d1, h.d2⟩





end Go.Proofs.YtgckhnnkphlciaaDoor