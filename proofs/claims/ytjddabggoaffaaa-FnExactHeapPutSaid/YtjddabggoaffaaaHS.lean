/- What a put comes to, by both; the boxes of the law. -/
import Derived.Test.YtjddabggoaffaaaHQ
import Derived.Test.YtjddabggoaffaaaHR
namespace Go.Proofs.Ytjddabggoaffaaa
open Go.RowKit
set_option linter.unusedSimpArgs false
set_option linter.unusedVariables false

def putK (K : Int) (ok : Bool) : Int := if ok then K else 0
def putLen (K : Int) (n : Nat) (ok : Bool) : Nat := if ok then putN K n else 0

def PutRes (w : World) (K : Int) (l : Nat) (ok : Bool) (L : NL) (e : Ending) (w' : World) : Prop :=
  ∃ a c, e = .returned (.tuple #[.agg #[.int .i64 K, .slice a l c], .bool ok]) ∧ Wr w' a l L w.heap.size ∧ Below w.heap.size w w'

theorem iPut_any (K : Int) (a : Option Addr) (n cap : Nat) (f g : Nat → Int) (i d : Int) (w : World) (h : PRow w a n f g) :
    Calls Try.prog 9 #[.agg #[.int .i64 K, .slice a n cap], .agg #[.int .i64 i, .int .i64 d]] w fun e w' => PutRes w (putK K (putB K n f g i d)) (putLen K n (putB K n f g i d)) (putB K n f g i d) (putL K n f g i d) e w' := by
  refine (iHeapPut_any K a n cap f g i d w h).mono fun e w' ⟨hb, hq⟩ => ?_
  rcases hq with ⟨ho, he⟩ | ⟨ho, b, c, m, he, hle, hlm, _, hown⟩
  · rw [ho]
    exact ⟨none, 0, he, .inl rfl, hb⟩
  · rw [ho]
    exact ⟨_, c, he, .inr ⟨b, rfl, hle, hown.rowl.less hlm⟩, hb⟩

theorem sPut_any (K : Int) (a : Option Addr) (n cap : Nat) (f g : Nat → Int) (i d : Int) (w : World) (h : PRow w a n f g) :
    Calls Try.prog 6 #[.agg #[.int .i64 K, .slice a n cap], .agg #[.int .i64 i, .int .i64 d]] w fun e w' => PutRes w (putK K (putB K n f g i d)) (putLen K n (putB K n f g i d)) (putB K n f g i d) (putL K n f g i d) e w' := by
  refine (sHeapPut_any K a n cap f g i d w h).mono fun e w' hq => ?_
  rcases hq with ⟨ho, he, hb⟩ | ⟨ho, hb, b, c, m, he, hle, hlm, _, _, hown⟩
  · rw [ho]
    exact ⟨none, 0, he, .inl rfl, hb⟩
  · rw [ho]
    exact ⟨_, c, he, .inr ⟨b, rfl, hle, (hown.less hlm).rowl⟩, hb⟩

theorem putLen_le {K : Int} {n : Nat} {f g : Nat → Int} {i d : Int} : putLen K n (putB K n f g i d) ≤ 21 := by
  unfold putLen
  cases h : putB K n f g i d
  · simp
  · unfold putB heapB inB at h
    simp only [Bool.and_eq_true, decide_eq_true_eq] at h
    rw [if_pos rfl]
    unfold putN
    split <;> omega

/-- The two boxes that a put's arguments are read from. -/
structure AN (w : World) (b : Nat) (K : Int) (a : Option Addr) (n cap : Nat) (b' : Nat) (i d : Int) : Prop where
  one : HBx w b K a n cap
  two : NBx w b' i d
theorem AN.below {w w' : World} {b : Nat} {K : Int} {a : Option Addr} {n cap b' : Nat} {i d : Int} (h : AN w b K a n cap b' i d) (B : Below w.heap.size w w') : AN w' b K a n cap b' i d := ⟨h.one.below B, h.two.below B⟩
theorem NBx.drew {w : World} {b : Nat} {x y : Int} (h : NBx w b x y) : NBx w.drew b x y := ⟨h.lt, h.c0, h.c1⟩
theorem AN.drew {w : World} {b : Nat} {K : Int} {a : Option Addr} {n cap b' : Nat} {i d : Int} (h : AN w b K a n cap b' i d) : AN w.drew b K a n cap b' i d := ⟨h.one.drew, h.two.drew⟩
theorem AN.low {w w' : World} {b X : Nat} {K : Int} {a : Option Addr} {n cap b' : Nat} {i d : Int} (h : AN w b K a n cap b' i d) (B : Below X w w') (h1 : b < X) (h2 : b' < X) : AN w' b K a n cap b' i d :=
  ⟨⟨Nat.lt_of_lt_of_le h.one.lt B.size, (B.cell (p := ⟨b, 0, none⟩) h1).trans h.one.c0, (B.cell (p := ⟨b, 1, none⟩) h1).trans h.one.c1⟩,
    ⟨Nat.lt_of_lt_of_le h.two.lt B.size, (B.cell (p := ⟨b', 0, none⟩) h2).trans h.two.c0, (B.cell (p := ⟨b', 1, none⟩) h2).trans h.two.c1⟩⟩
/-- The box that a region lays for a heap: still empty. -/
structure OBx (w : World) (b : Nat) : Prop where
  lt : b < w.heap.size
  c0 : w.cell? ⟨b, 0, none⟩ = some (.int .i64 0)
  c1 : w.cell? ⟨b, 1, none⟩ = some (.slice none 0 0)
  f0 : w.frozen? ⟨b, 0, none⟩ = false
  f1 : w.frozen? ⟨b, 1, none⟩ = false
theorem OBx.below {w w' : World} {b : Nat} (h : OBx w b) (B : Below w.heap.size w w') : OBx w' b :=
  ⟨Nat.lt_of_lt_of_le h.lt B.size, (B.cell (p := ⟨b, 0, none⟩) h.lt).trans h.c0, (B.cell (p := ⟨b, 1, none⟩) h.lt).trans h.c1, (B.frozen (p := ⟨b, 0, none⟩) h.lt).trans h.f0, (B.frozen (p := ⟨b, 1, none⟩) h.lt).trans h.f1⟩
theorem OBx.fresh (w : World) (t : TypeId) : OBx (w.alloc (.cells #[.int .i64 0, .slice none 0 0] t)) w.heap.size :=
  ⟨by simp, by simp [go_sem], by simp [go_sem], by simp [go_sem], by simp [go_sem]⟩
theorem OBx.filled {w : World} {b : Nat} (h : OBx w b) (K : Int) (a : Option Addr) (l c : Nat) : HBx ((w.setCell ⟨b, 0, none⟩ (.int .i64 K)).setCell ⟨b, 1, none⟩ (.slice a l c)) b K a l c := by
  obtain ⟨h1, h2, h3, _, _⟩ := h
  exact ⟨by simpa using h1, by simp [go_sem, h2, h3], by simp [go_sem, h2, h3]⟩
theorem Wr.lt {w : World} {a : Option Addr} {l : Nat} {L : NL} {B : Nat} (h : Wr w a l L B) : l = 0 ∨ ∃ b, a = some ⟨b, 0, none⟩ ∧ b < w.heap.size := by
  rcases h with h0 | ⟨b, e, _, hr⟩
  · exact .inl h0
  · exact .inr ⟨b, e, hr.lt⟩
/-- A box that lies ahead of B, or behind the row, is written. -/
theorem Wr.away {w : World} {a : Option Addr} {l : Nat} {L : NL} {B : Nat} (h : Wr w a l L B) (p : Addr) (v : Value) (hp : p.block < B ∨ (l = 0 ∨ ∃ b, a = some ⟨b, 0, none⟩ ∧ b < p.block)) : Wr (w.setCell p v) a l L B := by
  rcases h with h0 | ⟨b, e, hB, hr⟩
  · exact .inl h0
  · by_cases h0 : l = 0
    · exact .inl h0
    · refine .inr ⟨b, e, hB, hr.away p v ?_⟩
      rcases hp with hp | hp | ⟨b', e', hlt⟩
      · omega
      · exact absurd hp h0
      · rw [e] at e'
        cases e'
        omega
theorem Wr.ne1 {w : World} {a : Option Addr} {l : Nat} {L : NL} {B x : Nat} (h : Wr w a l L B) (hx : x < B) : l = 0 ∨ ∃ b, a = some ⟨b, 0, none⟩ ∧ b ≠ x := by
  rcases h with h0 | ⟨b, e, hB, _⟩
  · exact .inl h0
  · exact .inr ⟨b, e, by omega⟩
theorem ne2 {a : Option Addr} {l x : Nat} (h : l = 0 ∨ ∃ b, a = some ⟨b, 0, none⟩ ∧ b < x) : l = 0 ∨ ∃ b, a = some ⟨b, 0, none⟩ ∧ b ≠ x := by
  rcases h with h0 | ⟨b, e, hb⟩
  · exact .inl h0
  · exact .inr ⟨b, e, by omega⟩
end Go.Proofs.Ytjddabggoaffaaa
