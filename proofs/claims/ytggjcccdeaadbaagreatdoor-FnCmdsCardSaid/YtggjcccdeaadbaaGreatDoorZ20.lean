/- What the frame of a law tells of the table of forms, and of a command that came in. -/
import Derived.Test.YtggjcccdeaadbaaGreatDoorZ7
import Derived.Test.YtggjcccdeaadbaaGreatDoorZ11
import Derived.ProofKit
import Derived.OpenShut
import Derived.ChangeSlices
import Derived.Lib.LaidTab
import Derived.Lib.SmallJoins
namespace Go.Proofs.YtggjcccdeaadbaaGreatDoor
open Go.RowKit Go.ChangeShapes Go.WideShapes Go.ChangeAt Go.Joins Go.Deep
set_option linter.unusedSimpArgs false
set_option linter.unusedVariables false

theorem lenV2 {l : List Value} (h : l.length = 2) : ∃ v0 v1, l = [v0, v1] := by
  match l, h with
  | [v0, v1], _ => exact ⟨v0, v1, rfl⟩

theorem lenV6 {l : List Value} (h : l.length = 6) : ∃ v0 v1 v2 v3 v4 v5, l = [v0, v1, v2, v3, v4, v5] := by
  match l, h with
  | [v0, v1, v2, v3, v4, v5], _ => exact ⟨v0, v1, v2, v3, v4, v5, rfl⟩

theorem lenV9 {l : List Value} (h : l.length = 9) : ∃ v0 v1 v2 v3 v4 v5 v6 v7 v8, l = [v0, v1, v2, v3, v4, v5, v6, v7, v8] := by
  match l, h with
  | [v0, v1, v2, v3, v4, v5, v6, v7, v8], _ => exact ⟨v0, v1, v2, v3, v4, v5, v6, v7, v8, rfl⟩

theorem lenX3 {α : Type} {l : List α} (h : l.length = 3) : ∃ x0 x1 x2, l = [x0, x1, x2] := by
  match l, h with
  | [x0, x1, x2], _ => exact ⟨x0, x1, x2, rfl⟩

theorem lenX7 {α : Type} {l : List α} (h : l.length = 7) : ∃ x0 x1 x2 x3 x4 x5 x6, l = [x0, x1, x2, x3, x4, x5, x6] := by
  match l, h with
  | [x0, x1, x2, x3, x4, x5, x6], _ => exact ⟨x0, x1, x2, x3, x4, x5, x6, rfl⟩

theorem trod_arrayC {H : Type} {enc : TypeId × Value → H} {P : Program} {w : World} {base : Nat} {sp : Nat → Bool} {held : Bool} {fuel : Nat} {t e : TypeId} {n s : Nat} {cs : List Value} {x : DataW H × List MemPlace}
    (ht : P.underlying t = some (.array n e)) (hce : P.cellsOf e = s) (hct : P.cellsOf t = n * s) (h : DataW.trod enc P w base sp held fuel t cs = some x) :
    ∃ (xs : List (DataW H × List MemPlace)) (m : Nat), x.1 = .agg (xs.map (·.1)) ∧ cs.length = n * s ∧ xs.length = n ∧ ∀ i, i < n → ∃ b, xs[i]? = some b ∧ DataW.trod enc P w base sp held m e ((cs.drop (i * s)).take s) = some b := by
  cases fuel with
  | zero => simp [DataW.trod] at h
  | succ fuel =>
    simp only [DataW.trod, ht, hce, hct] at h
    split at h
    · rename_i hl
      obtain ⟨xs, hm, hx⟩ := Option.map_eq_some_iff.1 h
      refine ⟨xs, fuel, by rw [← hx], by simpa using hl, by simpa using Lib.mapM_length hm, fun i hi => ?_⟩
      obtain ⟨b, hb, hf⟩ := Lib.mapM_at hm i i (by simp [hi])
      exact ⟨b, hb, hf⟩
    · cases h
section
variable {H : Type} {enc : TypeId × Value → H} {w : World} {base : Nat} {sp : Nat → Bool} {held : Bool} {fuel : Nat}

theorem limit_cells {cs : List Value} {x : DataW H × List MemPlace} {a b : Int} (h : DataW.trod enc Tryz.prog w base sp held fuel 35 cs = some x) (e : x.1 = .agg [.lit (.int .i64 a), .lit (.int .i64 b)]) : cs = [.int .i64 a, .int .i64 b] := by
  obtain ⟨y0, y1, n, hx, hl, g0, g1⟩ := trod_struct2 Tryz.underlying35 h
  have c1 : Tryz.prog.cellsOf 2 = 1 := by kernel_rfl
  have c2 : Tryz.prog.cellsOf 35 = 2 := by kernel_rfl
  rw [c2] at hl
  obtain ⟨v0, v1, rfl⟩ := lenV2 hl
  simp [c1] at g0 g1
  obtain ⟨z0, e0, f0, _⟩ := DataW.trod_int Tryz.underlying2 g0
  obtain ⟨z1, e1, f1, _⟩ := DataW.trod_int Tryz.underlying2 g1
  rw [hx, f0, f1] at e
  simp at e0 e1 e
  rw [e0, e1, e.1, e.2]

theorem limits_cells {cs : List Value} {x : DataW H × List MemPlace} {a0 b0 a1 b1 a2 b2 : Int} (h : DataW.trod enc Tryz.prog w base sp held fuel 36 cs = some x) (e : x.1 = .agg [.agg [.lit (.int .i64 a0), .lit (.int .i64 b0)], .agg [.lit (.int .i64 a1), .lit (.int .i64 b1)], .agg [.lit (.int .i64 a2), .lit (.int .i64 b2)]]) :
    cs = [.int .i64 a0, .int .i64 b0, .int .i64 a1, .int .i64 b1, .int .i64 a2, .int .i64 b2] := by
  obtain ⟨xs, m, hx, hl, hxl, hf⟩ := trod_arrayC Tryz.underlying36 (show Tryz.prog.cellsOf 35 = 2 by kernel_rfl) (by kernel_rfl) h
  obtain ⟨v0, v1, v2, v3, v4, v5, rfl⟩ := lenV6 hl
  obtain ⟨x0, x1, x2, rfl⟩ := lenX3 hxl
  rw [hx] at e
  simp at e
  obtain ⟨b0', hb0, h0⟩ := hf 0 (by omega)
  obtain ⟨b1', hb1, h1⟩ := hf 1 (by omega)
  obtain ⟨b2', hb2, h2⟩ := hf 2 (by omega)
  simp at hb0 hb1 hb2
  subst hb0 hb1 hb2
  have k0 := limit_cells h0 e.1
  have k1 := limit_cells h1 e.2.1
  have k2 := limit_cells h2 e.2.2
  simp at k0 k1 k2
  rw [k0.1, k0.2, k1.1, k1.2, k2.1, k2.2]

theorem form_cells {cs : List Value} {x : DataW H × List MemPlace} {k a0 b0 a1 b1 a2 b2 : Int} {s : List UInt8} {v : Bool} (h : DataW.trod enc Tryz.prog w base sp held fuel 38 cs = some x) (e : x.1 = .agg [.lit (.int .i64 k), .lit (.string s), .agg [.agg [.lit (.int .i64 a0), .lit (.int .i64 b0)], .agg [.lit (.int .i64 a1), .lit (.int .i64 b1)], .agg [.lit (.int .i64 a2), .lit (.int .i64 b2)]], .lit (.bool v)]) :
    cs = [.int .i64 k, .string ⟨s.toArray⟩, .int .i64 a0, .int .i64 b0, .int .i64 a1, .int .i64 b1, .int .i64 a2, .int .i64 b2, .bool v] := by
  obtain ⟨y0, y1, y2, y3, n, hx, hl, g0, g1, g2, g3⟩ := trod_struct4 Tryz.underlying38 h
  have c1 : Tryz.prog.cellsOf 2 = 1 := by kernel_rfl
  have c2 : Tryz.prog.cellsOf 9 = 1 := by kernel_rfl
  have c3 : Tryz.prog.cellsOf 36 = 6 := by kernel_rfl
  have c4 : Tryz.prog.cellsOf 4 = 1 := by kernel_rfl
  have c9 : Tryz.prog.cellsOf 38 = 9 := by kernel_rfl
  rw [c9] at hl
  obtain ⟨v0, v1, v2, v3, v4, v5, v6, v7, v8, rfl⟩ := lenV9 hl
  simp [c1, c2, c3, c4] at g0 g1 g2 g3
  rw [hx] at e
  simp at e
  obtain ⟨z0, e0, f0, _⟩ := DataW.trod_int Tryz.underlying2 g0
  obtain ⟨z1, e1, f1, _⟩ := DataW.trod_string Tryz.underlying9 g1
  have k2 := limits_cells g2 e.2.2.1
  obtain ⟨z3, e3, f3⟩ := DataW.trod_bool Tryz.underlying4 g3
  have q0 := e.1
  have q1 := e.2.1
  have q3 := e.2.2.2
  rw [f0] at q0
  rw [f1] at q1
  rw [f3] at q3
  simp at q0 q1 q3 e0 e1 e3 k2
  have q1' : z1 = ⟨s.toArray⟩ := by rw [← q1]
  rw [e0, e1, e3, q0, q1', q3, k2.1, k2.2.1, k2.2.2.1, k2.2.2.2.1, k2.2.2.2.2.1, k2.2.2.2.2.2]

theorem drop_nine (l : List Value) (k : Nat) : l.drop k = (l.drop k).take 9 ++ l.drop (k + 9) := by
  have := (List.take_append_drop 9 (l.drop k)).symm
  rwa [List.drop_drop] at this

theorem forms_cells {cs : List Value} {x : DataW H × List MemPlace} (h : DataW.trod enc Tryz.prog w base sp held fuel 50 cs = some x) (e : x.1 = .agg [.agg [.lit (.int .i64 1), .lit (.string [100, 105, 109]), .agg [.agg [.lit (.int .i64 1), .lit (.int .i64 8)], .agg [.lit (.int .i64 0), .lit (.int .i64 0)], .agg [.lit (.int .i64 0), .lit (.int .i64 0)]], .lit (.bool false)], .agg [.lit (.int .i64 2), .lit (.string [112, 117, 116]), .agg [.agg [.lit (.int .i64 1), .lit (.int .i64 9999)], .agg [.lit (.int .i64 0), .lit (.int .i64 255)], .agg [.lit (.int .i64 0), .lit (.int .i64 0)]], .lit (.bool true)], .agg [.lit (.int .i64 3), .lit (.string [100, 114, 111, 112]), .agg [.agg [.lit (.int .i64 1), .lit (.int .i64 9999)], .agg [.lit (.int .i64 0), .lit (.int .i64 0)], .agg [.lit (.int .i64 0), .lit (.int .i64 0)]], .lit (.bool false)], .agg [.lit (.int .i64 4), .lit (.string [98, 117, 105, 108, 100]), .agg [.agg [.lit (.int .i64 0), .lit (.int .i64 0)], .agg [.lit (.int .i64 0), .lit (.int .i64 0)], .agg [.lit (.int .i64 0), .lit (.int .i64 0)]], .lit (.bool false)], .agg [.lit (.int .i64 5), .lit (.string [116, 105, 99, 107]), .agg [.agg [.lit (.int .i64 1), .lit (.int .i64 60)], .agg [.lit (.int .i64 0), .lit (.int .i64 0)], .agg [.lit (.int .i64 0), .lit (.int .i64 0)]], .lit (.bool false)], .agg [.lit (.int .i64 6), .lit (.string [110, 101, 97, 114]), .agg [.agg [.lit (.int .i64 1), .lit (.int .i64 20)], .agg [.lit (.int .i64 0), .lit (.int .i64 255)], .agg [.lit (.int .i64 0), .lit (.int .i64 1000)]], .lit (.bool true)], .agg [.lit (.int .i64 7), .lit (.string [119, 105, 116, 104, 105, 110]), .agg [.agg [.lit (.int .i64 0), .lit (.int .i64 1125899906842624)], .agg [.lit (.int .i64 0), .lit (.int .i64 255)], .agg [.lit (.int .i64 0), .lit (.int .i64 1000)]], .lit (.bool true)]]) : cs = formsL := by
  obtain ⟨xs, m, hx, hl, hxl, hf⟩ := trod_arrayC Tryz.underlying50 (show Tryz.prog.cellsOf 38 = 9 by kernel_rfl) (by kernel_rfl) h
  obtain ⟨x0, x1, x2, x3, x4, x5, x6, rfl⟩ := lenX7 hxl
  rw [hx] at e
  simp only [List.map_cons, List.map_nil, DataW.agg.injEq, List.cons.injEq, and_true] at e
  obtain ⟨e0, e1, e2, e3, e4, e5, e6⟩ := e
  obtain ⟨b0, hb0, h0⟩ := hf 0 (by omega)
  simp only [List.getElem?_cons_zero, List.getElem?_cons_succ, Option.some.injEq] at hb0
  subst hb0
  have k0 := form_cells h0 e0
  obtain ⟨b1, hb1, h1⟩ := hf 1 (by omega)
  simp only [List.getElem?_cons_zero, List.getElem?_cons_succ, Option.some.injEq] at hb1
  subst hb1
  have k1 := form_cells h1 e1
  obtain ⟨b2, hb2, h2⟩ := hf 2 (by omega)
  simp only [List.getElem?_cons_zero, List.getElem?_cons_succ, Option.some.injEq] at hb2
  subst hb2
  have k2 := form_cells h2 e2
  obtain ⟨b3, hb3, h3⟩ := hf 3 (by omega)
  simp only [List.getElem?_cons_zero, List.getElem?_cons_succ, Option.some.injEq] at hb3
  subst hb3
  have k3 := form_cells h3 e3
  obtain ⟨b4, hb4, h4⟩ := hf 4 (by omega)
  simp only [List.getElem?_cons_zero, List.getElem?_cons_succ, Option.some.injEq] at hb4
  subst hb4
  have k4 := form_cells h4 e4
  obtain ⟨b5, hb5, h5⟩ := hf 5 (by omega)
  simp only [List.getElem?_cons_zero, List.getElem?_cons_succ, Option.some.injEq] at hb5
  subst hb5
  have k5 := form_cells h5 e5
  obtain ⟨b6, hb6, h6⟩ := hf 6 (by omega)
  simp only [List.getElem?_cons_zero, List.getElem?_cons_succ, Option.some.injEq] at hb6
  subst hb6
  have k6 := form_cells h6 e6
  have d := drop_nine cs
  have z : cs.drop 63 = [] := List.drop_eq_nil_of_le (by omega)
  have d0 := d 0; have d1 := d 9; have d2 := d 18; have d3 := d 27; have d4 := d 36; have d5 := d 45; have d6 := d 54
  simp only [Nat.zero_mul, Nat.one_mul, List.drop_zero, Nat.reduceMul, Nat.reduceAdd] at k0 k1 k2 k3 k4 k5 k6 d0 d1 d2 d3 d4 d5 d6
  rw [d0, k0, d1, k1, d2, k2, d3, k3, d4, k4, d5, k5, d6, k6, z]
  rfl

theorem arrayV5 {cs : Array Value} (h : cs.size = 5) : ∃ c0 c1 c2 c3 c4, cs = #[c0, c1, c2, c3, c4] := by
  obtain ⟨l⟩ := cs
  have hl : l.length = 5 := h
  match l, hl with
  | [c0, c1, c2, c3, c4], _ => exact ⟨c0, c1, c2, c3, c4, rfl⟩

theorem lenX5 {α : Type} {l : List α} (h : l.length = 5) : ∃ x0 x1 x2 x3 x4, l = [x0, x1, x2, x3, x4] := by
  match l, h with
  | [x0, x1, x2, x3, x4], _ => exact ⟨x0, x1, x2, x3, x4, rfl⟩

theorem open_agg5C {P : Program} {spare : Nat → Bool} {r : Reach} {b0 : Nat} {t : TypeId} {f0 f1 f2 f3 f4 : Field} {v : Value} {d : DataW H} {p : List MemPlace} (hs : P.underlying t = some (.struct #[f0, f1, f2, f3, f4])) (hone : oneCellFields P #[f0, f1, f2, f3, f4] = true) (hC : P.cellsOf t = 5)
    (hv : Value.okWide P w r b0 t v) (h : DataW.Trod enc P w base spare held t v d p) :
    ∃ (v0 v1 v2 v3 v4 : Value) (y0 y1 y2 y3 y4 : DataW H × List MemPlace) (n : Nat), v = .agg #[v0, v1, v2, v3, v4] ∧
      DataW.trod enc P w base spare held n f0.type [v0] = some y0 ∧ DataW.trod enc P w base spare held n f1.type [v1] = some y1 ∧ DataW.trod enc P w base spare held n f2.type [v2] = some y2 ∧ DataW.trod enc P w base spare held n f3.type [v3] = some y3 ∧ DataW.trod enc P w base spare held n f4.type [v4] = some y4 := by
  obtain ⟨cs, rfl, hsz⟩ := okWide_struct hs hv
  obtain ⟨c0, c1, c2, c3, c4, rfl⟩ := arrayV5 (hsz.trans hC)
  obtain ⟨fuel, hf⟩ := h
  obtain ⟨xs, n, _, hx, hl, hxl, hg⟩ := DataW.trod_struct hs hf
  obtain ⟨x0, x1, x2, x3, x4, rfl⟩ := lenX5 (show xs.length = 5 from hxl)
  obtain ⟨o0, k0⟩ := hone_of hone 0 f0 rfl
  obtain ⟨o1, k1⟩ := hone_of hone 1 f1 rfl
  obtain ⟨o2, k2⟩ := hone_of hone 2 f2 rfl
  obtain ⟨o3, k3⟩ := hone_of hone 3 f3 rfl
  obtain ⟨o4, k4⟩ := hone_of hone 4 f4 rfl
  have g0 := hg 0 f0 rfl
  have g1 := hg 1 f1 rfl
  have g2 := hg 2 f2 rfl
  have g3 := hg 3 f3 rfl
  have g4 := hg 4 f4 rfl
  exact ⟨c0, c1, c2, c3, c4, x0, x1, x2, x3, x4, n, rfl, by simpa [Value.cells, o0, k0] using g0, by simpa [Value.cells, o1, k1] using g1, by simpa [Value.cells, o2, k2] using g2, by simpa [Value.cells, o3, k3] using g3, by simpa [Value.cells, o4, k4] using g4⟩
end
end Go.Proofs.YtggjcccdeaadbaaGreatDoor
