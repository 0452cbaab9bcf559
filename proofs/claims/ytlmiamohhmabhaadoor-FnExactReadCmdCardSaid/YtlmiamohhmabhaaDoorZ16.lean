/- The walk of the law FnExactCmdOk. -/
import Derived.Test.YtlmiamohhmabhaaDoorZ7
import Derived.Test.YtlmiamohhmabhaaDoorZ8
import Derived.Test.YtlmiamohhmabhaaDoorZ14
import Derived.Test.YtlmiamohhmabhaaDoorZ10
import Derived.Deep.RegionHeld3
namespace Go.Proofs.YtlmiamohhmabhaaDoor
open Go.RowKit
set_option maxRecDepth 8000
set_option linter.unusedSimpArgs false
set_option linter.unusedVariables false

theorem IsRow.smallC {w : World} {a : Option Addr} {len cap : Nat} {zs : List Int} (h : IsRow .i64 w a len cap zs) : len ≤ 9223372036854775807 := by
  rcases h with ⟨rfl, rfl, rfl, rfl⟩ | ⟨x, rfl, hl, hm, hz, hcell, hwz⟩
  · omega
  · unfold maxLen at hm; omega

theorem own_rowC {w : World} {g n : Nat} {xs : List Int} (h : Own w g xs) (e : xs.length = n) : Row w (some ⟨g, 0, none⟩) n xs := by subst e; exact h.row
/-- What came in, in its box; and the program's argument in its own. -/
structure CtJ (w0 w : World) (p0 p1 p2 p3 p4 : Value) (q : Nat) (x0 x1 x2 x3 x4 : Value) : Prop where
  par : w.rowIs w0.heap.size 24 5 (v5 p0 p1 p2 p3 p4)
  arg : w.rowIs q 27 5 (v5 x0 x1 x2 x3 x4)
  bel : Below w0.heap.size w0 w

theorem CtJ.below {w0 w w' : World} {p0 p1 p2 p3 p4 : Value} {q : Nat} {x0 x1 x2 x3 x4 : Value} (h : CtJ w0 w p0 p1 p2 p3 p4 q x0 x1 x2 x3 x4) (hb : Below w.heap.size w w') : CtJ w0 w' p0 p1 p2 p3 p4 q x0 x1 x2 x3 x4 :=
  ⟨row_belowC h.par hb, row_belowC h.arg hb, bstep h.bel hb⟩
structure CtW (w0 w : World) (p0 p1 p2 p3 p4 : Value) (q : Nat) (x0 x1 x2 x3 x4 : Value) (n : Nat) (L : List Int) (lb : Nat) : Prop where
  j : CtJ w0 w p0 p1 p2 p3 p4 q x0 x1 x2 x3 x4
  e0 : w.cell? ⟨w0.heap.size, 0, none⟩ = some p0
  e1 : w.cell? ⟨w0.heap.size, 1, none⟩ = some p1
  e2 : w.cell? ⟨w0.heap.size, 2, none⟩ = some p2
  e3 : w.cell? ⟨w0.heap.size, 3, none⟩ = some p3
  e4 : w.cell? ⟨w0.heap.size, 4, none⟩ = some p4
  g0 : w.cell? ⟨q, 0, none⟩ = some x0
  g1 : w.cell? ⟨q, 1, none⟩ = some x1
  g2 : w.cell? ⟨q, 2, none⟩ = some x2
  g3 : w.cell? ⟨q, 3, none⟩ = some x3
  g4 : w.cell? ⟨q, 4, none⟩ = some x4
  l0 : w0.heap.size < w.heap.size
  l1 : q < w.heap.size
  l : Row w (some ⟨lb, 0, none⟩) n L

theorem CtJ.w {w0 w : World} {p0 p1 p2 p3 p4 : Value} {q : Nat} {x0 x1 x2 x3 x4 : Value} {n : Nat} {L : List Int} {lb : Nat} (h : CtJ w0 w p0 p1 p2 p3 p4 q x0 x1 x2 x3 x4) (l : Row w (some ⟨lb, 0, none⟩) n L) : CtW w0 w p0 p1 p2 p3 p4 q x0 x1 x2 x3 x4 n L lb := by
  obtain ⟨a, a0, a1, a2, a3, a4, _⟩ := v5_facts h.par
  obtain ⟨b, b0, b1, b2, b3, b4, _⟩ := v5_facts h.arg
  exact ⟨h, a0, a1, a2, a3, a4, b0, b1, b2, b3, b4, a, b, l⟩

theorem CtW.below {w0 w w' : World} {p0 p1 p2 p3 p4 : Value} {q : Nat} {x0 x1 x2 x3 x4 : Value} {n : Nat} {L : List Int} {lb : Nat} (h : CtW w0 w p0 p1 p2 p3 p4 q x0 x1 x2 x3 x4 n L lb) (b : Below w.heap.size w w') : CtW w0 w' p0 p1 p2 p3 p4 q x0 x1 x2 x3 x4 n L lb :=
  (h.j.below b).w (h.l.below b)

set_option maxHeartbeats 4000000 in
set_option maxRecDepth 4000 in
theorem exactCmdOk_walk (k a b c : Int) (va : Option Addr) (vn vc : Nat) (zs : List Int) (w : World) (F : Forms w) (wl : IsRow .i64 w va vn vc zs) :
    Calls Tryd.prog 3 #[.agg #[.int .i64 k, .int .i64 a, .int .i64 b, .int .i64 c, .slice va vn vc]] w fun e w' => e = .returned (.bool true) ∧ Below w.heap.size w w' := by
  have rl := wl.row
  have hln := wl.smallC
  obtain ⟨L, hLL⟩ : ∃ L, zs.take vn = L := ⟨_, rfl⟩
  rw [hLL] at rl
  have SZ := hide (fun w1 => szCmd_any k a b c va vn vc w1 hln)
  have P0 := hide (v5_new w (.int .i64 k) (.int .i64 a) (.int .i64 b) (.int .i64 c) (.slice va vn vc) 24)
  have B0 : Hid (Below w.heap.size w (w.alloc (.cells #[.int .i64 k, .int .i64 a, .int .i64 b, .int .i64 c, .slice va vn vc] 24))) := hide (balloc (Below.refl _ _) _)
  have RL := hide rl
  have HF := hide F
  have HLN := hide rl.len
  clear rl F wl hLL
  obtain ⟨_, p0, p1, p2, p3, p4, _⟩ := v5_facts P0.out
  go_enter Tryd.func3, Tryd.ntmps3
  go_wp2_with fail
  refine (SZ.out _).mono ?_
  rintro e w1 ⟨⟨r, rfl, hrr⟩, hb1⟩
  have P1 := hide (row_belowC P0.out hb1)
  have B1 := hide (bstep B0.out hb1)
  clear hb1 P0 B0 p0 p1 p2 p3 p4 SZ
  rcases hrr with hr0 | ⟨hr0, h1⟩
  · go_wp2_with fail
    go_ret
    exact ⟨rfl, B1.out⟩
  · have hno : ¬ r < 0 := by omega
    have TF := hide (fun w1 (s : Below w.heap.size w w1) => toCmd_any k a b c va vn vc L w1 (RL.out.below s) h1)
    have ST := hide (fun va' vc' w1 (rl : Row w1 va' vn L) => sCmdOk_any k a b c va' vn vc' L w1 rl h1)
    have IT := hide (fun va' vc' w1 (rl : Row w1 va' vn L) F => iCmdOk_any k a b c va' vn vc' L w1 rl h1 F)
    have EF := hide (fun va vc va' vc' w1 rl rl' => eqCmd_self k a b c va vn vc L va' vc' w1 rl rl' h1)
    have hl := HLN.out
    unfold ToCd at TF
    rw [hl] at TF
    generalize cmdB k a b c vn L = R at ST IT
    have q2 : (R != R) = false := by cases R <;> rfl
    clear hl hr0
    obtain ⟨_, p0, p1, p2, p3, p4, _⟩ := v5_facts P1.out
    go_wp2_with fail
    refine (TF.out _ B1.out).mono ?_
    rintro e w2 ⟨lb, rfl, ol, hb2⟩
    have P2 := hide (row_belowC P1.out hb2)
    have B2 := hide (bstep B1.out hb2)
    have L2 := hide (own_rowC ol HLN.out)
    clear ol hb2 P1 B1 p0 p1 p2 p3 p4
    go_wp2_with fail
    refine (ST.out _ _ _ L2.out).mono ?_
    rintro e w3 ⟨rfl, hb3⟩
    have P3 := hide (row_belowC P2.out hb3)
    have B3 := hide (bstep B2.out hb3)
    clear hb3 P2 B2 L2
    obtain ⟨_, p0, p1, p2, p3, p4, _⟩ := v5_facts P3.out
    go_wp2_with fail
    refine (TF.out _ B3.out).mono ?_
    rintro e w4 ⟨lb', rfl, ol, hb4⟩
    have nb := balloc (Below.refl w4.heap.size w4) (.cells #[.int .i64 k, .int .i64 a, .int .i64 b, .int .i64 c, .slice (some ⟨lb', 0, none⟩) vn vn] 27)
    have J4 : Hid (CtJ w (w4.alloc (.cells #[.int .i64 k, .int .i64 a, .int .i64 b, .int .i64 c, .slice (some ⟨lb', 0, none⟩) vn vn] 27)) (.int .i64 k) (.int .i64 a) (.int .i64 b) (.int .i64 c) (.slice va vn vc) w4.heap.size (.int .i64 k) (.int .i64 a) (.int .i64 b) (.int .i64 c) (.slice (some ⟨lb', 0, none⟩) vn vn)) := hide
      ⟨row_belowC (row_belowC P3.out hb4) nb, v5_new w4 _ _ _ _ _ _, bstep (bstep B3.out hb4) nb⟩
    have L4 := hide ((own_rowC ol HLN.out).below nb)
    clear ol hb4 nb P3 B3 p0 p1 p2 p3 p4
    obtain ⟨_, x0, x1, x2, x3, x4, _⟩ := v5_facts J4.out.arg
    go_wp2_with fail
    refine (IT.out _ _ _ L4.out (HF.out.below J4.out.bel)).mono ?_
    rintro e w5 ⟨rfl, hb5⟩
    have W5 := hide ((J4.out.below hb5).w (L4.out.below hb5))
    clear hb5 J4 L4 x0 x1 x2 x3 x4
    go_wp2_with fail
    refine wp_region_held_drew (S := fun wx => CtW w wx (.int .i64 k) (.int .i64 a) (.int .i64 b) (.int .i64 c) (.slice va vn vc) w4.heap.size (.int .i64 k) (.int .i64 a) (.int .i64 b) (.int .i64 c) (.slice (some ⟨lb', 0, none⟩) vn vn) vn L lb') (by kernel_rfl) ((W5.out.below (Below.drew (Below.refl _ _)))) (fun hH0 => ?_)
    refine wpAnyH_take (i := 0) (oi := { dst := some 22, op := _, type := _, pos := _, after := _, guard := _ }) (v := ?_) rfl (by kernel_rfl) (by kernel_rfl) (by kernel_rfl) (fun _ _ _ h => h) (Or.inl ⟨by rfl, ?_⟩) (hH0) ?_
    rotate_left
    · (intro wx hSw; obtain ⟨_, e0, e1, e2, e3, e4, g0, g1, g2, g3, g4, l0, l1, _⟩ := hSw; go_simp <;> with_reducible rfl)
    simp only [Act.put, List.setIfInBounds_toArray, List.set_cons_zero, List.set_cons_succ]
    refine wpAnyH_take (i := 1) (oi := { dst := some 23, op := _, type := _, pos := _, after := _, guard := _ }) (v := ?_) rfl (by kernel_rfl) (by kernel_rfl) (by kernel_rfl) (fun _ _ _ h => h) (Or.inl ⟨by rfl, ?_⟩) (hH0) ?_
    rotate_left
    · (intro wx hSw; obtain ⟨_, e0, e1, e2, e3, e4, g0, g1, g2, g3, g4, l0, l1, _⟩ := hSw; go_simp <;> with_reducible rfl)
    simp only [Act.put, List.setIfInBounds_toArray, List.set_cons_zero, List.set_cons_succ]
    refine wpAnyH_ready (rs := [2]) (by kernel_rfl) (by simp) ?_
    refine AllReadyH.cons (o := { dst := some 24, op := _, type := _, pos := _, after := _, guard := _ }) rfl (fun K hK => ?_) AllReadyH.nil
    go_simp
    refine (TF.out _ hH0.j.bel).mono ?_
    rintro e w6 ⟨lb6, rfl, ol, hbb⟩
    dsimp only
    refine hK.out _ _ (CtW.below hH0 hbb) (fun hH1 => ?_)
    clear hK K
    refine wpAnyH_ready (rs := [3]) (by kernel_rfl) (by simp) ?_
    refine AllReadyH.cons (o := { dst := some 25, op := _, type := _, pos := _, after := _, guard := _ }) rfl (fun K hK => ?_) AllReadyH.nil
    go_simp
    refine (EF.out _ _ _ _ _ hH1.l (own_rowC ol HLN.out)).mono ?_
    rintro e w7 ⟨rfl, hb7⟩
    dsimp only
    refine hK.out _ _ (CtW.below hH1 hb7) (fun hH2 => ?_)
    clear hK K
    refine wpAnyH_take (i := 4) (oi := { dst := some 26, op := _, type := _, pos := _, after := _, guard := _ }) (v := ?_) rfl (by kernel_rfl) (by kernel_rfl) (by kernel_rfl) (fun _ _ _ h => h) (Or.inl ⟨by rfl, ?_⟩) (hH2) ?_
    rotate_left
    · (intro wx hSw; obtain ⟨_, e0, e1, e2, e3, e4, g0, g1, g2, g3, g4, l0, l1, _⟩ := hSw; go_simp <;> with_reducible rfl)
    simp only [Act.put, List.setIfInBounds_toArray, List.set_cons_zero, List.set_cons_succ]
    refine wpAnyH_done (by kernel_rfl) ?_ _
    -- behind it: go_wp2_with fail, then go_meet (a cut) or go_ret; the condition at the end: hH2
    have Z7 := hide hH2.j.bel
    go_wp2_with fail
    go_ret
    exact ⟨rfl, Z7.out⟩
end Go.Proofs.YtlmiamohhmabhaaDoor
