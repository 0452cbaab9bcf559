/- The walk of the law FnExactFoundText; what its frame tells of hits that came in. -/
import Derived.Test.YtfjhgagpmhedfaaDoorUF3
import Derived.Test.YtfjhgagpmhedfaaDoorVD0
import Derived.ProofKit
import Derived.ChangeSlices
import Derived.Deep.SlicePairs
namespace Go.Proofs.YtfjhgagpmhedfaaDoor
open Go.RowKit Go.ChangeShapes Go.WideShapes
set_option linter.unusedSimpArgs false
set_option linter.unusedVariables false

theorem addAtF {x : Addr} {w : World} {k : Nat} {v : Value} {b off : Nat} (e : x = ⟨b, off, none⟩) (h : w.cell? (x.add k) = some v) : w.cell? ⟨b, off + k, none⟩ = some v := by
  subst e
  by_cases h0 : k = 0
  · subst h0; simpa [Addr.add] using h
  · simpa [Addr.add, h0] using h

theorem hits_of {H : Type} {enc : TypeId × Value → H} {P : Program} {w : World} {base : Nat} {held : Bool} {t e : TypeId} {f0 f1 f2 : Field} {fuel : Nat} {v : Value} {x : DataW H × List MemPlace}
    (ht : P.underlying t = some (.slice e)) (he : P.underlying e = some (.struct #[f0, f1, f2])) (ce : P.cellsOf e = 3) (o0 : f0.offset = 0) (o1 : f1.offset = 1) (o2 : f2.offset = 2)
    (c0 : P.cellsOf f0.type = 1) (c1 : P.cellsOf f1.type = 1) (c2 : P.cellsOf f2.type = 1) (u0 : P.underlying f0.type = some (.int .i64)) (u1 : P.underlying f1.type = some (.int .i64)) (u2 : P.underlying f2.type = some (.int .i64))
    (h : DataW.trod enc P w base (fun _ => true) held fuel t [v] = some x) : ∃ a n c, ∃ L : HtL, v = .slice a n c ∧ HtR w a n L ∧ n ≤ 9223372036854775807 := by
  rcases Go.Deep.open_slice ht h with ⟨hcs, _⟩ | ⟨a, len, cap, m, n, D, Pl, hcs, hb, hl, hm, hmm, _, hx⟩
  · simp at hcs
    exact ⟨none, 0, 0, fun _ => ⟨0, 0, 0⟩, hcs, ⟨.inl rfl⟩, by omega⟩
  simp at hcs
  have hlm : len ≤ m := by rw [hmm]; split <;> omega
  have each : ∀ i, i < m → ∃ q : Ht, w.cell? (a.add (i * 3)) = some (.int .i64 q.x) ∧ w.cell? (a.add (i * 3 + 1)) = some (.int .i64 q.y) ∧ w.cell? (a.add (i * 3 + 2)) = some (.int .i64 q.z) := by
    intro i hi
    obtain ⟨cs', h1, h2⟩ := hx i hi
    rw [ce] at h1
    obtain ⟨_, hlen, hcell⟩ := World.cells?_some h1
    obtain ⟨xs, k, hk, hxy, _, hxl, hf⟩ := DataW.trod_struct he h2
    have hk' : k = n - 1 := by omega
    subst hk'
    match xs, hxl, cs', hlen with
    | [y0, y1, y2], _, [v0, v1, v2], _ =>
      have g0 := hf 0 f0 rfl
      have g1 := hf 1 f1 rfl
      have g2 := hf 2 f2 rfl
      simp [o0, o1, o2, c0, c1, c2] at g0 g1 g2
      have e0 := hcell 0 (by omega)
      have e1 := hcell 1 (by omega)
      have e2 := hcell 2 (by omega)
      rw [Go.Deep.add_add] at e0 e1 e2
      obtain ⟨z0, ez0, _⟩ := DataW.trod_int u0 g0
      obtain ⟨z1, ez1, _⟩ := DataW.trod_int u1 g1
      obtain ⟨z2, ez2, _⟩ := DataW.trod_int u2 g2
      simp at ez0 ez1 ez2
      subst ez0 ez1 ez2
      exact ⟨⟨z0, z1, z2⟩, by simpa using e0, by simpa using e1, by simpa using e2⟩
  have inh : Inhabited Ht := ⟨⟨0, 0, 0⟩⟩
  obtain ⟨q, hq⟩ := Go.Deep.choose_lt each
  refine ⟨_, _, _, q, hcs, ?_, by unfold maxLen at hm; omega⟩
  by_cases h0 : len = 0
  · exact ⟨.inl h0⟩
  · obtain ⟨b, off, spot⟩ := a
    have hc := (hq 0 (by omega)).1
    have hspot : spot = none := by simpa [Addr.add] using World.cell?_spot hc
    subst hspot
    refine ⟨.inr ⟨b, off, rfl, ?_, fun i hi => ?_⟩⟩
    · have := cellLt hc
      simpa [Addr.add] using this
    · obtain ⟨a0, a1, a2⟩ := hq i (by omega)
      exact ⟨addAtF rfl a0, by have := addAtF rfl a1; rwa [← Nat.add_assoc] at this, by have := addAtF rfl a2; rwa [← Nat.add_assoc] at this⟩

theorem IsRow.small {w : World} {a : Option Addr} {len cap : Nat} {zs : List Int} (h : IsRow .i64 w a len cap zs) : len ≤ 9223372036854775807 ∧ ∀ k, k < len → -9223372036854775808 ≤ nth (zs.take len) k ∧ nth (zs.take len) k ≤ 9223372036854775807 := by
  rcases h with ⟨rfl, rfl, rfl, rfl⟩ | ⟨x, rfl, hl, hm, hz, hcell, hwz⟩
  · exact ⟨by omega, fun k hk => absurd hk (by omega)⟩
  · refine ⟨by unfold maxLen at hm; omega, fun k hk => ?_⟩
    have e : nth (zs.take len) k = zs.getD k 0 := by simp [nth, hk]
    rw [e]
    exact bounds_i64 (hwz _ (by simp [show k < zs.length by omega]))

theorem own_rowF {w : World} {g n : Nat} {xs : List Int} (h : Own w g xs) (e : xs.length = n) : Row w (some ⟨g, 0, none⟩) n xs := by subst e; exact h.row
/-- What came in, in its box; and the program's argument in its own. -/
structure FtJ (w0 w : World) (p0 p1 p2 p3 : Value) (q : Nat) (x0 x1 x2 x3 : Value) : Prop where
  par : w.rowIs w0.heap.size 25 4 (v4 p0 p1 p2 p3)
  arg : w.rowIs q 30 4 (v4 x0 x1 x2 x3)
  bel : Below w0.heap.size w0 w

theorem FtJ.below {w0 w w' : World} {p0 p1 p2 p3 : Value} {q : Nat} {x0 x1 x2 x3 : Value} (h : FtJ w0 w p0 p1 p2 p3 q x0 x1 x2 x3) (hb : Below w.heap.size w w') : FtJ w0 w' p0 p1 p2 p3 q x0 x1 x2 x3 :=
  ⟨row_below h.par hb, row_below h.arg hb, bstep h.bel hb⟩

structure FtW (w0 w : World) (p0 p1 p2 p3 : Value) (q : Nat) (x0 x1 x2 x3 : Value) (hn : Nat) (H : HtL) (ln : Nat) (L : List Int) (hb lb : Nat) : Prop where
  j : FtJ w0 w p0 p1 p2 p3 q x0 x1 x2 x3
  e0 : w.cell? ⟨w0.heap.size, 0, none⟩ = some p0
  e1 : w.cell? ⟨w0.heap.size, 1, none⟩ = some p1
  e2 : w.cell? ⟨w0.heap.size, 2, none⟩ = some p2
  e3 : w.cell? ⟨w0.heap.size, 3, none⟩ = some p3
  g0 : w.cell? ⟨q, 0, none⟩ = some x0
  g1 : w.cell? ⟨q, 1, none⟩ = some x1
  g2 : w.cell? ⟨q, 2, none⟩ = some x2
  g3 : w.cell? ⟨q, 3, none⟩ = some x3
  l0 : w0.heap.size < w.heap.size
  l1 : q < w.heap.size
  r : HtR w (some ⟨hb, 0, none⟩) hn H
  l : Row w (some ⟨lb, 0, none⟩) ln L

theorem FtJ.w {w0 w : World} {p0 p1 p2 p3 : Value} {q : Nat} {x0 x1 x2 x3 : Value} {hn : Nat} {H : HtL} {ln : Nat} {L : List Int} {hb lb : Nat} (h : FtJ w0 w p0 p1 p2 p3 q x0 x1 x2 x3) (r : HtR w (some ⟨hb, 0, none⟩) hn H) (l : Row w (some ⟨lb, 0, none⟩) ln L) : FtW w0 w p0 p1 p2 p3 q x0 x1 x2 x3 hn H ln L hb lb := by
  obtain ⟨a, a0, a1, a2, a3, _, _, _, _⟩ := v4_facts h.par
  obtain ⟨b, b0, b1, b2, b3, _, _, _, _⟩ := v4_facts h.arg
  exact ⟨h, a0, a1, a2, a3, b0, b1, b2, b3, a, b, r, l⟩

theorem FtW.below {w0 w w' : World} {p0 p1 p2 p3 : Value} {q : Nat} {x0 x1 x2 x3 : Value} {hn : Nat} {H : HtL} {ln : Nat} {L : List Int} {hb lb : Nat} (h : FtW w0 w p0 p1 p2 p3 q x0 x1 x2 x3 hn H ln L hb lb) (b : Below w.heap.size w w') : FtW w0 w' p0 p1 p2 p3 q x0 x1 x2 x3 hn H ln L hb lb :=
  (h.j.below b).w (h.r.below b) (h.l.below b)

set_option maxHeartbeats 4000000 in
set_option maxRecDepth 4000 in
theorem exactFoundText_walk (ha : Option Addr) (hn hc : Nat) (H : HtL) (ex : Bool) (rd : Int) (la : Option Addr) (ln lc : Nat) (zs : List Int) (w : World) (T : Tab w) (rh : HtR w ha hn H) (hhn : hn ≤ 9223372036854775807) (wd : (Lit.int .i64 rd).wf = true) (wl : IsRow .i64 w la ln lc zs) :
    Calls Tryd.prog 3 #[.agg #[.slice ha hn hc, .bool ex, .int .i64 rd, .slice la ln lc]] w fun e w' => e = .returned (.bool true) ∧ Below w.heap.size w w' := by
  have rl := wl.row
  obtain ⟨hln, hL⟩ := wl.small
  have hr := bounds_i64 wd
  obtain ⟨L, hLL⟩ : ∃ L, zs.take ln = L := ⟨_, rfl⟩
  rw [hLL] at rl hL
  have SZ := hide (fun w1 => szFound_any ha hn hc ex rd la ln lc w1 hhn hln)
  have P0 := hide (v4_new w (.slice ha hn hc) (.bool ex) (.int .i64 rd) (.slice la ln lc) 25)
  have B0 : Hid (Below w.heap.size w (w.alloc (.cells #[.slice ha hn hc, .bool ex, .int .i64 rd, .slice la ln lc] 25))) := hide (balloc (Below.refl _ _) _)
  have RH := hide rh
  have RL := hide rl
  have HT := hide T
  have HLB := hide hL
  have HRB := hide hr
  have HLN := hide rl.len
  clear rh rl T hL hr wl wd hLL
  obtain ⟨_, p0, p1, p2, p3, _, _, _, _⟩ := v4_facts P0.out
  go_enter Tryd.func3, Tryd.ntmps3
  go_wp2_with fail
  refine (SZ.out _).mono ?_
  rintro e w1 ⟨⟨r, rfl, hrr⟩, hb1⟩
  have P1 := hide (row_below P0.out hb1)
  have B1 := hide (bstep B0.out hb1)
  clear hb1 P0 B0 p0 p1 p2 p3 SZ
  rcases hrr with hr0 | ⟨hr0, h1, h2⟩
  · go_wp2_with fail
    go_ret
    exact ⟨rfl, B1.out⟩
  · have hno : ¬ r < 0 := by omega
    have TF := hide (fun w1 (s : Below w.heap.size w w1) => toFound_any ha hn hc H ex rd la ln lc L w1 (RH.out.below s) (RL.out.below s) h1 h2)
    have ST := hide (fun ha' hc' la' lc' w1 (rh : HtR w1 ha' hn H) (rl : Row w1 la' ln L) => sFoundText_any ha' hn hc' H ex rd la' ln lc' L w1 rh rl h1 h2 HRB.out.1 HRB.out.2 HLB.out)
    have IT := hide (fun ha' hc' la' lc' w1 (rh : HtR w1 ha' hn H) (rl : Row w1 la' ln L) T => iFoundText_any ha' hn hc' H ex rd la' ln lc' L w1 rh rl h1 h2 HRB.out.1 HRB.out.2 HLB.out T)
    have EF := hide (fun ha hc la lc ha' hc' la' lc' w1 rh rl rh' rl' => eqFound_self ha hn hc H ex rd la ln lc L ha' hc' la' lc' w1 rh rl rh' rl' h1 h2)
    have hl := HLN.out
    unfold ToFd at TF
    rw [hl] at TF
    obtain ⟨F, hF⟩ : ∃ F, bs (foundT ex rd L hn H) = F := ⟨_, rfl⟩
    rw [hF] at ST IT
    have q2 : (F.toList == F.toList) = true := by simp
    clear hl hF hr0
    obtain ⟨_, p0, p1, p2, p3, _, _, _, _⟩ := v4_facts P1.out
    go_wp2_with fail
    refine (TF.out _ B1.out).mono ?_
    rintro e w2 ⟨hb, lb, rfl, oh, ol, hb2⟩
    have P2 := hide (row_below P1.out hb2)
    have B2 := hide (bstep B1.out hb2)
    have R2 := hide oh.row
    have L2 : Hid (Row w2 (some ⟨lb, 0, none⟩) ln L) := hide (by have := ol.row; rwa [HLN.out] at this)
    clear oh ol hb2 P1 B1 p0 p1 p2 p3
    go_wp2_with fail
    refine (ST.out _ _ _ _ _ R2.out L2.out).mono ?_
    rintro e w3 ⟨rfl, hb3⟩
    have P3 := hide (row_below P2.out hb3)
    have B3 := hide (bstep B2.out hb3)
    clear hb3 P2 B2 R2 L2
    obtain ⟨_, p0, p1, p2, p3, _, _, _, _⟩ := v4_facts P3.out
    go_wp2_with fail
    refine (TF.out _ B3.out).mono ?_
    rintro e w4 ⟨hb', lb', rfl, oh, ol, hb4⟩
    have nb := balloc (Below.refl w4.heap.size w4) (.cells #[.slice (some ⟨hb', 0, none⟩) hn hn, .bool ex, .int .i64 rd, .slice (some ⟨lb', 0, none⟩) ln ln] 30)
    have J4 : Hid (FtJ w (w4.alloc (.cells #[.slice (some ⟨hb', 0, none⟩) hn hn, .bool ex, .int .i64 rd, .slice (some ⟨lb', 0, none⟩) ln ln] 30)) (.slice ha hn hc) (.bool ex) (.int .i64 rd) (.slice la ln lc) w4.heap.size (.slice (some ⟨hb', 0, none⟩) hn hn) (.bool ex) (.int .i64 rd) (.slice (some ⟨lb', 0, none⟩) ln ln)) := hide
      ⟨row_below (row_below P3.out hb4) nb, v4_new w4 _ _ _ _ _, bstep (bstep B3.out hb4) nb⟩
    have R4 := hide (oh.row.below nb)
    have L4 : Hid (Row _ (some ⟨lb', 0, none⟩) ln L) := hide (by have := ol.row.below nb; rwa [HLN.out] at this)
    clear oh ol hb4 nb P3 B3 p0 p1 p2 p3
    obtain ⟨_, x0, x1, x2, x3, _, _, _, _⟩ := v4_facts J4.out.arg
    go_wp2_with fail
    refine (IT.out _ _ _ _ _ R4.out L4.out (HT.out.below J4.out.bel)).mono ?_
    rintro e w5 ⟨rfl, hb5⟩
    have J5 := hide (J4.out.below hb5)
    have R5 := hide (R4.out.below hb5)
    have L5 := hide (L4.out.below hb5)
    clear hb5 J4 R4 L4 x0 x1 x2 x3
    have W5 := hide (J5.out.w R5.out L5.out)
    clear J5 R5 L5
    go_wp2_with fail
    refine wp_region_held_drew (S := fun wx => FtW w wx (.slice ha hn hc) (.bool ex) (.int .i64 rd) (.slice la ln lc) w4.heap.size (.slice (some ⟨hb', 0, none⟩) hn hn) (.bool ex) (.int .i64 rd) (.slice (some ⟨lb', 0, none⟩) ln ln) hn H ln L hb' lb') (by kernel_rfl) ((W5.out.below (Below.drew (Below.refl _ _)))) (fun hH0 => ?_)
    refine wpAnyH_take (i := 0) (oi := { dst := some 22, op := _, type := _, pos := _, after := _, guard := _ }) (v := ?_) rfl (by kernel_rfl) (by kernel_rfl) (by kernel_rfl) (fun _ _ _ h => h) (Or.inl ⟨by rfl, ?_⟩) (hH0) ?_
    rotate_left
    · (intro wx hSw; obtain ⟨_, e0, e1, e2, e3, g0, g1, g2, g3, l0, l1, _, _⟩ := hSw; go_simp <;> with_reducible rfl)
    simp only [Act.put, List.setIfInBounds_toArray, List.set_cons_zero, List.set_cons_succ]
    refine wpAnyH_take (i := 1) (oi := { dst := some 23, op := _, type := _, pos := _, after := _, guard := _ }) (v := ?_) rfl (by kernel_rfl) (by kernel_rfl) (by kernel_rfl) (fun _ _ _ h => h) (Or.inl ⟨by rfl, ?_⟩) (hH0) ?_
    rotate_left
    · (intro wx hSw; obtain ⟨_, e0, e1, e2, e3, g0, g1, g2, g3, l0, l1, _, _⟩ := hSw; go_simp <;> with_reducible rfl)
    simp only [Act.put, List.setIfInBounds_toArray, List.set_cons_zero, List.set_cons_succ]
    refine wpAnyH_ready (rs := [2]) (by kernel_rfl) (by simp) ?_
    refine AllReadyH.cons (o := { dst := some 24, op := _, type := _, pos := _, after := _, guard := _ }) rfl (fun K hK => ?_) AllReadyH.nil
    go_simp
    refine (TF.out _ hH0.j.bel).mono ?_
    rintro e w6 ⟨hb6, lb6, rfl, oh, ol, hbb⟩
    dsimp only
    refine hK.out _ _ (FtW.below hH0 hbb) (fun hH1 => ?_)
    clear hK K
    refine wpAnyH_ready (rs := [3]) (by kernel_rfl) (by simp) ?_
    refine AllReadyH.cons (o := { dst := some 25, op := _, type := _, pos := _, after := _, guard := _ }) rfl (fun K hK => ?_) AllReadyH.nil
    go_simp
    refine (EF.out _ _ _ _ _ _ _ _ _ hH1.r hH1.l oh.row (own_rowF ol HLN.out)).mono ?_
    rintro e w7 ⟨rfl, hb7⟩
    dsimp only
    refine hK.out _ _ (FtW.below hH1 hb7) (fun hH2 => ?_)
    clear hK K
    refine wpAnyH_take (i := 4) (oi := { dst := some 26, op := _, type := _, pos := _, after := _, guard := _ }) (v := ?_) rfl (by kernel_rfl) (by kernel_rfl) (by kernel_rfl) (fun _ _ _ h => h) (Or.inl ⟨by rfl, ?_⟩) (hH2) ?_
    rotate_left
    · (intro wx hSw; obtain ⟨_, e0, e1, e2, e3, g0, g1, g2, g3, l0, l1, _, _⟩ := hSw; go_simp <;> with_reducible rfl)
    simp only [Act.put, List.setIfInBounds_toArray, List.set_cons_zero, List.set_cons_succ]
    refine wpAnyH_done (by kernel_rfl) ?_ _
    -- behind it: go_wp2_with fail, then go_meet (a cut) or go_ret; the condition at the end: hH2
    have Z7 := hide hH2.j.bel
    go_wp2_with fail
    go_ret
    exact ⟨rfl, Z7.out⟩
end Go.Proofs.YtfjhgagpmhedfaaDoor
