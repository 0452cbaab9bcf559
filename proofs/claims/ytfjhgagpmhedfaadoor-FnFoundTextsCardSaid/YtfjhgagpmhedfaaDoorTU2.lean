/- The walk of the law FnFoundTexts. -/
import Derived.Test.YtfjhgagpmhedfaaDoorTU1
import Derived.Test.YtfjhgagpmhedfaaDoorUF3
import Derived.Test.YtfjhgagpmhedfaaDoorDP
import Derived.Test.YtfjhgagpmhedfaaDoorAPE
namespace Go.Proofs.YtfjhgagpmhedfaaDoor
open Go.RowKit
set_option maxRecDepth 8000
set_option linter.unusedSimpArgs false
set_option linter.unusedVariables false

theorem hitsW_put (H : HtL) (n : Nat) (h : Ht) : hitsW n (putH H n h) = hitsW n H := by
  unfold hitsW
  refine List.map_congr_left fun i hi => ?_
  have := List.mem_range.1 hi
  unfold putH
  rw [if_neg (by omega)]
/-- A hit more, a word more. -/
theorem found_more (ex : Bool) (rd : Int) (L : List Int) (n : Nat) (H : HtL) : foundT ex rd L (n + 1) (putH H n ⟨7, 1, 2⟩) = foundT ex rd L n H ++ [32, 55, 58, 49, 46, 46, 50] := by
  unfold foundT
  rw [foundW_succ, putH_at, join_snoc _ _ (foundW_ne _ _ _ _ _)]
  have : foundW ex rd L n (putH H n ⟨7, 1, 2⟩) = foundW ex rd L n H := by unfold foundW; rw [hitsW_put]
  have i7 : Lib.itoa 7 = [55] := by rw [itoa_pos (by omega)]; show Lib.decDigits 7 = _; rw [dec_small (by omega)]; rfl
  have i1 : Lib.itoa 1 = [49] := by rw [itoa_pos (by omega)]; show Lib.decDigits 1 = _; rw [dec_small (by omega)]; rfl
  have i2 : Lib.itoa 2 = [50] := by rw [itoa_pos (by omega)]; show Lib.decDigits 2 = _; rw [dec_small (by omega)]; rfl
  have e : hitTB 7 1 2 = [55, 58, 49, 46, 46, 50] := by
    unfold hitTB
    rw [if_pos (by decide)]
    unfold hitT
    rw [i7, i1, i2]
    rfl
  rw [this]
  show _ ++ 32 :: hitTB 7 1 2 = _
  rw [e]

theorem htr_news {w : World} {b off n : Nat} {H : HtL} (h : ∀ i, i < n → HAt w b (off + i * 3) (H i)) (off' : Nat) (e : off' = off) : ∀ j u, (hitsV H n)[j]? = some u → w.cell? ((⟨b, off', none⟩ : Addr).add j) = some u := by
  subst e
  intro j u hj
  have hlt : j < n * 3 := by have := (List.getElem?_eq_some_iff.1 hj).1; rwa [hitsV_len] at this
  rw [hitsV_at H n j hlt] at hj
  have hu := Option.some.inj hj
  subst hu
  obtain ⟨c0, c1, c2⟩ := h (j / 3) (by omega)
  have ea : ((⟨b, off', none⟩ : Addr).add j) = ⟨b, off' + j, none⟩ := by
    by_cases h0 : j = 0
    · subst h0; simp [Addr.add]
    · simp [Addr.add, h0]
  rw [ea]
  rcases (show j % 3 = 0 ∨ j % 3 = 1 ∨ j % 3 = 2 by omega) with q | q | q
  · rw [show hcell H j = .int .i64 (H (j / 3)).x by unfold hcell; rw [if_pos q], show off' + j = off' + j / 3 * 3 by omega]; exact c0
  · rw [show hcell H j = .int .i64 (H (j / 3)).y by unfold hcell; rw [if_neg (by omega), if_pos q], show off' + j = off' + j / 3 * 3 + 1 by omega]; exact c1
  · rw [show hcell H j = .int .i64 (H (j / 3)).z by unfold hcell; rw [if_neg (by omega), if_neg (by omega)], show off' + j = off' + j / 3 * 3 + 2 by omega]; exact c2

theorem hitsV_one (H : HtL) (n : Nat) : ∀ u ∈ hitsV H n, u.oneCell' = true := by
  intro u hu
  unfold hitsV at hu
  obtain ⟨j, _, rfl⟩ := List.mem_map.1 hu
  rfl

theorem found_size {ex : Bool} {rd : Int} {L : List Int} {n ln : Nat} {H : HtL} (hl : L.length = ln) (h1 : n ≤ 3) (h2 : ln ≤ 3) (r0 : 0 ≤ rd) (r1 : rd ≤ 8) (hL : ∀ k, k < ln → 0 ≤ nth L k ∧ nth L k ≤ 8) : (bs (foundT ex rd L n H)).size ≤ 610 := by
  rw [bs_size]
  unfold foundT
  have := join_len60 (foundW ex rd L n H) (foundW_words (by omega) (by omega) (fun k hk => by have := hL k (by omega); omega))
  rw [foundW_len] at this
  omega

theorem wpList_append_eq {P : Program} {ops : Array Oper} {rest : List Oper} {o : Oper} {a : Act} {w : World} {Q : Exit → Act → World → Prop} (hgd : o.guard = none) (s x : Operand) (t : TypeId)
    (ho : o.op = .call { callee := .builtin .append, args := #[s, x], argTypes := #[t, t] }) (v u : Value) (hs : a.eval s = v) (hx : a.eval x = u) (v' : Value) (w' : World)
    (hr : (Builtin.append_ #[t, t] o.type #[v, u]).run P w = .ok v' w') (h : ∀ v2 w2, v2 = v' → w2 = w' → wpList P ops Q rest (a.put o.dst v2) w2) : wpList P ops Q (o :: rest) a w :=
  wpList_append_run hgd s x t ho v u hs hx v' w' hr (h _ _ rfl rfl)
/-- The find, and the one with a hit more, in their boxes. -/
structure FmJ (w1 w : World) (q5 : Nat) (a b c d a' b' c' d' : Value) : Prop where
  one : w.rowIs w1.heap.size 30 4 (v4 a b c d)
  two : w.rowIs q5 30 4 (v4 a' b' c' d')
  bel : Below w1.heap.size w1 w

theorem FmJ.below {w1 w w' : World} {q5 : Nat} {a b c d a' b' c' d' : Value} (h : FmJ w1 w q5 a b c d a' b' c' d') (hb : Below w.heap.size w w') : FmJ w1 w' q5 a b c d a' b' c' d' := ⟨row_below h.one hb, row_below h.two hb, bstep h.bel hb⟩

theorem FmJ.belowAt {w1 w w' : World} {B q5 : Nat} {a b c d a' b' c' d' : Value} (h : FmJ w1 w q5 a b c d a' b' c' d') (hb : Below B w w') (h5 : q5 < B) (h1 : w1.heap.size < B) : FmJ w1 w' q5 a b c d a' b' c' d' :=
  ⟨h.one.of_block (hb.block _ h1), h.two.of_block (hb.block _ h5), h.bel.trans (hb.mono (by omega))⟩

set_option maxHeartbeats 8000000 in
set_option maxRecDepth 8000 in
theorem foundTexts_walk (a : Option Addr) (n cap : Nat) (zs : List Int) (w : World) (T : Tab w) (h : IsRow .u8 w a n cap zs) :
    Calls Tryd.prog 4 #[.slice a n cap] w fun e w' => e = .returned (.bool true) ∧ Below w.heap.size w w' := by
  have BG := hide (big_any a n cap w)
  by_cases hn' : n ≤ 1048576
  · rw [decide_eq_false (show ¬ 1048576 < n by omega)] at BG
    obtain ⟨i0, hi, hz0, hz1, hz2⟩ := infoH
    have HI := hide hi
    clear hi
    have HC := hide (h.code hn')
    have HT := hide T
    clear h T
    go_enter Tryd.func4, Tryd.ntmps4
    go_wp2_with fail
    refine BG.out.mono ?_
    rintro e w' ⟨rfl, hw⟩
    obtain rfl := hw.symm
    clear BG hw
    go_wp2_with fail
    refine (drawFoundText_any a n cap w HC.out).mono ?_
    rintro e w1 ⟨ha, hn, hc, H, ex, rd, la, ln, lc, L, rfl, rh, rl, h1, h2, r0, r1, hL, hb1⟩
    have RH := hide rh
    have RL := hide rl
    have HLL := hide rl.len
    have HLB := hide hL
    have SZ := hide (found_size (ex := ex) (rd := rd) (H := H) rl.len h1 h2 r0 r1 hL)
    have SF := hide (fun w2 (b : Below w1.heap.size w1 w2) => sFoundText_any ha hn hc H ex rd la ln lc L w2 (rh.below b) (rl.below b) (by omega) (by omega) (by omega) (by omega) (fun k hk => by have := hL k hk; omega))
    have IF := hide (fun w2 (b : Below w1.heap.size w1 w2) T => iFoundText_any ha hn hc H ex rd la ln lc L w2 (rh.below b) (rl.below b) (by omega) (by omega) (by omega) (by omega) (fun k hk => by have := hL k hk; omega) T)
    have IG := hide (fun ha' hc' H' w2 (rh' : HtR w2 ha' (hn + 1) H') (b : Below w1.heap.size w1 w2) T => iFoundText_any ha' (hn + 1) hc' H' ex rd la ln lc L w2 rh' (rl.below b) (by omega) (by omega) (by omega) (by omega) (fun k hk => by have := hL k hk; omega) T)
    obtain ⟨S, hS⟩ : ∃ S, bs (foundT ex rd L hn H) = S := ⟨_, rfl⟩
    have MORE : Hid (∀ H', H' = putH H hn ⟨7, 1, 2⟩ → ((bs (foundT ex rd L (hn + 1) H')).toList == (S ++ ⟨#[32, 55, 58, 49, 46, 46, 50]⟩).toList) = true) := hide fun H' e => by
      subst e
      rw [found_more]
      rw [ByteArray.toList_eq, ByteArray.toList_eq, str_app, bs_list, ← hS, bs_list]
      simp
    rw [hS] at SF IF SZ
    have ssz := SZ.out
    have qq : (S.toList == S.toList) = true := by simp
    have B0 := hide hb1
    have nb1 := balloc (Below.refl w1.heap.size w1) (.cells #[.slice ha hn hc, .bool ex, .int .i64 rd, .slice la ln lc] 30)
    have P2 := hide (v4_new w1 (.slice ha hn hc) (.bool ex) (.int .i64 rd) (.slice la ln lc) 30)
    have B2 := hide nb1
    clear rh rl hL hb1 nb1 hS SZ r0 r1
    obtain ⟨_, p0, p1, p2, p3, _, _, _, _⟩ := v4_facts P2.out
    go_wp2_with fail
    refine (IF.out _ B2.out (HT.out.below (bstep B0.out B2.out))).mono ?_
    rintro e w3 ⟨rfl, hb3⟩
    have P3 := hide (row_below P2.out hb3)
    have B3 := hide (bstep B2.out hb3)
    clear P2 B2 hb3 p0 p1 p2 p3
    have nb5 := balloc (Below.refl w3.heap.size w3) (.cells #[.slice ha hn hc, .bool ex, .int .i64 rd, .slice la ln lc] 30)
    have J5 : Hid (FmJ w1 (w3.alloc (.cells #[.slice ha hn hc, .bool ex, .int .i64 rd, .slice la ln lc] 30)) w3.heap.size (.slice ha hn hc) (.bool ex) (.int .i64 rd) (.slice la ln lc) (.slice ha hn hc) (.bool ex) (.int .i64 rd) (.slice la ln lc)) := hide ⟨row_below P3.out nb5, v4_new w3 _ _ _ _ _, bstep B3.out nb5⟩
    obtain ⟨q5, hq5⟩ : ∃ q5, w3.heap.size = q5 := ⟨_, rfl⟩
    obtain ⟨W5, hW5⟩ : ∃ W5, w3.alloc (.cells #[.slice ha hn hc, .bool ex, .int .i64 rd, .slice la ln lc] 30) = W5 := ⟨_, rfl⟩
    have L5 : Hid (W5.heap.size = q5 + 1) := hide (by rw [← hW5, ← hq5]; simp)
    have l5 : q5 < W5.heap.size := by have := L5.out; omega
    have l35 : w1.heap.size < q5 := by rw [← hq5]; exact World.rowIs.lt P3.out
    rw [hq5, hW5] at J5
    obtain ⟨_, p0, p1, p2, p3, _, _, _, _⟩ := v4_facts P3.out
    go_upto_region 6 with fail
    (try rw [hq5]); (try rw [hW5])
    clear P3 B3 nb5 hq5 hW5 p0 p1 p2 p3
    obtain ⟨_, p0, p1, p2, p3, _, _, _, _⟩ := v4_facts J5.out.one
    have OW : Hid ((W5.alloc (.cells #[] 38)).ownsRow W5.heap.size 38 3 (.slice (some ⟨W5.heap.size, 0, none⟩) 0 0) 0 []) := hide (World.ownsRow_lit W5 #[] 0 (Nat.le_refl _) (by unfold maxLen; omega) rfl)
    have B6 : Hid (Below W5.heap.size W5 (W5.alloc (.cells #[] 38))) := hide (balloc (Below.refl _ _) _)
    by_cases h0 : hn = 0
    · have hrun : Hid ((Builtin.append_ #[28, 28] 28 #[.slice (some ⟨W5.heap.size, 0, none⟩) 0 0, .slice ha hn hc]).run Tryd.prog (W5.alloc (.cells #[] 38)) = .ok (.slice (some ⟨W5.heap.size, 0, none⟩) hn 0) (W5.alloc (.cells #[] 38))) := hide (by subst h0; exact run_app_empty (P := Tryd.prog) (W5.alloc (.cells #[] 38)) 28 28 38 i0 Tryd.underlying28 HI.out ⟨W5.heap.size, 0, none⟩ 0 0 ha hc (Nat.le_refl 0))
      have O8 : Hid ((W5.alloc (.cells #[] 38)).ownsRow W5.heap.size 38 3 (.slice (some ⟨W5.heap.size, 0, none⟩) hn 0) hn (hitsV H hn)) := hide (by subst h0; exact OW.out)
      have B8 := hide B6.out
      clear OW B6 h0
      have OB : Hid (((W5.alloc (.cells #[] 38)).alloc (.cells #[.int .i64 7, .int .i64 1, .int .i64 2] 38)).ownsRow W5.heap.size 38 3 (.slice (some ⟨W5.heap.size, 0, none⟩) hn 0) hn (hitsV H hn)) := hide (O8.out.alloc _)
      have hTN : Hid (∀ (j : Nat) (u : Value), [Value.int .i64 7, .int .i64 1, .int .i64 2][j]? = some u → ((W5.alloc (.cells #[] 38)).alloc (.cells #[.int .i64 7, .int .i64 1, .int .i64 2] 38)).cell? ((⟨W5.heap.size + 1, 0, none⟩ : Addr).add j) = some u) := hide (by have := three_new (W5.alloc (.cells #[] 38)) (.int .i64 7) (.int .i64 1) (.int .i64 2) 38; rwa [World.size_alloc] at this)
      go_wp2_with (at_builtin; first | (refine wpList_append_eq rfl (.tmp 13) (.tmp 15) 28 rfl (.slice (some ⟨W5.heap.size, 0, none⟩) 0 0) (.slice ha hn hc) rfl rfl (.slice (some ⟨W5.heap.size, 0, none⟩) hn 0) (W5.alloc (.cells #[] 38)) hrun.out ?_; rintro v8 w8 rfl rfl) | (refine wpList_append_lies _ rfl _ _ 28 rfl W5.heap.size 38 i0 _ 3 24 Tryd.underlying28 HI.out hz0 hz1 hz2 rfl (by decide) _ _ _ rfl OB.out ⟨_, 0, none⟩ 1 1 [.int .i64 7, .int .i64 1, .int .i64 2] rfl rfl hTN.out (three_one _ _ _) (by omega) (by unfold maxLen; omega) (by omega) (by simp; omega) _ rfl ?_))
      clear p0 p1 p2 p3
      intro g9 c9 w9 hown9 hgrow9 hat9 hglt9
      rw [hitsV_put H hn ⟨7, 1, 2⟩] at hown9
      have B9 := hide ((balloc B8.out (.cells #[.int .i64 7, .int .i64 1, .int .i64 2] 38)).grown hgrow9 (by simp; omega) (fun k hk => (OB.out.lt k hk).1))
      have J9 := hide (J5.out.belowAt B9.out (by omega) (by omega))
      have O9 := hide hown9
      obtain ⟨lz, z0, z1, z2, z3, y0, y1, y2, y3⟩ := v4_facts J9.out.two
      have J10 : Hid (FmJ w1 (w9.setCell ⟨q5, 0, none⟩ (.slice (some ⟨g9, 0, none⟩) (hn + 1) c9)) q5 (.slice ha hn hc) (.bool ex) (.int .i64 rd) (.slice la ln lc) (.slice (some ⟨g9, 0, none⟩) (hn + 1) c9) (.bool ex) (.int .i64 rd) (.slice la ln lc)) := hide
        ⟨World.rowIs.setOther J9.out.one (by simp; omega) _, v4_set0 J9.out.two _, J9.out.bel.setCell (by simp; omega) _⟩
      have O10 : Hid ((w9.setCell ⟨q5, 0, none⟩ (.slice (some ⟨g9, 0, none⟩) (hn + 1) c9)).ownsRow W5.heap.size 38 3 (.slice (some ⟨g9, 0, none⟩) (hn + 1) c9) (hn + 1) (hitsV (putH H hn ⟨7, 1, 2⟩) (hn + 1))) := hide (ownsRow_setCell_below O9.out (by simp; omega) _)
      clear OB hown9 hgrow9 hat9 B9 J9 O9 O8 B8
      obtain ⟨_, p0, p1, p2, p3, _, _, _, _⟩ := v4_facts J10.out.one
      obtain ⟨_, x0, x1, x2, x3, _, _, _, _⟩ := v4_facts J10.out.two
      go_wp2_with fail
      refine (SF.out _ J10.out.bel).mono ?_
      rintro e w11 ⟨rfl, hb11⟩
      have J11 := hide (J10.out.below hb11)
      have R11 := hide ((owns_hits O10.out).below hb11)
      clear J10 O10 hb11 p0 p1 p2 p3 x0 x1 x2 x3 lz z0 z1 z2 z3 y0 y1 y2 y3
      obtain ⟨_, x0, x1, x2, x3, _, _, _, _⟩ := v4_facts J11.out.two
      obtain ⟨H', hH'⟩ : ∃ H', putH H hn ⟨7, 1, 2⟩ = H' := ⟨_, rfl⟩
      rw [hH'] at R11
      have Q := MORE.out H' hH'.symm
      have IGF := hide (IG.out _ c9 H' w11 R11.out J11.out.bel (HT.out.below (bstep B0.out J11.out.bel)))
      obtain ⟨G, hG⟩ : ∃ G, bs (foundT ex rd L (hn + 1) H') = G := ⟨_, rfl⟩
      rw [hG] at Q IGF
      clear hH' hG
      go_wp2_with fail
      refine IGF.out.mono ?_
      rintro e w12 ⟨rfl, hb12⟩
      have B12 := hide (bstep B0.out (bstep J11.out.bel hb12))
      clear hb12 x0 x1 x2 x3 IGF R11
      go_wp2_with fail
      go_ret
      exact ⟨rfl, B12.out⟩
    · rcases RH.out.lies with q | ⟨b, off, rfl, lt, hcell⟩
      · exact absurd q h0
      · have NW := hide (htr_news (w := W5.alloc (.cells #[] 38)) (fun i hi => (hcell i hi).below ((J5.out.bel).trans ((balloc (Below.refl W5.heap.size W5) _).mono (by omega))) lt) off rfl)
        go_wp2_with (at_builtin; refine wpList_append_lies _ rfl _ _ 28 rfl W5.heap.size 38 i0 _ 3 24 Tryd.underlying28 HI.out hz0 hz1 hz2 rfl (by decide) _ _ _ rfl OW.out ⟨b, off, none⟩ hn hc (hitsV H hn) rfl (hitsV_len _ _) NW.out (hitsV_one _ _) (by omega) (by unfold maxLen; omega) (by omega) (by simp) _ rfl ?_)
        intro g8 c8 w8 hown8 hgrow hat8 hglt
        (try simp only [Nat.zero_add] at hown8)
        (try simp only [Nat.zero_add])
        (try simp only [List.nil_append] at hown8)
        have O8 := hide hown8
        have B8 := hide (B6.out.grown hgrow (by simp) (fun k hk => (OW.out.lt k hk).1))
        clear OW B6 p0 p1 p2 p3 hown8 hgrow hat8 hcell NW
        have OB : Hid ((w8.alloc (.cells #[.int .i64 7, .int .i64 1, .int .i64 2] 38)).ownsRow W5.heap.size 38 3 (.slice (some ⟨g8, 0, none⟩) hn c8) hn (hitsV H hn)) := hide (O8.out.alloc _)
        go_wp2_with (at_builtin; refine wpList_append_lies _ rfl _ _ 28 rfl W5.heap.size 38 i0 _ 3 24 Tryd.underlying28 HI.out hz0 hz1 hz2 rfl (by decide) _ _ _ rfl OB.out ⟨_, 0, none⟩ 1 1 [.int .i64 7, .int .i64 1, .int .i64 2] rfl rfl (three_new _ _ _ _ _) (three_one _ _ _) (by omega) (by unfold maxLen; omega) (by omega) (by have := B8.out.size; simp; omega) _ rfl ?_)
        intro g9 c9 w9 hown9 hgrow9 hat9 hglt9
        rw [hitsV_put H hn ⟨7, 1, 2⟩] at hown9
        have B9 := hide ((balloc B8.out (.cells #[.int .i64 7, .int .i64 1, .int .i64 2] 38)).grown hgrow9 (by have := B8.out.size; simp; omega) (fun k hk => (OB.out.lt k hk).1))
        have J9 := hide (J5.out.belowAt B9.out (by omega) (by omega))
        have O9 := hide hown9
        obtain ⟨lz, z0, z1, z2, z3, y0, y1, y2, y3⟩ := v4_facts J9.out.two
        have J10 : Hid (FmJ w1 (w9.setCell ⟨q5, 0, none⟩ (.slice (some ⟨g9, 0, none⟩) (hn + 1) c9)) q5 (.slice (some ⟨b, off, none⟩) hn hc) (.bool ex) (.int .i64 rd) (.slice la ln lc) (.slice (some ⟨g9, 0, none⟩) (hn + 1) c9) (.bool ex) (.int .i64 rd) (.slice la ln lc)) := hide
          ⟨World.rowIs.setOther J9.out.one (by simp; omega) _, v4_set0 J9.out.two _, J9.out.bel.setCell (by simp; omega) _⟩
        have O10 : Hid ((w9.setCell ⟨q5, 0, none⟩ (.slice (some ⟨g9, 0, none⟩) (hn + 1) c9)).ownsRow W5.heap.size 38 3 (.slice (some ⟨g9, 0, none⟩) (hn + 1) c9) (hn + 1) (hitsV (putH H hn ⟨7, 1, 2⟩) (hn + 1))) := hide (ownsRow_setCell_below O9.out (by simp; omega) _)
        clear OB hown9 hgrow9 hat9 B9 J9 O9 O8 B8
        obtain ⟨_, p0, p1, p2, p3, _, _, _, _⟩ := v4_facts J10.out.one
        obtain ⟨_, x0, x1, x2, x3, _, _, _, _⟩ := v4_facts J10.out.two
        go_wp2_with fail
        refine (SF.out _ J10.out.bel).mono ?_
        rintro e w11 ⟨rfl, hb11⟩
        have J11 := hide (J10.out.below hb11)
        have R11 := hide ((owns_hits O10.out).below hb11)
        clear J10 O10 hb11 p0 p1 p2 p3 x0 x1 x2 x3 lz z0 z1 z2 z3 y0 y1 y2 y3
        obtain ⟨_, x0, x1, x2, x3, _, _, _, _⟩ := v4_facts J11.out.two
        obtain ⟨H', hH'⟩ : ∃ H', putH H hn ⟨7, 1, 2⟩ = H' := ⟨_, rfl⟩
        rw [hH'] at R11
        have Q := MORE.out H' hH'.symm
        have IGF := hide (IG.out _ c9 H' w11 R11.out J11.out.bel (HT.out.below (bstep B0.out J11.out.bel)))
        obtain ⟨G, hG⟩ : ∃ G, bs (foundT ex rd L (hn + 1) H') = G := ⟨_, rfl⟩
        rw [hG] at Q IGF
        clear hH' hG
        go_wp2_with fail
        refine IGF.out.mono ?_
        rintro e w12 ⟨rfl, hb12⟩
        have B12 := hide (bstep B0.out (bstep J11.out.bel hb12))
        clear hb12 x0 x1 x2 x3 IGF R11
        go_wp2_with fail
        go_ret
        exact ⟨rfl, B12.out⟩
  · rw [decide_eq_true (show 1048576 < n by omega)] at BG
    go_enter Tryd.func4, Tryd.ntmps4
    go_wp2_with fail
    refine BG.out.mono ?_
    rintro e w' ⟨rfl, rfl⟩
    go_wp2
    go_ret
    exact ⟨rfl, (by repeat' first | with_reducible exact Below.refl _ _ | with_reducible assumption | with_reducible refine below_drewN ?_ _ | with_reducible refine balloc ?_ _ | with_reducible refine Below.drew ?_ | with_reducible refine Below.setCell ?_ (by first | (simp; done) | (simp; omega) | omega) _ | with_reducible refine bstep ?_ (by assumption))⟩
end Go.Proofs.YtfjhgagpmhedfaaDoor
