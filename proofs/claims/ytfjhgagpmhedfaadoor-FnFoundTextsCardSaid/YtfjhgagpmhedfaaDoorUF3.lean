/- FoundText of the program. -/
import Derived.Test.YtfjhgagpmhedfaaDoorUF2
import Derived.Test.YtfjhgagpmhedfaaDoorSD2
import Derived.Deep.AppendLies
import Derived.BigQuiet
namespace Go.Proofs.YtfjhgagpmhedfaaDoor
open Go.RowKit
set_option maxRecDepth 8000
set_option linter.unusedSimpArgs false
set_option linter.unusedVariables false

def strsV (p : List (List UInt8)) : List Value := p.map fun l => .string (bs l)

theorem strsV_snoc (p : List (List UInt8)) (x : List UInt8) : strsV (p ++ [x]) = strsV p ++ [.string (bs x)] := by unfold strsV; rw [List.map_append]; rfl

theorem FdB.app {w0 w w' : World} {a b c d : Value} {v : Value} {k : Nat} {e : TypeId} {size : Nat} {xs : List Value} (h : FdB w0 w a b c d) (ho : w.ownsRow (w0.heap.size + 1) e size v k xs) (hg : w.grownBy w' v.ownBlock) : FdB w0 w' a b c d :=
  ⟨h.box.of_block (hg.block _ (World.rowIs.lt h.box) (fun q => by have := (ho.lt _ q.symm).1; omega)), h.bel.grown hg h.bel.size fun k' hk' => by have := (ho.lt k' hk').1; omega⟩
structure FdQ (w0 w : World) (a b c d : Value) : Prop where
  lt : w0.heap.size < w.heap.size
  p1 : w.cell? ⟨w0.heap.size, 1, none⟩ = some b
  p2 : w.cell? ⟨w0.heap.size, 2, none⟩ = some c
  all : FdB w0 w a b c d

theorem FdB.q {w0 w : World} {a b c d : Value} (h : FdB w0 w a b c d) : FdQ w0 w a b c d := ⟨World.rowIs.lt h.box, World.rowIs.cell h.box (show 1 < 4 by omega), World.rowIs.cell h.box (show 2 < 4 by omega), h⟩

theorem FdQ.below {w0 w w' : World} {a b c d : Value} (h : FdQ w0 w a b c d) (hb : Below w.heap.size w w') : FdQ w0 w' a b c d := (h.all.below hb).q

set_option maxHeartbeats 400000 in
theorem either_any (b : Bool) (y n : ByteArray) (w : World) :
    Calls Tryd.prog 18 #[.bool b, .string y, .string n] w fun e w' => e = .returned (.string (if b then y else n)) ∧ Below w.heap.size w w' := by
  cases b
  · go_enter Tryd.func18, Tryd.ntmps18
    go_wp2
    go_ret
    exact ⟨rfl, (by repeat' first | with_reducible exact Below.refl _ _ | with_reducible assumption | with_reducible refine below_drewN ?_ _ | with_reducible refine balloc ?_ _ | with_reducible refine Below.drew ?_ | with_reducible refine Below.setCell ?_ (by first | (simp; done) | (simp; omega) | omega) _ | with_reducible refine bstep ?_ (by assumption))⟩
  · go_enter Tryd.func18, Tryd.ntmps18
    go_wp2
    go_ret
    exact ⟨rfl, (by repeat' first | with_reducible exact Below.refl _ _ | with_reducible assumption | with_reducible refine below_drewN ?_ _ | with_reducible refine balloc ?_ _ | with_reducible refine Below.drew ?_ | with_reducible refine Below.setCell ?_ (by first | (simp; done) | (simp; omega) | omega) _ | with_reducible refine bstep ?_ (by assumption))⟩

theorem owns_belowF {w w' : World} {base : Nat} {e : TypeId} {size : Nat} {v : Value} {n : Nat} {xs : List Value} (h : w.ownsRow base e size v n xs) (hb : Below w.heap.size w w') : w'.ownsRow base e size v n xs := by
  refine ⟨h.1, ?_⟩
  rcases h.2 with h0 | ⟨g, cap, cur, hv, hb0, hg, hrest⟩
  · exact .inl h0
  · exact .inr ⟨g, cap, cur, hv, hb0, (hb.block g (Array.getElem?_eq_some_iff.1 hg).1).trans hg, hrest⟩

theorem one_newF (w : World) (v : Value) (t : TypeId) : ∀ (j : Nat) (u : Value), [v][j]? = some u → (w.alloc (.cells #[v] t)).cell? ((⟨w.heap.size, 0, none⟩ : Addr).add j) = some u := by
  intro j u hj
  match j, hj with
  | 0, hj => simp at hj; subst hj; simp [Addr.add]
  | j + 1, hj => simp at hj

theorem join_len60 : ∀ (p : List (List UInt8)), (∀ x ∈ p, x.length ≤ 60) → (Lib.join p [32]).length ≤ 61 * p.length
  | [], _ => by simp [Lib.join]
  | [a], h => by
    have := h a (by simp)
    simp [Lib.join]; omega
  | a :: b :: r, h => by
    have ih := join_len60 (b :: r) (fun x hx => h x (List.mem_cons_of_mem _ hx))
    have := h a (by simp)
    rw [join_two]
    simp only [List.length_append, List.length_cons] at ih ⊢
    omega

theorem foundW_len (ex : Bool) (rd : Int) (L : List Int) (n : Nat) (H : HtL) : (foundW ex rd L n H).length = 4 + L.length + n := by
  unfold foundW foundA hitsW; simp; omega

theorem foundW_words {ex : Bool} {rd : Int} {L : List Int} {n : Nat} {H : HtL} (r0 : -9223372036854775808 ≤ rd) (r1 : rd ≤ 9223372036854775807) (hL : ∀ k, k < L.length → -9223372036854775808 ≤ nth L k ∧ nth L k ≤ 9223372036854775807) : ∀ x ∈ foundW ex rd L n H, x.length ≤ 60 := by
  intro x hx
  unfold foundW foundA hitsW at hx
  simp only [List.mem_append, List.mem_cons, List.mem_map, List.not_mem_nil, or_false, List.mem_range] at hx
  rcases hx with ((rfl | rfl | rfl) | ⟨y, hy, rfl⟩) | (rfl | ⟨i, _, rfl⟩)
  · unfold wordF; split <;> decide
  · have := itoa_len21 (x := rd) r0 r1; rw [bs_size] at this; omega
  · decide
  · obtain ⟨k, hk, e⟩ := List.getElem_of_mem hy
    have hb := hL k hk
    have : nth L k = y := by unfold nth; rw [List.getD_eq_getElem?_getD, List.getElem?_eq_getElem hk, e]; rfl
    rw [this] at hb
    have := itoa_len21 (x := y) hb.1 hb.2; rw [bs_size] at this; omega
  · decide
  · have := hitT_len (H i).x (H i).y (H i).z; rw [bs_size] at this; exact this

set_option maxHeartbeats 8000000 in
set_option maxRecDepth 4000 in
theorem iFoundText_any (ha : Option Addr) (hn hc : Nat) (H : HtL) (ex : Bool) (rd : Int) (la : Option Addr) (ln lc : Nat) (L : List Int) (w : World) (rh : HtR w ha hn H) (rl : Row w la ln L) (h1 : hn ≤ 1048576) (h2 : ln ≤ 1048576)
    (r0 : -9223372036854775808 ≤ rd) (r1 : rd ≤ 9223372036854775807) (hL : ∀ k, k < ln → -9223372036854775808 ≤ nth L k ∧ nth L k ≤ 9223372036854775807) (T : Tab w) :
    Calls Tryd.prog 8 #[.agg #[.slice ha hn hc, .bool ex, .int .i64 rd, .slice la ln lc]] w fun e w' => e = .returned (.string (bs (foundT ex rd L hn H))) ∧ Below w.heap.size w w' := by
  obtain ⟨i0, hi, hz0, hz1, hz2⟩ := info_parts Tryd.infoStr
  have F0 : Hid (FdB w (w.alloc (.cells #[.slice ha hn hc, .bool ex, .int .i64 rd, .slice la ln lc] 30)) (.slice ha hn hc) (.bool ex) (.int .i64 rd) (.slice la ln lc)) := hide ⟨v4_new w _ _ _ _ _, balloc (Below.refl _ _) _⟩
  have EI := hide (fun w1 => either_any ex ⟨#[101, 120, 97, 99, 116]⟩ ⟨#[111, 112, 101, 110]⟩ w1)
  have eA : (if ex then (⟨#[101, 120, 97, 99, 116]⟩ : ByteArray) else ⟨#[111, 112, 101, 110]⟩) = bs (wordF ex) := by cases ex <;> rfl
  rw [eA] at EI
  have NT := hide (fun w1 (q : FdQ w w1 (.slice ha hn hc) (.bool ex) (.int .i64 rd) (.slice la ln lc)) => numberText_any rd w1 r0 r1 (T.below q.all.bel))
  have NL := hide (fun k (hk : k < ln) w1 (q : Below w.heap.size w w1) => numberText_any (nth L k) w1 (hL k hk).1 (hL k hk).2 (T.below q))
  have HX := hide (fun k w1 (q : Below w.heap.size w w1) => iHitText_any (H k).x (H k).y (H k).z w1 (T.below q))
  have RH := hide rh
  have RL := hide rl
  have HLN := hide rl.len
  obtain ⟨A, hA⟩ : ∃ A, bs (wordF ex) = A := ⟨_, rfl⟩
  obtain ⟨D, hD⟩ : ∃ D, bs (Lib.itoa rd) = D := ⟨_, rfl⟩
  have ND : ∀ w1 (q : FdQ w w1 (.slice ha hn hc) (.bool ex) (.int .i64 rd) (.slice la ln lc)), Calls Tryd.prog 19 #[.int .i64 rd] w1 fun e w' => e = .returned (.string D) ∧ Below w1.heap.size w1 w' := fun w1 q => by rw [← hD]; exact NT.out w1 q
  have ND := hide ND
  rw [hA] at EI
  have WV : Hid (strsV (foundA ex rd) = [.string A, .string D, .string ⟨#[108, 101, 102, 116]⟩]) := hide (by rw [← hA, ← hD]; rfl)
  have WL : Hid (∀ x ∈ foundW ex rd L hn H, x.length ≤ 60) := hide (foundW_words r0 r1 (by rw [rl.len]; exact hL))
  clear rh rl hL hA hD r0 r1 T NT eA
  go_enter Tryd.func8, Tryd.ntmps8
  go_wp2_with fail
  refine wp_region_held_drew (S := fun wx => FdQ w wx (.slice ha hn hc) (.bool ex) (.int .i64 rd) (.slice la ln lc)) (by kernel_rfl) ((F0.out.below (Below.drew (Below.refl _ _))).q) (fun hH0 => ?_)
  refine wpAnyH_take (i := 0) (oi := { dst := some 8, op := _, type := _, pos := _, after := _, guard := _ }) (v := ?_) rfl (by kernel_rfl) (by kernel_rfl) (by kernel_rfl) (fun _ _ _ h => h) (Or.inl ⟨by rfl, ?_⟩) (hH0) ?_
  rotate_left
  · (intro wx hSw; obtain ⟨lt, p1, p2, _⟩ := hSw; go_simp <;> with_reducible rfl)
  simp only [Act.put, List.setIfInBounds_toArray, List.set_cons_zero, List.set_cons_succ]
  refine wpAnyH_take (i := 1) (oi := { dst := some 9, op := _, type := _, pos := _, after := _, guard := _ }) (v := ?_) rfl (by kernel_rfl) (by kernel_rfl) (by kernel_rfl) (fun _ _ _ h => h) (Or.inl ⟨by rfl, ?_⟩) (hH0) ?_
  rotate_left
  · (intro wx hSw; obtain ⟨lt, p1, p2, _⟩ := hSw; go_simp <;> with_reducible rfl)
  simp only [Act.put, List.setIfInBounds_toArray, List.set_cons_zero, List.set_cons_succ]
  refine wpAnyH_take (i := 3) (oi := { dst := some 11, op := _, type := _, pos := _, after := _, guard := _ }) (v := ?_) rfl (by kernel_rfl) (by kernel_rfl) (by kernel_rfl) (fun _ _ _ h => h) (Or.inl ⟨by rfl, ?_⟩) (hH0) ?_
  rotate_left
  · (intro wx hSw; obtain ⟨lt, p1, p2, _⟩ := hSw; go_simp <;> with_reducible rfl)
  simp only [Act.put, List.setIfInBounds_toArray, List.set_cons_zero, List.set_cons_succ]
  refine wpAnyH_take (i := 4) (oi := { dst := some 12, op := _, type := _, pos := _, after := _, guard := _ }) (v := ?_) rfl (by kernel_rfl) (by kernel_rfl) (by kernel_rfl) (fun _ _ _ h => h) (Or.inl ⟨by rfl, ?_⟩) (hH0) ?_
  rotate_left
  · (intro wx hSw; obtain ⟨lt, p1, p2, _⟩ := hSw; go_simp <;> with_reducible rfl)
  simp only [Act.put, List.setIfInBounds_toArray, List.set_cons_zero, List.set_cons_succ]
  refine wpAnyH_ready (rs := [2]) (by kernel_rfl) (by simp) ?_
  refine AllReadyH.cons (o := { dst := some 10, op := _, type := _, pos := _, after := _, guard := _ }) rfl (fun K hK => ?_) AllReadyH.nil
  go_simp
  refine (EI.out _).mono ?_
  rintro e w_c10_1 ⟨rfl, hb_c10_1⟩
  dsimp only
  refine hK.out _ _ (FdQ.below hH0 hb_c10_1) (fun hH1 => ?_)
  clear hK K
  refine wpAnyH_ready (rs := [5]) (by kernel_rfl) (by simp) ?_
  refine AllReadyH.cons (o := { dst := some 13, op := _, type := _, pos := _, after := _, guard := _ }) rfl (fun K hK => ?_) AllReadyH.nil
  go_simp
  refine (ND.out _ hH1).mono ?_
  rintro e w_c13_2 ⟨rfl, hb_c13_2⟩
  dsimp only
  refine hK.out _ _ (FdQ.below hH1 hb_c13_2) (fun hH2 => ?_)
  clear hK K
  refine wpAnyH_ready (rs := [6]) (by kernel_rfl) (by simp) ?_
  refine AllReadyH.cons (o := { dst := some 14, op := _, type := _, pos := _, after := _, guard := _ }) rfl (fun K hK => ?_) AllReadyH.nil
  go_simp
  refine hK.out _ _ (FdQ.below hH2 (balloc (Below.refl _ _) _)) (fun hH3 => ?_)
  clear hK K
  refine wpAnyH_take (i := 7) (oi := { dst := some 3, op := _, type := _, pos := _, after := _, guard := _ }) (v := ?_) rfl (by kernel_rfl) (by kernel_rfl) (by kernel_rfl) (fun _ _ _ h => h) (Or.inl ⟨by rfl, ?_⟩) (hH3) ?_
  rotate_left
  · (intro wx hSw; obtain ⟨lt, p1, p2, _⟩ := hSw; go_simp <;> with_reducible rfl)
  simp only [Act.put, List.setIfInBounds_toArray, List.set_cons_zero, List.set_cons_succ]
  refine wpAnyH_done (by kernel_rfl) ?_ _
  -- behind it: go_wp2_with fail, then go_meet (a cut) or go_ret; the condition at the end: hH3
  have F3 := hide hH3.all
  have O3 : Hid (World.ownsRow _ (w.heap.size + 1) 9 1 (.slice (some ⟨w_c13_2.heap.size, 0, none⟩) 3 3) 3 (strsV (foundA ex rd))) := hide (by rw [WV.out]; exact World.ownsRow_lit w_c13_2 #[.string A, .string D, .string ⟨#[108, 101, 102, 116]⟩] 3 hH2.lt (by unfold maxLen; omega) rfl)
  clear hH0 hH1 hH2 hH3 WV ND EI F0
  obtain ⟨_, p0, p1, p2, p3, _, _, _, _⟩ := v4_facts F3.out.box
  go_wp2_with fail
  go_loopw [3, 5, 18] (fun v _ i wr => ∃ k : Nat, k ≤ ln ∧ i = .int .i64 k ∧ Hid (wr.ownsRow (w.heap.size + 1) 9 1 v (3 + k) (strsV (foundA ex rd ++ (L.take k).map Lib.itoa))) ∧ Hid (FdB w wr (.slice ha hn hc) (.bool ex) (.int .i64 rd) (.slice la ln lc))) (fun _ _ i _ => ln - (intOf i).toNat)
  case atStart => exact ⟨0, Nat.zero_le _, rfl, hide (by simpa using O3.out), F3⟩
  case round =>
    obtain ⟨k, hk, rfl, HO, HB⟩ := hrel
    clear F3 O3 p0 p1 p2 p3
    have lb := HB.out.bel.size
    by_cases hlt : k < ln
    · rcases RL.out.lies with q | ⟨b, off, rfl, lt, hcell⟩
      · omega
      · have ck := (HB.out.bel.cell (p := ⟨b, off + k, none⟩) lt).trans (hcell k hlt)
        have lk : b < wr.heap.size := Nat.lt_of_lt_of_le lt lb
        have DE := hide (NL.out k hlt wr HB.out.bel)
        obtain ⟨E, hE⟩ : ∃ E, bs (Lib.itoa (nth L k)) = E := ⟨_, rfl⟩
        have EV := hide hE
        rw [hE] at DE
        clear hE hcell
        go_wp2_with fail
        refine DE.out.mono ?_
        rintro e w3 ⟨rfl, hb3⟩
        have B3 := hide (HB.out.below hb3)
        have O3 := hide (owns_belowF HO.out hb3)
        clear hb3 ck DE HO HB
        go_wp2_with (at_builtin; refine wpList_append_own _ rfl _ _ 46 rfl (w.heap.size + 1) 9 i0 (.string ⟨#[]⟩) 1 16 Tryd.underlying46 hi hz0 hz1 hz2 rfl (by decide) _ _ _ rfl (O3.out.alloc _) ⟨_, 0, none⟩ 1 1 [.string E] rfl rfl ?c1 ?c2 ?c3 ?c4 ?c5 ?_)
        case c1 => exact one_newF _ _ _
        case c2 => intro u hu; simp at hu; subst hu; rfl
        case c3 => unfold maxLen; omega
        case c4 => omega
        case c5 => have := World.rowIs.lt B3.out.box; simp; omega
        intro v' w4 hown2 hgrow _
        have B4 := hide ((B3.out.below (balloc (Below.refl _ _) _)).app (O3.out.alloc _) hgrow)
        have O4 := hide hown2
        clear hgrow hown2 O3 B3
        go_wp2_with fail
        go_roundw
        case rel => exact ⟨k + 1, by omega, by go_num, hide (by rw [take_map L k (by rw [HLN.out]; exact hlt), ← List.append_assoc, strsV_snoc, EV.out, List.map_take]; exact O4.out), B4⟩
        case measure => simp [intOf]; omega
    · obtain rfl : k = ln := by omega
      have HO' : Hid (wr.ownsRow (w.heap.size + 1) 9 1 _ (3 + k) (strsV (foundA ex rd ++ L.map Lib.itoa))) := hide (by have := HO.out; rw [← HLN.out, List.take_length, HLN.out] at this; exact this)
      clear hlt HO
      go_wp2_with (at_builtin; refine wpList_append_own _ rfl _ _ 46 rfl (w.heap.size + 1) 9 i0 (.string ⟨#[]⟩) 1 16 Tryd.underlying46 hi hz0 hz1 hz2 rfl (by decide) _ _ _ rfl (HO'.out.alloc _) ⟨_, 0, none⟩ 1 1 [.string ⟨#[104, 105, 116, 115]⟩] rfl rfl ?c1 ?c2 ?c3 ?c4 ?c5 ?_)
      case c1 => exact one_newF _ _ _
      case c2 => intro u hu; simp at hu; subst hu; rfl
      case c3 => unfold maxLen; omega
      case c4 => omega
      case c5 => have := World.rowIs.lt HB.out.box; simp; omega
      intro v' w4 hown2 hgrow _
      have B4 := hide ((HB.out.below (balloc (Below.refl _ _) _)).app (HO'.out.alloc _) hgrow)
      have O4 := hide hown2
      clear hgrow hown2 HO' HB
      obtain ⟨_, p0, p1, p2, p3, _, _, _, _⟩ := v4_facts B4.out.box
      go_wp2_with fail
      go_loopw [3, 7, 34] (fun v _ i wr => ∃ j : Nat, j ≤ hn ∧ i = .int .i64 j ∧ Hid (wr.ownsRow (w.heap.size + 1) 9 1 v (4 + k + j) (strsV (foundW ex rd L j H))) ∧ Hid (FdB w wr (.slice ha hn hc) (.bool ex) (.int .i64 rd) (.slice la k lc))) (fun _ _ i _ => hn - (intOf i).toNat)
      case atStart => exact ⟨0, Nat.zero_le _, rfl, hide (by rw [foundW_zero, strsV_snoc, show bs [104, 105, 116, 115] = ⟨#[104, 105, 116, 115]⟩ from rfl, show 4 + k + 0 = 3 + k + 1 by omega]; exact O4.out), B4⟩
      case round =>
        obtain ⟨j, hj, rfl, HO, HB⟩ := hrel
        clear O4 B4 p0 p1 p2 p3 lb
        have lb := HB.out.bel.size
        by_cases hlt : j < hn
        · rcases RH.out.lies with q | ⟨b, off, rfl, lt, hcell⟩
          · omega
          · obtain ⟨c0, c1, c2⟩ := (hcell j hlt).below HB.out.bel lt
            have lk : b < wr.heap.size := Nat.lt_of_lt_of_le lt lb
            have nb := balloc (Below.refl wr.heap.size wr) (.cells #[.int .i64 (H j).x, .int .i64 (H j).y, .int .i64 (H j).z] 38)
            have B2 := hide (HB.out.below nb)
            have O2 := hide (owns_belowF HO.out nb)
            have DE := hide (HX.out j _ B2.out.bel)
            obtain ⟨E, hE⟩ : ∃ E, bs (hitTB (H j).x (H j).y (H j).z) = E := ⟨_, rfl⟩
            have EV := hide hE
            rw [hE] at DE
            clear hE hcell nb HO HB
            go_wp2_with fail
            refine DE.out.mono ?_
            rintro e w3 ⟨rfl, hb3⟩
            have B3 := hide (B2.out.below hb3)
            have O3 := hide (owns_belowF O2.out hb3)
            clear hb3 c0 c1 c2 DE B2 O2
            go_wp2_with (at_builtin; refine wpList_append_own _ rfl _ _ 46 rfl (w.heap.size + 1) 9 i0 (.string ⟨#[]⟩) 1 16 Tryd.underlying46 hi hz0 hz1 hz2 rfl (by decide) _ _ _ rfl (O3.out.alloc _) ⟨_, 0, none⟩ 1 1 [.string E] rfl rfl ?c1 ?c2 ?c3 ?c4 ?c5 ?_)
            case c1 => exact one_newF _ _ _
            case c2 => intro u hu; simp at hu; subst hu; rfl
            case c3 => unfold maxLen; omega
            case c4 => omega
            case c5 => have := World.rowIs.lt B3.out.box; simp; omega
            intro v' w4 hown2 hgrow _
            have B4 := hide ((B3.out.below (balloc (Below.refl _ _) _)).app (O3.out.alloc _) hgrow)
            have O4 := hide hown2
            clear hgrow hown2 O3 B3
            go_wp2_with fail
            go_roundw
            case rel => exact ⟨j + 1, by omega, by go_num, hide (by rw [foundW_succ, strsV_snoc, EV.out]; exact O4.out), B4⟩
            case measure => simp [intOf]; omega
        · obtain rfl : j = hn := by omega
          rcases HO.out.2 with ⟨_, q⟩ | ⟨g, cap, cur, rfl, hgb, hg, hcap, _⟩
          · omega
          · have hglt : g < wr.heap.size := (Array.getElem?_eq_some_iff.1 hg).1
            obtain ⟨B, hB⟩ : ∃ B : List ByteArray, (foundW ex rd L j H).map bs = B := ⟨_, rfl⟩
            have bl : B.length = 4 + k + j := by rw [← hB, List.length_map, foundW_len, HLN.out]
            have e1 : B.map (·.data.toList) = foundW ex rd L j H := by rw [← hB, List.map_map]; conv => rhs; rw [← List.map_id (foundW ex rd L j H)]
                                                                       exact List.map_congr_left fun x _ => bs_list _
            have JN := hide (Tryd.strings_Join g 0 cap B ⟨#[32]⟩ wr (fun i x hi' => by
                have hlt' : i < B.length := (List.getElem?_eq_some_iff.1 hi').1
                rw [Nat.zero_add, HO.out.cellAt i (by omega)]
                rw [← hB, List.getElem?_map] at hi'
                unfold strsV
                rw [List.getElem?_map]
                cases hq : (foundW ex rd L j H)[i]? with
                | none => rw [hq] at hi'; cases hi'
                | some y => rw [hq] at hi'; simp at hi'; simp [hi']) hglt (by omega) (by omega) (by
              rw [e1]
              have := join_len60 _ WL.out
              rw [foundW_len, HLN.out] at this
              show (Lib.join _ [32]).length ≤ _
              omega))
            rw [e1, bl] at JN
            clear hB bl e1 hg hcap
            go_wp2_with fail
            refine JN.out.mono ?_
            rintro e w3 ⟨rfl, hb3⟩
            have B3 := hide (bstep HB.out.bel hb3)
            clear hb3
            go_wp2_with fail
            go_ret
            exact ⟨rfl, B3.out⟩
end Go.Proofs.YtfjhgagpmhedfaaDoor
