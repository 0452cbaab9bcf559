/- Nears of items, plain; l8Nears of the model. -/
import Derived.Test.YthhgflclljaakaaZ19
import Derived.Test.YthhgflclljaakaaZ16
import Derived.Test.YthhgflclljaakaaZ21
import Derived.Test.YthhgflclljaakaaZ12
namespace Go.Proofs.Ythhgflclljaakaa
open Go.RowKit
set_option maxRecDepth 8000
set_option linter.unusedSimpArgs false
set_option linter.unusedVariables false

/-- The Nears of the items that match. -/
def nrL (qs : List Int) (mask : Int) (L : IL) (k : Nat) : NL := fun i => nrOf qs (fil (mtB mask) L k i)

theorem nrL_yes {qs : List Int} {mask : Int} {L : IL} {k : Nat} (h : mtB mask (L k) = true) : nrL qs mask L (k + 1) = (nrL qs mask L k).put (cntP (mtB mask) L k) (nrOf qs (L k)) := by
  funext i
  unfold nrL NL.put
  rw [fil_yes h]
  unfold IL.put
  by_cases e : i = cntP (mtB mask) L k
  · simp [e]
  · simp [e]

theorem nrL_no {qs : List Int} {mask : Int} {L : IL} {k : Nat} (h : mtB mask (L k) = false) : nrL qs mask L (k + 1) = nrL qs mask L k := by
  funext i
  unfold nrL
  rw [fil_no h]

/-- What a look at an item for its distance holds. -/
structure SL (w0 : World) (b o : Nat) (x : It) (a : Option Addr) (n c : Nat) (w : World) : Prop where
  bel : Below w0.heap.size w0 w
  c0 : w.cell? ⟨b, o, none⟩ = some (.int .i64 x.id)
  c2 : w.cell? ⟨b, o + 2, none⟩ = some (.slice a n c)

theorem SL.of {w0 : World} {b o : Nat} {x : It} {a : Option Addr} {n c : Nat} {w : World} (hb : b < w0.heap.size) (h0 : w0.cell? ⟨b, o, none⟩ = some (.int .i64 x.id)) (h2 : w0.cell? ⟨b, o + 2, none⟩ = some (.slice a n c)) (bel : Below w0.heap.size w0 w) : SL w0 b o x a n c w :=
  ⟨bel, (bel.cell (p := ⟨b, o, none⟩) hb).trans h0, (bel.cell (p := ⟨b, o + 2, none⟩) hb).trans h2⟩

theorem SL.below {w0 : World} {b o : Nat} {x : It} {a : Option Addr} {n c : Nat} {w w' : World} (hb : b < w0.heap.size) (h : SL w0 b o x a n c w) (k : Below w.heap.size w w') : SL w0 b o x a n c w' := by
  have hs := h.bel.size
  exact ⟨bstep h.bel k, (k.cell (p := ⟨b, o, none⟩) (by show b < _; omega)).trans h.c0, (k.cell (p := ⟨b, o + 2, none⟩) (by show b < _; omega)).trans h.c2⟩

/-- The answer of l8Nears, and of whoever makes Nears of its own by append. -/
def NearsR (w : World) (m : Nat) (A : NL) (e : Ending) (w' : World) : Prop :=
  ∃ g cap, e = .returned (.slice (some ⟨g, 0, none⟩) m cap) ∧ RC w' w.heap.size g cap m A ∧ Below w.heap.size w w'

theorem RC.new (w : World) (A : NL) : RC (w.alloc (.cells #[] 52)) w.heap.size w.heap.size 0 0 A :=
  ⟨Nat.le_refl _, #[], Go.Deep.blk_alloc_new _ _, Nat.le_refl _, Nat.zero_le _, rfl, fun i hi => absurd hi (by omega)⟩

theorem two_one (x y : Int) : ∀ u ∈ [Value.int .i64 x, Value.int .i64 y], u.oneCell' = true := by
  intro u hu
  simp at hu
  rcases hu with rfl | rfl <;> rfl

theorem RC.congr {w : World} {base g cap k : Nat} {M N : NL} (h : RC w base g cap k M) (e : ∀ i, i < k → M i = N i) : RC w base g cap k N := by
  obtain ⟨hb, cur, h1, h2, h3, h4, h5⟩ := h
  exact ⟨hb, cur, h1, h2, h3, h4, fun i hi => e i hi ▸ h5 i hi⟩

set_option maxHeartbeats 8000000 in
set_option maxRecDepth 8000 in
theorem l8Nears_some (b off n cap : Nat) (L : IL) (qa : Option Addr) (qc : Nat) (qs : List Int) (mask : Int) (w : World) (hn : n ≤ 60) (hb : b < w.heap.size) (hc : ∀ i, i < n → IAt w b (off + i * 3) (L i)) (rq : Row w qa qs.length qs) (hq : vecOkB qs = true) (hvi : ∀ i, i < n → vecOkB (L i).vec = true) (hli : ∀ i, i < n → (L i).vec.length = qs.length) :
    Calls Try.prog 30 #[.slice (some ⟨b, off, none⟩) n cap, .slice qa qs.length qc, .int .i64 mask] w fun e w' => NearsR w (cntP (mtB mask) L n) (nrL qs mask L n) e w' := by
  obtain ⟨i0, hi, hz0, hz1, hz2⟩ := nearInfo2
  have HI := hide hi
  have HC := hide hc
  have HVI := hide hvi
  have HLI := hide hli
  have HRQ := hide rq
  clear hc hi hvi hli rq
  go_enter Try.func30, Try.ntmps30
  go_wp2_with fail
  go_loopw [7, 8] (fun s i wr => ∃ k : Nat, k ≤ n ∧ i = .int .i64 k ∧ (∃ g c, s = .slice (some ⟨g, 0, none⟩) (cntP (mtB mask) L k) c ∧ RC wr w.heap.size g c (cntP (mtB mask) L k) (nrL qs mask L k)) ∧ Below w.heap.size w wr) (fun _ i _ => n - (intOf i).toNat)
  case atStart => exact ⟨0, Nat.zero_le _, rfl, ⟨w.heap.size, 0, rfl, RC.new _ _⟩, (by repeat' first | with_reducible exact Below.refl _ _ | with_reducible assumption | with_reducible refine below_drewN ?_ _ | with_reducible refine balloc ?_ _ | with_reducible refine Below.drew ?_ | with_reducible refine Below.setCell ?_ (by first | (simp; done) | (simp; omega) | omega) _ | with_reducible refine bstep ?_ (by assumption))⟩
  case round =>
    obtain ⟨k, hk, rfl, ⟨g1, c1, rfl, hrc⟩, hbel⟩ := hrel
    have HB := hide hbel
    have HG := hide hrc
    have hcl := cntP_le (mtB mask) L k
    have hsz := hbel.size
    by_cases hlt : k < n
    · obtain ⟨d0, d1, va, vn, vc, d2, vr⟩ := HC.out k hlt
      obtain ⟨c0, c1', c2⟩ : wr.cell? ⟨b, off + k * 3, none⟩ = some (.int .i64 (L k).id) ∧ wr.cell? ⟨b, off + k * 3 + 1, none⟩ = some (.int .i64 (L k).tags) ∧ wr.cell? ⟨b, off + k * 3 + 2, none⟩ = some (.slice va vn vc) :=
        ⟨(hbel.cell (p := ⟨b, off + k * 3, none⟩) hb).trans d0, (hbel.cell (p := ⟨b, off + k * 3 + 1, none⟩) hb).trans d1, (hbel.cell (p := ⟨b, off + k * 3 + 2, none⟩) hb).trans d2⟩
      have hlt' : (k : Int) < (n : Int) := by omega
      cases hm : mtB mask (L k)
      · have hq : (bits .and .i64 (L k).tags mask == mask) = false := hm
        have E1 := hide (cntP_no hm)
        have E2 := hide (nrL_no (qs := qs) hm)
        clear hbel hrc vr hm d0 d1 d2
        go_wp2_with fail
        go_roundw
        case rel => exact ⟨k + 1, by omega, by go_num, ⟨g1, c1, by rw [E1.out], by rw [E1.out, E2.out]; exact HG.out⟩, HB.out⟩
        case measure => simp [intOf]; omega
      · have hq' : (bits .and .i64 (L k).tags mask == mask) = true := hm
        have E1 := hide (cntP_yes hm)
        have E2 := hide (nrL_yes (qs := qs) hm)
        have hvl : vn = (L k).vec.length := vr.len.symm
        have hll := HLI.out k hlt
        have D := hide (fun w1 (h1 : Below w.heap.size w w1) => l1Dist_any va qa qs.length vc qc (L k).vec qs w1 (show Row w1 va qs.length (L k).vec from hll ▸ hvl ▸ vr.below h1) (HRQ.out.below h1) (HVI.out k hlt) hq)
        obtain ⟨dd, hdd⟩ : ∃ d, dsum (L k).vec qs qs.length = d := ⟨_, rfl⟩
        simp only [hdd] at D
        have HDD := hide (show nrOf qs (L k) = ((L k).id, dd) by unfold nrOf; rw [hll, hdd])
        have S0 := hide (SL.of hb d0 d2 (w := wr.drew) (Below.drew hbel))
        have HD0 := hide d0
        have HD2 := hide d2
        have hvn : vn = qs.length := by omega
        subst hvn
        generalize cntP (mtB mask) L k = m at *
        generalize nrL qs mask L k = M at *
        clear hbel hrc vr hm d0 d1 d2 hdd hll hvl
        go_upto_region 6 with fail
        refine wp_region_held_drew (S := fun wx => SL w b (off + k * 3) (L k) va qs.length vc wx) (by kernel_rfl) (S0.out) (fun hH0 => ?_)
        refine wpAnyH_take (i := 0) (oi := { dst := some 25, op := _, type := _, pos := _, after := _, guard := _ }) (v := ?_) rfl (by kernel_rfl) (by kernel_rfl) (by kernel_rfl) (fun _ _ _ h => h) (Or.inl ⟨by rfl, ?_⟩) (hH0) ?_
        rotate_left
        · (intro wx hSw; obtain ⟨_, q0, q2⟩ := hSw; go_simp <;> with_reducible rfl)
        simp only [Act.put, List.setIfInBounds_toArray, List.set_cons_zero, List.set_cons_succ]
        refine wpAnyH_take (i := 1) (oi := { dst := some 26, op := _, type := _, pos := _, after := _, guard := _ }) (v := ?_) rfl (by kernel_rfl) (by kernel_rfl) (by kernel_rfl) (fun _ _ _ h => h) (Or.inl ⟨by rfl, ?_⟩) (hH0) ?_
        rotate_left
        · (intro wx hSw; obtain ⟨_, q0, q2⟩ := hSw; go_simp <;> with_reducible rfl)
        simp only [Act.put, List.setIfInBounds_toArray, List.set_cons_zero, List.set_cons_succ]
        refine wpAnyH_take (i := 2) (oi := { dst := some 27, op := _, type := _, pos := _, after := _, guard := _ }) (v := ?_) rfl (by kernel_rfl) (by kernel_rfl) (by kernel_rfl) (fun _ _ _ h => h) (Or.inl ⟨by rfl, ?_⟩) (hH0) ?_
        rotate_left
        · (intro wx hSw; obtain ⟨_, q0, q2⟩ := hSw; go_simp <;> with_reducible rfl)
        simp only [Act.put, List.setIfInBounds_toArray, List.set_cons_zero, List.set_cons_succ]
        refine wpAnyH_take (i := 3) (oi := { dst := some 28, op := _, type := _, pos := _, after := _, guard := _ }) (v := ?_) rfl (by kernel_rfl) (by kernel_rfl) (by kernel_rfl) (fun _ _ _ h => h) (Or.inl ⟨by rfl, ?_⟩) (hH0) ?_
        rotate_left
        · (intro wx hSw; obtain ⟨_, q0, q2⟩ := hSw; go_simp <;> with_reducible rfl)
        simp only [Act.put, List.setIfInBounds_toArray, List.set_cons_zero, List.set_cons_succ]
        refine wpAnyH_take (i := 4) (oi := { dst := some 29, op := _, type := _, pos := _, after := _, guard := _ }) (v := ?_) rfl (by kernel_rfl) (by kernel_rfl) (by kernel_rfl) (fun _ _ _ h => h) (Or.inl ⟨by rfl, ?_⟩) (hH0) ?_
        rotate_left
        · (intro wx hSw; obtain ⟨_, q0, q2⟩ := hSw; go_simp <;> with_reducible rfl)
        simp only [Act.put, List.setIfInBounds_toArray, List.set_cons_zero, List.set_cons_succ]
        refine wpAnyH_take (i := 5) (oi := { dst := some 30, op := _, type := _, pos := _, after := _, guard := _ }) (v := ?_) rfl (by kernel_rfl) (by kernel_rfl) (by kernel_rfl) (fun _ _ _ h => h) (Or.inl ⟨by rfl, ?_⟩) (hH0) ?_
        rotate_left
        · (intro wx hSw; obtain ⟨_, q0, q2⟩ := hSw; go_simp <;> with_reducible rfl)
        simp only [Act.put, List.setIfInBounds_toArray, List.set_cons_zero, List.set_cons_succ]
        refine wpAnyH_take (i := 6) (oi := { dst := some 31, op := _, type := _, pos := _, after := _, guard := _ }) (v := ?_) rfl (by kernel_rfl) (by kernel_rfl) (by kernel_rfl) (fun _ _ _ h => h) (Or.inl ⟨by rfl, ?_⟩) (hH0) ?_
        rotate_left
        · (intro wx hSw; obtain ⟨_, q0, q2⟩ := hSw; go_simp <;> with_reducible rfl)
        simp only [Act.put, List.setIfInBounds_toArray, List.set_cons_zero, List.set_cons_succ]
        refine wpAnyH_take (i := 7) (oi := { dst := some 32, op := _, type := _, pos := _, after := _, guard := _ }) (v := ?_) rfl (by kernel_rfl) (by kernel_rfl) (by kernel_rfl) (fun _ _ _ h => h) (Or.inl ⟨by rfl, ?_⟩) (hH0) ?_
        rotate_left
        · (intro wx hSw; obtain ⟨_, q0, q2⟩ := hSw; go_simp <;> with_reducible rfl)
        simp only [Act.put, List.setIfInBounds_toArray, List.set_cons_zero, List.set_cons_succ]
        refine wpAnyH_take (i := 8) (oi := { dst := some 33, op := _, type := _, pos := _, after := _, guard := _ }) (v := ?_) rfl (by kernel_rfl) (by kernel_rfl) (by kernel_rfl) (fun _ _ _ h => h) (Or.inl ⟨by rfl, ?_⟩) (hH0) ?_
        rotate_left
        · (intro wx hSw; obtain ⟨_, q0, q2⟩ := hSw; go_simp <;> with_reducible rfl)
        simp only [Act.put, List.setIfInBounds_toArray, List.set_cons_zero, List.set_cons_succ]
        refine wpAnyH_take (i := 9) (oi := { dst := some 34, op := _, type := _, pos := _, after := _, guard := _ }) (v := ?_) rfl (by kernel_rfl) (by kernel_rfl) (by kernel_rfl) (fun _ _ _ h => h) (Or.inl ⟨by rfl, ?_⟩) (hH0) ?_
        rotate_left
        · (intro wx hSw; obtain ⟨_, q0, q2⟩ := hSw; go_simp <;> with_reducible rfl)
        simp only [Act.put, List.setIfInBounds_toArray, List.set_cons_zero, List.set_cons_succ]
        refine wpAnyH_take (i := 10) (oi := { dst := some 35, op := _, type := _, pos := _, after := _, guard := _ }) (v := ?_) rfl (by kernel_rfl) (by kernel_rfl) (by kernel_rfl) (fun _ _ _ h => h) (Or.inl ⟨by rfl, ?_⟩) (hH0) ?_
        rotate_left
        · (intro wx hSw; obtain ⟨_, q0, q2⟩ := hSw; go_simp <;> with_reducible rfl)
        simp only [Act.put, List.setIfInBounds_toArray, List.set_cons_zero, List.set_cons_succ]
        refine wpAnyH_take (i := 11) (oi := { dst := some 36, op := _, type := _, pos := _, after := _, guard := _ }) (v := ?_) rfl (by kernel_rfl) (by kernel_rfl) (by kernel_rfl) (fun _ _ _ h => h) (Or.inl ⟨by rfl, ?_⟩) (hH0) ?_
        rotate_left
        · (intro wx hSw; obtain ⟨_, q0, q2⟩ := hSw; go_simp <;> with_reducible rfl)
        simp only [Act.put, List.setIfInBounds_toArray, List.set_cons_zero, List.set_cons_succ]
        refine wpAnyH_ready (rs := [12]) (by kernel_rfl) (by simp) ?_
        refine AllReadyH.cons (o := { dst := some 37, op := _, type := _, pos := _, after := _, guard := _ }) rfl (fun K hK => ?_) AllReadyH.nil
        go_simp
        refine (D.out _ hH0.bel).mono ?_
        rintro e w1 ⟨rfl, b1⟩
        dsimp only
        refine hK.out _ _ (SL.below hb hH0 b1) (fun hH1 => ?_)
        clear hK K
        refine wpAnyH_take (i := 13) (oi := { dst := some 38, op := _, type := _, pos := _, after := _, guard := _ }) (v := ?_) rfl (by kernel_rfl) (by kernel_rfl) (by kernel_rfl) (fun _ _ _ h => h) (Or.inl ⟨by rfl, ?_⟩) (hH1) ?_
        rotate_left
        · (intro wx hSw; obtain ⟨_, q0, q2⟩ := hSw; go_simp <;> with_reducible rfl)
        simp only [Act.put, List.setIfInBounds_toArray, List.set_cons_zero, List.set_cons_succ]
        refine wpAnyH_ready (rs := [14]) (by kernel_rfl) (by simp) ?_
        refine AllReadyH.cons (o := { dst := some 39, op := _, type := _, pos := _, after := _, guard := _ }) rfl (fun K hK => ?_) AllReadyH.nil
        go_simp
        refine hK.out _ _ (SL.below hb hH1 (balloc (Below.refl _ _) _)) (fun hH2 => ?_)
        clear hK K
        -- behind it: go_wp2_with fail, then go_meet (a cut) or go_ret; the condition at the end: hH2
        have HG1 := hide (HG.out.drew.below b1)
        have hs1 := b1.size
        have hsd : wr.drew.heap.size = wr.heap.size := rfl
        rw [hsd] at hs1
        generalize hNV : nlv M m = NV at *
        have HNV := hide hNV
        have hown := hide (HG1.out.owns.alloc (.cells #[.int .i64 (L k).id, .int .i64 dd] 52))
        rw [HNV.out] at hown
        clear hNV
        refine wpAnyH_ready (rs := [15]) (by kernel_rfl) (by simp) ?_
        refine AllReadyH.cons (o := { dst := some 40, op := _, type := _, pos := _, after := _, guard := _ }) rfl (fun K hK => ?_) AllReadyH.nil
        refine step_append_lies _ rfl _ _ 28 rfl w.heap.size 52 i0 _ 2 16 Try.underlying28 HI.out hz0 hz1 hz2 rfl (by decide) _ _ _ rfl hown.out ⟨_, 0, none⟩ 1 1 [.int .i64 (L k).id, .int .i64 dd] rfl rfl (two_new2 _ _ _ _) (two_one _ _) (by omega) (by unfold maxLen; omega) (by omega) (by simp; omega) _ rfl ?_
        intro g5 c5 w5 hown5 hgrow hat5 hglt
        have HG5 : Hid (RC w5 w.heap.size g5 c5 (m + 1) (M.put m ((L k).id, dd))) := hide (RC.grown (by rw [HNV.out]; exact hown5))
        have HB5 : Hid (Below w.heap.size w w5) := hide ((balloc (bstep (Below.drew HB.out) b1) (.cells #[.int .i64 (L k).id, .int .i64 dd] 52)).grown hgrow (by simp; omega) fun k' hk' => (hown.out.lt k' hk').1)
        refine hK.out _ _ (SL.of hb HD0.out HD2.out HB5.out) (fun hH3 => ?_)
        clear hK K hown5 hgrow hat5 hown HB HG HG1 b1
        simp only [Act.put, List.setIfInBounds_toArray, List.set_cons_zero, List.set_cons_succ]
        refine wpAnyH_take (i := 16) (oi := { dst := some 7, op := _, type := _, pos := _, after := _, guard := _ }) (v := ?_) rfl (by kernel_rfl) (by kernel_rfl) (by kernel_rfl) (fun _ _ _ h => h) (Or.inl ⟨by rfl, ?_⟩) (hH3) ?_
        rotate_left
        · (intro wx hSw; obtain ⟨_, q0, q2⟩ := hSw; go_simp <;> with_reducible rfl)
        simp only [Act.put, List.setIfInBounds_toArray, List.set_cons_zero, List.set_cons_succ]
        refine wpAnyH_done (by kernel_rfl) ?_ _
        clear hH0 hH1 hH2 hH3
        go_wp2_with fail
        go_roundw
        case rel => exact ⟨k + 1, by omega, by go_num, ⟨g5, c5, by rw [E1.out], by rw [E1.out, E2.out, HDD.out]; exact HG5.out⟩, HB5.out⟩
        case measure => simp [intOf]; omega
    · obtain rfl : k = n := by omega
      clear hrc hbel
      go_wp2_with fail
      go_ret
      exact ⟨g1, c1, rfl, HG.out, HB.out⟩

set_option maxHeartbeats 400000 in
theorem l8Nears_none (a : Option Addr) (n cap : Nat) (L : IL) (qv : Value) (qs : List Int) (mask : Int) (w : World) (hn : n < 1) :
    Calls Try.prog 30 #[.slice a n cap, qv, .int .i64 mask] w fun e w' => NearsR w (cntP (mtB mask) L n) (nrL qs mask L n) e w' := by
  obtain rfl : n = 0 := by omega
  go_enter Try.func30, Try.ntmps30
  go_wp2_with fail
  refine wp_loop_rounds 1 ?_
  rw [rounds_succ]
  go_wp2_with fail
  go_ret
  exact ⟨w.heap.size, 0, rfl, RC.new _ _, (by repeat' first | with_reducible exact Below.refl _ _ | with_reducible assumption | with_reducible refine below_drewN ?_ _ | with_reducible refine balloc ?_ _ | with_reducible refine Below.drew ?_ | with_reducible refine Below.setCell ?_ (by first | (simp; done) | (simp; omega) | omega) _ | with_reducible refine bstep ?_ (by assumption))⟩

theorem l8Nears_any (dim : Int) (a : Option Addr) (n cap : Nat) (L : IL) (qa : Option Addr) (qn qc : Nat) (qs : List Int) (mask : Int) (w : World) (h : IRow w a n L) (rq : Row w qa qn qs) (hf : Fine dim n L qs) :
    Calls Try.prog 30 #[.slice a n cap, .slice qa qn qc, .int .i64 mask] w fun e w' => NearsR w (cntP (mtB mask) L n) (nrL qs mask L n) e w' := by
  have hl := rq.len
  subst hl
  rcases h.lies with h0 | ⟨b, off, rfl, lt, hc⟩
  · exact l8Nears_none a n cap L _ qs mask w (by omega)
  · exact l8Nears_some b off n cap L qa qc qs mask w hf.n60 lt hc rq hf.vq hf.vi hf.li
end Go.Proofs.Ythhgflclljaakaa

/- InRadius of the model; Nears that are picked, plain. -/
namespace Go.Proofs.Ythhgflclljaakaa
open Go.RowKit
set_option maxRecDepth 8000
set_option linter.unusedSimpArgs false
set_option linter.unusedVariables false

/-- How many of the first k are such, and these. -/
def cntN (p : Int × Int → Bool) (A : NL) : Nat → Nat
  | 0 => 0
  | k + 1 => if p (A k) then cntN p A k + 1 else cntN p A k
def filN (p : Int × Int → Bool) (A : NL) : Nat → NL
  | 0 => fun _ => (0, 0)
  | k + 1 => if p (A k) then (filN p A k).put (cntN p A k) (A k) else filN p A k

theorem cntN_le (p : Int × Int → Bool) (A : NL) (k : Nat) : cntN p A k ≤ k := by
  induction k with
  | zero => exact Nat.le_refl _
  | succ k ih => simp only [cntN]; split <;> omega

theorem cntN_yes {p : Int × Int → Bool} {A : NL} {k : Nat} (h : p (A k) = true) : cntN p A (k + 1) = cntN p A k + 1 := by simp [cntN, h]

theorem cntN_no {p : Int × Int → Bool} {A : NL} {k : Nat} (h : p (A k) = false) : cntN p A (k + 1) = cntN p A k := by simp [cntN, h]

theorem filN_yes {p : Int × Int → Bool} {A : NL} {k : Nat} (h : p (A k) = true) : filN p A (k + 1) = (filN p A k).put (cntN p A k) (A k) := by simp [filN, h]

theorem filN_no {p : Int × Int → Bool} {A : NL} {k : Nat} (h : p (A k) = false) : filN p A (k + 1) = filN p A k := by simp [filN, h]

/-- Within a radius. -/
def inR (r : Int) (x : Int × Int) : Bool := decide (x.2 ≤ r)
def radM (dim : Int) (n : Nat) (L : IL) (qs : List Int) (r mask : Int) : Nat := if formB dim n L qs then cntN (inR r) (nrL qs mask L n) (cntP (mtB mask) L n) else 0
def radA (n : Nat) (L : IL) (qs : List Int) (r mask : Int) : NL := filN (inR r) (nrL qs mask L n) (cntP (mtB mask) L n)





end Go.Proofs.Ythhgflclljaakaa
/- InRadius of the program: the closure, eachNear, the query. -/
namespace Go.Proofs.Ythhgflclljaakaa
open Go.RowKit
set_option maxRecDepth 8000
set_option linter.unusedSimpArgs false
set_option linter.unusedVariables false

theorem fil_at {p : It → Bool} {L : IL} {k : Nat} (h : p (L k) = true) : ∀ n, k < n → fil p L n (cntP p L k) = L k := by
  intro n
  induction n with
  | zero => intro hk; omega
  | succ n ih =>
    intro hk
    by_cases e : k = n
    · subst e; rw [fil_yes h, IL.put_at]
    · have hlt : cntP p L k < cntP p L n := by
        have mono : ∀ j, cntP p L k + 1 ≤ cntP p L (k + 1 + j) := by
          intro j
          induction j with
          | zero => rw [Nat.add_zero, cntP_yes h]; exact Nat.le_refl _
          | succ j ihj => show _ ≤ cntP p L (k + 1 + j + 1); simp only [cntP]; split <;> omega
        have := mono (n - (k + 1))
        rw [show k + 1 + (n - (k + 1)) = n by omega] at this
        omega
      cases hn : p (L n)
      · rw [fil_no hn]; exact ih (by omega)
      · rw [fil_yes hn, IL.put_off _ _ (by omega)]; exact ih (by omega)

theorem nrL_at {qs : List Int} {mask : Int} {L : IL} {k n : Nat} (h : mtB mask (L k) = true) (hk : k < n) : nrL qs mask L n (cntP (mtB mask) L k) = nrOf qs (L k) := by
  unfold nrL
  rw [fil_at h n hk]

/-- What the closure of InRadius keeps: the radius, and the slice that it appends to. -/
structure Cap (w0 : World) (rb vb : Nat) (r : Int) (m : Nat) (M : NL) (w : World) : Prop where
  rad : w.heap[rb]? = some (.cells #[.int .i64 r] 2 (0, 0))
  ex : ∃ g c, w.heap[vb]? = some (.cells #[.slice (some ⟨g, 0, none⟩) m c] 28 (0, 0)) ∧ RC w w0.heap.size g c m M
  lo : w0.heap.size ≤ vb
  bel : Below w0.heap.size w0 w

theorem blkLt {w : World} {b : Nat} {o : Obj} (h : w.heap[b]? = some o) : b < w.heap.size := (Array.getElem?_eq_some_iff.1 h).1

theorem Cap.below {w0 : World} {rb vb : Nat} {r : Int} {m : Nat} {M : NL} {w w' : World} (h : Cap w0 rb vb r m M w) (hb : Below w.heap.size w w') : Cap w0 rb vb r m M w' := by
  obtain ⟨h1, ⟨g, c, h2, h3⟩, h4, h5⟩ := h
  exact ⟨(hb.block rb (blkLt h1)).trans h1, ⟨g, c, (hb.block vb (blkLt h2)).trans h2, h3.below hb⟩, h4, bstep h5 hb⟩

theorem one_cell {w : World} {b : Nat} {v : Value} {t : TypeId} (h : w.heap[b]? = some (.cells #[v] t (0, 0))) : w.cell? ⟨b, 0, none⟩ = some v := by simp [World.cell?, h]

theorem one_free {w : World} {b : Nat} {v : Value} {t : TypeId} (h : w.heap[b]? = some (.cells #[v] t (0, 0))) : w.frozen? ⟨b, 0, none⟩ = false := by simp [World.frozen?, h]

theorem RC.blk {w : World} {base g cap k : Nat} {M : NL} (h : RC w base g cap k M) : ∃ cur, w.heap[g]? = some (.cells cur 52 (0, 0)) := by
  obtain ⟨_, cur, h1, _⟩ := h
  exact ⟨cur, h1⟩

theorem two_newAt (w : World) (x y : Value) (t : TypeId) (b : Nat) (hb : w.heap.size = b) : ∀ (j : Nat) (u : Value), [x, y][j]? = some u → (w.alloc (.cells #[x, y] t)).cell? ((⟨b, 0, none⟩ : Addr).add j) = some u := hb ▸ two_new2 w x y t



theorem cap_step {r : Int} {A : NL} {j : Nat} {w0 : World} {rb vb : Nat} {w : World} (h : Cap w0 rb vb r (if inR r (A j) then cntN (inR r) A j + 1 else cntN (inR r) A j) (if inR r (A j) then (filN (inR r) A j).put (cntN (inR r) A j) (A j) else filN (inR r) A j) w) : Cap w0 rb vb r (cntN (inR r) A (j + 1)) (filN (inR r) A (j + 1)) w := by
  simp only [cntN, filN]
  exact h

end Go.Proofs.Ythhgflclljaakaa
/- InRadius of the program, by its parts. -/
namespace Go.Proofs.Ythhgflclljaakaa
open Go.RowKit
set_option maxRecDepth 8000
set_option linter.unusedSimpArgs false
set_option linter.unusedVariables false

/-- The answer of whoever tells Nears of its own. -/
def OutN (w : World) (m : Nat) (A : NL) (e : Ending) (w' : World) : Prop :=
  ∃ a cap, e = .returned (.slice a m cap) ∧ Wr w' a m A w.heap.size ∧ Below w.heap.size w w'

theorem NearsR.out {w : World} {m : Nat} {A : NL} {e : Ending} {w' : World} (h : NearsR w m A e w') : OutN w m A e w' := by
  obtain ⟨g, cap, he, hr, hb⟩ := h
  exact ⟨_, cap, he, .inr ⟨g, rfl, hr.base, hr.rowl⟩, hb⟩

theorem outN_nil {w w' : World} {A : NL} {e : Ending} (he : e = .returned (.slice none 0 0)) (hb : Below w.heap.size w w') : OutN w 0 A e w' := ⟨none, 0, he, .inl rfl, hb⟩

set_option maxHeartbeats 400000 in
theorem eachNear_zero (a : Option Addr) (n cap : Nat) (qv fv : Value) (mask : Int) (w : World) (hn : n < 1) :
    Calls Try.prog 24 #[.slice a n cap, qv, .int .i64 mask, fv] w fun e w' => e = .returned (.tuple #[]) ∧ w' = w := by
  go_enter Try.func24, Try.ntmps24
  go_wp2_with fail
  refine wp_loop_rounds 1 ?_
  rw [rounds_succ]
  go_wp2_with fail
  go_end0
  exact ⟨rfl, rfl⟩







end Go.Proofs.Ythhgflclljaakaa