/- ReadCmd of the program. -/
import Derived.Test.YtggjcccdeaadbaaGreatDoorZ32
import Derived.Test.YtggjcccdeaadbaaGreatDoorZ7
import Derived.BigQuiet
import Derived.BigRegion
import Derived.Deep.RegionHeld3
import Derived.Test.YtggjcccdeaadbaaGreatDoorZ30
import Derived.Test.YtggjcccdeaadbaaGreatDoorZ23
import Derived.Test.YtggjcccdeaadbaaGreatDoorZ22
namespace Go.Proofs.YtggjcccdeaadbaaGreatDoor
open Go.RowKit
set_option maxRecDepth 8000
set_option linter.unusedSimpArgs false
set_option linter.unusedVariables false

/-- A form in its box. -/
structure FzQ (b : Nat) (a0 a1 a2 a3 a4 a5 a6 a7 a8 : Value) (w : World) : Prop where
  one : w.rowIs b 38 9 (v9 a0 a1 a2 a3 a4 a5 a6 a7 a8)
  z0 : w.cell? ⟨b, 0, none⟩ = some a0
  z1 : w.cell? ⟨b, 1, none⟩ = some a1
  z2 : w.cell? ⟨b, 2, none⟩ = some a2
  z3 : w.cell? ⟨b, 3, none⟩ = some a3
  z4 : w.cell? ⟨b, 4, none⟩ = some a4
  z5 : w.cell? ⟨b, 5, none⟩ = some a5
  z6 : w.cell? ⟨b, 6, none⟩ = some a6
  z7 : w.cell? ⟨b, 7, none⟩ = some a7
  z8 : w.cell? ⟨b, 8, none⟩ = some a8
  lt : b < w.heap.size

theorem FzQ.mk' {w : World} {b : Nat} {a0 a1 a2 a3 a4 a5 a6 a7 a8 : Value} (h1 : w.rowIs b 38 9 (v9 a0 a1 a2 a3 a4 a5 a6 a7 a8)) : FzQ b a0 a1 a2 a3 a4 a5 a6 a7 a8 w := by
  obtain ⟨l, z0, z1, z2, z3, z4, z5, z6, z7, z8, _⟩ := v9_facts h1
  exact ⟨h1, z0, z1, z2, z3, z4, z5, z6, z7, z8, l⟩

theorem FzQ.below {w w' : World} {b : Nat} {a0 a1 a2 a3 a4 a5 a6 a7 a8 : Value} (h : FzQ b a0 a1 a2 a3 a4 a5 a6 a7 a8 w) (hb : Below w.heap.size w w') : FzQ b a0 a1 a2 a3 a4 a5 a6 a7 a8 w' := .mk' (row_belowC h.one hb)

theorem FzQ.set5 {w : World} {b q : Nat} {a0 a1 a2 a3 a4 a5 a6 a7 a8 : Value} (h : FzQ b a0 a1 a2 a3 a4 a5 a6 a7 a8 w) (hq : q < b) (x0 x1 x2 x3 x4 : Value) : FzQ b a0 a1 a2 a3 a4 a5 a6 a7 a8 (((((w.setCell ⟨q, 0, none⟩ x0).setCell ⟨q, 1, none⟩ x1).setCell ⟨q, 2, none⟩ x2).setCell ⟨q, 3, none⟩ x3).setCell ⟨q, 4, none⟩ x4) :=
  .mk' (World.rowIs.setOther (World.rowIs.setOther (World.rowIs.setOther (World.rowIs.setOther (World.rowIs.setOther h.one (by simp; omega) _) (by simp; omega) _) (by simp; omega) _) (by simp; omega) _) (by simp; omega) _)

theorem mine_atR {B g n : Nat} {w w' : World} {a : Option Addr} {xs : List Int} (h : Mine B w a n xs) (hb : But g w w') (hg : g < B) {B' : Nat} (hB : B' ≤ B) : Mine B' w' a n xs := mine_lower (h.but hb hg) hB

theorem splitNW_cap (s : ByteArray) (w : World) (hs : s.size ≤ 1048576) (M : Mlen w) :
    Calls Tryz.prog 23 #[.string s, .string ⟨#[32]⟩, .int .i64 6] w fun e w' => ∃ n c, e = .returned (.slice (some ⟨w.heap.size, 0, none⟩) n c) ∧ n ≤ 6 ∧ n ≤ c ∧ (1 ≤ s.size → c ≠ 1) ∧ Strs w' w.heap.size n (splitK 32 5 s.data.toList) ∧ Below w.heap.size w w' := by
  obtain ⟨_, m, hm⟩ := M
  refine (Tryz.strings_SplitN s ⟨#[32]⟩ 6 m w (by omega) hm (by decide) (by omega) (by omega)).mono fun e w' ⟨he, hw⟩ => ?_
  obtain ⟨L, hL⟩ : ∃ L, Lib.splitB ⟨#[32]⟩ 0 (min 6 (s.size + 1) - 1) s = L := ⟨_, rfl⟩
  have hp := parts_minW s
  have hn := Lib.splitB_length_le ⟨#[32]⟩ 0 (min 6 (s.size + 1) - 1) s
  rw [hL] at he hw hp hn
  have hpl : (splitK 32 5 s.data.toList).length = L.length := by rw [← hp, List.length_map]
  refine ⟨L.length, _, he, by omega, by omega, by omega, ⟨by rw [hw]; simp, hpl, fun j hj => ?_⟩, by rw [hw]; exact balloc (Below.refl _ _) _⟩
  refine ⟨L[j].data.toList, by rw [← hp, List.getElem?_map, List.getElem?_eq_getElem hj]; rfl, ?_⟩
  rw [hw, bs_of]
  have : (L.map Value.string ++ List.replicate (min 6 (s.size + 1) - L.length) (Value.string ByteArray.empty))[j]? = some (Value.string L[j]) := by
    rw [List.getElem?_append_left (by simpa using hj), List.getElem?_map, List.getElem?_eq_getElem hj]; rfl
  simp [Lib.cellsOf, this]

theorem splitK_ne (c : UInt8) : ∀ (k : Nat) (l : List UInt8), splitK c k l ≠ []
  | 0, l => by unfold splitK; simp
  | k + 1, l => by unfold splitK; split <;> simp

theorem splitK_short (c : UInt8) : ∀ (k : Nat) (l : List UInt8), ∀ x ∈ splitK c k l, x.length ≤ l.length := by
  intro k
  induction k with
  | zero => intro l x hx; rw [List.mem_singleton.1 hx]; exact Nat.le_refl _
  | succ k ih =>
    intro l x hx
    have hcb := congrArg List.length (cut_back c l).2
    rw [List.length_append] at hcb
    have hcl := cut_len c l
    unfold splitK at hx
    split at hx
    · rcases List.mem_cons.1 hx with rfl | hx
      · omega
      · have := ih _ x hx; omega
    · rw [List.mem_singleton.1 hx]; exact Nat.le_refl _

theorem nm_ne {j : Nat} {x : List UInt8} (h : ¬ x = nmW ((j : Int) + 1)) : x ≠ nmW ((j : Int) + 1) := h


set_option maxHeartbeats 16000000 in
set_option maxRecDepth 8000 in
theorem iReadCmd_any (s : ByteArray) (w : World) (hs : s.size ≤ 1048576) (F : Forms w) (V : Vars w) (M : Mlen w) :
    Calls Tryz.prog 8 #[.string s] w fun e w' => IRdC w s.data.toList e w' := by
  have SP := hide (fun w1 (b : Below w.heap.size w w1) => splitNW_cap s w1 hs (M.below b))
  have HV := hide V
  have HM := hide M
  have HF := hide F
  have HS := hide hs
  clear F V M hs
  have Z0 : Hid ((w.alloc (.cells #[.int .i64 0, .int .i64 0, .int .i64 0, .int .i64 0, .slice none 0 0] 26)).rowIs w.heap.size 26 5 (v5 (.int .i64 0) (.int .i64 0) (.int .i64 0) (.int .i64 0) (.slice none 0 0))) := hide (v5_new w _ _ _ _ _ _)
  have B0 : Hid (Below w.heap.size w (w.alloc (.cells #[.int .i64 0, .int .i64 0, .int .i64 0, .int .i64 0, .slice none 0 0] 26))) := hide (balloc (Below.refl _ _) _)
  go_enter Tryz.func8, Tryz.ntmps8
  go_wp2_with fail
  refine (SP.out _ B0.out).mono ?_
  rintro e w1 ⟨n, c, rfl, hn6, hnc, hcc, hS, hb1⟩
  obtain ⟨WS, hWS⟩ : ∃ WS, splitK 32 5 s.data.toList = WS := ⟨_, rfl⟩
  rw [hWS] at hS
  have hsz : ∀ x ∈ WS, x.length ≤ 1048576 := fun x hx => by
    have := splitK_short 32 5 s.data.toList x (by rw [hWS]; exact hx)
    rw [← size_list] at this
    have := HS.out
    omega
  obtain ⟨x, R, hxR⟩ : ∃ x R, WS = x :: R := by
    cases WS with
    | nil => exact absurd hWS (splitK_ne 32 5 _)
    | cons x R => exact ⟨x, R, rfl⟩
  rw [hxR] at hS hsz hWS
  obtain ⟨N, hN⟩ : ∃ N, n = N + 1 := ⟨R.length, by have := hS.len; simp at this; omega⟩
  subst hN
  have lg : w.heap.size < w1.heap.size := by have := hb1.size; simp at this; omega
  have HW := hide hWS
  have HCC : Hid (x ≠ [] → ¬ c = 1) := hide fun hx => hcc (by
    rcases Nat.eq_zero_or_pos s.size with h0 | h0
    · exfalso
      have hx2 := splitK_short 32 5 s.data.toList x (by rw [hWS]; simp)
      rw [← size_list, h0] at hx2
      exact hx (List.eq_nil_of_length_eq_zero (by omega))
    · exact h0)
  clear hcc
  have HSZ := hide (fun y (hy : y ∈ R) => hsz y (List.mem_cons_of_mem _ hy))
  have S1 := hide hS
  have B1 := hide (bstep B0.out hb1)
  have Z1 := hide (row_belowC Z0.out hb1)
  have HT : Hid (World.rangeAt w1 0 0 formsL) := hide (fun j v hj => by rw [Nat.zero_add]; exact (HF.out.below B1.out).cell j v hj)
  have hg1 : w.heap.size + 1 ≤ w1.heap.size := lg
  clear hS hsz hWS hxR hb1 Z0 B0 SP
  obtain ⟨g, hgg⟩ : ∃ g, (w.alloc (.cells #[.int .i64 0, .int .i64 0, .int .i64 0, .int .i64 0, .slice none 0 0] 26)).heap.size = g := ⟨_, rfl⟩
  try rw [hgg] at S1
  try simp only [hgg]
  try clear hgg
  go_wp2_with (refine wpList_load_mid rfl 50 (.global 0) rfl 0 0 rfl formsL _ HT.out Tryz.underlying50 rfl (by kernel_rfl) ?_)
  clear HT
  obtain ⟨E, hE⟩ : ∃ E, bs x = E := ⟨_, rfl⟩
  have HE : Hid (E.data.toList = x) := hide (by rw [← hE, bs_list])
  have hx0 : Hid (∀ wr, Below w1.heap.size w1 wr → wr.cell? ⟨g, 0, none⟩ = some (.string E)) := hide fun wr hb => by
    obtain ⟨y, hy, hc⟩ := (S1.out.below hb).cell 0 (by omega)
    simp at hy
    subst hy
    rw [← hE]; exact hc
  clear hE
  go_loopw [10] (fun i wr => ∃ k : Nat, k ≤ 7 ∧ i = .int .i64 k ∧ Hid (∀ j : Nat, j < k → x ≠ nmW ((j : Int) + 1)) ∧ Hid (Below w1.heap.size w1 wr)) (fun i _ => 7 - (intOf i).toNat)
  case atStart => exact ⟨0, by omega, rfl, hide (fun j hj => absurd hj (by omega)), hide (Below.refl _ _)⟩
  case round =>
    obtain ⟨k, hk, rfl, HN, HB⟩ := hrel
    have xc := hx0.out wr HB.out
    have Zr := hide (row_belowC Z1.out HB.out)
    have Sr := hide (S1.out.below HB.out)
    have Br := hide (bstep B1.out HB.out)
    have gr : g < wr.heap.size := Sr.out.lt
    have lr : w.heap.size < wr.heap.size := by have := HB.out.size; omega
    rcases (show k = 0 ∨ k = 1 ∨ k = 2 ∨ k = 3 ∨ k = 4 ∨ k = 5 ∨ k = 6 ∨ k = 7 from by omega) with rfl | rfl | rfl | rfl | rfl | rfl | rfl | rfl
    · have hix : ∀ wx, (Instr.index 50 (.agg formsL.toArray) (.int .i64 0)).run Tryz.prog wx = .ok (.agg #[.int .i64 1, .string ⟨#[100, 105, 109]⟩, .int .i64 1, .int .i64 8, .int .i64 0, .int .i64 0, .int .i64 0, .int .i64 0, .bool false]) wx := fun wx => index_form 0 (by omega) wx
      have NB : Hid (Below wr.heap.size wr (wr.alloc (.cells #[.int .i64 1, .string ⟨#[100, 105, 109]⟩, .int .i64 1, .int .i64 8, .int .i64 0, .int .i64 0, .int .i64 0, .int .i64 0, .bool false] 38))) := hide (balloc (Below.refl _ _) _)
      by_cases hx : x = nmW 1
      · have t1 : (([100, 105, 109] : List UInt8) == E.toList) = true := by rw [ByteArray.toList_eq, HE.out, hx]; decide
        have RD := hide (fun wz (b : Below wr.heap.size wr wz) => read_kind 1 ⟨#[100, 105, 109]⟩ 1 8 0 0 0 0 false s.data.toList g N (c - 1) R wz ((Sr.out.below b).tail) (by omega) HSZ.out (HV.out.below (bstep Br.out b)) (HM.out.below (bstep Br.out b)) rfl (by rw [HW.out, hx]) rfl rfl (fun _ _ _ _ _ => rfl))
        have Q0 : Hid (FzQ wr.heap.size (.int .i64 1) (.string ⟨#[100, 105, 109]⟩) (.int .i64 1) (.int .i64 8) (.int .i64 0) (.int .i64 0) (.int .i64 0) (.int .i64 0) (.bool false) (wr.alloc (.cells #[.int .i64 1, .string ⟨#[100, 105, 109]⟩, .int .i64 1, .int .i64 8, .int .i64 0, .int .i64 0, .int .i64 0, .int .i64 0, .bool false] 38))) := hide (.mk' (v9_new wr _ _ _ _ _ _ _ _ _ _))
        have x2 := hx0.out _ (bstep HB.out NB.out)
        have hc1 : ¬ c = 1 := HCC.out (by rw [hx]; decide)
        have h1N : (1 : Int) ≤ (N : Int) + 1 := by omega
        clear HN hx
        obtain ⟨_, z0, z1, z2, z3, z4, z5, z6, z7, z8, _⟩ := Q0.out
        go_wp2_with fail
        go_region
        have Q1 := hide (Q0.out.below (Below.drew (Below.refl _ _)))
        have N1 := hide (Below.drew NB.out)
        obtain ⟨W1, hW1⟩ : ∃ W1, (wr.alloc (.cells #[.int .i64 1, .string ⟨#[100, 105, 109]⟩, .int .i64 1, .int .i64 8, .int .i64 0, .int .i64 0, .int .i64 0, .int .i64 0, .bool false] 38)).drew = W1 := ⟨_, rfl⟩
        rw [hW1] at Q1 N1 ⊢
        clear hW1 x2 xc z0 z1 z2 z3 z4 z5 z6 z7 z8 Q0 NB
        go_wp2_with fail
        refine wp_region_held_drew (S := fun wx => FzQ wr.heap.size (.int .i64 1) (.string ⟨#[100, 105, 109]⟩) (.int .i64 1) (.int .i64 8) (.int .i64 0) (.int .i64 0) (.int .i64 0) (.int .i64 0) (.bool false) wx) (by kernel_rfl) ((Q1.out.below (Below.drew (Below.refl _ _)))) (fun hH0 => ?_)
        refine wpAnyH_take (i := 0) (oi := { dst := some 19, op := _, type := _, pos := _, after := _, guard := _ }) (v := ?_) rfl (by kernel_rfl) (by kernel_rfl) (by kernel_rfl) (fun _ _ _ h => h) (Or.inl ⟨by rfl, ?_⟩) (hH0) ?_
        rotate_left
        · (intro wx hSw; obtain ⟨_, z0, z1, z2, z3, z4, z5, z6, z7, z8, _⟩ := hSw; go_simp <;> with_reducible rfl)
        simp only [Act.put, List.setIfInBounds_toArray, List.set_cons_zero, List.set_cons_succ]
        refine wpAnyH_take (i := 1) (oi := { dst := some 20, op := _, type := _, pos := _, after := _, guard := _ }) (v := ?_) rfl (by kernel_rfl) (by kernel_rfl) (by kernel_rfl) (fun _ _ _ h => h) (Or.inl ⟨by rfl, ?_⟩) (hH0) ?_
        rotate_left
        · (intro wx hSw; obtain ⟨_, z0, z1, z2, z3, z4, z5, z6, z7, z8, _⟩ := hSw; go_simp <;> with_reducible rfl)
        simp only [Act.put, List.setIfInBounds_toArray, List.set_cons_zero, List.set_cons_succ]
        refine wpAnyH_take (i := 2) (oi := { dst := some 21, op := _, type := _, pos := _, after := _, guard := _ }) (v := ?_) rfl (by kernel_rfl) (by kernel_rfl) (by kernel_rfl) (fun _ _ _ h => h) (Or.inl ⟨by rfl, ?_⟩) (hH0) ?_
        rotate_left
        · (intro wx hSw; obtain ⟨_, z0, z1, z2, z3, z4, z5, z6, z7, z8, _⟩ := hSw; go_simp <;> with_reducible rfl)
        simp only [Act.put, List.setIfInBounds_toArray, List.set_cons_zero, List.set_cons_succ]
        refine wpAnyH_ready (rs := [3]) (by kernel_rfl) (by simp) ?_
        refine AllReadyH.cons (o := { dst := some 22, op := _, type := _, pos := _, after := _, guard := _ }) rfl (fun K hK => ?_) AllReadyH.nil
        go_simp
        refine (RD.out _ (Below.drew N1.out)).mono ?_
        rintro e w5 ⟨va, m, cap, rfl, hm, hm8, hb5⟩
        dsimp only
        refine hK.out _ _ (FzQ.below hH0 hb5) (fun hH1 => ?_)
        clear hK K
        refine wpAnyH_take (i := 4) (oi := { dst := some 23, op := _, type := _, pos := _, after := _, guard := _ }) (v := ?_) rfl (by kernel_rfl) (by kernel_rfl) (by kernel_rfl) (fun _ _ _ h => h) (Or.inl ⟨by rfl, ?_⟩) (hH1) ?_
        rotate_left
        · (intro wx hSw; obtain ⟨_, z0, z1, z2, z3, z4, z5, z6, z7, z8, _⟩ := hSw; go_simp <;> with_reducible rfl)
        simp only [Act.put, List.setIfInBounds_toArray, List.set_cons_zero, List.set_cons_succ]
        refine wpAnyH_take (i := 5) (oi := { dst := some 24, op := _, type := _, pos := _, after := _, guard := _ }) (v := ?_) rfl (by kernel_rfl) (by kernel_rfl) (by kernel_rfl) (fun _ _ _ h => h) (Or.inl ⟨by rfl, ?_⟩) (hH1) ?_
        rotate_left
        · (intro wx hSw; obtain ⟨_, z0, z1, z2, z3, z4, z5, z6, z7, z8, _⟩ := hSw; go_simp <;> with_reducible rfl)
        simp only [Act.put, List.setIfInBounds_toArray, List.set_cons_zero, List.set_cons_succ]
        -- behind it: go_wp2_with fail, then go_meet (a cut) or go_ret; the condition at the end: hH1
        have Z5 := hide (row_belowC (row_belowC (row_belowC Zr.out N1.out) (Below.drew (Below.refl _ _))) hb5)
        have B5 := hide (bstep (bstep (bstep Br.out N1.out) (Below.drew (Below.refl _ _))) hb5)
        have M5 := hide hm
        have l5 : w.heap.size + 1 ≤ W1.drew.heap.size := by have := N1.out.size; simp; omega
        clear hb5 hm RD N1 Q1 hH0
        obtain ⟨_, r0, r1, r2, r3, r4, f0, f1, f2, f3, f4⟩ := v5_facts Z5.out
        refine wpAnyH_ready (rs := [6]) (by kernel_rfl) (by simp) ?_
        refine AllReadyH.cons (o := { dst := none, op := _, type := _, pos := _, after := _, guard := _ }) rfl (fun K hK => ?_) AllReadyH.nil
        go_simp
        refine hK.out _ _ (hH1.set5 lr _ _ _ _ _) (fun hH2 => ?_)
        clear hK K
        refine wpAnyH_ready (rs := [7]) (by kernel_rfl) (by simp) ?_
        refine AllReadyH.cons (o := { dst := some 3, op := _, type := _, pos := _, after := _, guard := _ }) rfl (fun K hK => ?_) AllReadyH.nil
        go_simp
        refine hK.out _ _ hH2 (fun hH3 => ?_)
        clear hK K
        refine wpAnyH_done (by kernel_rfl) ?_ _
        clear hH1 hH2 hH3 r0 r1 r2 r3 r4 f0 f1 f2 f3 f4
        obtain ⟨_, e0, e1, e2, e3, e4, _⟩ := v5_facts (five_set Z5.out (.int .i64 (readC s.data.toList).k) (.int .i64 (readC s.data.toList).a) (.int .i64 (readC s.data.toList).b) (.int .i64 (readC s.data.toList).c) (.slice va m cap))
        go_wp2_with fail
        refine bodyPost_ret (v := .tuple #[.agg #[.int .i64 (readC s.data.toList).k, .int .i64 (readC s.data.toList).a, .int .i64 (readC s.data.toList).b, .int .i64 (readC s.data.toList).c, .slice va m cap], .bool (rdCB s.data.toList)]) (by simp [results, Tryz.results8, go_sem, e0, e1, e2, e3, e4]) rfl ⟨va, m, cap, rfl, ?_, hm8, below5 B5.out (Nat.le_refl _) _ _ _ _ _⟩
        exact mine_atR M5.out (((((But.refl w.heap.size w5).setCell 0 _).setCell 1 _).setCell 2 _).setCell 3 _ |>.setCell 4 _) (by omega) (by omega)
      · have t1 : (([100, 105, 109] : List UInt8) == E.toList) = false := by rw [ByteArray.toList_eq, HE.out]; simpa using fun h => hx h.symm
        have Q0 : Hid (FzQ wr.heap.size (.int .i64 1) (.string ⟨#[100, 105, 109]⟩) (.int .i64 1) (.int .i64 8) (.int .i64 0) (.int .i64 0) (.int .i64 0) (.int .i64 0) (.bool false) (wr.alloc (.cells #[.int .i64 1, .string ⟨#[100, 105, 109]⟩, .int .i64 1, .int .i64 8, .int .i64 0, .int .i64 0, .int .i64 0, .int .i64 0, .bool false] 38))) := hide (.mk' (v9_new wr _ _ _ _ _ _ _ _ _ _))
        have x2 := hx0.out _ (bstep HB.out NB.out)
        obtain ⟨_, z0, z1, z2, z3, z4, z5, z6, z7, z8, _⟩ := Q0.out
        have HX := hide hx
        clear hx
        go_wp2_with fail
        go_region
        have N1 := hide (Below.drew NB.out)
        obtain ⟨W1, hW1⟩ : ∃ W1, (wr.alloc (.cells #[.int .i64 1, .string ⟨#[100, 105, 109]⟩, .int .i64 1, .int .i64 8, .int .i64 0, .int .i64 0, .int .i64 0, .int .i64 0, .bool false] 38)).drew = W1 := ⟨_, rfl⟩
        rw [hW1] at N1 ⊢
        clear hW1 x2 xc z0 z1 z2 z3 z4 z5 z6 z7 z8 Q0 NB
        go_wp2_with fail
        go_roundw
        case rel => exact ⟨1, by omega, by go_num, hide (fun j hj => by rcases Nat.lt_succ_iff_lt_or_eq.1 hj with h | rfl; exact HN.out j h; exact HX.out), hide (bstep HB.out N1.out)⟩
        case measure => simp [intOf]
    · have hix : ∀ wx, (Instr.index 50 (.agg formsL.toArray) (.int .i64 1)).run Tryz.prog wx = .ok (.agg #[.int .i64 2, .string ⟨#[112, 117, 116]⟩, .int .i64 1, .int .i64 9999, .int .i64 0, .int .i64 255, .int .i64 0, .int .i64 0, .bool true]) wx := fun wx => index_form 1 (by omega) wx
      have NB : Hid (Below wr.heap.size wr (wr.alloc (.cells #[.int .i64 2, .string ⟨#[112, 117, 116]⟩, .int .i64 1, .int .i64 9999, .int .i64 0, .int .i64 255, .int .i64 0, .int .i64 0, .bool true] 38))) := hide (balloc (Below.refl _ _) _)
      by_cases hx : x = nmW 2
      · have t1 : (([112, 117, 116] : List UInt8) == E.toList) = true := by rw [ByteArray.toList_eq, HE.out, hx]; decide
        have RD := hide (fun wz (b : Below wr.heap.size wr wz) => read_kind 2 ⟨#[112, 117, 116]⟩ 1 9999 0 255 0 0 true s.data.toList g N (c - 1) R wz ((Sr.out.below b).tail) (by omega) HSZ.out (HV.out.below (bstep Br.out b)) (HM.out.below (bstep Br.out b)) rfl (by rw [HW.out, hx]) rfl rfl (fun _ _ _ _ _ => rfl))
        have Q0 : Hid (FzQ wr.heap.size (.int .i64 2) (.string ⟨#[112, 117, 116]⟩) (.int .i64 1) (.int .i64 9999) (.int .i64 0) (.int .i64 255) (.int .i64 0) (.int .i64 0) (.bool true) (wr.alloc (.cells #[.int .i64 2, .string ⟨#[112, 117, 116]⟩, .int .i64 1, .int .i64 9999, .int .i64 0, .int .i64 255, .int .i64 0, .int .i64 0, .bool true] 38))) := hide (.mk' (v9_new wr _ _ _ _ _ _ _ _ _ _))
        have x2 := hx0.out _ (bstep HB.out NB.out)
        have hc1 : ¬ c = 1 := HCC.out (by rw [hx]; decide)
        have h1N : (1 : Int) ≤ (N : Int) + 1 := by omega
        clear HN hx
        obtain ⟨_, z0, z1, z2, z3, z4, z5, z6, z7, z8, _⟩ := Q0.out
        go_wp2_with fail
        go_region
        have Q1 := hide (Q0.out.below (Below.drew (Below.refl _ _)))
        have N1 := hide (Below.drew NB.out)
        obtain ⟨W1, hW1⟩ : ∃ W1, (wr.alloc (.cells #[.int .i64 2, .string ⟨#[112, 117, 116]⟩, .int .i64 1, .int .i64 9999, .int .i64 0, .int .i64 255, .int .i64 0, .int .i64 0, .bool true] 38)).drew = W1 := ⟨_, rfl⟩
        rw [hW1] at Q1 N1 ⊢
        clear hW1 x2 xc z0 z1 z2 z3 z4 z5 z6 z7 z8 Q0 NB
        go_wp2_with fail
        refine wp_region_held_drew (S := fun wx => FzQ wr.heap.size (.int .i64 2) (.string ⟨#[112, 117, 116]⟩) (.int .i64 1) (.int .i64 9999) (.int .i64 0) (.int .i64 255) (.int .i64 0) (.int .i64 0) (.bool true) wx) (by kernel_rfl) ((Q1.out.below (Below.drew (Below.refl _ _)))) (fun hH0 => ?_)
        refine wpAnyH_take (i := 0) (oi := { dst := some 19, op := _, type := _, pos := _, after := _, guard := _ }) (v := ?_) rfl (by kernel_rfl) (by kernel_rfl) (by kernel_rfl) (fun _ _ _ h => h) (Or.inl ⟨by rfl, ?_⟩) (hH0) ?_
        rotate_left
        · (intro wx hSw; obtain ⟨_, z0, z1, z2, z3, z4, z5, z6, z7, z8, _⟩ := hSw; go_simp <;> with_reducible rfl)
        simp only [Act.put, List.setIfInBounds_toArray, List.set_cons_zero, List.set_cons_succ]
        refine wpAnyH_take (i := 1) (oi := { dst := some 20, op := _, type := _, pos := _, after := _, guard := _ }) (v := ?_) rfl (by kernel_rfl) (by kernel_rfl) (by kernel_rfl) (fun _ _ _ h => h) (Or.inl ⟨by rfl, ?_⟩) (hH0) ?_
        rotate_left
        · (intro wx hSw; obtain ⟨_, z0, z1, z2, z3, z4, z5, z6, z7, z8, _⟩ := hSw; go_simp <;> with_reducible rfl)
        simp only [Act.put, List.setIfInBounds_toArray, List.set_cons_zero, List.set_cons_succ]
        refine wpAnyH_take (i := 2) (oi := { dst := some 21, op := _, type := _, pos := _, after := _, guard := _ }) (v := ?_) rfl (by kernel_rfl) (by kernel_rfl) (by kernel_rfl) (fun _ _ _ h => h) (Or.inl ⟨by rfl, ?_⟩) (hH0) ?_
        rotate_left
        · (intro wx hSw; obtain ⟨_, z0, z1, z2, z3, z4, z5, z6, z7, z8, _⟩ := hSw; go_simp <;> with_reducible rfl)
        simp only [Act.put, List.setIfInBounds_toArray, List.set_cons_zero, List.set_cons_succ]
        refine wpAnyH_ready (rs := [3]) (by kernel_rfl) (by simp) ?_
        refine AllReadyH.cons (o := { dst := some 22, op := _, type := _, pos := _, after := _, guard := _ }) rfl (fun K hK => ?_) AllReadyH.nil
        go_simp
        refine (RD.out _ (Below.drew N1.out)).mono ?_
        rintro e w5 ⟨va, m, cap, rfl, hm, hm8, hb5⟩
        dsimp only
        refine hK.out _ _ (FzQ.below hH0 hb5) (fun hH1 => ?_)
        clear hK K
        refine wpAnyH_take (i := 4) (oi := { dst := some 23, op := _, type := _, pos := _, after := _, guard := _ }) (v := ?_) rfl (by kernel_rfl) (by kernel_rfl) (by kernel_rfl) (fun _ _ _ h => h) (Or.inl ⟨by rfl, ?_⟩) (hH1) ?_
        rotate_left
        · (intro wx hSw; obtain ⟨_, z0, z1, z2, z3, z4, z5, z6, z7, z8, _⟩ := hSw; go_simp <;> with_reducible rfl)
        simp only [Act.put, List.setIfInBounds_toArray, List.set_cons_zero, List.set_cons_succ]
        refine wpAnyH_take (i := 5) (oi := { dst := some 24, op := _, type := _, pos := _, after := _, guard := _ }) (v := ?_) rfl (by kernel_rfl) (by kernel_rfl) (by kernel_rfl) (fun _ _ _ h => h) (Or.inl ⟨by rfl, ?_⟩) (hH1) ?_
        rotate_left
        · (intro wx hSw; obtain ⟨_, z0, z1, z2, z3, z4, z5, z6, z7, z8, _⟩ := hSw; go_simp <;> with_reducible rfl)
        simp only [Act.put, List.setIfInBounds_toArray, List.set_cons_zero, List.set_cons_succ]
        -- behind it: go_wp2_with fail, then go_meet (a cut) or go_ret; the condition at the end: hH1
        have Z5 := hide (row_belowC (row_belowC (row_belowC Zr.out N1.out) (Below.drew (Below.refl _ _))) hb5)
        have B5 := hide (bstep (bstep (bstep Br.out N1.out) (Below.drew (Below.refl _ _))) hb5)
        have M5 := hide hm
        have l5 : w.heap.size + 1 ≤ W1.drew.heap.size := by have := N1.out.size; simp; omega
        clear hb5 hm RD N1 Q1 hH0
        obtain ⟨_, r0, r1, r2, r3, r4, f0, f1, f2, f3, f4⟩ := v5_facts Z5.out
        refine wpAnyH_ready (rs := [6]) (by kernel_rfl) (by simp) ?_
        refine AllReadyH.cons (o := { dst := none, op := _, type := _, pos := _, after := _, guard := _ }) rfl (fun K hK => ?_) AllReadyH.nil
        go_simp
        refine hK.out _ _ (hH1.set5 lr _ _ _ _ _) (fun hH2 => ?_)
        clear hK K
        refine wpAnyH_ready (rs := [7]) (by kernel_rfl) (by simp) ?_
        refine AllReadyH.cons (o := { dst := some 3, op := _, type := _, pos := _, after := _, guard := _ }) rfl (fun K hK => ?_) AllReadyH.nil
        go_simp
        refine hK.out _ _ hH2 (fun hH3 => ?_)
        clear hK K
        refine wpAnyH_done (by kernel_rfl) ?_ _
        clear hH1 hH2 hH3 r0 r1 r2 r3 r4 f0 f1 f2 f3 f4
        obtain ⟨_, e0, e1, e2, e3, e4, _⟩ := v5_facts (five_set Z5.out (.int .i64 (readC s.data.toList).k) (.int .i64 (readC s.data.toList).a) (.int .i64 (readC s.data.toList).b) (.int .i64 (readC s.data.toList).c) (.slice va m cap))
        go_wp2_with fail
        refine bodyPost_ret (v := .tuple #[.agg #[.int .i64 (readC s.data.toList).k, .int .i64 (readC s.data.toList).a, .int .i64 (readC s.data.toList).b, .int .i64 (readC s.data.toList).c, .slice va m cap], .bool (rdCB s.data.toList)]) (by simp [results, Tryz.results8, go_sem, e0, e1, e2, e3, e4]) rfl ⟨va, m, cap, rfl, ?_, hm8, below5 B5.out (Nat.le_refl _) _ _ _ _ _⟩
        exact mine_atR M5.out (((((But.refl w.heap.size w5).setCell 0 _).setCell 1 _).setCell 2 _).setCell 3 _ |>.setCell 4 _) (by omega) (by omega)
      · have t1 : (([112, 117, 116] : List UInt8) == E.toList) = false := by rw [ByteArray.toList_eq, HE.out]; simpa using fun h => hx h.symm
        have Q0 : Hid (FzQ wr.heap.size (.int .i64 2) (.string ⟨#[112, 117, 116]⟩) (.int .i64 1) (.int .i64 9999) (.int .i64 0) (.int .i64 255) (.int .i64 0) (.int .i64 0) (.bool true) (wr.alloc (.cells #[.int .i64 2, .string ⟨#[112, 117, 116]⟩, .int .i64 1, .int .i64 9999, .int .i64 0, .int .i64 255, .int .i64 0, .int .i64 0, .bool true] 38))) := hide (.mk' (v9_new wr _ _ _ _ _ _ _ _ _ _))
        have x2 := hx0.out _ (bstep HB.out NB.out)
        obtain ⟨_, z0, z1, z2, z3, z4, z5, z6, z7, z8, _⟩ := Q0.out
        have HX := hide hx
        clear hx
        go_wp2_with fail
        go_region
        have N1 := hide (Below.drew NB.out)
        obtain ⟨W1, hW1⟩ : ∃ W1, (wr.alloc (.cells #[.int .i64 2, .string ⟨#[112, 117, 116]⟩, .int .i64 1, .int .i64 9999, .int .i64 0, .int .i64 255, .int .i64 0, .int .i64 0, .bool true] 38)).drew = W1 := ⟨_, rfl⟩
        rw [hW1] at N1 ⊢
        clear hW1 x2 xc z0 z1 z2 z3 z4 z5 z6 z7 z8 Q0 NB
        go_wp2_with fail
        go_roundw
        case rel => exact ⟨2, by omega, by go_num, hide (fun j hj => by rcases Nat.lt_succ_iff_lt_or_eq.1 hj with h | rfl; exact HN.out j h; exact HX.out), hide (bstep HB.out N1.out)⟩
        case measure => simp [intOf]
    · have hix : ∀ wx, (Instr.index 50 (.agg formsL.toArray) (.int .i64 2)).run Tryz.prog wx = .ok (.agg #[.int .i64 3, .string ⟨#[100, 114, 111, 112]⟩, .int .i64 1, .int .i64 9999, .int .i64 0, .int .i64 0, .int .i64 0, .int .i64 0, .bool false]) wx := fun wx => index_form 2 (by omega) wx
      have NB : Hid (Below wr.heap.size wr (wr.alloc (.cells #[.int .i64 3, .string ⟨#[100, 114, 111, 112]⟩, .int .i64 1, .int .i64 9999, .int .i64 0, .int .i64 0, .int .i64 0, .int .i64 0, .bool false] 38))) := hide (balloc (Below.refl _ _) _)
      by_cases hx : x = nmW 3
      · have t1 : (([100, 114, 111, 112] : List UInt8) == E.toList) = true := by rw [ByteArray.toList_eq, HE.out, hx]; decide
        have RD := hide (fun wz (b : Below wr.heap.size wr wz) => read_kind 3 ⟨#[100, 114, 111, 112]⟩ 1 9999 0 0 0 0 false s.data.toList g N (c - 1) R wz ((Sr.out.below b).tail) (by omega) HSZ.out (HV.out.below (bstep Br.out b)) (HM.out.below (bstep Br.out b)) rfl (by rw [HW.out, hx]) rfl rfl (fun _ _ _ _ _ => rfl))
        have Q0 : Hid (FzQ wr.heap.size (.int .i64 3) (.string ⟨#[100, 114, 111, 112]⟩) (.int .i64 1) (.int .i64 9999) (.int .i64 0) (.int .i64 0) (.int .i64 0) (.int .i64 0) (.bool false) (wr.alloc (.cells #[.int .i64 3, .string ⟨#[100, 114, 111, 112]⟩, .int .i64 1, .int .i64 9999, .int .i64 0, .int .i64 0, .int .i64 0, .int .i64 0, .bool false] 38))) := hide (.mk' (v9_new wr _ _ _ _ _ _ _ _ _ _))
        have x2 := hx0.out _ (bstep HB.out NB.out)
        have hc1 : ¬ c = 1 := HCC.out (by rw [hx]; decide)
        have h1N : (1 : Int) ≤ (N : Int) + 1 := by omega
        clear HN hx
        obtain ⟨_, z0, z1, z2, z3, z4, z5, z6, z7, z8, _⟩ := Q0.out
        go_wp2_with fail
        go_region
        have Q1 := hide (Q0.out.below (Below.drew (Below.refl _ _)))
        have N1 := hide (Below.drew NB.out)
        obtain ⟨W1, hW1⟩ : ∃ W1, (wr.alloc (.cells #[.int .i64 3, .string ⟨#[100, 114, 111, 112]⟩, .int .i64 1, .int .i64 9999, .int .i64 0, .int .i64 0, .int .i64 0, .int .i64 0, .bool false] 38)).drew = W1 := ⟨_, rfl⟩
        rw [hW1] at Q1 N1 ⊢
        clear hW1 x2 xc z0 z1 z2 z3 z4 z5 z6 z7 z8 Q0 NB
        go_wp2_with fail
        refine wp_region_held_drew (S := fun wx => FzQ wr.heap.size (.int .i64 3) (.string ⟨#[100, 114, 111, 112]⟩) (.int .i64 1) (.int .i64 9999) (.int .i64 0) (.int .i64 0) (.int .i64 0) (.int .i64 0) (.bool false) wx) (by kernel_rfl) ((Q1.out.below (Below.drew (Below.refl _ _)))) (fun hH0 => ?_)
        refine wpAnyH_take (i := 0) (oi := { dst := some 19, op := _, type := _, pos := _, after := _, guard := _ }) (v := ?_) rfl (by kernel_rfl) (by kernel_rfl) (by kernel_rfl) (fun _ _ _ h => h) (Or.inl ⟨by rfl, ?_⟩) (hH0) ?_
        rotate_left
        · (intro wx hSw; obtain ⟨_, z0, z1, z2, z3, z4, z5, z6, z7, z8, _⟩ := hSw; go_simp <;> with_reducible rfl)
        simp only [Act.put, List.setIfInBounds_toArray, List.set_cons_zero, List.set_cons_succ]
        refine wpAnyH_take (i := 1) (oi := { dst := some 20, op := _, type := _, pos := _, after := _, guard := _ }) (v := ?_) rfl (by kernel_rfl) (by kernel_rfl) (by kernel_rfl) (fun _ _ _ h => h) (Or.inl ⟨by rfl, ?_⟩) (hH0) ?_
        rotate_left
        · (intro wx hSw; obtain ⟨_, z0, z1, z2, z3, z4, z5, z6, z7, z8, _⟩ := hSw; go_simp <;> with_reducible rfl)
        simp only [Act.put, List.setIfInBounds_toArray, List.set_cons_zero, List.set_cons_succ]
        refine wpAnyH_take (i := 2) (oi := { dst := some 21, op := _, type := _, pos := _, after := _, guard := _ }) (v := ?_) rfl (by kernel_rfl) (by kernel_rfl) (by kernel_rfl) (fun _ _ _ h => h) (Or.inl ⟨by rfl, ?_⟩) (hH0) ?_
        rotate_left
        · (intro wx hSw; obtain ⟨_, z0, z1, z2, z3, z4, z5, z6, z7, z8, _⟩ := hSw; go_simp <;> with_reducible rfl)
        simp only [Act.put, List.setIfInBounds_toArray, List.set_cons_zero, List.set_cons_succ]
        refine wpAnyH_ready (rs := [3]) (by kernel_rfl) (by simp) ?_
        refine AllReadyH.cons (o := { dst := some 22, op := _, type := _, pos := _, after := _, guard := _ }) rfl (fun K hK => ?_) AllReadyH.nil
        go_simp
        refine (RD.out _ (Below.drew N1.out)).mono ?_
        rintro e w5 ⟨va, m, cap, rfl, hm, hm8, hb5⟩
        dsimp only
        refine hK.out _ _ (FzQ.below hH0 hb5) (fun hH1 => ?_)
        clear hK K
        refine wpAnyH_take (i := 4) (oi := { dst := some 23, op := _, type := _, pos := _, after := _, guard := _ }) (v := ?_) rfl (by kernel_rfl) (by kernel_rfl) (by kernel_rfl) (fun _ _ _ h => h) (Or.inl ⟨by rfl, ?_⟩) (hH1) ?_
        rotate_left
        · (intro wx hSw; obtain ⟨_, z0, z1, z2, z3, z4, z5, z6, z7, z8, _⟩ := hSw; go_simp <;> with_reducible rfl)
        simp only [Act.put, List.setIfInBounds_toArray, List.set_cons_zero, List.set_cons_succ]
        refine wpAnyH_take (i := 5) (oi := { dst := some 24, op := _, type := _, pos := _, after := _, guard := _ }) (v := ?_) rfl (by kernel_rfl) (by kernel_rfl) (by kernel_rfl) (fun _ _ _ h => h) (Or.inl ⟨by rfl, ?_⟩) (hH1) ?_
        rotate_left
        · (intro wx hSw; obtain ⟨_, z0, z1, z2, z3, z4, z5, z6, z7, z8, _⟩ := hSw; go_simp <;> with_reducible rfl)
        simp only [Act.put, List.setIfInBounds_toArray, List.set_cons_zero, List.set_cons_succ]
        -- behind it: go_wp2_with fail, then go_meet (a cut) or go_ret; the condition at the end: hH1
        have Z5 := hide (row_belowC (row_belowC (row_belowC Zr.out N1.out) (Below.drew (Below.refl _ _))) hb5)
        have B5 := hide (bstep (bstep (bstep Br.out N1.out) (Below.drew (Below.refl _ _))) hb5)
        have M5 := hide hm
        have l5 : w.heap.size + 1 ≤ W1.drew.heap.size := by have := N1.out.size; simp; omega
        clear hb5 hm RD N1 Q1 hH0
        obtain ⟨_, r0, r1, r2, r3, r4, f0, f1, f2, f3, f4⟩ := v5_facts Z5.out
        refine wpAnyH_ready (rs := [6]) (by kernel_rfl) (by simp) ?_
        refine AllReadyH.cons (o := { dst := none, op := _, type := _, pos := _, after := _, guard := _ }) rfl (fun K hK => ?_) AllReadyH.nil
        go_simp
        refine hK.out _ _ (hH1.set5 lr _ _ _ _ _) (fun hH2 => ?_)
        clear hK K
        refine wpAnyH_ready (rs := [7]) (by kernel_rfl) (by simp) ?_
        refine AllReadyH.cons (o := { dst := some 3, op := _, type := _, pos := _, after := _, guard := _ }) rfl (fun K hK => ?_) AllReadyH.nil
        go_simp
        refine hK.out _ _ hH2 (fun hH3 => ?_)
        clear hK K
        refine wpAnyH_done (by kernel_rfl) ?_ _
        clear hH1 hH2 hH3 r0 r1 r2 r3 r4 f0 f1 f2 f3 f4
        obtain ⟨_, e0, e1, e2, e3, e4, _⟩ := v5_facts (five_set Z5.out (.int .i64 (readC s.data.toList).k) (.int .i64 (readC s.data.toList).a) (.int .i64 (readC s.data.toList).b) (.int .i64 (readC s.data.toList).c) (.slice va m cap))
        go_wp2_with fail
        refine bodyPost_ret (v := .tuple #[.agg #[.int .i64 (readC s.data.toList).k, .int .i64 (readC s.data.toList).a, .int .i64 (readC s.data.toList).b, .int .i64 (readC s.data.toList).c, .slice va m cap], .bool (rdCB s.data.toList)]) (by simp [results, Tryz.results8, go_sem, e0, e1, e2, e3, e4]) rfl ⟨va, m, cap, rfl, ?_, hm8, below5 B5.out (Nat.le_refl _) _ _ _ _ _⟩
        exact mine_atR M5.out (((((But.refl w.heap.size w5).setCell 0 _).setCell 1 _).setCell 2 _).setCell 3 _ |>.setCell 4 _) (by omega) (by omega)
      · have t1 : (([100, 114, 111, 112] : List UInt8) == E.toList) = false := by rw [ByteArray.toList_eq, HE.out]; simpa using fun h => hx h.symm
        have Q0 : Hid (FzQ wr.heap.size (.int .i64 3) (.string ⟨#[100, 114, 111, 112]⟩) (.int .i64 1) (.int .i64 9999) (.int .i64 0) (.int .i64 0) (.int .i64 0) (.int .i64 0) (.bool false) (wr.alloc (.cells #[.int .i64 3, .string ⟨#[100, 114, 111, 112]⟩, .int .i64 1, .int .i64 9999, .int .i64 0, .int .i64 0, .int .i64 0, .int .i64 0, .bool false] 38))) := hide (.mk' (v9_new wr _ _ _ _ _ _ _ _ _ _))
        have x2 := hx0.out _ (bstep HB.out NB.out)
        obtain ⟨_, z0, z1, z2, z3, z4, z5, z6, z7, z8, _⟩ := Q0.out
        have HX := hide hx
        clear hx
        go_wp2_with fail
        go_region
        have N1 := hide (Below.drew NB.out)
        obtain ⟨W1, hW1⟩ : ∃ W1, (wr.alloc (.cells #[.int .i64 3, .string ⟨#[100, 114, 111, 112]⟩, .int .i64 1, .int .i64 9999, .int .i64 0, .int .i64 0, .int .i64 0, .int .i64 0, .bool false] 38)).drew = W1 := ⟨_, rfl⟩
        rw [hW1] at N1 ⊢
        clear hW1 x2 xc z0 z1 z2 z3 z4 z5 z6 z7 z8 Q0 NB
        go_wp2_with fail
        go_roundw
        case rel => exact ⟨3, by omega, by go_num, hide (fun j hj => by rcases Nat.lt_succ_iff_lt_or_eq.1 hj with h | rfl; exact HN.out j h; exact HX.out), hide (bstep HB.out N1.out)⟩
        case measure => simp [intOf]
    · have hix : ∀ wx, (Instr.index 50 (.agg formsL.toArray) (.int .i64 3)).run Tryz.prog wx = .ok (.agg #[.int .i64 4, .string ⟨#[98, 117, 105, 108, 100]⟩, .int .i64 0, .int .i64 0, .int .i64 0, .int .i64 0, .int .i64 0, .int .i64 0, .bool false]) wx := fun wx => index_form 3 (by omega) wx
      have NB : Hid (Below wr.heap.size wr (wr.alloc (.cells #[.int .i64 4, .string ⟨#[98, 117, 105, 108, 100]⟩, .int .i64 0, .int .i64 0, .int .i64 0, .int .i64 0, .int .i64 0, .int .i64 0, .bool false] 38))) := hide (balloc (Below.refl _ _) _)
      by_cases hx : x = nmW 4
      · have t1 : (([98, 117, 105, 108, 100] : List UInt8) == E.toList) = true := by rw [ByteArray.toList_eq, HE.out, hx]; decide
        have RD := hide (fun wz (b : Below wr.heap.size wr wz) => read_kind 4 ⟨#[98, 117, 105, 108, 100]⟩ 0 0 0 0 0 0 false s.data.toList g N (c - 1) R wz ((Sr.out.below b).tail) (by omega) HSZ.out (HV.out.below (bstep Br.out b)) (HM.out.below (bstep Br.out b)) rfl (by rw [HW.out, hx]) rfl rfl (fun _ _ _ _ _ => rfl))
        have Q0 : Hid (FzQ wr.heap.size (.int .i64 4) (.string ⟨#[98, 117, 105, 108, 100]⟩) (.int .i64 0) (.int .i64 0) (.int .i64 0) (.int .i64 0) (.int .i64 0) (.int .i64 0) (.bool false) (wr.alloc (.cells #[.int .i64 4, .string ⟨#[98, 117, 105, 108, 100]⟩, .int .i64 0, .int .i64 0, .int .i64 0, .int .i64 0, .int .i64 0, .int .i64 0, .bool false] 38))) := hide (.mk' (v9_new wr _ _ _ _ _ _ _ _ _ _))
        have x2 := hx0.out _ (bstep HB.out NB.out)
        have hc1 : ¬ c = 1 := HCC.out (by rw [hx]; decide)
        have h1N : (1 : Int) ≤ (N : Int) + 1 := by omega
        clear HN hx
        obtain ⟨_, z0, z1, z2, z3, z4, z5, z6, z7, z8, _⟩ := Q0.out
        go_wp2_with fail
        go_region
        have Q1 := hide (Q0.out.below (Below.drew (Below.refl _ _)))
        have N1 := hide (Below.drew NB.out)
        obtain ⟨W1, hW1⟩ : ∃ W1, (wr.alloc (.cells #[.int .i64 4, .string ⟨#[98, 117, 105, 108, 100]⟩, .int .i64 0, .int .i64 0, .int .i64 0, .int .i64 0, .int .i64 0, .int .i64 0, .bool false] 38)).drew = W1 := ⟨_, rfl⟩
        rw [hW1] at Q1 N1 ⊢
        clear hW1 x2 xc z0 z1 z2 z3 z4 z5 z6 z7 z8 Q0 NB
        go_wp2_with fail
        refine wp_region_held_drew (S := fun wx => FzQ wr.heap.size (.int .i64 4) (.string ⟨#[98, 117, 105, 108, 100]⟩) (.int .i64 0) (.int .i64 0) (.int .i64 0) (.int .i64 0) (.int .i64 0) (.int .i64 0) (.bool false) wx) (by kernel_rfl) ((Q1.out.below (Below.drew (Below.refl _ _)))) (fun hH0 => ?_)
        refine wpAnyH_take (i := 0) (oi := { dst := some 19, op := _, type := _, pos := _, after := _, guard := _ }) (v := ?_) rfl (by kernel_rfl) (by kernel_rfl) (by kernel_rfl) (fun _ _ _ h => h) (Or.inl ⟨by rfl, ?_⟩) (hH0) ?_
        rotate_left
        · (intro wx hSw; obtain ⟨_, z0, z1, z2, z3, z4, z5, z6, z7, z8, _⟩ := hSw; go_simp <;> with_reducible rfl)
        simp only [Act.put, List.setIfInBounds_toArray, List.set_cons_zero, List.set_cons_succ]
        refine wpAnyH_take (i := 1) (oi := { dst := some 20, op := _, type := _, pos := _, after := _, guard := _ }) (v := ?_) rfl (by kernel_rfl) (by kernel_rfl) (by kernel_rfl) (fun _ _ _ h => h) (Or.inl ⟨by rfl, ?_⟩) (hH0) ?_
        rotate_left
        · (intro wx hSw; obtain ⟨_, z0, z1, z2, z3, z4, z5, z6, z7, z8, _⟩ := hSw; go_simp <;> with_reducible rfl)
        simp only [Act.put, List.setIfInBounds_toArray, List.set_cons_zero, List.set_cons_succ]
        refine wpAnyH_take (i := 2) (oi := { dst := some 21, op := _, type := _, pos := _, after := _, guard := _ }) (v := ?_) rfl (by kernel_rfl) (by kernel_rfl) (by kernel_rfl) (fun _ _ _ h => h) (Or.inl ⟨by rfl, ?_⟩) (hH0) ?_
        rotate_left
        · (intro wx hSw; obtain ⟨_, z0, z1, z2, z3, z4, z5, z6, z7, z8, _⟩ := hSw; go_simp <;> with_reducible rfl)
        simp only [Act.put, List.setIfInBounds_toArray, List.set_cons_zero, List.set_cons_succ]
        refine wpAnyH_ready (rs := [3]) (by kernel_rfl) (by simp) ?_
        refine AllReadyH.cons (o := { dst := some 22, op := _, type := _, pos := _, after := _, guard := _ }) rfl (fun K hK => ?_) AllReadyH.nil
        go_simp
        refine (RD.out _ (Below.drew N1.out)).mono ?_
        rintro e w5 ⟨va, m, cap, rfl, hm, hm8, hb5⟩
        dsimp only
        refine hK.out _ _ (FzQ.below hH0 hb5) (fun hH1 => ?_)
        clear hK K
        refine wpAnyH_take (i := 4) (oi := { dst := some 23, op := _, type := _, pos := _, after := _, guard := _ }) (v := ?_) rfl (by kernel_rfl) (by kernel_rfl) (by kernel_rfl) (fun _ _ _ h => h) (Or.inl ⟨by rfl, ?_⟩) (hH1) ?_
        rotate_left
        · (intro wx hSw; obtain ⟨_, z0, z1, z2, z3, z4, z5, z6, z7, z8, _⟩ := hSw; go_simp <;> with_reducible rfl)
        simp only [Act.put, List.setIfInBounds_toArray, List.set_cons_zero, List.set_cons_succ]
        refine wpAnyH_take (i := 5) (oi := { dst := some 24, op := _, type := _, pos := _, after := _, guard := _ }) (v := ?_) rfl (by kernel_rfl) (by kernel_rfl) (by kernel_rfl) (fun _ _ _ h => h) (Or.inl ⟨by rfl, ?_⟩) (hH1) ?_
        rotate_left
        · (intro wx hSw; obtain ⟨_, z0, z1, z2, z3, z4, z5, z6, z7, z8, _⟩ := hSw; go_simp <;> with_reducible rfl)
        simp only [Act.put, List.setIfInBounds_toArray, List.set_cons_zero, List.set_cons_succ]
        -- behind it: go_wp2_with fail, then go_meet (a cut) or go_ret; the condition at the end: hH1
        have Z5 := hide (row_belowC (row_belowC (row_belowC Zr.out N1.out) (Below.drew (Below.refl _ _))) hb5)
        have B5 := hide (bstep (bstep (bstep Br.out N1.out) (Below.drew (Below.refl _ _))) hb5)
        have M5 := hide hm
        have l5 : w.heap.size + 1 ≤ W1.drew.heap.size := by have := N1.out.size; simp; omega
        clear hb5 hm RD N1 Q1 hH0
        obtain ⟨_, r0, r1, r2, r3, r4, f0, f1, f2, f3, f4⟩ := v5_facts Z5.out
        refine wpAnyH_ready (rs := [6]) (by kernel_rfl) (by simp) ?_
        refine AllReadyH.cons (o := { dst := none, op := _, type := _, pos := _, after := _, guard := _ }) rfl (fun K hK => ?_) AllReadyH.nil
        go_simp
        refine hK.out _ _ (hH1.set5 lr _ _ _ _ _) (fun hH2 => ?_)
        clear hK K
        refine wpAnyH_ready (rs := [7]) (by kernel_rfl) (by simp) ?_
        refine AllReadyH.cons (o := { dst := some 3, op := _, type := _, pos := _, after := _, guard := _ }) rfl (fun K hK => ?_) AllReadyH.nil
        go_simp
        refine hK.out _ _ hH2 (fun hH3 => ?_)
        clear hK K
        refine wpAnyH_done (by kernel_rfl) ?_ _
        clear hH1 hH2 hH3 r0 r1 r2 r3 r4 f0 f1 f2 f3 f4
        obtain ⟨_, e0, e1, e2, e3, e4, _⟩ := v5_facts (five_set Z5.out (.int .i64 (readC s.data.toList).k) (.int .i64 (readC s.data.toList).a) (.int .i64 (readC s.data.toList).b) (.int .i64 (readC s.data.toList).c) (.slice va m cap))
        go_wp2_with fail
        refine bodyPost_ret (v := .tuple #[.agg #[.int .i64 (readC s.data.toList).k, .int .i64 (readC s.data.toList).a, .int .i64 (readC s.data.toList).b, .int .i64 (readC s.data.toList).c, .slice va m cap], .bool (rdCB s.data.toList)]) (by simp [results, Tryz.results8, go_sem, e0, e1, e2, e3, e4]) rfl ⟨va, m, cap, rfl, ?_, hm8, below5 B5.out (Nat.le_refl _) _ _ _ _ _⟩
        exact mine_atR M5.out (((((But.refl w.heap.size w5).setCell 0 _).setCell 1 _).setCell 2 _).setCell 3 _ |>.setCell 4 _) (by omega) (by omega)
      · have t1 : (([98, 117, 105, 108, 100] : List UInt8) == E.toList) = false := by rw [ByteArray.toList_eq, HE.out]; simpa using fun h => hx h.symm
        have Q0 : Hid (FzQ wr.heap.size (.int .i64 4) (.string ⟨#[98, 117, 105, 108, 100]⟩) (.int .i64 0) (.int .i64 0) (.int .i64 0) (.int .i64 0) (.int .i64 0) (.int .i64 0) (.bool false) (wr.alloc (.cells #[.int .i64 4, .string ⟨#[98, 117, 105, 108, 100]⟩, .int .i64 0, .int .i64 0, .int .i64 0, .int .i64 0, .int .i64 0, .int .i64 0, .bool false] 38))) := hide (.mk' (v9_new wr _ _ _ _ _ _ _ _ _ _))
        have x2 := hx0.out _ (bstep HB.out NB.out)
        obtain ⟨_, z0, z1, z2, z3, z4, z5, z6, z7, z8, _⟩ := Q0.out
        have HX := hide hx
        clear hx
        go_wp2_with fail
        go_region
        have N1 := hide (Below.drew NB.out)
        obtain ⟨W1, hW1⟩ : ∃ W1, (wr.alloc (.cells #[.int .i64 4, .string ⟨#[98, 117, 105, 108, 100]⟩, .int .i64 0, .int .i64 0, .int .i64 0, .int .i64 0, .int .i64 0, .int .i64 0, .bool false] 38)).drew = W1 := ⟨_, rfl⟩
        rw [hW1] at N1 ⊢
        clear hW1 x2 xc z0 z1 z2 z3 z4 z5 z6 z7 z8 Q0 NB
        go_wp2_with fail
        go_roundw
        case rel => exact ⟨4, by omega, by go_num, hide (fun j hj => by rcases Nat.lt_succ_iff_lt_or_eq.1 hj with h | rfl; exact HN.out j h; exact HX.out), hide (bstep HB.out N1.out)⟩
        case measure => simp [intOf]
    · have hix : ∀ wx, (Instr.index 50 (.agg formsL.toArray) (.int .i64 4)).run Tryz.prog wx = .ok (.agg #[.int .i64 5, .string ⟨#[116, 105, 99, 107]⟩, .int .i64 1, .int .i64 60, .int .i64 0, .int .i64 0, .int .i64 0, .int .i64 0, .bool false]) wx := fun wx => index_form 4 (by omega) wx
      have NB : Hid (Below wr.heap.size wr (wr.alloc (.cells #[.int .i64 5, .string ⟨#[116, 105, 99, 107]⟩, .int .i64 1, .int .i64 60, .int .i64 0, .int .i64 0, .int .i64 0, .int .i64 0, .bool false] 38))) := hide (balloc (Below.refl _ _) _)
      by_cases hx : x = nmW 5
      · have t1 : (([116, 105, 99, 107] : List UInt8) == E.toList) = true := by rw [ByteArray.toList_eq, HE.out, hx]; decide
        have RD := hide (fun wz (b : Below wr.heap.size wr wz) => read_kind 5 ⟨#[116, 105, 99, 107]⟩ 1 60 0 0 0 0 false s.data.toList g N (c - 1) R wz ((Sr.out.below b).tail) (by omega) HSZ.out (HV.out.below (bstep Br.out b)) (HM.out.below (bstep Br.out b)) rfl (by rw [HW.out, hx]) rfl rfl (fun _ _ _ _ _ => rfl))
        have Q0 : Hid (FzQ wr.heap.size (.int .i64 5) (.string ⟨#[116, 105, 99, 107]⟩) (.int .i64 1) (.int .i64 60) (.int .i64 0) (.int .i64 0) (.int .i64 0) (.int .i64 0) (.bool false) (wr.alloc (.cells #[.int .i64 5, .string ⟨#[116, 105, 99, 107]⟩, .int .i64 1, .int .i64 60, .int .i64 0, .int .i64 0, .int .i64 0, .int .i64 0, .bool false] 38))) := hide (.mk' (v9_new wr _ _ _ _ _ _ _ _ _ _))
        have x2 := hx0.out _ (bstep HB.out NB.out)
        have hc1 : ¬ c = 1 := HCC.out (by rw [hx]; decide)
        have h1N : (1 : Int) ≤ (N : Int) + 1 := by omega
        clear HN hx
        obtain ⟨_, z0, z1, z2, z3, z4, z5, z6, z7, z8, _⟩ := Q0.out
        go_wp2_with fail
        go_region
        have Q1 := hide (Q0.out.below (Below.drew (Below.refl _ _)))
        have N1 := hide (Below.drew NB.out)
        obtain ⟨W1, hW1⟩ : ∃ W1, (wr.alloc (.cells #[.int .i64 5, .string ⟨#[116, 105, 99, 107]⟩, .int .i64 1, .int .i64 60, .int .i64 0, .int .i64 0, .int .i64 0, .int .i64 0, .bool false] 38)).drew = W1 := ⟨_, rfl⟩
        rw [hW1] at Q1 N1 ⊢
        clear hW1 x2 xc z0 z1 z2 z3 z4 z5 z6 z7 z8 Q0 NB
        go_wp2_with fail
        refine wp_region_held_drew (S := fun wx => FzQ wr.heap.size (.int .i64 5) (.string ⟨#[116, 105, 99, 107]⟩) (.int .i64 1) (.int .i64 60) (.int .i64 0) (.int .i64 0) (.int .i64 0) (.int .i64 0) (.bool false) wx) (by kernel_rfl) ((Q1.out.below (Below.drew (Below.refl _ _)))) (fun hH0 => ?_)
        refine wpAnyH_take (i := 0) (oi := { dst := some 19, op := _, type := _, pos := _, after := _, guard := _ }) (v := ?_) rfl (by kernel_rfl) (by kernel_rfl) (by kernel_rfl) (fun _ _ _ h => h) (Or.inl ⟨by rfl, ?_⟩) (hH0) ?_
        rotate_left
        · (intro wx hSw; obtain ⟨_, z0, z1, z2, z3, z4, z5, z6, z7, z8, _⟩ := hSw; go_simp <;> with_reducible rfl)
        simp only [Act.put, List.setIfInBounds_toArray, List.set_cons_zero, List.set_cons_succ]
        refine wpAnyH_take (i := 1) (oi := { dst := some 20, op := _, type := _, pos := _, after := _, guard := _ }) (v := ?_) rfl (by kernel_rfl) (by kernel_rfl) (by kernel_rfl) (fun _ _ _ h => h) (Or.inl ⟨by rfl, ?_⟩) (hH0) ?_
        rotate_left
        · (intro wx hSw; obtain ⟨_, z0, z1, z2, z3, z4, z5, z6, z7, z8, _⟩ := hSw; go_simp <;> with_reducible rfl)
        simp only [Act.put, List.setIfInBounds_toArray, List.set_cons_zero, List.set_cons_succ]
        refine wpAnyH_take (i := 2) (oi := { dst := some 21, op := _, type := _, pos := _, after := _, guard := _ }) (v := ?_) rfl (by kernel_rfl) (by kernel_rfl) (by kernel_rfl) (fun _ _ _ h => h) (Or.inl ⟨by rfl, ?_⟩) (hH0) ?_
        rotate_left
        · (intro wx hSw; obtain ⟨_, z0, z1, z2, z3, z4, z5, z6, z7, z8, _⟩ := hSw; go_simp <;> with_reducible rfl)
        simp only [Act.put, List.setIfInBounds_toArray, List.set_cons_zero, List.set_cons_succ]
        refine wpAnyH_ready (rs := [3]) (by kernel_rfl) (by simp) ?_
        refine AllReadyH.cons (o := { dst := some 22, op := _, type := _, pos := _, after := _, guard := _ }) rfl (fun K hK => ?_) AllReadyH.nil
        go_simp
        refine (RD.out _ (Below.drew N1.out)).mono ?_
        rintro e w5 ⟨va, m, cap, rfl, hm, hm8, hb5⟩
        dsimp only
        refine hK.out _ _ (FzQ.below hH0 hb5) (fun hH1 => ?_)
        clear hK K
        refine wpAnyH_take (i := 4) (oi := { dst := some 23, op := _, type := _, pos := _, after := _, guard := _ }) (v := ?_) rfl (by kernel_rfl) (by kernel_rfl) (by kernel_rfl) (fun _ _ _ h => h) (Or.inl ⟨by rfl, ?_⟩) (hH1) ?_
        rotate_left
        · (intro wx hSw; obtain ⟨_, z0, z1, z2, z3, z4, z5, z6, z7, z8, _⟩ := hSw; go_simp <;> with_reducible rfl)
        simp only [Act.put, List.setIfInBounds_toArray, List.set_cons_zero, List.set_cons_succ]
        refine wpAnyH_take (i := 5) (oi := { dst := some 24, op := _, type := _, pos := _, after := _, guard := _ }) (v := ?_) rfl (by kernel_rfl) (by kernel_rfl) (by kernel_rfl) (fun _ _ _ h => h) (Or.inl ⟨by rfl, ?_⟩) (hH1) ?_
        rotate_left
        · (intro wx hSw; obtain ⟨_, z0, z1, z2, z3, z4, z5, z6, z7, z8, _⟩ := hSw; go_simp <;> with_reducible rfl)
        simp only [Act.put, List.setIfInBounds_toArray, List.set_cons_zero, List.set_cons_succ]
        -- behind it: go_wp2_with fail, then go_meet (a cut) or go_ret; the condition at the end: hH1
        have Z5 := hide (row_belowC (row_belowC (row_belowC Zr.out N1.out) (Below.drew (Below.refl _ _))) hb5)
        have B5 := hide (bstep (bstep (bstep Br.out N1.out) (Below.drew (Below.refl _ _))) hb5)
        have M5 := hide hm
        have l5 : w.heap.size + 1 ≤ W1.drew.heap.size := by have := N1.out.size; simp; omega
        clear hb5 hm RD N1 Q1 hH0
        obtain ⟨_, r0, r1, r2, r3, r4, f0, f1, f2, f3, f4⟩ := v5_facts Z5.out
        refine wpAnyH_ready (rs := [6]) (by kernel_rfl) (by simp) ?_
        refine AllReadyH.cons (o := { dst := none, op := _, type := _, pos := _, after := _, guard := _ }) rfl (fun K hK => ?_) AllReadyH.nil
        go_simp
        refine hK.out _ _ (hH1.set5 lr _ _ _ _ _) (fun hH2 => ?_)
        clear hK K
        refine wpAnyH_ready (rs := [7]) (by kernel_rfl) (by simp) ?_
        refine AllReadyH.cons (o := { dst := some 3, op := _, type := _, pos := _, after := _, guard := _ }) rfl (fun K hK => ?_) AllReadyH.nil
        go_simp
        refine hK.out _ _ hH2 (fun hH3 => ?_)
        clear hK K
        refine wpAnyH_done (by kernel_rfl) ?_ _
        clear hH1 hH2 hH3 r0 r1 r2 r3 r4 f0 f1 f2 f3 f4
        obtain ⟨_, e0, e1, e2, e3, e4, _⟩ := v5_facts (five_set Z5.out (.int .i64 (readC s.data.toList).k) (.int .i64 (readC s.data.toList).a) (.int .i64 (readC s.data.toList).b) (.int .i64 (readC s.data.toList).c) (.slice va m cap))
        go_wp2_with fail
        refine bodyPost_ret (v := .tuple #[.agg #[.int .i64 (readC s.data.toList).k, .int .i64 (readC s.data.toList).a, .int .i64 (readC s.data.toList).b, .int .i64 (readC s.data.toList).c, .slice va m cap], .bool (rdCB s.data.toList)]) (by simp [results, Tryz.results8, go_sem, e0, e1, e2, e3, e4]) rfl ⟨va, m, cap, rfl, ?_, hm8, below5 B5.out (Nat.le_refl _) _ _ _ _ _⟩
        exact mine_atR M5.out (((((But.refl w.heap.size w5).setCell 0 _).setCell 1 _).setCell 2 _).setCell 3 _ |>.setCell 4 _) (by omega) (by omega)
      · have t1 : (([116, 105, 99, 107] : List UInt8) == E.toList) = false := by rw [ByteArray.toList_eq, HE.out]; simpa using fun h => hx h.symm
        have Q0 : Hid (FzQ wr.heap.size (.int .i64 5) (.string ⟨#[116, 105, 99, 107]⟩) (.int .i64 1) (.int .i64 60) (.int .i64 0) (.int .i64 0) (.int .i64 0) (.int .i64 0) (.bool false) (wr.alloc (.cells #[.int .i64 5, .string ⟨#[116, 105, 99, 107]⟩, .int .i64 1, .int .i64 60, .int .i64 0, .int .i64 0, .int .i64 0, .int .i64 0, .bool false] 38))) := hide (.mk' (v9_new wr _ _ _ _ _ _ _ _ _ _))
        have x2 := hx0.out _ (bstep HB.out NB.out)
        obtain ⟨_, z0, z1, z2, z3, z4, z5, z6, z7, z8, _⟩ := Q0.out
        have HX := hide hx
        clear hx
        go_wp2_with fail
        go_region
        have N1 := hide (Below.drew NB.out)
        obtain ⟨W1, hW1⟩ : ∃ W1, (wr.alloc (.cells #[.int .i64 5, .string ⟨#[116, 105, 99, 107]⟩, .int .i64 1, .int .i64 60, .int .i64 0, .int .i64 0, .int .i64 0, .int .i64 0, .bool false] 38)).drew = W1 := ⟨_, rfl⟩
        rw [hW1] at N1 ⊢
        clear hW1 x2 xc z0 z1 z2 z3 z4 z5 z6 z7 z8 Q0 NB
        go_wp2_with fail
        go_roundw
        case rel => exact ⟨5, by omega, by go_num, hide (fun j hj => by rcases Nat.lt_succ_iff_lt_or_eq.1 hj with h | rfl; exact HN.out j h; exact HX.out), hide (bstep HB.out N1.out)⟩
        case measure => simp [intOf]
    · have hix : ∀ wx, (Instr.index 50 (.agg formsL.toArray) (.int .i64 5)).run Tryz.prog wx = .ok (.agg #[.int .i64 6, .string ⟨#[110, 101, 97, 114]⟩, .int .i64 1, .int .i64 20, .int .i64 0, .int .i64 255, .int .i64 0, .int .i64 1000, .bool true]) wx := fun wx => index_form 5 (by omega) wx
      have NB : Hid (Below wr.heap.size wr (wr.alloc (.cells #[.int .i64 6, .string ⟨#[110, 101, 97, 114]⟩, .int .i64 1, .int .i64 20, .int .i64 0, .int .i64 255, .int .i64 0, .int .i64 1000, .bool true] 38))) := hide (balloc (Below.refl _ _) _)
      by_cases hx : x = nmW 6
      · have t1 : (([110, 101, 97, 114] : List UInt8) == E.toList) = true := by rw [ByteArray.toList_eq, HE.out, hx]; decide
        have RD := hide (fun wz (b : Below wr.heap.size wr wz) => read_kind 6 ⟨#[110, 101, 97, 114]⟩ 1 20 0 255 0 1000 true s.data.toList g N (c - 1) R wz ((Sr.out.below b).tail) (by omega) HSZ.out (HV.out.below (bstep Br.out b)) (HM.out.below (bstep Br.out b)) rfl (by rw [HW.out, hx]) rfl rfl (fun _ _ _ _ _ => rfl))
        have Q0 : Hid (FzQ wr.heap.size (.int .i64 6) (.string ⟨#[110, 101, 97, 114]⟩) (.int .i64 1) (.int .i64 20) (.int .i64 0) (.int .i64 255) (.int .i64 0) (.int .i64 1000) (.bool true) (wr.alloc (.cells #[.int .i64 6, .string ⟨#[110, 101, 97, 114]⟩, .int .i64 1, .int .i64 20, .int .i64 0, .int .i64 255, .int .i64 0, .int .i64 1000, .bool true] 38))) := hide (.mk' (v9_new wr _ _ _ _ _ _ _ _ _ _))
        have x2 := hx0.out _ (bstep HB.out NB.out)
        have hc1 : ¬ c = 1 := HCC.out (by rw [hx]; decide)
        have h1N : (1 : Int) ≤ (N : Int) + 1 := by omega
        clear HN hx
        obtain ⟨_, z0, z1, z2, z3, z4, z5, z6, z7, z8, _⟩ := Q0.out
        go_wp2_with fail
        go_region
        have Q1 := hide (Q0.out.below (Below.drew (Below.refl _ _)))
        have N1 := hide (Below.drew NB.out)
        obtain ⟨W1, hW1⟩ : ∃ W1, (wr.alloc (.cells #[.int .i64 6, .string ⟨#[110, 101, 97, 114]⟩, .int .i64 1, .int .i64 20, .int .i64 0, .int .i64 255, .int .i64 0, .int .i64 1000, .bool true] 38)).drew = W1 := ⟨_, rfl⟩
        rw [hW1] at Q1 N1 ⊢
        clear hW1 x2 xc z0 z1 z2 z3 z4 z5 z6 z7 z8 Q0 NB
        go_wp2_with fail
        refine wp_region_held_drew (S := fun wx => FzQ wr.heap.size (.int .i64 6) (.string ⟨#[110, 101, 97, 114]⟩) (.int .i64 1) (.int .i64 20) (.int .i64 0) (.int .i64 255) (.int .i64 0) (.int .i64 1000) (.bool true) wx) (by kernel_rfl) ((Q1.out.below (Below.drew (Below.refl _ _)))) (fun hH0 => ?_)
        refine wpAnyH_take (i := 0) (oi := { dst := some 19, op := _, type := _, pos := _, after := _, guard := _ }) (v := ?_) rfl (by kernel_rfl) (by kernel_rfl) (by kernel_rfl) (fun _ _ _ h => h) (Or.inl ⟨by rfl, ?_⟩) (hH0) ?_
        rotate_left
        · (intro wx hSw; obtain ⟨_, z0, z1, z2, z3, z4, z5, z6, z7, z8, _⟩ := hSw; go_simp <;> with_reducible rfl)
        simp only [Act.put, List.setIfInBounds_toArray, List.set_cons_zero, List.set_cons_succ]
        refine wpAnyH_take (i := 1) (oi := { dst := some 20, op := _, type := _, pos := _, after := _, guard := _ }) (v := ?_) rfl (by kernel_rfl) (by kernel_rfl) (by kernel_rfl) (fun _ _ _ h => h) (Or.inl ⟨by rfl, ?_⟩) (hH0) ?_
        rotate_left
        · (intro wx hSw; obtain ⟨_, z0, z1, z2, z3, z4, z5, z6, z7, z8, _⟩ := hSw; go_simp <;> with_reducible rfl)
        simp only [Act.put, List.setIfInBounds_toArray, List.set_cons_zero, List.set_cons_succ]
        refine wpAnyH_take (i := 2) (oi := { dst := some 21, op := _, type := _, pos := _, after := _, guard := _ }) (v := ?_) rfl (by kernel_rfl) (by kernel_rfl) (by kernel_rfl) (fun _ _ _ h => h) (Or.inl ⟨by rfl, ?_⟩) (hH0) ?_
        rotate_left
        · (intro wx hSw; obtain ⟨_, z0, z1, z2, z3, z4, z5, z6, z7, z8, _⟩ := hSw; go_simp <;> with_reducible rfl)
        simp only [Act.put, List.setIfInBounds_toArray, List.set_cons_zero, List.set_cons_succ]
        refine wpAnyH_ready (rs := [3]) (by kernel_rfl) (by simp) ?_
        refine AllReadyH.cons (o := { dst := some 22, op := _, type := _, pos := _, after := _, guard := _ }) rfl (fun K hK => ?_) AllReadyH.nil
        go_simp
        refine (RD.out _ (Below.drew N1.out)).mono ?_
        rintro e w5 ⟨va, m, cap, rfl, hm, hm8, hb5⟩
        dsimp only
        refine hK.out _ _ (FzQ.below hH0 hb5) (fun hH1 => ?_)
        clear hK K
        refine wpAnyH_take (i := 4) (oi := { dst := some 23, op := _, type := _, pos := _, after := _, guard := _ }) (v := ?_) rfl (by kernel_rfl) (by kernel_rfl) (by kernel_rfl) (fun _ _ _ h => h) (Or.inl ⟨by rfl, ?_⟩) (hH1) ?_
        rotate_left
        · (intro wx hSw; obtain ⟨_, z0, z1, z2, z3, z4, z5, z6, z7, z8, _⟩ := hSw; go_simp <;> with_reducible rfl)
        simp only [Act.put, List.setIfInBounds_toArray, List.set_cons_zero, List.set_cons_succ]
        refine wpAnyH_take (i := 5) (oi := { dst := some 24, op := _, type := _, pos := _, after := _, guard := _ }) (v := ?_) rfl (by kernel_rfl) (by kernel_rfl) (by kernel_rfl) (fun _ _ _ h => h) (Or.inl ⟨by rfl, ?_⟩) (hH1) ?_
        rotate_left
        · (intro wx hSw; obtain ⟨_, z0, z1, z2, z3, z4, z5, z6, z7, z8, _⟩ := hSw; go_simp <;> with_reducible rfl)
        simp only [Act.put, List.setIfInBounds_toArray, List.set_cons_zero, List.set_cons_succ]
        -- behind it: go_wp2_with fail, then go_meet (a cut) or go_ret; the condition at the end: hH1
        have Z5 := hide (row_belowC (row_belowC (row_belowC Zr.out N1.out) (Below.drew (Below.refl _ _))) hb5)
        have B5 := hide (bstep (bstep (bstep Br.out N1.out) (Below.drew (Below.refl _ _))) hb5)
        have M5 := hide hm
        have l5 : w.heap.size + 1 ≤ W1.drew.heap.size := by have := N1.out.size; simp; omega
        clear hb5 hm RD N1 Q1 hH0
        obtain ⟨_, r0, r1, r2, r3, r4, f0, f1, f2, f3, f4⟩ := v5_facts Z5.out
        refine wpAnyH_ready (rs := [6]) (by kernel_rfl) (by simp) ?_
        refine AllReadyH.cons (o := { dst := none, op := _, type := _, pos := _, after := _, guard := _ }) rfl (fun K hK => ?_) AllReadyH.nil
        go_simp
        refine hK.out _ _ (hH1.set5 lr _ _ _ _ _) (fun hH2 => ?_)
        clear hK K
        refine wpAnyH_ready (rs := [7]) (by kernel_rfl) (by simp) ?_
        refine AllReadyH.cons (o := { dst := some 3, op := _, type := _, pos := _, after := _, guard := _ }) rfl (fun K hK => ?_) AllReadyH.nil
        go_simp
        refine hK.out _ _ hH2 (fun hH3 => ?_)
        clear hK K
        refine wpAnyH_done (by kernel_rfl) ?_ _
        clear hH1 hH2 hH3 r0 r1 r2 r3 r4 f0 f1 f2 f3 f4
        obtain ⟨_, e0, e1, e2, e3, e4, _⟩ := v5_facts (five_set Z5.out (.int .i64 (readC s.data.toList).k) (.int .i64 (readC s.data.toList).a) (.int .i64 (readC s.data.toList).b) (.int .i64 (readC s.data.toList).c) (.slice va m cap))
        go_wp2_with fail
        refine bodyPost_ret (v := .tuple #[.agg #[.int .i64 (readC s.data.toList).k, .int .i64 (readC s.data.toList).a, .int .i64 (readC s.data.toList).b, .int .i64 (readC s.data.toList).c, .slice va m cap], .bool (rdCB s.data.toList)]) (by simp [results, Tryz.results8, go_sem, e0, e1, e2, e3, e4]) rfl ⟨va, m, cap, rfl, ?_, hm8, below5 B5.out (Nat.le_refl _) _ _ _ _ _⟩
        exact mine_atR M5.out (((((But.refl w.heap.size w5).setCell 0 _).setCell 1 _).setCell 2 _).setCell 3 _ |>.setCell 4 _) (by omega) (by omega)
      · have t1 : (([110, 101, 97, 114] : List UInt8) == E.toList) = false := by rw [ByteArray.toList_eq, HE.out]; simpa using fun h => hx h.symm
        have Q0 : Hid (FzQ wr.heap.size (.int .i64 6) (.string ⟨#[110, 101, 97, 114]⟩) (.int .i64 1) (.int .i64 20) (.int .i64 0) (.int .i64 255) (.int .i64 0) (.int .i64 1000) (.bool true) (wr.alloc (.cells #[.int .i64 6, .string ⟨#[110, 101, 97, 114]⟩, .int .i64 1, .int .i64 20, .int .i64 0, .int .i64 255, .int .i64 0, .int .i64 1000, .bool true] 38))) := hide (.mk' (v9_new wr _ _ _ _ _ _ _ _ _ _))
        have x2 := hx0.out _ (bstep HB.out NB.out)
        obtain ⟨_, z0, z1, z2, z3, z4, z5, z6, z7, z8, _⟩ := Q0.out
        have HX := hide hx
        clear hx
        go_wp2_with fail
        go_region
        have N1 := hide (Below.drew NB.out)
        obtain ⟨W1, hW1⟩ : ∃ W1, (wr.alloc (.cells #[.int .i64 6, .string ⟨#[110, 101, 97, 114]⟩, .int .i64 1, .int .i64 20, .int .i64 0, .int .i64 255, .int .i64 0, .int .i64 1000, .bool true] 38)).drew = W1 := ⟨_, rfl⟩
        rw [hW1] at N1 ⊢
        clear hW1 x2 xc z0 z1 z2 z3 z4 z5 z6 z7 z8 Q0 NB
        go_wp2_with fail
        go_roundw
        case rel => exact ⟨6, by omega, by go_num, hide (fun j hj => by rcases Nat.lt_succ_iff_lt_or_eq.1 hj with h | rfl; exact HN.out j h; exact HX.out), hide (bstep HB.out N1.out)⟩
        case measure => simp [intOf]
    · have hix : ∀ wx, (Instr.index 50 (.agg formsL.toArray) (.int .i64 6)).run Tryz.prog wx = .ok (.agg #[.int .i64 7, .string ⟨#[119, 105, 116, 104, 105, 110]⟩, .int .i64 0, .int .i64 1125899906842624, .int .i64 0, .int .i64 255, .int .i64 0, .int .i64 1000, .bool true]) wx := fun wx => index_form 6 (by omega) wx
      have NB : Hid (Below wr.heap.size wr (wr.alloc (.cells #[.int .i64 7, .string ⟨#[119, 105, 116, 104, 105, 110]⟩, .int .i64 0, .int .i64 1125899906842624, .int .i64 0, .int .i64 255, .int .i64 0, .int .i64 1000, .bool true] 38))) := hide (balloc (Below.refl _ _) _)
      by_cases hx : x = nmW 7
      · have t1 : (([119, 105, 116, 104, 105, 110] : List UInt8) == E.toList) = true := by rw [ByteArray.toList_eq, HE.out, hx]; decide
        have RD := hide (fun wz (b : Below wr.heap.size wr wz) => read_kind 7 ⟨#[119, 105, 116, 104, 105, 110]⟩ 0 1125899906842624 0 255 0 1000 true s.data.toList g N (c - 1) R wz ((Sr.out.below b).tail) (by omega) HSZ.out (HV.out.below (bstep Br.out b)) (HM.out.below (bstep Br.out b)) rfl (by rw [HW.out, hx]) rfl rfl (fun _ _ _ _ _ => rfl))
        have Q0 : Hid (FzQ wr.heap.size (.int .i64 7) (.string ⟨#[119, 105, 116, 104, 105, 110]⟩) (.int .i64 0) (.int .i64 1125899906842624) (.int .i64 0) (.int .i64 255) (.int .i64 0) (.int .i64 1000) (.bool true) (wr.alloc (.cells #[.int .i64 7, .string ⟨#[119, 105, 116, 104, 105, 110]⟩, .int .i64 0, .int .i64 1125899906842624, .int .i64 0, .int .i64 255, .int .i64 0, .int .i64 1000, .bool true] 38))) := hide (.mk' (v9_new wr _ _ _ _ _ _ _ _ _ _))
        have x2 := hx0.out _ (bstep HB.out NB.out)
        have hc1 : ¬ c = 1 := HCC.out (by rw [hx]; decide)
        have h1N : (1 : Int) ≤ (N : Int) + 1 := by omega
        clear HN hx
        obtain ⟨_, z0, z1, z2, z3, z4, z5, z6, z7, z8, _⟩ := Q0.out
        go_wp2_with fail
        go_region
        have Q1 := hide (Q0.out.below (Below.drew (Below.refl _ _)))
        have N1 := hide (Below.drew NB.out)
        obtain ⟨W1, hW1⟩ : ∃ W1, (wr.alloc (.cells #[.int .i64 7, .string ⟨#[119, 105, 116, 104, 105, 110]⟩, .int .i64 0, .int .i64 1125899906842624, .int .i64 0, .int .i64 255, .int .i64 0, .int .i64 1000, .bool true] 38)).drew = W1 := ⟨_, rfl⟩
        rw [hW1] at Q1 N1 ⊢
        clear hW1 x2 xc z0 z1 z2 z3 z4 z5 z6 z7 z8 Q0 NB
        go_wp2_with fail
        refine wp_region_held_drew (S := fun wx => FzQ wr.heap.size (.int .i64 7) (.string ⟨#[119, 105, 116, 104, 105, 110]⟩) (.int .i64 0) (.int .i64 1125899906842624) (.int .i64 0) (.int .i64 255) (.int .i64 0) (.int .i64 1000) (.bool true) wx) (by kernel_rfl) ((Q1.out.below (Below.drew (Below.refl _ _)))) (fun hH0 => ?_)
        refine wpAnyH_take (i := 0) (oi := { dst := some 19, op := _, type := _, pos := _, after := _, guard := _ }) (v := ?_) rfl (by kernel_rfl) (by kernel_rfl) (by kernel_rfl) (fun _ _ _ h => h) (Or.inl ⟨by rfl, ?_⟩) (hH0) ?_
        rotate_left
        · (intro wx hSw; obtain ⟨_, z0, z1, z2, z3, z4, z5, z6, z7, z8, _⟩ := hSw; go_simp <;> with_reducible rfl)
        simp only [Act.put, List.setIfInBounds_toArray, List.set_cons_zero, List.set_cons_succ]
        refine wpAnyH_take (i := 1) (oi := { dst := some 20, op := _, type := _, pos := _, after := _, guard := _ }) (v := ?_) rfl (by kernel_rfl) (by kernel_rfl) (by kernel_rfl) (fun _ _ _ h => h) (Or.inl ⟨by rfl, ?_⟩) (hH0) ?_
        rotate_left
        · (intro wx hSw; obtain ⟨_, z0, z1, z2, z3, z4, z5, z6, z7, z8, _⟩ := hSw; go_simp <;> with_reducible rfl)
        simp only [Act.put, List.setIfInBounds_toArray, List.set_cons_zero, List.set_cons_succ]
        refine wpAnyH_take (i := 2) (oi := { dst := some 21, op := _, type := _, pos := _, after := _, guard := _ }) (v := ?_) rfl (by kernel_rfl) (by kernel_rfl) (by kernel_rfl) (fun _ _ _ h => h) (Or.inl ⟨by rfl, ?_⟩) (hH0) ?_
        rotate_left
        · (intro wx hSw; obtain ⟨_, z0, z1, z2, z3, z4, z5, z6, z7, z8, _⟩ := hSw; go_simp <;> with_reducible rfl)
        simp only [Act.put, List.setIfInBounds_toArray, List.set_cons_zero, List.set_cons_succ]
        refine wpAnyH_ready (rs := [3]) (by kernel_rfl) (by simp) ?_
        refine AllReadyH.cons (o := { dst := some 22, op := _, type := _, pos := _, after := _, guard := _ }) rfl (fun K hK => ?_) AllReadyH.nil
        go_simp
        refine (RD.out _ (Below.drew N1.out)).mono ?_
        rintro e w5 ⟨va, m, cap, rfl, hm, hm8, hb5⟩
        dsimp only
        refine hK.out _ _ (FzQ.below hH0 hb5) (fun hH1 => ?_)
        clear hK K
        refine wpAnyH_take (i := 4) (oi := { dst := some 23, op := _, type := _, pos := _, after := _, guard := _ }) (v := ?_) rfl (by kernel_rfl) (by kernel_rfl) (by kernel_rfl) (fun _ _ _ h => h) (Or.inl ⟨by rfl, ?_⟩) (hH1) ?_
        rotate_left
        · (intro wx hSw; obtain ⟨_, z0, z1, z2, z3, z4, z5, z6, z7, z8, _⟩ := hSw; go_simp <;> with_reducible rfl)
        simp only [Act.put, List.setIfInBounds_toArray, List.set_cons_zero, List.set_cons_succ]
        refine wpAnyH_take (i := 5) (oi := { dst := some 24, op := _, type := _, pos := _, after := _, guard := _ }) (v := ?_) rfl (by kernel_rfl) (by kernel_rfl) (by kernel_rfl) (fun _ _ _ h => h) (Or.inl ⟨by rfl, ?_⟩) (hH1) ?_
        rotate_left
        · (intro wx hSw; obtain ⟨_, z0, z1, z2, z3, z4, z5, z6, z7, z8, _⟩ := hSw; go_simp <;> with_reducible rfl)
        simp only [Act.put, List.setIfInBounds_toArray, List.set_cons_zero, List.set_cons_succ]
        -- behind it: go_wp2_with fail, then go_meet (a cut) or go_ret; the condition at the end: hH1
        have Z5 := hide (row_belowC (row_belowC (row_belowC Zr.out N1.out) (Below.drew (Below.refl _ _))) hb5)
        have B5 := hide (bstep (bstep (bstep Br.out N1.out) (Below.drew (Below.refl _ _))) hb5)
        have M5 := hide hm
        have l5 : w.heap.size + 1 ≤ W1.drew.heap.size := by have := N1.out.size; simp; omega
        clear hb5 hm RD N1 Q1 hH0
        obtain ⟨_, r0, r1, r2, r3, r4, f0, f1, f2, f3, f4⟩ := v5_facts Z5.out
        refine wpAnyH_ready (rs := [6]) (by kernel_rfl) (by simp) ?_
        refine AllReadyH.cons (o := { dst := none, op := _, type := _, pos := _, after := _, guard := _ }) rfl (fun K hK => ?_) AllReadyH.nil
        go_simp
        refine hK.out _ _ (hH1.set5 lr _ _ _ _ _) (fun hH2 => ?_)
        clear hK K
        refine wpAnyH_ready (rs := [7]) (by kernel_rfl) (by simp) ?_
        refine AllReadyH.cons (o := { dst := some 3, op := _, type := _, pos := _, after := _, guard := _ }) rfl (fun K hK => ?_) AllReadyH.nil
        go_simp
        refine hK.out _ _ hH2 (fun hH3 => ?_)
        clear hK K
        refine wpAnyH_done (by kernel_rfl) ?_ _
        clear hH1 hH2 hH3 r0 r1 r2 r3 r4 f0 f1 f2 f3 f4
        obtain ⟨_, e0, e1, e2, e3, e4, _⟩ := v5_facts (five_set Z5.out (.int .i64 (readC s.data.toList).k) (.int .i64 (readC s.data.toList).a) (.int .i64 (readC s.data.toList).b) (.int .i64 (readC s.data.toList).c) (.slice va m cap))
        go_wp2_with fail
        refine bodyPost_ret (v := .tuple #[.agg #[.int .i64 (readC s.data.toList).k, .int .i64 (readC s.data.toList).a, .int .i64 (readC s.data.toList).b, .int .i64 (readC s.data.toList).c, .slice va m cap], .bool (rdCB s.data.toList)]) (by simp [results, Tryz.results8, go_sem, e0, e1, e2, e3, e4]) rfl ⟨va, m, cap, rfl, ?_, hm8, below5 B5.out (Nat.le_refl _) _ _ _ _ _⟩
        exact mine_atR M5.out (((((But.refl w.heap.size w5).setCell 0 _).setCell 1 _).setCell 2 _).setCell 3 _ |>.setCell 4 _) (by omega) (by omega)
      · have t1 : (([119, 105, 116, 104, 105, 110] : List UInt8) == E.toList) = false := by rw [ByteArray.toList_eq, HE.out]; simpa using fun h => hx h.symm
        have Q0 : Hid (FzQ wr.heap.size (.int .i64 7) (.string ⟨#[119, 105, 116, 104, 105, 110]⟩) (.int .i64 0) (.int .i64 1125899906842624) (.int .i64 0) (.int .i64 255) (.int .i64 0) (.int .i64 1000) (.bool true) (wr.alloc (.cells #[.int .i64 7, .string ⟨#[119, 105, 116, 104, 105, 110]⟩, .int .i64 0, .int .i64 1125899906842624, .int .i64 0, .int .i64 255, .int .i64 0, .int .i64 1000, .bool true] 38))) := hide (.mk' (v9_new wr _ _ _ _ _ _ _ _ _ _))
        have x2 := hx0.out _ (bstep HB.out NB.out)
        obtain ⟨_, z0, z1, z2, z3, z4, z5, z6, z7, z8, _⟩ := Q0.out
        have HX := hide hx
        clear hx
        go_wp2_with fail
        go_region
        have N1 := hide (Below.drew NB.out)
        obtain ⟨W1, hW1⟩ : ∃ W1, (wr.alloc (.cells #[.int .i64 7, .string ⟨#[119, 105, 116, 104, 105, 110]⟩, .int .i64 0, .int .i64 1125899906842624, .int .i64 0, .int .i64 255, .int .i64 0, .int .i64 1000, .bool true] 38)).drew = W1 := ⟨_, rfl⟩
        rw [hW1] at N1 ⊢
        clear hW1 x2 xc z0 z1 z2 z3 z4 z5 z6 z7 z8 Q0 NB
        go_wp2_with fail
        go_roundw
        case rel => exact ⟨7, by omega, by go_num, hide (fun j hj => by rcases Nat.lt_succ_iff_lt_or_eq.1 hj with h | rfl; exact HN.out j h; exact HX.out), hide (bstep HB.out N1.out)⟩
        case measure => simp [intOf]
    · have NO := hide (rd_none HW.out HN.out)
      clear HN xc hx0
      obtain ⟨_, r0, r1, r2, r3, r4, f0, f1, f2, f3, f4⟩ := v5_facts Zr.out
      go_wp2_with fail
      obtain ⟨_, e0, e1, e2, e3, e4, _⟩ := v5_facts (five_set Zr.out (.int .i64 0) (.int .i64 0) (.int .i64 0) (.int .i64 0) (.slice none 0 0))
      refine bodyPost_ret (v := .tuple #[.agg #[.int .i64 0, .int .i64 0, .int .i64 0, .int .i64 0, .slice none 0 0], .bool false]) (by simp [results, Tryz.results8, go_sem, e0, e1, e2, e3, e4]) rfl ?_
      unfold IRdC readC
      rw [NO.out]
      exact ⟨none, 0, 0, rfl, ⟨rfl, .inl ⟨rfl, rfl⟩⟩, by omega, below5 Br.out (Nat.le_refl _) _ _ _ _ _⟩
end Go.Proofs.YtggjcccdeaadbaaGreatDoor
/- ReadCmd of the model: its parts. -/
namespace Go.Proofs.YtggjcccdeaadbaaGreatDoor
open Go.RowKit
set_option maxRecDepth 8000
set_option linter.unusedSimpArgs false
set_option linter.unusedVariables false

theorem strs_own {w : World} {B : Nat} {v : Value} {n : Nat} {P : List (List UInt8)} (h : w.ownsRow B 9 1 v n (strsV P)) (hn : P.length = n) (h0 : 0 < n) : ∃ g cap, v = .slice (some ⟨g, 0, none⟩) n cap ∧ n ≤ cap ∧ B ≤ g ∧ Strs w g n P ∧ ∃ cur, w.heap[g]? = some (.cells cur 9 (0, 0)) := by
  rcases h.2 with ⟨_, h1⟩ | ⟨g, cap, cur, hv, hb, hg, hnc, hm, hsz, htk⟩
  · omega
  · refine ⟨g, cap, hv, hnc, hb, ⟨(Array.getElem?_eq_some_iff.1 hg).1, hn, fun j hj => ⟨P[j], List.getElem?_eq_getElem (by omega), ?_⟩⟩, cur, hg⟩
    have e : cur.toList[j]? = some (.string (bs P[j])) := by
      have := congrArg (fun l => l[j]?) htk
      simp only [Nat.mul_one] at this
      rw [List.getElem?_take_of_lt hj] at this
      rw [this]
      unfold strsV
      rw [List.getElem?_map, List.getElem?_eq_getElem (by omega)]
      rfl
    rw [Array.getElem?_toList] at e
    simp [World.cell?, hg, e]

theorem split_ne (c : UInt8) (l : List UInt8) : splitC c l ≠ [] := by
  cases hc : (cutL c l).2.2
  · rw [split_miss hc]; simp
  · rw [split_hit hc]; simp

theorem split_memF (c : UInt8) : ∀ (f : Nat) (l : List UInt8), l.length < f → ∀ y ∈ splitC c l, y.length ≤ l.length
  | 0, l, h => absurd h (by omega)
  | f + 1, l, h => fun y hy => by
    have hcb := congrArg List.length (cut_back c l).2
    rw [List.length_append] at hcb
    have hl := cut_len c l
    cases hc : (cutL c l).2.2
    · rw [split_miss hc] at hy
      rw [List.mem_singleton.1 hy]
      first | exact Nat.le_refl _ | omega
    · rw [hc, if_pos rfl] at hl
      rw [split_hit hc] at hy
      rcases List.mem_cons.1 hy with rfl | hy
      · omega
      · have := split_memF c f _ (by omega) y hy
        omega

theorem split_mem (c : UInt8) (l : List UInt8) : ∀ y ∈ splitC c l, y.length ≤ l.length := split_memF c (l.length + 1) l (Nat.lt_succ_self _)

theorem usesK {k : Int} (hk : kindB k = true) (w : World) : Calls Tryz.prog 27 #[.int .i64 k] w fun e w' => e = .returned (.tuple #[.int .i64 (cmN k : Nat), .bool (vcK k)]) ∧ Below w.heap.size w w' := by
  rcases kind_cases hk with rfl | rfl | rfl | rfl | rfl | rfl | rfl
  · exact uses1 w
  · exact uses2 w
  · exact uses3 w
  · exact uses4 w
  · exact uses5 w
  · exact uses6 w
  · exact uses7 w

theorem names_at {k : Nat} (hk : k < 7) (w : World) (T : TypeId) : (w.alloc (.cells #[.string ⟨#[100, 105, 109]⟩, .string ⟨#[112, 117, 116]⟩, .string ⟨#[100, 114, 111, 112]⟩, .string ⟨#[98, 117, 105, 108, 100]⟩, .string ⟨#[116, 105, 99, 107]⟩, .string ⟨#[110, 101, 97, 114]⟩, .string ⟨#[119, 105, 116, 104, 105, 110]⟩] T)).cell? ⟨w.heap.size, k, none⟩ = some (.string (bs (nmW ((k : Int) + 1)))) := by
  rcases (show k = 0 ∨ k = 1 ∨ k = 2 ∨ k = 3 ∨ k = 4 ∨ k = 5 ∨ k = 6 from by omega) with rfl | rfl | rfl | rfl | rfl | rfl | rfl <;> simp [nmW, bs]

theorem nameK_range (x : List UInt8) : 0 ≤ nameK x ∧ nameK x ≤ 7 := by
  by_cases h : nameK x = 0
  · omega
  · have : 1 ≤ nameK x ∧ nameK x ≤ 7 := of_decide_eq_true (nameK_kind h).1
    omega

theorem nameK_iff {x : List UInt8} {k : Nat} (hk : k < 7) : nmW ((k : Int) + 1) = x ↔ nameK x = (k : Int) + 1 := by
  constructor
  · rintro rfl
    exact nameK_nmW (decide_eq_true (by omega))
  · intro h
    have := (nameK_kind (w := x) (by omega)).2
    rw [h] at this
    exact this
def upK (x : List UInt8) (k : Nat) : Int := if nameK x ≤ (k : Int) then nameK x else 0

theorem upK_zero (x : List UInt8) : upK x 0 = 0 := by
  have := nameK_range x
  unfold upK
  split <;> omega

theorem upK_hit {x : List UInt8} {k : Nat} (h : nameK x = (k : Int) + 1) : upK x (k + 1) = (k : Int) + 1 := by
  unfold upK
  rw [h, if_pos (by omega)]

theorem upK_miss {x : List UInt8} {k : Nat} (h : ¬ nameK x = (k : Int) + 1) : upK x (k + 1) = upK x k := by
  unfold upK
  by_cases q : nameK x ≤ (k : Int)
  · rw [if_pos q, if_pos (by omega)]
  · rw [if_neg q, if_neg (by omega)]

theorem upK_end (x : List UInt8) : upK x 7 = nameK x := if_pos (by have := nameK_range x; omega)
/-- The words, the answer and the command that is read. -/
structure MdB (w0 : World) (g n : Nat) (P : List (List UInt8)) (q : Nat) (F : Nat → Value) (w : World) : Prop where
  res : w.rowIs w0.heap.size 26 5 (v5 (.int .i64 0) (.int .i64 0) (.int .i64 0) (.int .i64 0) (.slice none 0 0))
  cmd : w.rowIs q 26 5 F
  str : Strs w g n P
  gt : w0.heap.size < q
  ne : g < q
  bel : Below w0.heap.size w0 w

theorem MdB.below {w0 w w' : World} {g n q : Nat} {P : List (List UInt8)} {F : Nat → Value} (h : MdB w0 g n P q F w) (hb : Below w.heap.size w w') : MdB w0 g n P q F w' :=
  ⟨row_belowC h.res hb, row_belowC h.cmd hb, h.str.below hb, h.gt, h.ne, bstep h.bel hb⟩

theorem MdB.set {w0 w : World} {g n q : Nat} {P : List (List UInt8)} {F : Nat → Value} (h : MdB w0 g n P q F w) (j : Nat) (x : Value) : MdB w0 g n P q (fun i => if i = j then x else F i) (w.setCell ⟨q, j, none⟩ x) := by
  have l := h.gt
  have l2 := h.ne
  refine ⟨World.rowIs.setOther h.res (by simp; omega) _, (World.rowIs.set h.cmd j x).congr fun i _ => rfl, ⟨by simpa using h.str.lt, h.str.len, fun i hi => ?_⟩, h.gt, h.ne, h.bel.setCell (by show w0.heap.size ≤ q; omega) _⟩
  obtain ⟨y, a, b⟩ := h.str.cell i hi
  refine ⟨y, a, ?_⟩
  exact (((But.refl q w).setCell j x).cell (p := ⟨g, i, none⟩) h.str.lt (by show g ≠ q; omega)).trans b

theorem MdB.to {w0 w : World} {g n q : Nat} {P : List (List UInt8)} {F G : Nat → Value} (h : MdB w0 g n P q F w) (e : ∀ j, j < 5 → F j = G j) : MdB w0 g n P q G w := ⟨h.res, h.cmd.congr e, h.str, h.gt, h.ne, h.bel⟩
/-- Its first word, too. -/
structure MdQ (w0 : World) (g n : Nat) (P : List (List UInt8)) (q : Nat) (F : Nat → Value) (E : ByteArray) (w : World) : Prop where
  lt : g < w.heap.size
  c0 : w.cell? ⟨g, 0, none⟩ = some (.string E)
  all : MdB w0 g n P q F w

theorem MdQ.below {w0 w w' : World} {g n q : Nat} {P : List (List UInt8)} {F : Nat → Value} {E : ByteArray} (h : MdQ w0 g n P q F E w) (hb : Below w.heap.size w w') : MdQ w0 g n P q F E w' :=
  ⟨Nat.lt_of_lt_of_le h.lt hb.size, (hb.cell (p := ⟨g, 0, none⟩) h.lt).trans h.c0, h.all.below hb⟩

theorem MdB.q {w0 w : World} {g n q : Nat} {P : List (List UInt8)} {F : Nat → Value} {E : ByteArray} {x : List UInt8} (h : MdB w0 g n (x :: P) q F w) (hE : bs x = E) (h0 : 0 < n) : MdQ w0 g n (x :: P) q F E w := by
  obtain ⟨y, a, b⟩ := h.str.cell 0 h0
  simp at a
  subst a
  exact ⟨h.str.lt, by rw [← hE]; exact b, h⟩

theorem num_full {w : World} {nb j c : Nat} {P : List (List UInt8)} (h : w.rowIs nb 2 3 (fun t => .int .i64 (if t < j then numAt P c t else 0))) (hj : ∀ t, j ≤ t → (¬ t < c) ∨ ¬ t + 1 < P.length) : w.rowIs nb 2 3 (fun t => .int .i64 (numAt P c t)) :=
  h.congr (fun t _ => by
    by_cases q : t < j
    · rw [if_pos q]
    · rw [if_neg q]
      unfold numAt
      rw [if_neg (by rcases hj t (by omega) with h | h <;> omega)])

theorem MdB.other {w0 w : World} {g n q : Nat} {P : List (List UInt8)} {F : Nat → Value} (h : MdB w0 g n P q F w) (nb j : Nat) (x : Value) (hne : ¬ q = nb) (hgt : q < nb) : MdB w0 g n P q F (w.setCell ⟨nb, j, none⟩ x) := by
  have l := h.gt
  have l2 := h.ne
  refine ⟨World.rowIs.setOther h.res (by simp; omega) _, World.rowIs.setOther h.cmd (by simp; omega) _, ⟨by simpa using h.str.lt, h.str.len, fun i hi => ?_⟩, h.gt, h.ne, h.bel.setCell (by show w0.heap.size ≤ nb; omega) _⟩
  obtain ⟨y, a, b⟩ := h.str.cell i hi
  exact ⟨y, a, (((But.refl nb w).setCell j x).cell (p := ⟨g, i, none⟩) h.str.lt (by show g ≠ nb; omega)).trans b⟩
/-- The answer of the model's ReadCmd. -/
def SRdC (w : World) (l : List UInt8) (e : Ending) (w' : World) : Prop :=
  ∃ va m cap, e = .returned (.tuple #[.agg #[.int .i64 (readC l).k, .int .i64 (readC l).a, .int .i64 (readC l).b, .int .i64 (readC l).c, .slice va m cap], .bool (rdCB l)]) ∧ Row w' va m (readC l).xs ∧ m ≤ 8 ∧ Below w.heap.size w w'

theorem SRdC.no {w w' : World} {l : List UInt8} (h : rdCB l = false) (hb : Below w.heap.size w w') : SRdC w l (.returned (.tuple #[.agg #[.int .i64 0, .int .i64 0, .int .i64 0, .int .i64 0, .slice none 0 0], .bool false])) w' := by
  unfold SRdC readC
  rw [h]
  exact ⟨none, 0, 0, rfl, ⟨rfl, .inl rfl⟩, by omega, hb⟩
end Go.Proofs.YtggjcccdeaadbaaGreatDoor

/- ReadCmd of the model. -/
namespace Go.Proofs.YtggjcccdeaadbaaGreatDoor
open Go.RowKit
set_option maxRecDepth 8000
set_option linter.unusedSimpArgs false
set_option linter.unusedVariables false

set_option maxHeartbeats 16000000 in
set_option maxRecDepth 8000 in
theorem sReadCmd_any (s : ByteArray) (w : World) (hs : s.size ≤ 1048576) :
    Calls Tryz.prog 9 #[.string s] w fun e w' => SRdC w s.data.toList e w' := by
  have Z0 : Hid ((w.alloc (.cells #[.int .i64 0, .int .i64 0, .int .i64 0, .int .i64 0, .slice none 0 0] 26)).rowIs w.heap.size 26 5 (v5 (.int .i64 0) (.int .i64 0) (.int .i64 0) (.int .i64 0) (.slice none 0 0))) := hide (v5_new w _ _ _ _ _ _)
  have B0 : Hid (Below w.heap.size w (w.alloc (.cells #[.int .i64 0, .int .i64 0, .int .i64 0, .int .i64 0, .slice none 0 0] 26))) := hide (balloc (Below.refl _ _) _)
  by_cases h200 : s.size ≤ 200
  · have SP := hide (fun w1 => l1Split_any s w1 h200)
    have RV := hide (fun (y : List UInt8) w1 (hy : y.length ≤ 200) => sReadVec_own (bs y) w1 (by rw [bs_size]; omega))
    have hno : ¬ 200 < s.size := by omega
    have HL := hide (size_list s)
    obtain ⟨l, hl⟩ : ∃ l, s.data.toList = l := ⟨_, rfl⟩
    have NO := hide (fun w' (h : rdCB l = false) (hb : Below w.heap.size w w') => SRdC.no h hb)
    have HLL := hide hl
    rw [hl] at SP HL ⊢
    clear hl hs
    go_enter Tryz.func9, Tryz.ntmps9
    go_wp2_with fail
    refine (SP.out _).mono ?_
    rintro e w1 ⟨v, rfl, ho, hb1⟩
    obtain ⟨P, hP⟩ : ∃ P, splitC 32 l = P := ⟨_, rfl⟩
    have hPl : P.length ≤ 201 := by
      have := split_len 32 (l.length + 1) l (Nat.lt_succ_self _)
      rw [hP] at this
      have := HL.out
      omega
    have hPm : ∀ y ∈ P, y.length ≤ 200 := fun y hy => by
      have := HL.out
      have := split_mem 32 l y (by rw [hP]; exact hy)
      omega
    have hd : rdC l = rdW P := by unfold rdC; rw [hP]
    rw [hP] at ho
    obtain ⟨x, R, rfl⟩ : ∃ x R, P = x :: R := by
      cases P with
      | nil => exact absurd hP (split_ne 32 l)
      | cons x R => exact ⟨x, R, rfl⟩
    obtain ⟨n, hn⟩ : ∃ n, (x :: R).length = n := ⟨_, rfl⟩
    rw [hn] at ho hPl
    have hn0 : 0 < n := by rw [← hn]; simp
    obtain ⟨g, cap, rfl, hnc, hg0, hS, _⟩ := strs_own ho hn hn0
    have lz := World.rowIs.lt Z0.out
    have D1 : Hid (MdB w g n (x :: R) w1.heap.size (v5 (.int .i64 0) (.int .i64 0) (.int .i64 0) (.int .i64 0) (.slice none 0 0)) (w1.alloc (.cells #[.int .i64 0, .int .i64 0, .int .i64 0, .int .i64 0, .slice none 0 0] 26))) := hide (by
      have nb := balloc (Below.refl w1.heap.size w1) (.cells #[.int .i64 0, .int .i64 0, .int .i64 0, .int .i64 0, .slice none 0 0] 26)
      exact ⟨row_belowC (row_belowC Z0.out hb1) nb, v5_new w1 _ _ _ _ _ _, hS.below nb, Nat.lt_of_lt_of_le lz hb1.size, hS.lt, bstep (bstep B0.out hb1) nb⟩)
    obtain ⟨E, hE⟩ : ∃ E, bs x = E := ⟨_, rfl⟩
    have HE := hide hE
    have HD := hide hd
    have HPM := hide hPm
    have HN := hide hn
    clear ho hS hP hE hd hPm hn hb1 Z0 B0 SP lz hg0
    go_wp2_with fail
    obtain ⟨W1, hW1⟩ : ∃ W1, w1.alloc (.cells #[.int .i64 0, .int .i64 0, .int .i64 0, .int .i64 0, .slice none 0 0] 26) = W1 := ⟨_, rfl⟩
    obtain ⟨q, hq⟩ : ∃ q, w1.heap.size = q := ⟨_, rfl⟩
    rw [hW1, hq] at D1
    rw [hW1]
    simp only [hq]
    clear hW1 hq
    have U0 := upK_zero x
    go_loopw [6] (fun i wr => ∃ k : Nat, k ≤ 7 ∧ i = .int .i64 k ∧ Hid (MdB w g n (x :: R) q (v5 (.int .i64 (upK x k)) (.int .i64 0) (.int .i64 0) (.int .i64 0) (.slice none 0 0)) wr)) (fun i _ => 7 - (intOf i).toNat)
    case atStart => exact ⟨0, by omega, rfl, by rw [U0]; exact D1⟩
    case round =>
      clear D1 U0
      obtain ⟨k, hk, rfl, HM⟩ := hrel
      by_cases h7 : k < 7
      · obtain ⟨NE, hNE⟩ : ∃ NE, bs (nmW ((k : Int) + 1)) = NE := ⟨_, rfl⟩
        have tt : (NE.toList == E.toList) = decide (nameK x = (k : Int) + 1) := by
          rw [ByteArray.toList_eq, ByteArray.toList_eq, ← hNE, ← HE.out, bs_list, bs_list]
          by_cases e : nameK x = (k : Int) + 1
          · rw [(nameK_iff h7).2 e, decide_eq_true e]; simp
          · rw [decide_eq_false e]
            have : ¬ nmW ((k : Int) + 1) = x := fun q => e ((nameK_iff h7).1 q)
            simpa using this
        have NA := hide (fun w1 T => names_at h7 w1 T)
        rw [hNE] at NA
        have h7i : (k : Int) < 7 := by omega
        clear hNE
        go_wp2_with fail
        refine wp_region_held_drew (S := fun wx => MdQ w g n (x :: R) q (v5 (.int .i64 (upK x k)) (.int .i64 0) (.int .i64 0) (.int .i64 0) (.slice none 0 0)) E wx) (by kernel_rfl) (((HM.out.q HE.out hn0).below (Below.drew (Below.refl _ _)))) (fun hH0 => ?_)
        refine wpAnyH_take (i := 1) (oi := { dst := some 23, op := _, type := _, pos := _, after := _, guard := _ }) (v := ?_) rfl (by kernel_rfl) (by kernel_rfl) (by kernel_rfl) (fun _ _ _ h => h) (Or.inl ⟨by rfl, ?_⟩) (hH0) ?_
        rotate_left
        · (intro wx hSw; obtain ⟨lt, c0, _⟩ := hSw; go_simp <;> with_reducible rfl)
        simp only [Act.put, List.setIfInBounds_toArray, List.set_cons_zero, List.set_cons_succ]
        refine wpAnyH_take (i := 4) (oi := { dst := some 26, op := _, type := _, pos := _, after := _, guard := _ }) (v := ?_) rfl (by kernel_rfl) (by kernel_rfl) (by kernel_rfl) (fun _ _ _ h => h) (Or.inl ⟨by rfl, ?_⟩) (hH0) ?_
        rotate_left
        · (intro wx hSw; obtain ⟨lt, c0, _⟩ := hSw; go_simp <;> with_reducible rfl)
        simp only [Act.put, List.setIfInBounds_toArray, List.set_cons_zero, List.set_cons_succ]
        refine wpAnyH_take (i := 5) (oi := { dst := some 27, op := _, type := _, pos := _, after := _, guard := _ }) (v := ?_) rfl (by kernel_rfl) (by kernel_rfl) (by kernel_rfl) (fun _ _ _ h => h) (Or.inl ⟨by rfl, ?_⟩) (hH0) ?_
        rotate_left
        · (intro wx hSw; obtain ⟨lt, c0, _⟩ := hSw; go_simp <;> with_reducible rfl)
        simp only [Act.put, List.setIfInBounds_toArray, List.set_cons_zero, List.set_cons_succ]
        refine wpAnyH_take (i := 6) (oi := { dst := some 28, op := _, type := _, pos := _, after := _, guard := _ }) (v := ?_) rfl (by kernel_rfl) (by kernel_rfl) (by kernel_rfl) (fun _ _ _ h => h) (Or.inl ⟨by rfl, ?_⟩) (hH0) ?_
        rotate_left
        · (intro wx hSw; obtain ⟨lt, c0, _⟩ := hSw; go_simp <;> with_reducible rfl)
        simp only [Act.put, List.setIfInBounds_toArray, List.set_cons_zero, List.set_cons_succ]
        -- behind it: go_wp2_with fail, then go_meet (a cut) or go_ret; the condition at the end: hH0
        refine wpAnyH_ready (rs := [0]) (by kernel_rfl) (by simp) ?_
        refine AllReadyH.cons (o := { dst := some 22, op := _, type := _, pos := _, after := _, guard := _ }) rfl (fun K hK => ?_) AllReadyH.nil
        go_simp
        refine (names_any _).mono ?_
        rintro e w2 ⟨rfl, hw⟩
        have M2 : Hid (MdB w g n (x :: R) q (v5 (.int .i64 (upK x k)) (.int .i64 0) (.int .i64 0) (.int .i64 0) (.slice none 0 0)) w2) := hide (by rw [hw]; exact (HM.out.below (Below.drew (Below.refl _ _))).below (balloc (Below.refl _ _) _))
        have nk : w2.cell? ⟨wr.heap.size, k, none⟩ = some (.string NE) := by rw [hw]; exact NA.out wr.drew _
        clear hw NA hH0
        dsimp only
        refine hK.out _ _ (M2.out.q HE.out hn0) (fun hH1 => ?_)
        clear hK K
        have M2q := M2.out.q HE.out hn0
        refine wpAnyH_ready (rs := [2]) (by kernel_rfl) (by simp) ?_
        refine AllReadyH.cons (o := { dst := some 24, op := _, type := _, pos := _, after := _, guard := _ }) rfl (fun K hK => ?_) AllReadyH.nil
        go_simp
        refine hK.out _ _ M2q (fun hH2 => ?_)
        clear hK K
        refine wpAnyH_ready (rs := [3]) (by kernel_rfl) (by simp) ?_
        refine AllReadyH.cons (o := { dst := some 25, op := _, type := _, pos := _, after := _, guard := _ }) rfl (fun K hK => ?_) AllReadyH.nil
        go_simp
        refine hK.out _ _ M2q (fun hH3 => ?_)
        clear hK K
        refine wpAnyH_ready (rs := [7]) (by kernel_rfl) (by simp) ?_
        refine AllReadyH.cons (o := { dst := some 29, op := _, type := _, pos := _, after := _, guard := _ }) rfl (fun K hK => ?_) AllReadyH.nil
        go_simp
        refine hK.out _ _ M2q (fun hH4 => ?_)
        clear hK K
        refine wpAnyH_done (by kernel_rfl) ?_ _
        clear hH1 hH2 hH3 hH4 M2q nk
        by_cases hx : nameK x = (k : Int) + 1
        · rw [show decide (nameK x = (k : Int) + 1) = true from decide_eq_true hx]
          clear tt
          have U := hide (upK_hit hx)
          clear hx
          obtain ⟨_, y0, y1, y2, y3, y4, z0, z1, z2, z3, z4⟩ := v5_facts M2.out.cmd
          go_wp2_with fail
          go_roundw
          case rel => exact ⟨k + 1, by omega, by go_num, hide (by rw [U.out]; exact (M2.out.set 0 _).to (fun j hj => by rcases (show j = 0 ∨ j = 1 ∨ j = 2 ∨ j = 3 ∨ j = 4 from by omega) with rfl | rfl | rfl | rfl | rfl <;> rfl))⟩
          case measure => simp [intOf]; omega
        · rw [show decide (nameK x = (k : Int) + 1) = false from decide_eq_false hx]
          clear tt
          have U := hide (upK_miss hx)
          clear hx
          go_wp2_with fail
          go_roundw
          case rel => exact ⟨k + 1, by omega, by go_num, hide (by rw [U.out]; exact M2.out)⟩
          case measure => simp [intOf]; omega
      · obtain rfl : k = 7 := by omega
        rw [upK_end] at HM
        clear h7 hk
        have hmem : ∀ y ∈ (x :: R), y.length ≤ 200 := HPM.out
        by_cases hK0 : nameK x = 0
        · rw [hK0] at HM
          have RN := hide (show rdCB l = false by
            unfold rdCB
            rw [show (rdC l).k = 0 by rw [HD.out]; exact hK0]
            simp)
          clear hK0 hmem
          obtain ⟨_, y0, y1, y2, y3, y4, _⟩ := v5_facts HM.out.cmd
          obtain ⟨_, r0, r1, r2, r3, r4, f0, f1, f2, f3, f4⟩ := v5_facts HM.out.res
          go_wp2_with fail
          obtain ⟨_, e0, e1, e2, e3, e4, _⟩ := v5_facts (five_set HM.out.res (.int .i64 0) (.int .i64 0) (.int .i64 0) (.int .i64 0) (.slice none 0 0))
          exact bodyPost_ret (v := .tuple #[.agg #[.int .i64 0, .int .i64 0, .int .i64 0, .int .i64 0, .slice none 0 0], .bool false]) (by simp [results, Tryz.results9, go_sem, e0, e1, e2, e3, e4]) rfl (NO.out _ RN.out (below5 HM.out.bel (Nat.le_refl _) _ _ _ _ _))
        · have hkb := (nameK_kind hK0).1
          have n3 := (nmW_facts hkb).2.2
          obtain ⟨K, hKK⟩ : ∃ K, nameK x = K := ⟨_, rfl⟩
          obtain ⟨c, hc⟩ : ∃ c, cmN K = c := ⟨_, rfl⟩
          have US := hide (fun w1 => usesK hkb w1)
          rw [hKK] at hK0 HM hkb n3 US
          rw [hc] at n3 US
          have HKB := hide hkb
          have HKK := hide hKK
          have HC := hide hc
          clear hkb hKK hc
          have tk : (K == 0) = false := by simpa using hK0
          obtain ⟨_, y0, y1, y2, y3, y4, _⟩ := v5_facts HM.out.cmd
          go_wp2_with fail
          refine (US.out _).mono ?_
          rintro e w3 ⟨rfl, hb3⟩
          have M3 := hide (HM.out.below hb3)
          clear hb3 US HM y0 y1 y2 y3 y4 tk
          have hmk : ∀ wx, (Instr.makeSlice 24 (.int .i64 3) (.int .i64 3)).run Tryz.prog wx = .ok (.slice (some ⟨wx.heap.size, 0, none⟩) 3 3) (wx.alloc (.cells (madeCells #[.int .i64 0] 3) 2)) := fun wx => run_make_row' (P := Tryz.prog) 24 2 (.int .i64 0) 8 Tryz.underlying24 Tryz.infoI64 rfl .i64 .i64 3 (by omega) (by omega) wx
          have N0 : Hid ((w3.alloc (.cells (madeCells #[.int .i64 0] 3) 2)).rowIs w3.heap.size 2 3 (fun t => .int .i64 (if t < 0 then numAt (x :: R) c t else 0))) := hide ((World.rowIs_made w3 (.int .i64 0) 3 2).congr (fun j _ => by simp))
          have M4 := hide (M3.out.below (balloc (Below.refl _ _) (.cells (madeCells #[.int .i64 0] 3) 2)))
          have lq := World.rowIs.lt M3.out.cmd
          go_wp2_with fail
          obtain ⟨W4, hW4⟩ : ∃ W4, w3.alloc (.cells (madeCells #[.int .i64 0] 3) 2) = W4 := ⟨_, rfl⟩
          obtain ⟨nb, hnb⟩ : ∃ nb, w3.heap.size = nb := ⟨_, rfl⟩
          rw [hW4, hnb] at N0
          rw [hW4] at M4 ⊢
          rw [hnb] at lq
          simp only [hnb]
          have hne1 : ¬ nb = q := by omega
          have hne2 : ¬ q = nb := by omega
          clear hW4 hnb M3 hmk
          go_loopw [10] (fun i wr => ∃ j : Nat, j ≤ c ∧ j + 1 ≤ n ∧ i = .int .i64 j ∧ Hid (wr.rowIs nb 2 3 (fun t => .int .i64 (if t < j then numAt (x :: R) c t else 0))) ∧ Hid (MdB w g n (x :: R) q (v5 (.int .i64 K) (.int .i64 0) (.int .i64 0) (.int .i64 0) (.slice none 0 0)) wr)) (fun i _ => c - (intOf i).toNat)
          case atStart => exact ⟨0, by omega, by omega, rfl, N0, M4⟩
          case round =>
            clear N0 M4
            obtain ⟨j, hj1, hj2, rfl, HNR, MM⟩ := hrel
            by_cases h1 : j < c
            · by_cases h2 : j + 1 < n
              · obtain ⟨y, hy, hcy⟩ := MM.out.str.cell (j + 1) h2
                have LN := hide (fun w1 => l1Num_any (bs y) w1 (by rw [bs_size]; have := HPM.out y (List.mem_of_getElem? hy); omega))
                rw [bs_list] at LN
                have HX := hide (show numAt (x :: R) c j = numV y from by
                  unfold numAt
                  rw [if_pos ⟨h1, by rw [HN.out]; exact h2⟩, List.getD_eq_getElem?_getD, hy]
                  rfl)
                clear hy
                have t1 : ((j : Int) + 1 < (n : Int)) := by omega
                go_wp2_with fail
                refine (LN.out _).mono ?_
                rintro e w5 ⟨rfl, hb5⟩
                have M5 := hide (MM.out.below hb5)
                have N5 := hide (row_belowC HNR.out hb5)
                clear hb5 MM HNR LN hcy
                have c0 := World.rowIs.cell N5.out (show j < 3 by omega)
                have f0 := World.rowIs.frozen N5.out j
                have l5 := World.rowIs.lt N5.out
                have j3 : j < 3 := by omega
                go_wp2_with fail
                go_roundw
                case rel => exact ⟨j + 1, by omega, by omega, by go_num, hide ((World.rowIs.set N5.out j (.int .i64 (numV y))).congr (fun t _ => by
                  rcases Nat.lt_trichotomy t j with h | h | h
                  · rw [if_neg (by omega), if_pos h, if_pos (by omega)]
                  · subst h; rw [if_pos rfl, if_pos (by omega), HX.out]
                  · rw [if_neg (by omega), if_neg (by omega), if_neg (by omega)])), hide (M5.out.other nb j (.int .i64 (numV y)) hne2 (by omega))⟩
                case measure => simp [intOf]; omega
              · have NR := hide (num_full HNR.out (fun t ht => .inr (by rw [HN.out]; omega)))
                have t1 : ¬ ((j : Int) + 1 < (n : Int)) := by omega
                clear HNR
                have e0 := World.rowIs.cell NR.out (show 0 < 3 by omega)
                have e1 := World.rowIs.cell NR.out (show 1 < 3 by omega)
                have e2 := World.rowIs.cell NR.out (show 2 < 3 by omega)
                obtain ⟨n0, hn0'⟩ : ∃ z, numAt (x :: R) c 0 = z := ⟨_, rfl⟩
                obtain ⟨n1, hn1'⟩ : ∃ z, numAt (x :: R) c 1 = z := ⟨_, rfl⟩
                obtain ⟨n2, hn2'⟩ : ∃ z, numAt (x :: R) c 2 = z := ⟨_, rfl⟩
                rw [hn0'] at e0
                rw [hn1'] at e1
                rw [hn2'] at e2
                have HR0 := hide (show ∀ ys, (if vcK K then readVL ((x :: R).getLastD []) else []) = ys → rdC l = ⟨K, n0, n1, n2, ys⟩ from fun ys hys => by
                  rw [HD.out]
                  unfold rdW
                  rw [List.headD_cons, HKK.out, HC.out, hn0', hn1', hn2', hys])
                have MS := hide ((((MM.out.set 1 (.int .i64 n0)).set 2 (.int .i64 n1)).set 3 (.int .i64 n2)).to (G := v5 (.int .i64 K) (.int .i64 n0) (.int .i64 n1) (.int .i64 n2) (.slice none 0 0)) (fun j hj => by rcases (show j = 0 ∨ j = 1 ∨ j = 2 ∨ j = 3 ∨ j = 4 from by omega) with rfl | rfl | rfl | rfl | rfl <;> rfl))
                obtain ⟨_, y0, y1, y2, y3, y4, g0, g1, g2, g3, g4⟩ := v5_facts MM.out.cmd
                clear hn0' hn1' hn2'
                obtain ⟨vb, hvb⟩ : ∃ vb, vcK K = vb := ⟨_, rfl⟩
                rw [hvb] at HR0
                try simp only [hvb]
                clear hvb
                cases vb
                · have HFAR : Hid (∀ (b off : Nat), (none : Option Addr) = some ⟨b, off, none⟩ → w.heap.size < b) := hide (fun b off e => by cases e)
                  have HR := hide (HR0.out [] rfl)
                  go_wp2_with fail
                  obtain ⟨WX, hWX⟩ : ∃ WX, ((wr.setCell ⟨q, 1, none⟩ (.int .i64 n0)).setCell ⟨q, 2, none⟩ (.int .i64 n1)).setCell ⟨q, 3, none⟩ (.int .i64 n2) = WX := ⟨_, rfl⟩
                  rw [hWX] at MS ⊢
                  clear hWX MM NR y0 y1 y2 y3 y4 g0 g1 g2 g3 g4 e0 e1 e2
                  have RX : Hid (Row WX none 0 []) := hide ⟨rfl, .inl rfl⟩
                  have m8 : 0 ≤ 8 := by omega
                  have MX := hide MS.out
                  clear MS HR0
                  have HT := hide (show cmT (rdC l) = cmdT K n0 n1 n2 0 [] from by rw [HR.out]; unfold cmT; rw [RX.out.len])
                  obtain ⟨T, hT⟩ : ∃ T, cmdT K n0 n1 n2 0 [] = T := ⟨_, rfl⟩
                  have ST := hide (sCmdText_any K n0 n1 n2 none 0 0 [] WX RX.out (by omega))
                  rw [hT] at ST HT
                  clear hT
                  refine ST.out.mono ?_
                  rintro e w7 ⟨rfl, hb7⟩
                  have M7 := hide (MX.out.below hb7)
                  have R7 := hide (RX.out.below hb7)
                  clear hb7 MX RX ST
                  obtain ⟨_, y0, y1, y2, y3, y4, _⟩ := v5_facts M7.out.cmd
                  obtain ⟨_, r0, r1, r2, r3, r4, f0, f1, f2, f3, f4⟩ := v5_facts M7.out.res
                  by_cases ht : T = l
                  · have tt : ((bs T).toList == s.toList) = true := sEq5 (by rw [bs_list, HLL.out]; exact ht)
                    have YES := hide (show rdCB l = true from by
                      unfold rdCB
                      rw [HT.out, decide_eq_true (by have := HL.out; omega : l.length ≤ 200), decide_eq_true ht, show (rdC l).k = K by rw [HR.out], decide_eq_true hK0]
                      rfl)
                    clear ht
                    go_wp2_with fail
                    obtain ⟨_, e0, e1, e2, e3, e4, _⟩ := v5_facts (five_set M7.out.res (.int .i64 K) (.int .i64 n0) (.int .i64 n1) (.int .i64 n2) (.slice none 0 0))
                    refine bodyPost_ret (v := .tuple #[.agg #[.int .i64 K, .int .i64 n0, .int .i64 n1, .int .i64 n2, .slice none 0 0], .bool true]) (by simp [results, Tryz.results9, go_sem, e0, e1, e2, e3, e4]) rfl ?_
                    unfold SRdC readC
                    rw [YES.out, if_pos rfl, HR.out]
                    have lq := World.rowIs.lt M7.out.res
                    exact ⟨none, 0, 0, rfl, (((((But.refl w.heap.size w7).setCell 0 _).setCell 1 _).setCell 2 _).setCell 3 _ |>.setCell 4 _).row R7.out (fun b off e => by have := HFAR.out b off e; omega), m8, below5 M7.out.bel (Nat.le_refl _) _ _ _ _ _⟩
                  · have tt : ((bs T).toList == s.toList) = false := sNe5 (by rw [bs_list, HLL.out]; exact ht)
                    have NOO := hide (show rdCB l = false from by
                      unfold rdCB
                      rw [HT.out, decide_eq_false ht]
                      simp)
                    clear ht
                    go_wp2_with fail
                    obtain ⟨_, e0, e1, e2, e3, e4, _⟩ := v5_facts (five_set M7.out.res (.int .i64 0) (.int .i64 0) (.int .i64 0) (.int .i64 0) (.slice none 0 0))
                    exact bodyPost_ret (v := .tuple #[.agg #[.int .i64 0, .int .i64 0, .int .i64 0, .int .i64 0, .slice none 0 0], .bool false]) (by simp [results, Tryz.results9, go_sem, e0, e1, e2, e3, e4]) rfl (NO.out _ NOO.out (below5 M7.out.bel (Nat.le_refl _) _ _ _ _ _))
                · obtain ⟨n', rfl⟩ : ∃ n', n = n' + 1 := ⟨n - 1, by omega⟩
                  obtain ⟨y, hy, hcy⟩ := MM.out.str.cell n' (Nat.lt_succ_self _)
                  have hgq := MM.out.ne
                  have hgq1 : ¬ g = q := by omega
                  have hgq2 : ¬ q = g := by omega
                  have hyl : y.length ≤ 200 := HPM.out y (List.mem_of_getElem? hy)
                  have HY := hide (show (x :: R).getLastD [] = y from by
                    have hl := HN.out
                    rw [List.getLastD_eq_getLast?, List.getLast?_eq_getElem?, hl, Nat.add_sub_cancel, hy]
                    rfl)
                  have RVY := hide (fun w1 => RV.out y w1 hyl)
                  rw [bs_list] at RVY
                  clear hy
                  go_wp2_with fail
                  refine (RVY.out _).mono ?_
                  rintro e w6 ⟨va, cp, rfl, hr6, hm8, hb6, hfar⟩
                  obtain ⟨xs, hxs⟩ : ∃ xs, readVL y = xs := ⟨_, rfl⟩
                  rw [hxs] at hr6 hm8
                  have HR := hide (HR0.out xs (by rw [HY.out]; exact hxs))
                  simp only [hxs]
                  obtain ⟨m, hm⟩ : ∃ m, xs.length = m := ⟨_, rfl⟩
                  rw [hm] at hr6 hm8
                  simp only [hm]
                  have m8 := hm8
                  have M6 := hide (MS.out.below hb6)
                  have bM := MM.out.bel.size
                  have lS : w.heap.size < wr.heap.size := World.rowIs.lt MM.out.res
                  have lQ : q < wr.heap.size := World.rowIs.lt MM.out.cmd
                  have HF2 : Hid (∀ (b off : Nat), va = some ⟨b, off, none⟩ → q < b) := hide (fun b off e => by have := hfar b off e; simp at this; omega)
                  have HFAR : Hid (∀ (b off : Nat), va = some ⟨b, off, none⟩ → w.heap.size < b) := hide (fun b off e => by have := hfar b off e; simp at this; omega)
                  have R6 := hide hr6
                  clear hxs hm hr6 hm8 hb6 hfar MS MM NR bM lS lQ RVY HR0 y0 y1 y2 y3 y4 g0 g1 g2 g3 g4 e0 e1 e2 hcy
                  obtain ⟨_, y0, y1, y2, y3, y4, g0, g1, g2, g3, g4⟩ := v5_facts M6.out.cmd
                  go_wp2_with fail
                  have MX0 := hide ((M6.out.set 4 (.slice va m cp)).to (G := v5 (.int .i64 K) (.int .i64 n0) (.int .i64 n1) (.int .i64 n2) (.slice va m cp)) (fun j hj => by rcases (show j = 0 ∨ j = 1 ∨ j = 2 ∨ j = 3 ∨ j = 4 from by omega) with rfl | rfl | rfl | rfl | rfl <;> rfl))
                  have RX0 := hide (((But.refl q w6).setCell 4 (.slice va m cp)).row R6.out (fun b off e => by have := HF2.out b off e; omega))
                  obtain ⟨WX, hWX⟩ : ∃ WX, w6.setCell ⟨q, 4, none⟩ (.slice va m cp) = WX := ⟨_, rfl⟩
                  rw [hWX] at MX0 RX0 ⊢
                  have MX := hide MX0.out
                  have RX := hide RX0.out
                  clear hWX M6 R6 HF2 MX0 RX0 y0 y1 y2 y3 y4 g0 g1 g2 g3 g4
                  have HT := hide (show cmT (rdC l) = cmdT K n0 n1 n2 m xs from by rw [HR.out]; unfold cmT; rw [RX.out.len])
                  obtain ⟨T, hT⟩ : ∃ T, cmdT K n0 n1 n2 m xs = T := ⟨_, rfl⟩
                  have ST := hide (sCmdText_any K n0 n1 n2 va m cp xs WX RX.out (by omega))
                  rw [hT] at ST HT
                  clear hT
                  refine ST.out.mono ?_
                  rintro e w7 ⟨rfl, hb7⟩
                  have M7 := hide (MX.out.below hb7)
                  have R7 := hide (RX.out.below hb7)
                  clear hb7 MX RX ST
                  obtain ⟨_, y0, y1, y2, y3, y4, _⟩ := v5_facts M7.out.cmd
                  obtain ⟨_, r0, r1, r2, r3, r4, f0, f1, f2, f3, f4⟩ := v5_facts M7.out.res
                  by_cases ht : T = l
                  · have tt : ((bs T).toList == s.toList) = true := sEq5 (by rw [bs_list, HLL.out]; exact ht)
                    have YES := hide (show rdCB l = true from by
                      unfold rdCB
                      rw [HT.out, decide_eq_true (by have := HL.out; omega : l.length ≤ 200), decide_eq_true ht, show (rdC l).k = K by rw [HR.out], decide_eq_true hK0]
                      rfl)
                    clear ht
                    go_wp2_with fail
                    obtain ⟨_, e0, e1, e2, e3, e4, _⟩ := v5_facts (five_set M7.out.res (.int .i64 K) (.int .i64 n0) (.int .i64 n1) (.int .i64 n2) (.slice va m cp))
                    refine bodyPost_ret (v := .tuple #[.agg #[.int .i64 K, .int .i64 n0, .int .i64 n1, .int .i64 n2, .slice va m cp], .bool true]) (by simp [results, Tryz.results9, go_sem, e0, e1, e2, e3, e4]) rfl ?_
                    unfold SRdC readC
                    rw [YES.out, if_pos rfl, HR.out]
                    have lq := World.rowIs.lt M7.out.res
                    exact ⟨va, m, cp, rfl, (((((But.refl w.heap.size w7).setCell 0 _).setCell 1 _).setCell 2 _).setCell 3 _ |>.setCell 4 _).row R7.out (fun b off e => by have := HFAR.out b off e; omega), m8, below5 M7.out.bel (Nat.le_refl _) _ _ _ _ _⟩
                  · have tt : ((bs T).toList == s.toList) = false := sNe5 (by rw [bs_list, HLL.out]; exact ht)
                    have NOO := hide (show rdCB l = false from by
                      unfold rdCB
                      rw [HT.out, decide_eq_false ht]
                      simp)
                    clear ht
                    go_wp2_with fail
                    obtain ⟨_, e0, e1, e2, e3, e4, _⟩ := v5_facts (five_set M7.out.res (.int .i64 0) (.int .i64 0) (.int .i64 0) (.int .i64 0) (.slice none 0 0))
                    exact bodyPost_ret (v := .tuple #[.agg #[.int .i64 0, .int .i64 0, .int .i64 0, .int .i64 0, .slice none 0 0], .bool false]) (by simp [results, Tryz.results9, go_sem, e0, e1, e2, e3, e4]) rfl (NO.out _ NOO.out (below5 M7.out.bel (Nat.le_refl _) _ _ _ _ _))
            · have NR := hide (num_full HNR.out (fun t ht => .inl (by omega)))
              clear HNR
              have e0 := World.rowIs.cell NR.out (show 0 < 3 by omega)
              have e1 := World.rowIs.cell NR.out (show 1 < 3 by omega)
              have e2 := World.rowIs.cell NR.out (show 2 < 3 by omega)
              obtain ⟨n0, hn0'⟩ : ∃ z, numAt (x :: R) c 0 = z := ⟨_, rfl⟩
              obtain ⟨n1, hn1'⟩ : ∃ z, numAt (x :: R) c 1 = z := ⟨_, rfl⟩
              obtain ⟨n2, hn2'⟩ : ∃ z, numAt (x :: R) c 2 = z := ⟨_, rfl⟩
              rw [hn0'] at e0
              rw [hn1'] at e1
              rw [hn2'] at e2
              have HR0 := hide (show ∀ ys, (if vcK K then readVL ((x :: R).getLastD []) else []) = ys → rdC l = ⟨K, n0, n1, n2, ys⟩ from fun ys hys => by
                rw [HD.out]
                unfold rdW
                rw [List.headD_cons, HKK.out, HC.out, hn0', hn1', hn2', hys])
              have MS := hide ((((MM.out.set 1 (.int .i64 n0)).set 2 (.int .i64 n1)).set 3 (.int .i64 n2)).to (G := v5 (.int .i64 K) (.int .i64 n0) (.int .i64 n1) (.int .i64 n2) (.slice none 0 0)) (fun j hj => by rcases (show j = 0 ∨ j = 1 ∨ j = 2 ∨ j = 3 ∨ j = 4 from by omega) with rfl | rfl | rfl | rfl | rfl <;> rfl))
              obtain ⟨_, y0, y1, y2, y3, y4, g0, g1, g2, g3, g4⟩ := v5_facts MM.out.cmd
              clear hn0' hn1' hn2'
              obtain ⟨vb, hvb⟩ : ∃ vb, vcK K = vb := ⟨_, rfl⟩
              rw [hvb] at HR0
              try simp only [hvb]
              clear hvb
              cases vb
              · have HFAR : Hid (∀ (b off : Nat), (none : Option Addr) = some ⟨b, off, none⟩ → w.heap.size < b) := hide (fun b off e => by cases e)
                have HR := hide (HR0.out [] rfl)
                go_wp2_with fail
                obtain ⟨WX, hWX⟩ : ∃ WX, ((wr.setCell ⟨q, 1, none⟩ (.int .i64 n0)).setCell ⟨q, 2, none⟩ (.int .i64 n1)).setCell ⟨q, 3, none⟩ (.int .i64 n2) = WX := ⟨_, rfl⟩
                rw [hWX] at MS ⊢
                clear hWX MM NR y0 y1 y2 y3 y4 g0 g1 g2 g3 g4 e0 e1 e2
                have RX : Hid (Row WX none 0 []) := hide ⟨rfl, .inl rfl⟩
                have m8 : 0 ≤ 8 := by omega
                have MX := hide MS.out
                clear MS HR0
                have HT := hide (show cmT (rdC l) = cmdT K n0 n1 n2 0 [] from by rw [HR.out]; unfold cmT; rw [RX.out.len])
                obtain ⟨T, hT⟩ : ∃ T, cmdT K n0 n1 n2 0 [] = T := ⟨_, rfl⟩
                have ST := hide (sCmdText_any K n0 n1 n2 none 0 0 [] WX RX.out (by omega))
                rw [hT] at ST HT
                clear hT
                refine ST.out.mono ?_
                rintro e w7 ⟨rfl, hb7⟩
                have M7 := hide (MX.out.below hb7)
                have R7 := hide (RX.out.below hb7)
                clear hb7 MX RX ST
                obtain ⟨_, y0, y1, y2, y3, y4, _⟩ := v5_facts M7.out.cmd
                obtain ⟨_, r0, r1, r2, r3, r4, f0, f1, f2, f3, f4⟩ := v5_facts M7.out.res
                by_cases ht : T = l
                · have tt : ((bs T).toList == s.toList) = true := sEq5 (by rw [bs_list, HLL.out]; exact ht)
                  have YES := hide (show rdCB l = true from by
                    unfold rdCB
                    rw [HT.out, decide_eq_true (by have := HL.out; omega : l.length ≤ 200), decide_eq_true ht, show (rdC l).k = K by rw [HR.out], decide_eq_true hK0]
                    rfl)
                  clear ht
                  go_wp2_with fail
                  obtain ⟨_, e0, e1, e2, e3, e4, _⟩ := v5_facts (five_set M7.out.res (.int .i64 K) (.int .i64 n0) (.int .i64 n1) (.int .i64 n2) (.slice none 0 0))
                  refine bodyPost_ret (v := .tuple #[.agg #[.int .i64 K, .int .i64 n0, .int .i64 n1, .int .i64 n2, .slice none 0 0], .bool true]) (by simp [results, Tryz.results9, go_sem, e0, e1, e2, e3, e4]) rfl ?_
                  unfold SRdC readC
                  rw [YES.out, if_pos rfl, HR.out]
                  have lq := World.rowIs.lt M7.out.res
                  exact ⟨none, 0, 0, rfl, (((((But.refl w.heap.size w7).setCell 0 _).setCell 1 _).setCell 2 _).setCell 3 _ |>.setCell 4 _).row R7.out (fun b off e => by have := HFAR.out b off e; omega), m8, below5 M7.out.bel (Nat.le_refl _) _ _ _ _ _⟩
                · have tt : ((bs T).toList == s.toList) = false := sNe5 (by rw [bs_list, HLL.out]; exact ht)
                  have NOO := hide (show rdCB l = false from by
                    unfold rdCB
                    rw [HT.out, decide_eq_false ht]
                    simp)
                  clear ht
                  go_wp2_with fail
                  obtain ⟨_, e0, e1, e2, e3, e4, _⟩ := v5_facts (five_set M7.out.res (.int .i64 0) (.int .i64 0) (.int .i64 0) (.int .i64 0) (.slice none 0 0))
                  exact bodyPost_ret (v := .tuple #[.agg #[.int .i64 0, .int .i64 0, .int .i64 0, .int .i64 0, .slice none 0 0], .bool false]) (by simp [results, Tryz.results9, go_sem, e0, e1, e2, e3, e4]) rfl (NO.out _ NOO.out (below5 M7.out.bel (Nat.le_refl _) _ _ _ _ _))
              · obtain ⟨n', rfl⟩ : ∃ n', n = n' + 1 := ⟨n - 1, by omega⟩
                obtain ⟨y, hy, hcy⟩ := MM.out.str.cell n' (Nat.lt_succ_self _)
                have hgq := MM.out.ne
                have hgq1 : ¬ g = q := by omega
                have hgq2 : ¬ q = g := by omega
                have hyl : y.length ≤ 200 := HPM.out y (List.mem_of_getElem? hy)
                have HY := hide (show (x :: R).getLastD [] = y from by
                  have hl := HN.out
                  rw [List.getLastD_eq_getLast?, List.getLast?_eq_getElem?, hl, Nat.add_sub_cancel, hy]
                  rfl)
                have RVY := hide (fun w1 => RV.out y w1 hyl)
                rw [bs_list] at RVY
                clear hy
                go_wp2_with fail
                refine (RVY.out _).mono ?_
                rintro e w6 ⟨va, cp, rfl, hr6, hm8, hb6, hfar⟩
                obtain ⟨xs, hxs⟩ : ∃ xs, readVL y = xs := ⟨_, rfl⟩
                rw [hxs] at hr6 hm8
                have HR := hide (HR0.out xs (by rw [HY.out]; exact hxs))
                simp only [hxs]
                obtain ⟨m, hm⟩ : ∃ m, xs.length = m := ⟨_, rfl⟩
                rw [hm] at hr6 hm8
                simp only [hm]
                have m8 := hm8
                have M6 := hide (MS.out.below hb6)
                have bM := MM.out.bel.size
                have lS : w.heap.size < wr.heap.size := World.rowIs.lt MM.out.res
                have lQ : q < wr.heap.size := World.rowIs.lt MM.out.cmd
                have HF2 : Hid (∀ (b off : Nat), va = some ⟨b, off, none⟩ → q < b) := hide (fun b off e => by have := hfar b off e; simp at this; omega)
                have HFAR : Hid (∀ (b off : Nat), va = some ⟨b, off, none⟩ → w.heap.size < b) := hide (fun b off e => by have := hfar b off e; simp at this; omega)
                have R6 := hide hr6
                clear hxs hm hr6 hm8 hb6 hfar MS MM NR bM lS lQ RVY HR0 y0 y1 y2 y3 y4 g0 g1 g2 g3 g4 e0 e1 e2 hcy
                obtain ⟨_, y0, y1, y2, y3, y4, g0, g1, g2, g3, g4⟩ := v5_facts M6.out.cmd
                go_wp2_with fail
                have MX0 := hide ((M6.out.set 4 (.slice va m cp)).to (G := v5 (.int .i64 K) (.int .i64 n0) (.int .i64 n1) (.int .i64 n2) (.slice va m cp)) (fun j hj => by rcases (show j = 0 ∨ j = 1 ∨ j = 2 ∨ j = 3 ∨ j = 4 from by omega) with rfl | rfl | rfl | rfl | rfl <;> rfl))
                have RX0 := hide (((But.refl q w6).setCell 4 (.slice va m cp)).row R6.out (fun b off e => by have := HF2.out b off e; omega))
                obtain ⟨WX, hWX⟩ : ∃ WX, w6.setCell ⟨q, 4, none⟩ (.slice va m cp) = WX := ⟨_, rfl⟩
                rw [hWX] at MX0 RX0 ⊢
                have MX := hide MX0.out
                have RX := hide RX0.out
                clear hWX M6 R6 HF2 MX0 RX0 y0 y1 y2 y3 y4 g0 g1 g2 g3 g4
                have HT := hide (show cmT (rdC l) = cmdT K n0 n1 n2 m xs from by rw [HR.out]; unfold cmT; rw [RX.out.len])
                obtain ⟨T, hT⟩ : ∃ T, cmdT K n0 n1 n2 m xs = T := ⟨_, rfl⟩
                have ST := hide (sCmdText_any K n0 n1 n2 va m cp xs WX RX.out (by omega))
                rw [hT] at ST HT
                clear hT
                refine ST.out.mono ?_
                rintro e w7 ⟨rfl, hb7⟩
                have M7 := hide (MX.out.below hb7)
                have R7 := hide (RX.out.below hb7)
                clear hb7 MX RX ST
                obtain ⟨_, y0, y1, y2, y3, y4, _⟩ := v5_facts M7.out.cmd
                obtain ⟨_, r0, r1, r2, r3, r4, f0, f1, f2, f3, f4⟩ := v5_facts M7.out.res
                by_cases ht : T = l
                · have tt : ((bs T).toList == s.toList) = true := sEq5 (by rw [bs_list, HLL.out]; exact ht)
                  have YES := hide (show rdCB l = true from by
                    unfold rdCB
                    rw [HT.out, decide_eq_true (by have := HL.out; omega : l.length ≤ 200), decide_eq_true ht, show (rdC l).k = K by rw [HR.out], decide_eq_true hK0]
                    rfl)
                  clear ht
                  go_wp2_with fail
                  obtain ⟨_, e0, e1, e2, e3, e4, _⟩ := v5_facts (five_set M7.out.res (.int .i64 K) (.int .i64 n0) (.int .i64 n1) (.int .i64 n2) (.slice va m cp))
                  refine bodyPost_ret (v := .tuple #[.agg #[.int .i64 K, .int .i64 n0, .int .i64 n1, .int .i64 n2, .slice va m cp], .bool true]) (by simp [results, Tryz.results9, go_sem, e0, e1, e2, e3, e4]) rfl ?_
                  unfold SRdC readC
                  rw [YES.out, if_pos rfl, HR.out]
                  have lq := World.rowIs.lt M7.out.res
                  exact ⟨va, m, cp, rfl, (((((But.refl w.heap.size w7).setCell 0 _).setCell 1 _).setCell 2 _).setCell 3 _ |>.setCell 4 _).row R7.out (fun b off e => by have := HFAR.out b off e; omega), m8, below5 M7.out.bel (Nat.le_refl _) _ _ _ _ _⟩
                · have tt : ((bs T).toList == s.toList) = false := sNe5 (by rw [bs_list, HLL.out]; exact ht)
                  have NOO := hide (show rdCB l = false from by
                    unfold rdCB
                    rw [HT.out, decide_eq_false ht]
                    simp)
                  clear ht
                  go_wp2_with fail
                  obtain ⟨_, e0, e1, e2, e3, e4, _⟩ := v5_facts (five_set M7.out.res (.int .i64 0) (.int .i64 0) (.int .i64 0) (.int .i64 0) (.slice none 0 0))
                  exact bodyPost_ret (v := .tuple #[.agg #[.int .i64 0, .int .i64 0, .int .i64 0, .int .i64 0, .slice none 0 0], .bool false]) (by simp [results, Tryz.results9, go_sem, e0, e1, e2, e3, e4]) rfl (NO.out _ NOO.out (below5 M7.out.bel (Nat.le_refl _) _ _ _ _ _))
  · have NO : rdCB s.data.toList = false := by
      unfold rdCB
      rw [decide_eq_false (by rw [← size_list]; exact h200)]
      rfl
    have HN := hide NO
    have hy : 200 < s.size := by omega
    clear NO
    obtain ⟨_, r0, r1, r2, r3, r4, f0, f1, f2, f3, f4⟩ := v5_facts Z0.out
    go_enter Tryz.func9, Tryz.ntmps9
    go_wp2_with fail
    exact bodyPost_ret (v := .tuple #[.agg #[.int .i64 0, .int .i64 0, .int .i64 0, .int .i64 0, .slice none 0 0], .bool false]) (by simp [results, Tryz.results9, go_sem, r0, r1, r2, r3, r4]) rfl (SRdC.no HN.out B0.out)
end Go.Proofs.YtggjcccdeaadbaaGreatDoor
