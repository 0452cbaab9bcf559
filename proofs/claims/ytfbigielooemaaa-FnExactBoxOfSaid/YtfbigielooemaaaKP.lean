/- BoxOf of the program. -/
import Derived.Test.YtfbigielooemaaaKL
import Derived.Test.YtfbigielooemaaaBM
namespace Go.Proofs.Ytfbigielooemaaa
open Go.RowKit
set_option linter.unusedSimpArgs false
set_option linter.unusedVariables false

/-- A row's codes of a tier. -/
def tierL (t : Int) (L1 L2 L3 : List Int) : List Int := if t = 1 then L1 else if t = 2 then L2 else L3
def boxF (f g : Nat → Int) (t : Int) (L : List Int) (i : Nat) : Int := cellLo (f i) (g i) t (nth L i)
def boxG (f g : Nat → Int) (t : Int) (L : List Int) (i : Nat) : Int := cellHi (f i) (g i) t (nth L i)

/-- What BoxOf holds in a round: the range's box, and the packed row's. -/
structure BXS (w : World) (b p : Nat) (lo hi : Int) (A B C D n : Value) : Prop where
  lt : b < w.heap.size
  c0 : w.cell? ⟨b, 0, none⟩ = some (.int .i64 lo)
  c1 : w.cell? ⟨b, 1, none⟩ = some (.int .i64 hi)
  pk : Five w p A B C D n
theorem BXS.below {w w' : World} {b p : Nat} {lo hi : Int} {A B C D n : Value} (h : BXS w b p lo hi A B C D n) (hb : Below w.heap.size w w') : BXS w' b p lo hi A B C D n :=
  ⟨Nat.lt_of_lt_of_le h.lt hb.size, (hb.cell (p := ⟨b, 0, none⟩) h.lt).trans h.c0, (hb.cell (p := ⟨b, 1, none⟩) h.lt).trans h.c1, h.pk.below hb⟩
theorem BXS.away {w : World} {b p : Nat} {lo hi : Int} {A B C D n : Value} (h : BXS w b p lo hi A B C D n) (x : Addr) (v : Value) (h1 : b ≠ x.block) (h2 : p ≠ x.block) : BXS (w.setCell x v) b p lo hi A B C D n := by
  have e := Below.heap_setCell w x v b h1
  obtain ⟨l, c0, c1, pk⟩ := h
  refine ⟨by simpa [World.setCell] using l, ?_, ?_, pk.away x v h2⟩ <;> simp only [World.cell?, e] at * <;> assumption

theorem idx3 (x y z : Int) (w : World) : (Instr.index 57 (.agg #[.int .i64 x, .int .i64 y, .int .i64 z]) (.int .i64 (IntKind.i64.wrap 0))).run Try.prog w = .ok (.int .i64 x) w ∧ (Instr.index 57 (.agg #[.int .i64 x, .int .i64 y, .int .i64 z]) (.int .i64 (IntKind.i64.wrap 1))).run Try.prog w = .ok (.int .i64 y) w ∧ (Instr.index 57 (.agg #[.int .i64 x, .int .i64 y, .int .i64 z]) (.int .i64 (IntKind.i64.wrap 2))).run Try.prog w = .ok (.int .i64 z) w := by
  refine ⟨?_, ?_, ?_⟩ <;> kernel_rfl

/-- The answer of the program's BoxOf. -/
def IBox (w : World) (ok : Bool) (n : Nat) (F G : Nat → Int) (e : Ending) (w' : World) : Prop :=
  ∃ a m, e = .returned (.tuple #[.slice a m m, .bool ok]) ∧ m = (if ok then n else 0) ∧ (m = 0 ∨ ∃ b, a = some ⟨b, 0, none⟩ ∧ w.heap.size ≤ b ∧ b < w'.heap.size ∧ OwnP w' b m F G) ∧ Below w.heap.size w w'

set_option maxHeartbeats 8000000 in
set_option maxRecDepth 4000 in
theorem iBoxOf_some (b off n cap : Nat) (f g : Nat → Int) (r : RowV) (L1 L2 L3 : List Int) (t : Int) (w : World) (ht : tierB t = true) (h8 : n ≤ 8) (h1 : 1 ≤ n) (hb : b < w.heap.size)
    (hc : ∀ i, i < n → w.cell? ⟨b, off + i * 2, none⟩ = some (.int .i64 (f i)) ∧ w.cell? ⟨b, off + i * 2 + 1, none⟩ = some (.int .i64 (g i)))
    (CK : CodesOk n (nth L1) (nth L2) (nth L3))
    (PR' : Hid (∀ w1, Below w.heap.size w w1 → Calls Try.prog 21 #[.slice (some ⟨b, off, none⟩) n cap, r.v] w1 fun e w' => e = .returned (.tuple #[PK (nth L1) (nth L2) (nth L3) n n, .bool true]) ∧ Below w1.heap.size w1 w')) :
    Calls Try.prog 9 #[.slice (some ⟨b, off, none⟩) n cap, r.v, .int .i64 t] w fun e w' => IBox w true n (boxF f g t (tierL t L1 L2 L3)) (boxG f g t (tierL t L1 L2 L3)) e w' := by
  have hmk := run_make_pairs (P := Try.prog) 28 44 (.int .i64 0) (.int .i64 0) 16 Try.underlying28 Try.infoRange .i64 .i64 n (by omega) (by omega)
  have HC := hide hc
  obtain ⟨a1, a2, a3, m1, m2, m3, k1, k2, k3⟩ := r
  unfold RowV.v at PR' ⊢
  simp only at PR' ⊢
  have CL := hide (iCellsOf_any t)
  have hcn : (cellsN t == 0) = false := by rcases tier_cases ht with rfl | rfl | rfl <;> rfl
  have CD := hide (fun (k : Nat) (hk : k < n) (w1 : World) => codes_any (nth L1) (nth L2) (nth L3) n n k w1 h8 hk CK)
  have CE := hide (fun (k : Nat) => iCellOf_any (f k) (g k) t (nth (tierL t L1 L2 L3) k))
  unfold cellT at CE
  simp only [show ∀ k, cellLo (f k) (g k) t (nth (tierL t L1 L2 L3) k) = boxF f g t (tierL t L1 L2 L3) k from fun _ => rfl, show ∀ k, cellHi (f k) (g k) t (nth (tierL t L1 L2 L3) k) = boxG f g t (tierL t L1 L2 L3) k from fun _ => rfl] at CE
  obtain ⟨F, hF⟩ : ∃ F, boxF f g t (tierL t L1 L2 L3) = F := ⟨_, rfl⟩
  obtain ⟨G, hG⟩ : ∃ G, boxG f g t (tierL t L1 L2 L3) = G := ⟨_, rfl⟩
  rw [hF, hG] at CE ⊢
  clear hF hG hc CK
  unfold tierL at CE
  simp only [PK] at PR'
  obtain ⟨A, hA⟩ : ∃ x, pA (nth L1) (nth L2) (nth L3) n = x := ⟨_, rfl⟩
  obtain ⟨B, hB⟩ : ∃ x, pB (nth L1) (nth L2) (nth L3) n = x := ⟨_, rfl⟩
  obtain ⟨C, hC⟩ : ∃ x, pC (nth L1) (nth L2) (nth L3) n = x := ⟨_, rfl⟩
  obtain ⟨D, hD⟩ : ∃ x, pD (nth L1) (nth L2) (nth L3) n = x := ⟨_, rfl⟩
  rw [hA, hB, hC, hD] at PR' CD
  clear hA hB hC hD
  rcases tier_cases ht with rfl | rfl | rfl
  all_goals
    clear ht
    simp only [show ((1 : Int) = 1) = True from eq_self _, show ((2 : Int) = 1) = False from by simp, show ((2 : Int) = 2) = True from eq_self _, show ((3 : Int) = 1) = False from by simp, show ((3 : Int) = 2) = False from by simp, if_true, if_false] at CE
    go_enter Try.func9, Try.ntmps9
    go_wp2_with fail
    refine (PR'.out _ (by repeat' first | with_reducible exact Below.refl _ _ | with_reducible assumption | with_reducible refine below_drewN ?_ _ | with_reducible refine balloc ?_ _ | with_reducible refine Below.drew ?_ | with_reducible refine Below.setCell ?_ (by first | (simp; done) | (simp; omega) | omega) _ | with_reducible refine bstep ?_ (by assumption))).mono ?_
    rintro e w1 ⟨rfl, hb1⟩
    have B1 : Below w.heap.size w w1 := (by repeat' first | with_reducible exact Below.refl _ _ | with_reducible assumption | with_reducible refine below_drewN ?_ _ | with_reducible refine balloc ?_ _ | with_reducible refine Below.drew ?_ | with_reducible refine Below.setCell ?_ (by first | (simp; done) | (simp; omega) | omega) _ | with_reducible refine bstep ?_ (by assumption))
    clear hb1
    go_wp2_with fail
    refine (CL.out _).mono ?_
    rintro e w2 ⟨rfl, rfl⟩
    go_wp2_with fail
    go_loopw [31] (fun i wr => ∃ k : Nat, k ≤ n ∧ i = .int .i64 k ∧ OwnP wr (w1.heap.size + 1) n (upTo k F) (upTo k G) ∧ Five wr w1.heap.size (.int .u8 A) (.int .u32 B) (.int .u64 C) (.int .u8 D) (.int .i64 n) ∧ Below w.heap.size w wr) (fun i _ => n - (intOf i).toNat)
    case atStart =>
      have om := OwnP.made (w1.alloc (.cells #[.int .u8 A, .int .u32 B, .int .u64 C, .int .u8 D, .int .i64 n] 51)) n
      rw [World.size_alloc] at om
      exact ⟨0, Nat.zero_le _, rfl, om.congr (fun j _ => by simp [upTo]) (fun j _ => by simp [upTo]), (Five.new w1 _ _ _ _ _ _ _ rfl).alloc _, (by repeat' first | with_reducible exact Below.refl _ _ | with_reducible assumption | with_reducible refine below_drewN ?_ _ | with_reducible refine balloc ?_ _ | with_reducible refine Below.drew ?_ | with_reducible refine Below.setCell ?_ (by first | (simp; done) | (simp; omega) | omega) _ | with_reducible refine bstep ?_ (by assumption))⟩
    case round =>
      obtain ⟨k, hk, rfl, hO, hF5, hbel⟩ := hrel
      have HO := hide hO
      have HF5 := hide hF5
      have HB := hide hbel
      have hs2 := B1.size
      by_cases hlt : k < n
      · have y1 : wr.cell? ⟨b, off + k * 2, none⟩ = some (.int .i64 (f k)) := (hbel.cell (p := ⟨b, off + k * 2, none⟩) hb).trans (HC.out k hlt).1
        have y2 : wr.cell? ⟨b, off + k * 2 + 1, none⟩ = some (.int .i64 (g k)) := (hbel.cell (p := ⟨b, off + k * 2 + 1, none⟩) hb).trans (HC.out k hlt).2
        have hlt' : (k : Int) < (n : Int) := by omega
        have l5 := hF5.lt
        have lO := hO.lt
        have ba : Below wr.heap.size wr (wr.alloc (.cells #[.int .i64 (f k), .int .i64 (g k)] 44)).drew := Below.drew (balloc (Below.refl _ _) _)
        have S0 : Hid (BXS (wr.alloc (.cells #[.int .i64 (f k), .int .i64 (g k)] 44)).drew wr.heap.size w1.heap.size (f k) (g k) (.int .u8 A) (.int .u32 B) (.int .u64 C) (.int .u8 D) (.int .i64 n)) := hide ⟨by simp, by simp [go_sem], by simp [go_sem], hF5.below ba⟩
        have ix0 := fun w => (idx3 (nth L1 k) (nth L2 k) (nth L3 k) w).1
        have ix1 := fun w => (idx3 (nth L1 k) (nth L2 k) (nth L3 k) w).2.1
        have ix2 := fun w => (idx3 (nth L1 k) (nth L2 k) (nth L3 k) w).2.2
        have CDk := hide (CD.out k hlt)
        have CEk := hide (CE.out k)
        clear hO hF5 hbel
        go_wp2_with fail
        refine wp_region_held_drew (S := fun wx => BXS wx wr.heap.size w1.heap.size (f k) (g k) (.int .u8 A) (.int .u32 B) (.int .u64 C) (.int .u8 D) (.int .i64 n)) (by kernel_rfl) (S0.out) (fun hH0 => ?_)
        refine wpAnyH_take (i := 0) (oi := { dst := some 37, op := _, type := _, pos := _, after := _, guard := _ }) (v := ?_) rfl (by kernel_rfl) (by kernel_rfl) (by kernel_rfl) (fun _ _ _ h => h) (Or.inl ⟨by rfl, ?_⟩) (hH0) ?_
        rotate_left
        · (intro wx hSw; obtain ⟨_, q0, q1, ⟨_, p0, p1, p2, p3, p4, _, _, _, _, _⟩⟩ := hSw; go_simp <;> with_reducible rfl)
        simp only [Act.put, List.setIfInBounds_toArray, List.set_cons_zero, List.set_cons_succ]
        refine wpAnyH_take (i := 1) (oi := { dst := some 38, op := _, type := _, pos := _, after := _, guard := _ }) (v := ?_) rfl (by kernel_rfl) (by kernel_rfl) (by kernel_rfl) (fun _ _ _ h => h) (Or.inl ⟨by rfl, ?_⟩) (hH0) ?_
        rotate_left
        · (intro wx hSw; obtain ⟨_, q0, q1, ⟨_, p0, p1, p2, p3, p4, _, _, _, _, _⟩⟩ := hSw; go_simp <;> with_reducible rfl)
        simp only [Act.put, List.setIfInBounds_toArray, List.set_cons_zero, List.set_cons_succ]
        refine wpAnyH_take (i := 2) (oi := { dst := some 39, op := _, type := _, pos := _, after := _, guard := _ }) (v := ?_) rfl (by kernel_rfl) (by kernel_rfl) (by kernel_rfl) (fun _ _ _ h => h) (Or.inl ⟨by rfl, ?_⟩) (hH0) ?_
        rotate_left
        · (intro wx hSw; obtain ⟨_, q0, q1, ⟨_, p0, p1, p2, p3, p4, _, _, _, _, _⟩⟩ := hSw; go_simp <;> with_reducible rfl)
        simp only [Act.put, List.setIfInBounds_toArray, List.set_cons_zero, List.set_cons_succ]
        refine wpAnyH_take (i := 3) (oi := { dst := some 40, op := _, type := _, pos := _, after := _, guard := _ }) (v := ?_) rfl (by kernel_rfl) (by kernel_rfl) (by kernel_rfl) (fun _ _ _ h => h) (Or.inl ⟨by rfl, ?_⟩) (hH0) ?_
        rotate_left
        · (intro wx hSw; obtain ⟨_, q0, q1, ⟨_, p0, p1, p2, p3, p4, _, _, _, _, _⟩⟩ := hSw; go_simp <;> with_reducible rfl)
        simp only [Act.put, List.setIfInBounds_toArray, List.set_cons_zero, List.set_cons_succ]
        refine wpAnyH_take (i := 4) (oi := { dst := some 41, op := _, type := _, pos := _, after := _, guard := _ }) (v := ?_) rfl (by kernel_rfl) (by kernel_rfl) (by kernel_rfl) (fun _ _ _ h => h) (Or.inl ⟨by rfl, ?_⟩) (hH0) ?_
        rotate_left
        · (intro wx hSw; obtain ⟨_, q0, q1, ⟨_, p0, p1, p2, p3, p4, _, _, _, _, _⟩⟩ := hSw; go_simp <;> with_reducible rfl)
        simp only [Act.put, List.setIfInBounds_toArray, List.set_cons_zero, List.set_cons_succ]
        refine wpAnyH_take (i := 5) (oi := { dst := some 42, op := _, type := _, pos := _, after := _, guard := _ }) (v := ?_) rfl (by kernel_rfl) (by kernel_rfl) (by kernel_rfl) (fun _ _ _ h => h) (Or.inl ⟨by rfl, ?_⟩) (hH0) ?_
        rotate_left
        · (intro wx hSw; obtain ⟨_, q0, q1, ⟨_, p0, p1, p2, p3, p4, _, _, _, _, _⟩⟩ := hSw; go_simp <;> with_reducible rfl)
        simp only [Act.put, List.setIfInBounds_toArray, List.set_cons_zero, List.set_cons_succ]
        refine wpAnyH_take (i := 7) (oi := { dst := some 44, op := _, type := _, pos := _, after := _, guard := _ }) (v := ?_) rfl (by kernel_rfl) (by kernel_rfl) (by kernel_rfl) (fun _ _ _ h => h) (Or.inl ⟨by rfl, ?_⟩) (hH0) ?_
        rotate_left
        · (intro wx hSw; obtain ⟨_, q0, q1, ⟨_, p0, p1, p2, p3, p4, _, _, _, _, _⟩⟩ := hSw; go_simp <;> with_reducible rfl)
        simp only [Act.put, List.setIfInBounds_toArray, List.set_cons_zero, List.set_cons_succ]
        refine wpAnyH_take (i := 8) (oi := { dst := some 45, op := _, type := _, pos := _, after := _, guard := _ }) (v := ?_) rfl (by kernel_rfl) (by kernel_rfl) (by kernel_rfl) (fun _ _ _ h => h) (Or.inl ⟨by rfl, ?_⟩) (hH0) ?_
        rotate_left
        · (intro wx hSw; obtain ⟨_, q0, q1, ⟨_, p0, p1, p2, p3, p4, _, _, _, _, _⟩⟩ := hSw; go_simp <;> with_reducible rfl)
        simp only [Act.put, List.setIfInBounds_toArray, List.set_cons_zero, List.set_cons_succ]
        refine wpAnyH_ready (rs := [6]) (by kernel_rfl) (by simp) ?_
        refine AllReadyH.cons (o := { dst := some 43, op := _, type := _, pos := _, after := _, guard := _ }) rfl (fun K hK => ?_) AllReadyH.nil
        go_simp
        refine (CDk.out _).mono ?_
        rintro e w_c43_1 ⟨rfl, hb_c43_1⟩
        dsimp only
        refine hK.out _ _ (BXS.below hH0 hb_c43_1) (fun hH1 => ?_)
        clear hK K
        refine wpAnyH_take (i := 9) (oi := { dst := some 46, op := _, type := _, pos := _, after := _, guard := _ }) (v := ?_) rfl (by kernel_rfl) (by kernel_rfl) (by kernel_rfl) (fun _ _ _ h => h) (Or.inl ⟨by rfl, ?_⟩) (hH1) ?_
        rotate_left
        · (intro wx hSw; obtain ⟨_, q0, q1, ⟨_, p0, p1, p2, p3, p4, _, _, _, _, _⟩⟩ := hSw; go_simp <;> with_reducible rfl)
        simp only [Act.put, List.setIfInBounds_toArray, List.set_cons_zero, List.set_cons_succ]
        refine wpAnyH_ready (rs := [10]) (by kernel_rfl) (by simp) ?_
        refine AllReadyH.cons (o := { dst := some 47, op := _, type := _, pos := _, after := _, guard := _ }) rfl (fun K hK => ?_) AllReadyH.nil
        go_simp
        refine (CEk.out _).mono ?_
        rintro e w_c47_2 ⟨rfl, hb_c47_2⟩
        dsimp only
        refine hK.out _ _ (BXS.below hH1 hb_c47_2) (fun hH2 => ?_)
        clear hK K
        refine wpAnyH_take (i := 11) (oi := { dst := some 36, op := _, type := _, pos := _, after := _, guard := _ }) (v := ?_) rfl (by kernel_rfl) (by kernel_rfl) (by kernel_rfl) (fun _ _ _ h => h) (Or.inl ⟨by rfl, ?_⟩) (hH2) ?_
        rotate_left
        · (intro wx hSw; obtain ⟨_, q0, q1, ⟨_, p0, p1, p2, p3, p4, _, _, _, _, _⟩⟩ := hSw; go_simp <;> with_reducible rfl)
        simp only [Act.put, List.setIfInBounds_toArray, List.set_cons_zero, List.set_cons_succ]
        refine wpAnyH_take (i := 12) (oi := { dst := some 48, op := _, type := _, pos := _, after := _, guard := _ }) (v := ?_) rfl (by kernel_rfl) (by kernel_rfl) (by kernel_rfl) (fun _ _ _ h => h) (Or.inl ⟨by rfl, ?_⟩) (hH2) ?_
        rotate_left
        · (intro wx hSw; obtain ⟨_, q0, q1, ⟨_, p0, p1, p2, p3, p4, _, _, _, _, _⟩⟩ := hSw; go_simp <;> with_reducible rfl)
        simp only [Act.put, List.setIfInBounds_toArray, List.set_cons_zero, List.set_cons_succ]
        refine wpAnyH_take (i := 13) (oi := { dst := some 49, op := _, type := _, pos := _, after := _, guard := _ }) (v := ?_) rfl (by kernel_rfl) (by kernel_rfl) (by kernel_rfl) (fun _ _ _ h => h) (Or.inl ⟨by rfl, ?_⟩) (hH2) ?_
        rotate_left
        · (intro wx hSw; obtain ⟨_, q0, q1, ⟨_, p0, p1, p2, p3, p4, _, _, _, _, _⟩⟩ := hSw; go_simp <;> with_reducible rfl)
        simp only [Act.put, List.setIfInBounds_toArray, List.set_cons_zero, List.set_cons_succ]
        refine wpAnyH_take (i := 14) (oi := { dst := some 50, op := _, type := _, pos := _, after := _, guard := _ }) (v := ?_) rfl (by kernel_rfl) (by kernel_rfl) (by kernel_rfl) (fun _ _ _ h => h) (Or.inl ⟨by rfl, ?_⟩) (hH2) ?_
        rotate_left
        · (intro wx hSw; obtain ⟨_, q0, q1, ⟨_, p0, p1, p2, p3, p4, _, _, _, _, _⟩⟩ := hSw; go_simp <;> with_reducible rfl)
        simp only [Act.put, List.setIfInBounds_toArray, List.set_cons_zero, List.set_cons_succ]
        -- behind it: go_wp2_with fail, then go_meet (a cut) or go_ret; the condition at the end: hH2
        have HOa := hide (((HO.out.below ba).below hb_c43_1).below hb_c47_2)
        have x0 := HOa.out.c0 hlt
        have x1 := HOa.out.c1 hlt
        have x2 := World.rowIs.frozen HOa.out (k * 2)
        have x3 := World.rowIs.frozen HOa.out (k * 2 + 1)
        refine wpAnyH_ready (rs := [15]) (by kernel_rfl) (by simp) ?_
        refine AllReadyH.cons (o := { dst := none, op := _, type := _, pos := _, after := _, guard := _ }) rfl (fun K hK => ?_) AllReadyH.nil
        go_simp
        refine hK.out _ _ (BXS.away (BXS.away hH2 _ _ (by simp; omega) (by simp)) _ _ (by simp; omega) (by simp)) (fun hH3 => ?_)
        clear hK K
        refine wpAnyH_done (by kernel_rfl) ?_ _
        have HB' := hide (bstep (bstep (bstep HB.out ba) hb_c43_1) hb_c47_2)
        have HS := hide HOa.out.step
        clear ix0 ix1 ix2 x0 x1 x2 x3 y1 y2 hH0 hH1 hH2 hb_c43_1 hb_c47_2 HOa ba
        go_wp2_with fail
        go_roundw
        case rel => exact ⟨k + 1, by omega, by go_num, HS.out, hH3.pk, (HB'.out.setCell (by simp; omega) _).setCell (by simp; omega) _⟩
        case measure => simp [intOf]; omega
      · obtain rfl : k = n := by omega
        have lO := hO.lt
        clear hO hF5 hbel
        go_wp2_with fail
        refine bodyPost_ret (v := .tuple #[.slice (some ⟨w1.heap.size + 1, 0, none⟩) k k, .bool true]) ?_ rfl ⟨_, k, rfl, rfl, .inr ⟨_, rfl, by omega, lO, HO.out.congr (fun j hj => by rw [upTo, if_pos (by omega)]) (fun j hj => by rw [upTo, if_pos (by omega)])⟩, HB.out⟩
        simp [results, Try.results9, go_sem]
end Go.Proofs.Ytfbigielooemaaa
