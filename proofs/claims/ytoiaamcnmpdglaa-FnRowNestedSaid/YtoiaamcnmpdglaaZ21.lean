/- The reader of drawn bytes: vec and what it holds; lists of vectors in new memory. -/
import Derived.Test.YtoiaamcnmpdglaaZ15
import Derived.Test.YtoiaamcnmpdglaaZ11
import Derived.Test.YtoiaamcnmpdglaaZ19
namespace Go.Proofs.Ytoiaamcnmpdglaa
open Go.RowKit
set_option maxRecDepth 8000
set_option linter.unusedSimpArgs false
set_option linter.unusedVariables false

def VecPostR (B : Nat) (w : World) (rb : Nat) (a : Option Addr) (n c d : Nat) (e : Ending) (w' : World) : Prop :=
  ∃ (v : Value) (f : Nat → Int), e = .returned v ∧ (∀ j, j < d → -1048576 ≤ f j ∧ f j ≤ 1048576) ∧ w'.ownsRow w.heap.size 2 1 v d (vals f d) ∧ Rd B w' rb a n c ∧ But rb w w'

set_option maxHeartbeats 1000000 in
theorem vecR_any (B rb n c : Nat) (a : Option Addr) (d : Nat) (w : World) (h : Rd B w rb a n c) (hB : B ≤ w.heap.size) (hd : d ≤ 100) :
    Calls Try.prog 29 #[.pointer (some ⟨rb, 0, none⟩), .int .i64 d] w fun e w' => VecPostR B w rb a n c d e w' := by
  obtain ⟨i0, hi, hz0, hz1, hz2⟩ := info_parts Try.infoI64
  have HH := hide h
  have hltw := h.lt
  clear h
  go_enter Try.func29, Try.ntmps29
  go_wp2_with fail
  go_loopw [5, 6] (fun v i wr => ∃ (k : Nat) (f : Nat → Int), k ≤ d ∧ i = .int .i64 k ∧ Hid (∀ j, j < k → -1048576 ≤ f j ∧ f j ≤ 1048576) ∧ wr.ownsRow w.heap.size 2 1 v k (vals f k) ∧ Rd B wr rb a n c ∧ But rb w wr) (fun _ i _ => d - (intOf i).toNat)
  case atStart => exact ⟨0, fun _ => 0, Nat.zero_le _, rfl, hide (fun j hj => by omega), World.ownsRow_made w #[] 0 (Nat.le_refl _) (Nat.zero_le _) rfl, HH.out.alloc _, (But.refl _ _).alloc _⟩
  case round =>
    obtain ⟨k, f, hk, rfl, hR, hown, hr, hb⟩ := hrel
    by_cases hlt : k < d
    · have C := hide (comp_any B rb n c a wr hr)
      have HO := hide hown
      have HBB := hide hb
      clear hr hb hown
      go_wp2_with fail
      refine C.out.mono ?_
      rintro e w1 ⟨x, rfl, x0, x1, hr1, hb1⟩
      have hob : w1.ownsRow w.heap.size 2 1 _ k (vals f k) := owns_but HO.out hb1 hltw
      have HO1 := hide hob
      have HB1 := hide (HBB.out.trans hb1)
      have HR1 := hide hr1
      have s1 := HB1.out.size
      clear hob hb1 hr1 HO HBB
      go_wp2_with (at_builtin; refine wpList_append_own _ rfl _ _ 25 rfl w.heap.size 2 i0 (.int .i64 0) 1 8 Try.underlying25 hi hz0 hz1 hz2 rfl (by decide) _ _ _ rfl (HO1.out.alloc _) ⟨_, 0, none⟩ 1 1 [.int .i64 x] rfl rfl ?c1 ?c2 ?c3 ?c4 ?c5 ?_)
      case c1 => exact one_new _ _ _
      case c2 => intro u hu; simp at hu; subst hu; rfl
      case c3 => unfold maxLen; omega
      case c4 => omega
      case c5 => simp; omega
      intro v' w2 hown2 hgrow _
      rw [vals_snoc] at hown2
      have hB2 := but_app HB1.out HO1.out hgrow
      have hR2 := HR1.out.app hltw hB HO1.out hgrow
      have HO2 := hide hown2
      have HB2 := hide hB2
      have HR2 := hide hR2
      have hRn : Hid (∀ j, j < k + 1 → -1048576 ≤ (if j = k then x else f j) ∧ (if j = k then x else f j) ≤ 1048576) := hide fun j hj => by
        by_cases e : j = k
        · rw [if_pos e]; exact ⟨x0, x1⟩
        · rw [if_neg e]; exact hR.out j (by omega)
      clear hgrow hown2 hB2 hR2 HO1
      go_wp2_with fail
      go_roundw
      case rel => exact ⟨k + 1, _, by omega, by go_num, hRn, HO2.out, HR2.out, HB2.out⟩
      case measure => simp [intOf]; omega
    · have hkn : k = d := by omega
      subst hkn
      go_wp2_with fail
      go_ret
      exact ⟨_, f, rfl, hR.out, hown, hr, hb⟩

theorem Try.infoVecI : (Try.prog.info? 25).map (fun i => (i.zero, i.size, i.bytes)) = some (some (.slice none 0 0), 1, 24) := by kernel_rfl

theorem infoVec_parts : ∃ i : TypeInfo, Try.prog.info? 25 = some i ∧ i.zero = some (.slice none 0 0) ∧ i.size = 1 ∧ i.bytes = 24 := by
  obtain ⟨i, hi, hzz⟩ := Option.map_eq_some_iff.1 Try.infoVecI
  simp only [Prod.mk.injEq] at hzz
  exact ⟨i, hi, hzz.1, hzz.2.1, hzz.2.2⟩
def vl (sv : Nat → Value) (k : Nat) : List Value := (List.range k).map sv

theorem vl_len (sv : Nat → Value) (k : Nat) : (vl sv k).length = k := by simp [vl]

theorem vl_at (sv : Nat → Value) {k i : Nat} (hi : i < k) : (vl sv k)[i]? = some (sv i) := by simp [vl, hi]

theorem vl_snoc (sv : Nat → Value) (k : Nat) (x : Value) : vl sv k ++ [x] = vl (fun j => if j = k then x else sv j) (k + 1) := by
  unfold vl
  rw [List.range_succ, List.map_append]
  congr 1
  · exact List.map_congr_left fun j hj => by have := List.mem_range.1 hj; show _ = if j = k then x else sv j; rw [if_neg (by omega)]
  · simp

theorem owns_butM {base : Nat} {wr w1 : World} {rb : Nat} {e : TypeId} {size : Nat} {v : Value} {k : Nat} {xs : List Value} (h : wr.ownsRow base e size v k xs) (hb : But rb wr w1) (hlt : rb < base) : w1.ownsRow base e size v k xs := by
  refine ⟨h.1, ?_⟩
  rcases h.2 with h0 | ⟨g, cap, cur, hv, hg, hh, rest⟩
  · exact .inl h0
  · exact .inr ⟨g, cap, cur, hv, hg, (hb.block g (Array.getElem?_eq_some_iff.1 hh).1 (by omega)).trans hh, rest⟩

theorem owns_lowM {base base' : Nat} {wr : World} {e : TypeId} {size : Nat} {v : Value} {k : Nat} {xs : List Value} (h : wr.ownsRow base e size v k xs) (hb : base' ≤ base) : wr.ownsRow base' e size v k xs := by
  refine ⟨h.1, ?_⟩
  rcases h.2 with h0 | ⟨g, cap, cur, hv, hg, hh, rest⟩
  · exact .inl h0
  · exact .inr ⟨g, cap, cur, hv, by omega, hh, rest⟩
/-- Rows of unlike elements lie in unlike blocks. -/
theorem owns_apartM {w : World} {base base' : Nat} {v u : Value} {n m : Nat} {xs ys : List Value} {g : Nat} (h : w.ownsRow base 25 1 v n xs) (h' : w.ownsRow base' 2 1 u m ys) (e : v.ownBlock = some g) (e' : u.ownBlock = some g) : False := by
  rcases h.2 with ⟨rfl, _⟩ | ⟨g1, c1, cur1, rfl, _, hh1, _⟩
  · cases e
  rcases h'.2 with ⟨rfl, _⟩ | ⟨g2, c2, cur2, rfl, _, hh2, _⟩
  · cases e'
  have e1 : g1 = g := by simpa [Value.ownBlock] using e
  have e2 : g2 = g := by simpa [Value.ownBlock] using e'
  subst e1
  rw [e2, hh1] at hh2
  simp at hh2
/-- A list of vectors that is the call's own: the list v, its k vectors sv in blocks V, which hold xs. -/
structure OMat (w : World) (base : Nat) (v : Value) (k : Nat) (sv : Nat → Value) (xs : Nat → List Int) (V : Nat → Nat) : Prop where
  own : w.ownsRow base 25 1 v k (vl sv k)
  each : ∀ i, i < k → ∃ n c f, sv i = .slice (some ⟨V i, 0, none⟩) n c ∧ w.ownsRow base 2 1 (sv i) n (vals f n) ∧ xs i = ints f n ∧ n ≤ 200
  sep : ∀ i j, i < j → j < k → V i ≠ V j

theorem OMat.but {w w' : World} {base : Nat} {v : Value} {k : Nat} {sv : Nat → Value} {xs : Nat → List Int} {V : Nat → Nat} (h : OMat w base v k sv xs V) {rb : Nat} (hb : But rb w w') (hlt : rb < base) : OMat w' base v k sv xs V :=
  ⟨owns_butM h.own hb hlt, fun i hi => by obtain ⟨n, c, f, e, ho, hx, h2⟩ := h.each i hi; exact ⟨n, c, f, e, owns_butM ho hb hlt, hx, h2⟩, h.sep⟩

theorem OMat.lt {w : World} {base : Nat} {v : Value} {k : Nat} {sv : Nat → Value} {xs : Nat → List Int} {V : Nat → Nat} (h : OMat w base v k sv xs V) {i : Nat} (hi : i < k) : base ≤ V i ∧ V i < w.heap.size := by
  obtain ⟨n, c, f, e, ho, _⟩ := h.each i hi
  exact ho.lt (V i) (by rw [e]; rfl)
/-- One more vector, in a block that is new. -/
theorem OMat.step {w w1 w5 : World} {base : Nat} {v : Value} {k : Nat} {sv : Nat → Value} {xs : Nat → List Int} {V : Nat → Nat} (h : OMat w1 base v k sv xs V) (hV : ∀ i, i < k → V i < w.heap.size) (hbase : base ≤ w.heap.size)
    {g n c : Nat} {f : Nat → Int} (ho : w1.ownsRow w.heap.size 2 1 (.slice (some ⟨g, 0, none⟩) n c) n (vals f n)) (hn : n ≤ 200) {o : Obj} {g5 c5 : Nat}
    (hown5 : w5.ownsRow base 25 1 (.slice (some ⟨g5, 0, none⟩) (k + 1) c5) (k + 1) (vl sv k ++ [.slice (some ⟨g, 0, none⟩) n c])) (hg : (w1.alloc o).grownBy w5 v.ownBlock) :
    OMat w5 base (.slice (some ⟨g5, 0, none⟩) (k + 1) c5) (k + 1) (fun j => if j = k then .slice (some ⟨g, 0, none⟩) n c else sv j) (fun j => if j = k then ints f n else xs j) (fun j => if j = k then g else V j) := by
  have kp : ∀ {u : Value} {m : Nat} {ys : List Value} {q : Nat}, w1.ownsRow q 2 1 u m ys → w5.ownsRow q 2 1 u m ys := by
    intro u m ys q hu
    refine ⟨hu.1, ?_⟩
    rcases hu.2 with h0 | ⟨g1, c1, cur1, hv1, hb1, hh1, rest⟩
    · exact .inl h0
    · have lt1 := (Array.getElem?_eq_some_iff.1 hh1).1
      refine .inr ⟨g1, c1, cur1, hv1, hb1, ?_, rest⟩
      rw [hg.block g1 (by simp; omega) (fun e => owns_apartM h.own hu e.symm (by rw [hv1]; rfl)), (balloc (Below.refl w1.heap.size w1) o).block g1 lt1, hh1]
  refine ⟨by rw [← vl_snoc]; exact hown5, fun i hi => ?_, fun i j hij hj => ?_⟩
  · by_cases e : i = k
    · simp only [e, if_true]
      exact ⟨n, c, f, rfl, owns_lowM (kp ho) hbase, rfl, hn⟩
    · simp only [e, if_false]
      obtain ⟨n', c', f', e', ho', hx, h2⟩ := h.each i (by omega)
      exact ⟨n', c', f', e', kp ho', hx, h2⟩
  · have hi' : i < k := by omega
    by_cases e : j = k
    · subst e
      simp only [show ¬ i = j by omega, if_false, if_true]
      have := hV i hi'
      have := (ho.lt g rfl).1
      omega
    · simp only [show ¬ i = k by omega, e, if_false]
      exact h.sep i j hij (by omega)
def lists (xs : Nat → List Int) (k : Nat) : List (List Int) := (List.range k).map xs

theorem lists_len (xs : Nat → List Int) (k : Nat) : (lists xs k).length = k := by simp [lists]

theorem row_lists (xs : Nat → List Int) {k i : Nat} (hi : i < k) : row (lists xs k) i = xs i := by simp [row, lists, List.getD, hi]

theorem OMat.mat {w : World} {base : Nat} {a : Option Addr} {cap : Nat} {k : Nat} {sv : Nat → Value} {xs : Nat → List Int} {V : Nat → Nat} (h : OMat w base (.slice a k cap) k sv xs V) : Mat w a k (lists xs k) := by
  refine ⟨lists_len _ _, ?_⟩
  rcases h.own.2 with ⟨e, e'⟩ | ⟨g, cap', cur, hv, hg, hh, _⟩
  · simp only [Value.slice.injEq] at e
    exact .inl e.2.1
  · simp only [Value.slice.injEq] at hv
    obtain ⟨rfl, _, rfl⟩ := hv
    refine .inr ⟨g, 0, rfl, (Array.getElem?_eq_some_iff.1 hh).1, fun i hi => ?_⟩
    have hc := h.own.cellAt i (by omega)
    rw [vl_at sv hi] at hc
    obtain ⟨n, c, f, e, ho, hx, h2⟩ := h.each i hi
    obtain ⟨a', c', e', hr, _⟩ := row_of_owns ho
    rw [e'] at hc
    rw [row_lists _ hi, hx]
    exact ⟨a', n, c', by rw [Nat.zero_add]; exact hc, hr, by omega⟩

def VecsPost (B : Nat) (w : World) (rb : Nat) (a : Option Addr) (n c d : Nat) (e : Ending) (w' : World) : Prop :=
  ∃ g cp k sv xs V, e = .returned (.slice (some ⟨g, 0, none⟩) k cp) ∧ 1 ≤ k ∧ k ≤ 12 ∧ OMat w' w.heap.size (.slice (some ⟨g, 0, none⟩) k cp) k sv xs V ∧ (∀ i, i < k → (xs i).length = d ∧ ∀ j, j < d → -1048576 ≤ nth (xs i) j ∧ nth (xs i) j ≤ 1048576) ∧ Rd B w' rb a n c ∧ But rb w w'

set_option maxHeartbeats 4000000 in
theorem vecs_any (B rb n c : Nat) (a : Option Addr) (d : Nat) (w : World) (h : Rd B w rb a n c) (hB : B ≤ w.heap.size) (hd1 : 1 ≤ d) (hd : d ≤ 100) :
    Calls Try.prog 53 #[.pointer (some ⟨rb, 0, none⟩), .int .i64 d] w fun e w' => VecsPost B w rb a n c d e w' := by
  obtain ⟨i0, hi, hz0, hz1, hz2⟩ := infoVec_parts
  have HI := hide hi
  have HH := hide h
  have hltw := h.lt
  clear h hi
  go_enter Try.func53, Try.ntmps53
  go_wp2_with fail
  refine (size_any B rb n c a 5 12 (w.alloc (.cells #[] 25)) (HH.out.alloc _) (by omega) (by omega) (by omega) (by omega)).mono ?_
  rintro e w1 ⟨sz, rfl, s0, s1, hr1, hb1⟩
  have O1 : OMat w1 w.heap.size (.slice (some ⟨w.heap.size, 0, none⟩) 0 0) 0 (fun _ => .slice none 0 0) (fun _ => []) (fun _ => 0) :=
    OMat.but ⟨World.ownsRow_made w #[] 0 (Nat.le_refl _) (Nat.zero_le _) rfl, fun i hi => by omega, fun i j _ hj => by omega⟩ hb1 hltw
  have HO1 := hide O1
  have HR1 := hide hr1
  have HB1 := hide (((But.refl rb w).alloc (.cells #[] 25)).trans hb1)
  obtain ⟨z, hz⟩ : ∃ z : Nat, sz = (z : Int) := ⟨sz.toNat, by omega⟩
  subst hz
  clear O1 hr1 hb1 HH
  go_wp2_with fail
  go_loopw [5, 6] (fun v i wr => ∃ (j k g cp : Nat) (sv : Nat → Value) (xs : Nat → List Int) (V : Nat → Nat), j + k = z ∧ i = .int .i64 j ∧ v = .slice (some ⟨g, 0, none⟩) k cp ∧ OMat wr w.heap.size (.slice (some ⟨g, 0, none⟩) k cp) k sv xs V ∧ Hid (∀ i, i < k → (xs i).length = d ∧ ∀ j, j < d → -1048576 ≤ nth (xs i) j ∧ nth (xs i) j ≤ 1048576) ∧ Rd B wr rb a n c ∧ But rb w wr) (fun _ i _ => (intOf i).toNat)
  case atStart => exact ⟨z, 0, _, _, _, _, _, by omega, rfl, rfl, HO1.out, hide (fun i hi => by omega), HR1.out, HB1.out⟩
  case round =>
    clear HO1 HR1 HB1
    obtain ⟨j, k, g, cp, sv, xs, V, hjk, rfl, rfl, hO, hX, hr, hb⟩ := hrel
    by_cases h0 : 0 < j
    · have h0' : (0 : Int) < (j : Int) := by omega
      have C := hide (vecR_any B rb n c a d wr hr (by have := hb.size; omega) hd)
      have HO := hide hO
      have HB := hide hb
      clear hr hb hO
      go_wp2_with fail
      refine C.out.mono ?_
      rintro e w2 ⟨v2, f, rfl, hf, ho2, hr2, hb2⟩
      obtain ⟨g2, c2, rfl, _, _⟩ := ho2.form (by omega)
      have HO2 := hide (HO.out.but hb2 hltw)
      have HV2 := hide (fun i (hi : i < k) => (HO.out.lt hi).2)
      have HB2 := hide (HB.out.trans hb2)
      have HR2 := hide hr2
      have HV := hide ho2
      have hs2 := HB2.out.size
      have sw := HB.out.size
      have HX2 : Hid (∀ i, i < k + 1 → ((fun j => if j = k then ints f d else xs j) i).length = d ∧ ∀ j, j < d → -1048576 ≤ nth ((fun j => if j = k then ints f d else xs j) i) j ∧ nth ((fun j => if j = k then ints f d else xs j) i) j ≤ 1048576) := hide fun i hi => by
        by_cases e : i = k
        · simp only [e, if_true]
          exact ⟨ints_len f d, fun j hj => by rw [nth_ints f d j hj]; exact hf j hj⟩
        · simp only [e, if_false]
          exact hX.out i (by omega)
      clear hr2 hb2 HO HB ho2 hX hf
      have hown := hide (HO2.out.own)
      generalize hNV : vl sv k = NV at hown
      have HNV := hide hNV
      clear hNV
      go_wp2_with (at_builtin; refine wpList_append_lies _ rfl _ _ 81 rfl w.heap.size 25 i0 _ 1 24 Try.underlying81 HI.out hz0 hz1 hz2 rfl (by decide) _ _ _ rfl (hown.out.alloc _) ⟨_, 0, none⟩ 1 1 [.slice (some ⟨g2, 0, none⟩) d c2] rfl rfl (one_new _ _ _) (by intro u hu; simp at hu; subst hu; rfl) (by omega) (by unfold maxLen; omega) (by omega) (by simp; omega) _ rfl ?_)
      intro g5 c5 w5 hown5 hgrow hat5 hglt
      rw [← HNV.out] at hown5
      have HO5 := hide (HO2.out.step (w := wr) (fun i hi => HV2.out i hi) sw HV.out (by omega) hown5 hgrow)
      have HB5 := hide (but_app HB2.out HO2.out.own hgrow)
      have HR5 := hide (HR2.out.app hltw hB HO2.out.own hgrow)
      clear hown5 hgrow hat5 hown HO2 HB2 HR2 HV HNV
      go_wp2_with fail
      go_roundw
      case rel => exact ⟨j - 1, k + 1, g5, c5, _, _, _, by omega, by go_num, rfl, HO5.out, HX2, HR5.out, HB5.out⟩
      case measure => simp [intOf]; omega
    · obtain rfl : j = 0 := by omega
      go_wp2_with fail
      go_ret
      exact ⟨g, cp, k, sv, xs, V, rfl, by omega, by omega, hO, hX.out, hr, hb⟩
end Go.Proofs.Ytoiaamcnmpdglaa

/- Drawn lists of vectors: DrawRangesOf. -/
namespace Go.Proofs.Ytoiaamcnmpdglaa
open Go.RowKit
set_option maxRecDepth 8000
set_option linter.unusedSimpArgs false
set_option linter.unusedVariables false

/-- The first vector is hurt. -/
theorem OMat.hurt {w w' : World} {base rb g cp k : Nat} {sv : Nat → Value} {xs : Nat → List Int} {V : Nat → Nat} (h : OMat w base (.slice (some ⟨g, 0, none⟩) k cp) k sv xs V) (hk : 1 ≤ k) (hg : KpG rb (V 0) w w') (hlt : rb < base)
    {base' d' : Nat} {v' : Value} {f' : Nat → Int} (ho : w'.ownsRow base' 2 1 v' d' (vals f' d')) (hd : d' ≤ 200) :
    w'.cell? ⟨g, 0, none⟩ = some (sv 0) ∧ w'.frozen? ⟨g, 0, none⟩ = false ∧ Mat (w'.setCell ⟨g, 0, none⟩ v') (some ⟨g, 0, none⟩) k (lists (fun i => if i = 0 then ints f' d' else xs i) k) := by
  obtain ⟨n0, c0, f0, e0, ho0, _, _⟩ := h.each 0 (by omega)
  have hgV : g ≠ V 0 := fun e => owns_apartM h.own ho0 rfl (by rw [e0, e]; rfl)
  have hgb := (h.own.lt g rfl)
  have blk : w'.heap[g]? = w.heap[g]? := hg.2 g hgb.2 (by omega) hgV
  have own' : w'.ownsRow base 25 1 (.slice (some ⟨g, 0, none⟩) k cp) k (vl sv k) := by
    refine ⟨h.own.1, ?_⟩
    rcases h.own.2 with ⟨e, _⟩ | ⟨g1, c1, cur, hv, hb1, hh, rest⟩
    · cases e
    · have e1 : g1 = g := by
        simp only [Value.slice.injEq, Option.some.injEq, Addr.mk.injEq] at hv
        exact hv.1.1.symm
      exact .inr ⟨g1, c1, cur, hv, hb1, by rw [e1, blk, ← e1]; exact hh, rest⟩
  have cells : ∀ i, i < k → w'.cell? ⟨g, i, none⟩ = some (sv i) := fun i hi => by
    have := own'.cellAt i (by omega)
    rwa [vl_at sv hi] at this
  have far : ∀ {u : Value} {m : Nat} {ys : List Value} {q : Nat}, w'.ownsRow q 2 1 u m ys → (w'.setCell ⟨g, 0, none⟩ v').ownsRow q 2 1 u m ys := by
    intro u m ys q hu
    refine ⟨hu.1, ?_⟩
    rcases hu.2 with h0 | ⟨g1, c1, cur1, hv1, hb1, hh1, rest⟩
    · exact .inl h0
    · exact .inr ⟨g1, c1, cur1, hv1, hb1, (Below.heap_setCell w' ⟨g, 0, none⟩ v' g1 (fun e => owns_apartM own' hu (g := g) rfl (by rw [hv1, e]; rfl))).trans hh1, rest⟩
  refine ⟨cells 0 (by omega), ?_, lists_len _ _, .inr ⟨g, 0, rfl, by simp [World.setCell]; exact Nat.lt_of_lt_of_le hgb.2 hg.1, fun i hi => ?_⟩⟩
  · rcases own'.2 with ⟨e, _⟩ | ⟨g1, c1, cur, hv, hb1, hh, rest⟩
    · cases e
    · simp only [Value.slice.injEq, Option.some.injEq, Addr.mk.injEq] at hv
      obtain ⟨⟨rfl, _⟩, _, _⟩ := hv
      simp [World.frozen?, hh]
  · rw [row_lists _ hi, Nat.zero_add]
    by_cases e : i = 0
    · subst e
      simp only [if_true]
      obtain ⟨a', c', e', hr, _⟩ := row_of_owns (far ho)
      exact ⟨a', d', c', by rw [← e']; exact World.cell?_setCell_same _ _ _ (cells 0 (by omega)), hr, by omega⟩
    · simp only [e, if_false]
      obtain ⟨n, c, f, ei, hoi, hx, h2⟩ := h.each i hi
      have hoi' : w'.ownsRow base 2 1 (sv i) n (vals f n) := by
        refine ⟨hoi.1, ?_⟩
        rcases hoi.2 with ⟨e1, _⟩ | ⟨g1, c1, cur1, hv1, hb1, hh1, rest⟩
        · rw [ei] at e1; cases e1
        · have e1 : g1 = V i := by
            rw [ei] at hv1
            simp only [Value.slice.injEq, Option.some.injEq, Addr.mk.injEq] at hv1
            exact hv1.1.1.symm
          exact .inr ⟨g1, c1, cur1, hv1, hb1, (hg.2 g1 (Array.getElem?_eq_some_iff.1 hh1).1 (by omega) (by rw [e1]; exact fun e2 => h.sep 0 i (by omega) hi e2.symm)).trans hh1, rest⟩
      obtain ⟨a', c', e', hr, _⟩ := row_of_owns (far hoi')
      rw [hx]
      exact ⟨a', n, c', by rw [World.cell?_setCell_other _ _ _ _ (by simp; try omega), cells i hi, e'], hr, by omega⟩

def DrawMat (w : World) (e : Ending) (w' : World) : Prop :=
  ∃ a k cap xss, e = .returned (.slice a k cap) ∧ Mat w' a k xss ∧ k ≤ 100 ∧ Below w.heap.size w w'

end Go.Proofs.Ytoiaamcnmpdglaa