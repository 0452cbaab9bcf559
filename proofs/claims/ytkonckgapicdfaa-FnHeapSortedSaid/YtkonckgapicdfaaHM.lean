/- greatestOf: a copy of a heap's list with room for one more. -/
import Derived.Test.YtkonckgapicdfaaHL
import Derived.Test.YtkonckgapicdfaaHO0
import Derived.Laws.CopyOwn
import Derived.Lib.SlBuf
namespace Go.Proofs.Ytkonckgapicdfaa
open Go.RowKit
set_option maxRecDepth 8000
set_option linter.unusedSimpArgs false
set_option linter.unusedVariables false

theorem run_make_pairs2 {P : Program} (t e : TypeId) (x y : Value) (bytes : Nat) (ht : P.underlying t = some (.slice e)) (hinfo : (P.info? e).map (fun i => (i.zero, i.size, i.bytes)) = some (some (.agg #[x, y]), 2, bytes))
    (kl kc : IntKind) (n c : Nat) (hnc : n ≤ c) (hbytes : bytes * c ≤ 281474976710656) (h63 : c ≤ 9223372036854775807) (w : World) :
    (Instr.makeSlice t (.int kl (n : Int)) (.int kc (c : Int))).run P w = .ok (.slice (some ⟨w.heap.size, 0, none⟩) n c) (w.alloc (.cells (madeCells #[x, y] (c * 2)) e)) := by
  obtain ⟨i, hi, hzz⟩ := Option.map_eq_some_iff.1 hinfo
  simp only [Prod.mk.injEq] at hzz
  obtain ⟨hz, hs, hb⟩ := hzz
  have hb' : (i.bytes : Int) * (c : Int) ≤ 281474976710656 := by
    have h : ((i.bytes * c : Nat) : Int) ≤ 281474976710656 := by rw [hb]; omega
    rwa [Int.natCast_mul] at h
  have hr := run_make (P := P) w t e i _ ht hi hz kl kc n c (by omega) (by omega) hb' (by omega)
  simp only [Int.toNat_natCast, hs] at hr
  exact hr

theorem run_copy_pairs {P : Program} (w : World) (dT sT ty elem : TypeId) (g dCap : Nat) (a : Addr) (n sCap : Nat) (cur : Array Value) (t : TypeId) (cs : List Value)
    (hu : P.underlying dT = some (.slice elem)) (hs : (P.info? elem).map (·.size) = some 2) (hg : w.heap[g]? = some (.cells cur t (0, 0))) (hn : cs.length = n * 2)
    (hsrc : ∀ j v, cs[j]? = some v → w.cell? (a.add j) = some v) (hfit : cs.length ≤ cur.size) (h1 : ∀ v ∈ cs, v.oneCell' = true) :
    (Builtin.copy_ #[dT, sT] ty #[.slice (some ⟨g, 0, none⟩) n dCap, .slice (some a) n sCap]).run P w = .ok (goInt n) (w.setRow g (cs ++ cur.toList.drop cs.length).toArray) := by
  have hl := run_loadCells_list (P := P) w a cs hsrc
  have hst := run_storeCells_at P g 0 t cs 0 cur w hg (by simpa using hfit) h1
  cases hq : P.info? elem with
  | none => simp [hq] at hs
  | some i =>
    have hi : i.size = 2 := by simpa [hq] using hs
    simp [Builtin.copy_, run_underlying hu, Builtin.lenOf, Builtin.firstCells, sizeOf, typeInfo, hq, hi, ← hn, hl, hst]

theorem run_copy_pairs_none {P : Program} (w : World) (dT sT ty elem : TypeId) (d a : Option Addr) (dCap sCap : Nat) (hu : P.underlying dT = some (.slice elem)) (hs : (P.info? elem).map (·.size) = some 2) :
    (Builtin.copy_ #[dT, sT] ty #[.slice d 0 dCap, .slice a 0 sCap]).run P w = .ok (goInt 0) w := by
  cases hq : P.info? elem with
  | none => simp [hq] at hs
  | some i =>
    have hl : ∀ (x : Addr), (loadCells x 0).run P w = .ok #[] w := fun x => by simpa using run_loadCells_list (P := P) w x [] (by simp)
    cases d <;> cases a <;> simp [Builtin.copy_, run_underlying hu, Builtin.lenOf, Builtin.firstCells, sizeOf, typeInfo, hq, storeCells, hl]

def pcells (n : Nat) (f g : Nat → Int) : List Value := (List.range (n * 2)).map (pcell f g)

theorem pcells_len (n : Nat) (f g : Nat → Int) : (pcells n f g).length = n * 2 := by simp [pcells]

theorem pcells_one (n : Nat) (f g : Nat → Int) : ∀ v ∈ pcells n f g, v.oneCell' = true := by
  intro v hv
  simp only [pcells, List.mem_map] at hv
  obtain ⟨j, _, rfl⟩ := hv
  rfl

theorem pcells_src {w : World} {b off n : Nat} {f g : Nat → Int} (hc : ∀ i, i < n → w.cell? ⟨b, off + i * 2, none⟩ = some (.int .i64 (f i)) ∧ w.cell? ⟨b, off + i * 2 + 1, none⟩ = some (.int .i64 (g i))) :
    ∀ j v, (pcells n f g)[j]? = some v → w.cell? ((⟨b, off, none⟩ : Addr).add j) = some v := by
  intro j v hj
  have hlt : j < n * 2 := by
    have := (List.getElem?_eq_some_iff.1 hj).1
    rwa [pcells_len] at this
  have hv : v = pcell f g j := by simpa [pcells, hlt] using hj.symm
  subst hv
  have hadd : (⟨b, off, none⟩ : Addr).add j = ⟨b, off + j, none⟩ := by unfold Addr.add; split <;> simp_all
  rw [hadd]
  rcases (show j % 2 = 0 ∨ j % 2 = 1 by omega) with h | h
  · have := (hc (j / 2) (by omega)).1
    rw [show off + j / 2 * 2 = off + j by omega] at this
    rw [this]; simp [pcell, h]
  · have := (hc (j / 2) (by omega)).2
    rw [show off + j / 2 * 2 + 1 = off + j by omega] at this
    rw [this]; simp [pcell, h]

theorem own_copied {w : World} {g n : Nat} {f g' : Nat → Int} (h : w.heap[g]? = some (.cells (pcells n f g' ++ (madeCells #[Value.int .i64 0, Value.int .i64 0] ((n + 1) * 2)).toList.drop (pcells n f g').length).toArray 32 (0, 0))) :
    OwnL w g (n + 1) (listL n f g') := by
  refine ⟨_, h, ?_, fun i hi => ?_⟩
  · simp [pcells_len, size_madeCells]; omega
  · by_cases hl : i < n * 2
    · rw [show ((pcells n f g' ++ (madeCells #[Value.int .i64 0, Value.int .i64 0] ((n + 1) * 2)).toList.drop (pcells n f g').length).toArray)[i]? = (pcells n f g')[i]? from by simp [List.getElem?_append_left, pcells_len, hl]]
      simp only [pcells, List.getElem?_map, List.getElem?_range hl, Option.map_some, pcell, listL]
      rw [if_pos (show i / 2 < n by omega)]
    · have e : ((pcells n f g' ++ (madeCells #[Value.int .i64 0, Value.int .i64 0] ((n + 1) * 2)).toList.drop (pcells n f g').length).toArray)[i]? = some (.int .i64 0) := by
        rcases (show i = n * 2 ∨ i = n * 2 + 1 by omega) with rfl | rfl
        · simp [pcells_len, madeCells, List.getElem?_append_right]
        · rw [List.getElem?_toArray, List.getElem?_append_right (by rw [pcells_len]; omega), pcells_len, List.getElem?_drop, show n * 2 + (n * 2 + 1 - n * 2) = n * 2 + 1 by omega]
          simp [madeCells, show n * 2 + 1 < (n + 1) * 2 by omega, show (n * 2 + 1) % 2 = 1 by omega]
      rw [e]
      simp only [pcell, listL]
      rw [if_neg (show ¬ i / 2 < n by omega)]
      simp

def ToG (w : World) (n : Nat) (f g : Nat → Int) (e : Ending) (w' : World) : Prop :=
  ∃ b, e = .returned (.slice (some ⟨b, 0, none⟩) n (n + 1)) ∧ w.heap.size ≤ b ∧ OwnL w' b (n + 1) (listL n f g) ∧ Below w.heap.size w w'

theorem Try.sizeNear : (Try.prog.info? 32).map (·.size) = some 2 := by kernel_rfl

set_option maxHeartbeats 800000 in
theorem greatestOf_some (K : Int) (b off n cap : Nat) (f g : Nat → Int) (w : World) (hn : n ≤ 20) (hb : b < w.heap.size) (hc : ∀ i, i < n → w.cell? ⟨b, off + i * 2, none⟩ = some (.int .i64 (f i)) ∧ w.cell? ⟨b, off + i * 2 + 1, none⟩ = some (.int .i64 (g i))) :
    Calls Try.prog 13 #[.agg #[.int .i64 K, .slice (some ⟨b, off, none⟩) n cap]] w fun e w' => ToG w n f g e w' := by
  have hmk := run_make_pairs2 (P := Try.prog) 34 32 (.int .i64 0) (.int .i64 0) 16 Try.underlying34 Try.infoNear .i64 .i64 n (n + 1) (by omega) (by omega) (by omega)
  rw [show ((n + 1 : Nat) : Int) = (n : Int) + 1 by omega] at hmk
  generalize hA : Obj.cells #[Value.int IntKind.i64 K, Value.slice (some ⟨b, off, none⟩) n cap] 26 = OA
  generalize hB : Obj.cells (madeCells #[Value.int IntKind.i64 0, Value.int IntKind.i64 0] ((n + 1) * 2)) 32 = OB
  obtain ⟨w2, hcp, h2o, h2b⟩ : ∃ w2, (Builtin.copy_ #[34, 24] 3 #[.slice (some ⟨w.heap.size + 1, 0, none⟩) n (n + 1), .slice (some ⟨b, off, none⟩) n cap]).run Try.prog ((w.alloc OA).alloc OB) = .ok (.int .i64 n) w2 ∧ OwnL w2 (w.heap.size + 1) (n + 1) (listL n f g) ∧ Below w.heap.size w w2 := by
    have hbl : Below w.heap.size w ((w.alloc OA).alloc OB) := (by repeat' first | with_reducible exact Below.refl _ _ | with_reducible assumption | with_reducible refine below_drewN ?_ _ | with_reducible refine balloc ?_ _ | with_reducible refine Below.drew ?_ | with_reducible refine Below.setCell ?_ (by first | (simp; done) | (simp; omega) | omega) _ | with_reducible refine bstep ?_ (by assumption))
    have hg : ((w.alloc OA).alloc OB).heap[w.heap.size + 1]? = some (.cells (madeCells #[Value.int IntKind.i64 0, Value.int IntKind.i64 0] ((n + 1) * 2)) 32 (0, 0)) := by
      rw [← hB]
      have := Go.Deep.blk_alloc_new (w.alloc OA) (Obj.cells (madeCells #[Value.int IntKind.i64 0, Value.int IntKind.i64 0] ((n + 1) * 2)) 32)
      simpa using this
    refine ⟨_, run_copy_pairs _ _ _ _ 32 _ _ ⟨b, off, none⟩ n cap _ _ (pcells n f g) Try.underlying34 Try.sizeNear hg (pcells_len n f g) (pcells_src fun i hi => ⟨(hbl.cell (p := ⟨b, off + i * 2, none⟩) hb).trans (hc i hi).1, (hbl.cell (p := ⟨b, off + i * 2 + 1, none⟩) hb).trans (hc i hi).2⟩) (by rw [pcells_len, size_madeCells]; omega) (pcells_one n f g), ?_, ?_⟩
    · exact own_copied (setRow_heap _ _ _ _ _ _ hg)
    · exact below_setRow hbl (by omega) _
  subst hA hB
  have H2O := hide h2o
  have H2B := hide h2b
  clear hc h2o h2b
  go_enter Try.func13, Try.ntmps13
  go_wp2_with fail
  go_ret
  exact ⟨_, rfl, by omega, H2O.out, H2B.out⟩

set_option maxHeartbeats 800000 in
theorem greatestOf_none (K : Int) (a : Option Addr) (cap : Nat) (f g : Nat → Int) (w : World) :
    Calls Try.prog 13 #[.agg #[.int .i64 K, .slice a 0 cap]] w fun e w' => ToG w 0 f g e w' := by
  have hmk : ∀ w : World, (Instr.makeSlice 34 (.int .i64 0) (.int .i64 1)).run Try.prog w = .ok (.slice (some ⟨w.heap.size, 0, none⟩) 0 1) (w.alloc (.cells (madeCells #[.int .i64 0, .int .i64 0] (1 * 2)) 32)) :=
    run_make_pairs2 (P := Try.prog) 34 32 (.int .i64 0) (.int .i64 0) 16 Try.underlying34 Try.infoNear .i64 .i64 0 1 (by omega) (by omega) (by omega)
  have hcp := fun w d => run_copy_pairs_none (P := Try.prog) w 34 24 3 32 d a 1 cap Try.underlying34 Try.sizeNear
  go_enter Try.func13, Try.ntmps13
  go_wp2_with fail
  go_ret
  refine ⟨_, rfl, by omega, ?_, (by repeat' first | with_reducible exact Below.refl _ _ | with_reducible assumption | with_reducible refine below_drewN ?_ _ | with_reducible refine balloc ?_ _ | with_reducible refine Below.drew ?_ | with_reducible refine Below.setCell ?_ (by first | (simp; done) | (simp; omega) | omega) _ | with_reducible refine bstep ?_ (by assumption))⟩
  have hm := OwnN.made (w.alloc (Obj.cells #[Value.int IntKind.i64 K, Value.slice a 0 cap] 26)) 1
  rw [World.size_alloc] at hm
  exact OwnN.congr hm (f' := fun i => (listL 0 f g i).1) (g' := fun i => (listL 0 f g i).2) (fun i _ => by simp [listL]) (fun i _ => by simp [listL])

theorem greatestOf_any (K : Int) (a : Option Addr) (n cap : Nat) (f g : Nat → Int) (w : World) (h : PRow w a n f g) (hn : n ≤ 20) :
    Calls Try.prog 13 #[.agg #[.int .i64 K, .slice a n cap]] w fun e w' => ToG w n f g e w' := by
  rcases h.lies with h0 | ⟨b, off, rfl, lt, hc⟩
  · subst h0
    exact greatestOf_none K a cap f g w
  · exact greatestOf_some K b off n cap f g w hn lt hc
end Go.Proofs.Ytkonckgapicdfaa
