/- greatestOf: a copy of a heap's list with room for one more. -/
import Derived.Test.YtjliecggfncelaaZ18
import Derived.Test.YtjliecggfncelaaZ9
import Derived.Laws.CopyOwn
import Derived.Lib.SlBuf
namespace Go.Proofs.Ytjliecggfncelaa
open Go.RowKit
set_option maxRecDepth 8000
set_option linter.unusedSimpArgs false
set_option linter.unusedVariables false

theorem run_make_pairs2 {P : Program} (t e : TypeId) (x y : Value) (bytes : Nat) (ht : P.underlying t = some (.slice e)) (hinfo : (P.info? e).map (fun i => (i.zero, i.size, i.bytes)) = some (some (.agg #[x, y]), 2, bytes))
    (kl kc : IntKind) (n c : Nat) (hnc : n ≤ c) (hbytes : bytes * c ≤ 281474976710656) (h63 : c ≤ 9223372036854775807) (w : World) :
    (Instr.makeSlice t (.int kl (n : Int)) (.int kc (c : Int))).run P w = .ok (.slice (some ⟨w.heap.size, 0, none⟩) n c) (w.alloc (.cells (madeCells #[x, y] (c * 2)) e)) := by
  obtain ⟨i, hi, hzz⟩ := Option.map_eq_some_iff.1 hinfo
  simp only [Prod.mk.injEq] at hzz
  obtain ⟨hz, hs, hb⟩ := hzz
  have hb' : (i.bytes : Int) * (c : Int) ≤ 281474976710656 := by
    have h : ((i.bytes * c : Nat) : Int) ≤ 281474976710656 := by rw [hb]; omega
    rwa [Int.natCast_mul] at h
  have hr := run_make (P := P) w t e i _ ht hi hz kl kc n c (by omega) (by omega) hb' (by omega)
  simp only [Int.toNat_natCast, hs] at hr
  exact hr

theorem run_copy_pairs {P : Program} (w : World) (dT sT ty elem : TypeId) (g dCap : Nat) (a : Addr) (n sCap : Nat) (cur : Array Value) (t : TypeId) (cs : List Value)
    (hu : P.underlying dT = some (.slice elem)) (hs : (P.info? elem).map (·.size) = some 2) (hg : w.heap[g]? = some (.cells cur t (0, 0))) (hn : cs.length = n * 2)
    (hsrc : ∀ j v, cs[j]? = some v → w.cell? (a.add j) = some v) (hfit : cs.length ≤ cur.size) (h1 : ∀ v ∈ cs, v.oneCell' = true) :
    (Builtin.copy_ #[dT, sT] ty #[.slice (some ⟨g, 0, none⟩) n dCap, .slice (some a) n sCap]).run P w = .ok (goInt n) (w.setRow g (cs ++ cur.toList.drop cs.length).toArray) := by
  have hl := run_loadCells_list (P := P) w a cs hsrc
  have hst := run_storeCells_at P g 0 t cs 0 cur w hg (by simpa using hfit) h1
  cases hq : P.info? elem with
  | none => simp [hq] at hs
  | some i =>
    have hi : i.size = 2 := by simpa [hq] using hs
    simp [Builtin.copy_, run_underlying hu, Builtin.lenOf, Builtin.firstCells, sizeOf, typeInfo, hq, hi, ← hn, hl, hst]

theorem run_copy_pairs_none {P : Program} (w : World) (dT sT ty elem : TypeId) (d a : Option Addr) (dCap sCap : Nat) (hu : P.underlying dT = some (.slice elem)) (hs : (P.info? elem).map (·.size) = some 2) :
    (Builtin.copy_ #[dT, sT] ty #[.slice d 0 dCap, .slice a 0 sCap]).run P w = .ok (goInt 0) w := by
  cases hq : P.info? elem with
  | none => simp [hq] at hs
  | some i =>
    have hl : ∀ (x : Addr), (loadCells x 0).run P w = .ok #[] w := fun x => by simpa using run_loadCells_list (P := P) w x [] (by simp)
    cases d <;> cases a <;> simp [Builtin.copy_, run_underlying hu, Builtin.lenOf, Builtin.firstCells, sizeOf, typeInfo, hq, storeCells, hl]

def pcells (n : Nat) (f g : Nat → Int) : List Value := (List.range (n * 2)).map (pcell f g)

theorem pcells_len (n : Nat) (f g : Nat → Int) : (pcells n f g).length = n * 2 := by simp [pcells]

theorem pcells_one (n : Nat) (f g : Nat → Int) : ∀ v ∈ pcells n f g, v.oneCell' = true := by
  intro v hv
  simp only [pcells, List.mem_map] at hv
  obtain ⟨j, _, rfl⟩ := hv
  rfl

theorem pcells_src {w : World} {b off n : Nat} {f g : Nat → Int} (hc : ∀ i, i < n → w.cell? ⟨b, off + i * 2, none⟩ = some (.int .i64 (f i)) ∧ w.cell? ⟨b, off + i * 2 + 1, none⟩ = some (.int .i64 (g i))) :
    ∀ j v, (pcells n f g)[j]? = some v → w.cell? ((⟨b, off, none⟩ : Addr).add j) = some v := by
  intro j v hj
  have hlt : j < n * 2 := by
    have := (List.getElem?_eq_some_iff.1 hj).1
    rwa [pcells_len] at this
  have hv : v = pcell f g j := by simpa [pcells, hlt] using hj.symm
  subst hv
  have hadd : (⟨b, off, none⟩ : Addr).add j = ⟨b, off + j, none⟩ := by unfold Addr.add; split <;> simp_all
  rw [hadd]
  rcases (show j % 2 = 0 ∨ j % 2 = 1 by omega) with h | h
  · have := (hc (j / 2) (by omega)).1
    rw [show off + j / 2 * 2 = off + j by omega] at this
    rw [this]; simp [pcell, h]
  · have := (hc (j / 2) (by omega)).2
    rw [show off + j / 2 * 2 + 1 = off + j by omega] at this
    rw [this]; simp [pcell, h]

theorem own_copied {w : World} {g n : Nat} {f g' : Nat → Int} (h : w.heap[g]? = some (.cells (pcells n f g' ++ (madeCells #[Value.int .i64 0, Value.int .i64 0] ((n + 1) * 2)).toList.drop (pcells n f g').length).toArray 49 (0, 0))) :
    OwnL w g (n + 1) (listL n f g') := by
  refine ⟨_, h, ?_, fun i hi => ?_⟩
  · simp [pcells_len, size_madeCells]; omega
  · by_cases hl : i < n * 2
    · rw [show ((pcells n f g' ++ (madeCells #[Value.int .i64 0, Value.int .i64 0] ((n + 1) * 2)).toList.drop (pcells n f g').length).toArray)[i]? = (pcells n f g')[i]? from by simp [List.getElem?_append_left, pcells_len, hl]]
      simp only [pcells, List.getElem?_map, List.getElem?_range hl, Option.map_some, pcell, listL]
      rw [if_pos (show i / 2 < n by omega)]
    · have e : ((pcells n f g' ++ (madeCells #[Value.int .i64 0, Value.int .i64 0] ((n + 1) * 2)).toList.drop (pcells n f g').length).toArray)[i]? = some (.int .i64 0) := by
        rcases (show i = n * 2 ∨ i = n * 2 + 1 by omega) with rfl | rfl
        · simp [pcells_len, madeCells, List.getElem?_append_right]
        · rw [List.getElem?_toArray, List.getElem?_append_right (by rw [pcells_len]; omega), pcells_len, List.getElem?_drop, show n * 2 + (n * 2 + 1 - n * 2) = n * 2 + 1 by omega]
          simp [madeCells, show n * 2 + 1 < (n + 1) * 2 by omega, show (n * 2 + 1) % 2 = 1 by omega]
      rw [e]
      simp only [pcell, listL]
      rw [if_neg (show ¬ i / 2 < n by omega)]
      simp

def ToG (w : World) (n : Nat) (f g : Nat → Int) (e : Ending) (w' : World) : Prop :=
  ∃ b, e = .returned (.slice (some ⟨b, 0, none⟩) n (n + 1)) ∧ w.heap.size ≤ b ∧ OwnL w' b (n + 1) (listL n f g) ∧ Below w.heap.size w w'

theorem Try.sizeNear : (Try.prog.info? 49).map (·.size) = some 2 := by kernel_rfl

set_option maxHeartbeats 800000 in
theorem greatestOf_some (K : Int) (b off n cap : Nat) (f g : Nat → Int) (w : World) (hn : n ≤ 20) (hb : b < w.heap.size) (hc : ∀ i, i < n → w.cell? ⟨b, off + i * 2, none⟩ = some (.int .i64 (f i)) ∧ w.cell? ⟨b, off + i * 2 + 1, none⟩ = some (.int .i64 (g i))) :
    Calls Try.prog 61 #[.agg #[.int .i64 K, .slice (some ⟨b, off, none⟩) n cap]] w fun e w' => ToG w n f g e w' := by
  have hmk := run_make_pairs2 (P := Try.prog) 88 49 (.int .i64 0) (.int .i64 0) 16 Try.underlying88 Try.infoNear .i64 .i64 n (n + 1) (by omega) (by omega) (by omega)
  rw [show ((n + 1 : Nat) : Int) = (n : Int) + 1 by omega] at hmk
  generalize hA : Obj.cells #[Value.int IntKind.i64 K, Value.slice (some ⟨b, off, none⟩) n cap] 76 = OA
  generalize hB : Obj.cells (madeCells #[Value.int IntKind.i64 0, Value.int IntKind.i64 0] ((n + 1) * 2)) 49 = OB
  obtain ⟨w2, hcp, h2o, h2b⟩ : ∃ w2, (Builtin.copy_ #[88, 28] 3 #[.slice (some ⟨w.heap.size + 1, 0, none⟩) n (n + 1), .slice (some ⟨b, off, none⟩) n cap]).run Try.prog ((w.alloc OA).alloc OB) = .ok (.int .i64 n) w2 ∧ OwnL w2 (w.heap.size + 1) (n + 1) (listL n f g) ∧ Below w.heap.size w w2 := by
    have hbl : Below w.heap.size w ((w.alloc OA).alloc OB) := (by repeat' first | with_reducible exact Below.refl _ _ | with_reducible assumption | with_reducible refine below_drewN ?_ _ | with_reducible refine balloc ?_ _ | with_reducible refine Below.drew ?_ | with_reducible refine Below.setCell ?_ (by first | (simp; done) | (simp; omega) | omega) _ | with_reducible refine bstep ?_ (by assumption))
    have hg : ((w.alloc OA).alloc OB).heap[w.heap.size + 1]? = some (.cells (madeCells #[Value.int IntKind.i64 0, Value.int IntKind.i64 0] ((n + 1) * 2)) 49 (0, 0)) := by
      rw [← hB]
      have := Go.Deep.blk_alloc_new (w.alloc OA) (Obj.cells (madeCells #[Value.int IntKind.i64 0, Value.int IntKind.i64 0] ((n + 1) * 2)) 49)
      simpa using this
    refine ⟨_, run_copy_pairs _ _ _ _ 49 _ _ ⟨b, off, none⟩ n cap _ _ (pcells n f g) Try.underlying88 Try.sizeNear hg (pcells_len n f g) (pcells_src fun i hi => ⟨(hbl.cell (p := ⟨b, off + i * 2, none⟩) hb).trans (hc i hi).1, (hbl.cell (p := ⟨b, off + i * 2 + 1, none⟩) hb).trans (hc i hi).2⟩) (by rw [pcells_len, size_madeCells]; omega) (pcells_one n f g), ?_, ?_⟩
    · exact own_copied (setRow_heap _ _ _ _ _ _ hg)
    · exact below_setRow hbl (by omega) _
  subst hA hB
  have H2O := hide h2o
  have H2B := hide h2b
  clear hc h2o h2b
  go_enter Try.func61, Try.ntmps61
  go_wp2_with fail
  go_ret
  exact ⟨_, rfl, by omega, H2O.out, H2B.out⟩

set_option maxHeartbeats 800000 in
theorem greatestOf_none (K : Int) (a : Option Addr) (cap : Nat) (f g : Nat → Int) (w : World) :
    Calls Try.prog 61 #[.agg #[.int .i64 K, .slice a 0 cap]] w fun e w' => ToG w 0 f g e w' := by
  have hmk : ∀ w : World, (Instr.makeSlice 88 (.int .i64 0) (.int .i64 1)).run Try.prog w = .ok (.slice (some ⟨w.heap.size, 0, none⟩) 0 1) (w.alloc (.cells (madeCells #[.int .i64 0, .int .i64 0] (1 * 2)) 49)) :=
    run_make_pairs2 (P := Try.prog) 88 49 (.int .i64 0) (.int .i64 0) 16 Try.underlying88 Try.infoNear .i64 .i64 0 1 (by omega) (by omega) (by omega)
  have hcp := fun w d => run_copy_pairs_none (P := Try.prog) w 88 28 3 49 d a 1 cap Try.underlying88 Try.sizeNear
  go_enter Try.func61, Try.ntmps61
  go_wp2_with fail
  go_ret
  refine ⟨_, rfl, by omega, ?_, (by repeat' first | with_reducible exact Below.refl _ _ | with_reducible assumption | with_reducible refine below_drewN ?_ _ | with_reducible refine balloc ?_ _ | with_reducible refine Below.drew ?_ | with_reducible refine Below.setCell ?_ (by first | (simp; done) | (simp; omega) | omega) _ | with_reducible refine bstep ?_ (by assumption))⟩
  have hm := OwnN.made (w.alloc (Obj.cells #[Value.int IntKind.i64 K, Value.slice a 0 cap] 76)) 1
  rw [World.size_alloc] at hm
  exact OwnN.congr hm (f' := fun i => (listL 0 f g i).1) (g' := fun i => (listL 0 f g i).2) (fun i _ => by simp [listL]) (fun i _ => by simp [listL])

theorem greatestOf_any (K : Int) (a : Option Addr) (n cap : Nat) (f g : Nat → Int) (w : World) (h : PRow w a n f g) (hn : n ≤ 20) :
    Calls Try.prog 61 #[.agg #[.int .i64 K, .slice a n cap]] w fun e w' => ToG w n f g e w' := by
  rcases h.lies with h0 | ⟨b, off, rfl, lt, hc⟩
  · subst h0
    exact greatestOf_none K a cap f g w
  · exact greatestOf_some K b off n cap f g w hn lt hc
end Go.Proofs.Ytjliecggfncelaa

/- HeapPut of the program. -/
namespace Go.Proofs.Ytjliecggfncelaa
open Go.RowKit
set_option maxRecDepth 8000
set_option linter.unusedSimpArgs false
set_option linter.unusedVariables false

/-- How many there are behind a put, and which. -/
def putN (K : Int) (n : Nat) : Nat := if K < (n : Int) + 1 then n else n + 1
def putL1 (n : Nat) (f g : Nat → Int) (i d : Int) : NL := upL n ((listL n f g).put n (i, d))
def putL (K : Int) (n : Nat) (f g : Nat → Int) (i d : Int) : NL := if K < (n : Int) + 1 then dnL n 0 (swp (putL1 n f g i d) 0 n) else putL1 n f g i d
def putB (K : Int) (n : Nat) (f g : Nat → Int) (i d : Int) : Bool := heapB K n f g && nearB i d

def Put (w : World) (K : Int) (n : Nat) (f g : Nat → Int) (i d : Int) (e : Ending) (w' : World) : Prop :=
  Below w.heap.size w w' ∧ ((putB K n f g i d = false ∧ e = .returned (.tuple #[.agg #[.int .i64 0, .slice none 0 0], .bool false])) ∨
    (putB K n f g i d = true ∧ ∃ b cap m, e = .returned (.tuple #[.agg #[.int .i64 K, .slice (some ⟨b, 0, none⟩) (putN K n) cap], .bool true]) ∧ w.heap.size ≤ b ∧ putN K n ≤ m ∧ m ≤ 22 ∧ OwnL w' b m (putL K n f g i d)))

/-- The boxes of HeapPut: the heap, the Near, the result. -/
structure PBx (w : World) (B : Nat) (K : Int) (a : Option Addr) (n cap : Nat) (i d : Int) : Prop where
  lt : B + 2 < w.heap.size
  h0 : w.cell? ⟨B, 0, none⟩ = some (.int .i64 K)
  h1 : w.cell? ⟨B, 1, none⟩ = some (.slice a n cap)
  n0 : w.cell? ⟨B + 1, 0, none⟩ = some (.int .i64 i)
  n1 : w.cell? ⟨B + 1, 1, none⟩ = some (.int .i64 d)
  r0 : w.cell? ⟨B + 1 + 1, 0, none⟩ = some (.int .i64 0)
  r1 : w.cell? ⟨B + 1 + 1, 1, none⟩ = some (.slice none 0 0)
  f0 : w.frozen? ⟨B + 1 + 1, 0, none⟩ = false
  f1 : w.frozen? ⟨B + 1 + 1, 1, none⟩ = false

theorem PBx.low {w w' : World} {B X : Nat} {K : Int} {a : Option Addr} {n cap : Nat} {i d : Int} (h : PBx w B K a n cap i d) (b : Below X w w') (hX : B + 2 < X) : PBx w' B K a n cap i d := by
  have l0 : B < X := by omega
  have l1 : B + 1 < X := by omega
  have l2 : B + 1 + 1 < X := hX
  exact ⟨Nat.lt_of_lt_of_le h.lt b.size, (b.cell (p := ⟨B, 0, none⟩) l0).trans h.h0, (b.cell (p := ⟨B, 1, none⟩) l0).trans h.h1, (b.cell (p := ⟨B + 1, 0, none⟩) l1).trans h.n0, (b.cell (p := ⟨B + 1, 1, none⟩) l1).trans h.n1,
    (b.cell (p := ⟨B + 1 + 1, 0, none⟩) l2).trans h.r0, (b.cell (p := ⟨B + 1 + 1, 1, none⟩) l2).trans h.r1, (b.frozen (p := ⟨B + 1 + 1, 0, none⟩) l2).trans h.f0, (b.frozen (p := ⟨B + 1 + 1, 1, none⟩) l2).trans h.f1⟩

theorem PBx.below {w w' : World} {B : Nat} {K : Int} {a : Option Addr} {n cap : Nat} {i d : Int} (h : PBx w B K a n cap i d) (b : Below w.heap.size w w') : PBx w' B K a n cap i d := h.low b h.lt

def KOk (v : Bool) (K : Int) (n : Nat) : Prop := v = true → (1 ≤ K ∧ K ≤ 20) ∧ (n : Int) ≤ K

theorem putN_le {K : Int} {n : Nat} (h : (n : Int) ≤ K) : putN K n ≤ n + 1 := by unfold putN; split <;> omega

set_option maxHeartbeats 1600000 in
theorem iHeapPut_any (K : Int) (a : Option Addr) (n cap : Nat) (f g : Nat → Int) (i d : Int) (w : World) (h : PRow w a n f g) :
    Calls Try.prog 46 #[.agg #[.int .i64 K, .slice a n cap], .agg #[.int .i64 i, .int .i64 d]] w fun e w' => Put w K n f g i d e w' := by
  have HO := hide (fun w1 (hb : Below w.heap.size w w1) => iHeapOk_any K a n cap f g w1 (h.below hb))
  have NO := hide (iNearOk_any i d)
  have HP := hide h
  clear h
  obtain ⟨v, hv⟩ : ∃ v, heapB K n f g = v := ⟨_, rfl⟩
  obtain ⟨u, hu⟩ : ∃ u, nearB i d = u := ⟨_, rfl⟩
  rw [hv] at HO
  rw [hu] at NO
  have hput : putB K n f g i d = (v && u) := by unfold putB; rw [hv, hu]
  have hK : KOk v K n := by
    rintro rfl
    unfold heapB inB at hv
    simp only [Bool.and_eq_true, decide_eq_true_eq] at hv
    exact hv.1
  have HPUT := hide hput
  have HK := hide hK
  clear hv hu hput hK
  go_enter Try.func46, Try.ntmps46
  go_wp2_with fail
  refine (HO.out _ (by repeat' first | with_reducible exact Below.refl _ _ | with_reducible assumption | with_reducible refine below_drewN ?_ _ | with_reducible refine balloc ?_ _ | with_reducible refine Below.drew ?_ | with_reducible refine Below.setCell ?_ (by first | (simp; done) | (simp; omega) | omega) _ | with_reducible refine bstep ?_ (by assumption))).mono ?_
  rintro e w1 ⟨rfl, hb1⟩
  have P1 : PBx w1 w.heap.size K a n cap i d := by
    refine PBx.below ⟨?_, ?_, ?_, ?_, ?_, ?_, ?_, ?_, ?_⟩ hb1 <;> simp [go_sem]
  have B1 : Below w.heap.size w w1 := (by repeat' first | with_reducible exact Below.refl _ _ | with_reducible assumption | with_reducible refine below_drewN ?_ _ | with_reducible refine balloc ?_ _ | with_reducible refine Below.drew ?_ | with_reducible refine Below.setCell ?_ (by first | (simp; done) | (simp; omega) | omega) _ | with_reducible refine bstep ?_ (by assumption))
  clear hb1 HO
  have P1' := P1
  obtain ⟨l0, h0, h1, n0, n1, r0, r1, f0, f1⟩ := P1'
  cases v
  · go_wp2_with fail
    refine bodyPost_ret (v := .tuple #[.agg #[.int .i64 0, .slice none 0 0], .bool false]) ?_ rfl ⟨?_, .inl ⟨HPUT.out, rfl⟩⟩
    · simp [results, Try.results46, go_sem, r0, r1]
    · exact (by repeat' first | with_reducible exact Below.refl _ _ | with_reducible assumption | with_reducible refine below_drewN ?_ _ | with_reducible refine balloc ?_ _ | with_reducible refine Below.drew ?_ | with_reducible refine Below.setCell ?_ (by first | (simp; done) | (simp; omega) | omega) _ | with_reducible refine bstep ?_ (by assumption))
  · go_wp2_with fail
    refine (NO.out _).mono ?_
    rintro e w2 ⟨rfl, hb2⟩
    have P2 := P1.below hb2
    have B2 : Below w.heap.size w w2 := (by repeat' first | with_reducible exact Below.refl _ _ | with_reducible assumption | with_reducible refine below_drewN ?_ _ | with_reducible refine balloc ?_ _ | with_reducible refine Below.drew ?_ | with_reducible refine Below.setCell ?_ (by first | (simp; done) | (simp; omega) | omega) _ | with_reducible refine bstep ?_ (by assumption))
    clear l0 h0 h1 n0 n1 r0 r1 f0 f1 hb2 P1 B1
    have P2' := P2
    obtain ⟨l0, h0, h1, n0, n1, r0, r1, f0, f1⟩ := P2'
    cases u
    · go_wp2_with fail
      refine bodyPost_ret (v := .tuple #[.agg #[.int .i64 0, .slice none 0 0], .bool false]) ?_ rfl ⟨?_, .inl ⟨HPUT.out, rfl⟩⟩
      · simp [results, Try.results46, go_sem, r0, r1]
      · exact (by repeat' first | with_reducible exact Below.refl _ _ | with_reducible assumption | with_reducible refine below_drewN ?_ _ | with_reducible refine balloc ?_ _ | with_reducible refine Below.drew ?_ | with_reducible refine Below.setCell ?_ (by first | (simp; done) | (simp; omega) | omega) _ | with_reducible refine bstep ?_ (by assumption))
    · obtain ⟨⟨hK1, hK2⟩, hnK⟩ := HK.out rfl
      have hn20 : n ≤ 20 := by omega
      have GO := hide (fun w1 (hb : Below w.heap.size w w1) => greatestOf_any K a n cap f g w1 (HP.out.below hb) hn20)
      go_wp2_with fail
      refine (GO.out _ B2).mono ?_
      rintro e w3 ⟨b, rfl, hbl, hown, hb3⟩
      have P3 := P2.below hb3
      have B3 : Below w.heap.size w w3 := (by repeat' first | with_reducible exact Below.refl _ _ | with_reducible assumption | with_reducible refine below_drewN ?_ _ | with_reducible refine balloc ?_ _ | with_reducible refine Below.drew ?_ | with_reducible refine Below.setCell ?_ (by first | (simp; done) | (simp; omega) | omega) _ | with_reducible refine bstep ?_ (by assumption))
      have hsz := P2.lt
      have hs3 := B3.size
      clear l0 h0 h1 n0 n1 r0 r1 f0 f1 hb3 P2 B2
      generalize hw4 : w3.alloc (Obj.cells #[Value.slice (some ⟨b, 0, none⟩) n (n + 1)] 88) = w4
      have B34 : Below w3.heap.size w3 w4 := by rw [← hw4]; exact balloc (Below.refl _ _) _
      have hbw := hown.lt
      have G4 : GV w4 w3.heap.size b (n + 1) n (n + 1) (listL n f g) := by
        refine ⟨?_, by omega, ?_, ?_, hown.below B34, by omega, by omega⟩ <;> rw [← hw4] <;> simp [go_sem]
      have P4 := P3.below B34
      have B4 : Below w.heap.size w w4 := (by repeat' first | with_reducible exact Below.refl _ _ | with_reducible assumption | with_reducible refine below_drewN ?_ _ | with_reducible refine balloc ?_ _ | with_reducible refine Below.drew ?_ | with_reducible refine Below.setCell ?_ (by first | (simp; done) | (simp; omega) | omega) _ | with_reducible refine bstep ?_ (by assumption))
      have P4' := P4
      obtain ⟨l0, h0, h1, n0, n1, r0, r1, f0, f1⟩ := P4'
      have PU := hide (hPush_any (w.heap.size + 3) w3.heap.size b (n + 1) n (n + 1) (listL n f g) i d w4 G4 (by omega) (by omega) (by have := P3.lt; omega) (by omega))
      have hl3 := P3.lt
      clear hown G4 P3 B3 B34
      subst hw4
      go_wp2_with fail
      refine PU.out.mono ?_
      rintro e w5 ⟨rfl, hb5, G5⟩
      have P5 := P4.low hb5 (by omega)
      have B5 : Below w.heap.size w w5 := B4.trans (hb5.mono (by omega))
      clear l0 h0 h1 n0 n1 r0 r1 f0 f1 hb5 P4 B4 PU
      have P5' := P5
      obtain ⟨l0, h0, h1, n0, n1, r0, r1, f0, f1⟩ := P5'
      have g5c := G5.cell
      have g5l := G5.lt
      have G5' := hide G5
      clear G5
      by_cases hbig : K < (n : Int) + 1
      · have PO := hide (hPop_any (w.heap.size + 3) w3.heap.size b (n + 1) n (n + 1) (putL1 n f g i d) w5 G5'.out (by omega) (by omega) (by omega))
        go_wp2_with fail
        refine PO.out.mono ?_
        rintro e w6 ⟨⟨v6, rfl⟩, hb6, G6⟩
        have P6 := P5.low hb6 (by omega)
        have B6 : Below w.heap.size w w6 := B5.trans (hb6.mono (by omega))
        clear l0 h0 h1 n0 n1 r0 r1 f0 f1 hb6 P5 B5 PO g5c
        obtain ⟨l0, h0, h1, n0, n1, r0, r1, f0, f1⟩ := P6
        have g6c := G6.cell
        have G6' := hide G6
        clear G6
        go_wp2_with fail
        refine bodyPost_ret (v := .tuple #[.agg #[.int .i64 K, .slice (some ⟨b, 0, none⟩) n (n + 1)], .bool true]) ?_ rfl ⟨?_, .inr ⟨HPUT.out, b, n + 1, n + 1, ?_, by omega, ?_, by omega, ?_⟩⟩
        · simp [results, Try.results46, go_sem, r0, r1]
        · exact (by repeat' first | with_reducible exact Below.refl _ _ | with_reducible assumption | with_reducible refine below_drewN ?_ _ | with_reducible refine balloc ?_ _ | with_reducible refine Below.drew ?_ | with_reducible refine Below.setCell ?_ (by first | (simp; done) | (simp; omega) | omega) _ | with_reducible refine bstep ?_ (by assumption))
        · unfold putN; rw [if_pos hbig]
        · unfold putN; rw [if_pos hbig]; omega
        · unfold putL; rw [if_pos hbig]
          exact (G6'.out.own.away _ _ (by simp; omega)).away _ _ (by simp; omega)
      · go_wp2_with fail
        refine bodyPost_ret (v := .tuple #[.agg #[.int .i64 K, .slice (some ⟨b, 0, none⟩) (n + 1) (n + 1)], .bool true]) ?_ rfl ⟨?_, .inr ⟨HPUT.out, b, n + 1, n + 1, ?_, by omega, ?_, by omega, ?_⟩⟩
        · simp [results, Try.results46, go_sem, r0, r1]
        · exact (by repeat' first | with_reducible exact Below.refl _ _ | with_reducible assumption | with_reducible refine below_drewN ?_ _ | with_reducible refine balloc ?_ _ | with_reducible refine Below.drew ?_ | with_reducible refine Below.setCell ?_ (by first | (simp; done) | (simp; omega) | omega) _ | with_reducible refine bstep ?_ (by assumption))
        · unfold putN; rw [if_neg (show ¬ K < (n : Int) + 1 by omega)]
        · unfold putN; rw [if_neg (show ¬ K < (n : Int) + 1 by omega)]; omega
        · unfold putL; rw [if_neg (show ¬ K < (n : Int) + 1 by omega)]
          exact (G5'.out.own.away _ _ (by simp; omega)).away _ _ (by simp; omega)
end Go.Proofs.Ytjliecggfncelaa

/- HeapSorted of the program. -/
namespace Go.Proofs.Ytjliecggfncelaa
open Go.RowKit
set_option maxRecDepth 8000
set_option linter.unusedSimpArgs false
set_option linter.unusedVariables false

/-- w' is w, but for two blocks. -/
structure But2 (b c : Nat) (w w' : World) : Prop where
  os : w'.os = w.os
  tape : w'.tape = w.tape
  output : w'.output = w.output
  size : w.heap.size ≤ w'.heap.size
  block : ∀ k, k < w.heap.size → k ≠ b → k ≠ c → w'.heap[k]? = w.heap[k]?

theorem But2.refl (b c : Nat) (w : World) : But2 b c w w := ⟨rfl, rfl, rfl, Nat.le_refl _, fun _ _ _ _ => rfl⟩

theorem But2.ofBut {b c : Nat} {w w' : World} (h : But b w w') : But2 b c w w' := ⟨h.os, h.tape, h.output, h.size, fun k hk h1 _ => h.block k hk h1⟩

theorem But2.trans {b c : Nat} {x y z : World} (h : But2 b c x y) (k : But2 b c y z) : But2 b c x z :=
  ⟨k.os.trans h.os, k.tape.trans h.tape, k.output.trans h.output, Nat.le_trans h.size k.size, fun i hi h1 h2 => (k.block i (Nat.lt_of_lt_of_le hi h.size) h1 h2).trans (h.block i hi h1 h2)⟩

theorem But2.setC {b c : Nat} {a w : World} (h : But2 b c a w) (o : Nat) (v : Value) : But2 b c a (w.setCell ⟨c, o, none⟩ v) :=
  ⟨h.os, h.tape, h.output, by simpa [World.setCell] using h.size, fun k hk h1 h2 => (Below.heap_setCell w ⟨c, o, none⟩ v k h2).trans (h.block k hk h1 h2)⟩

theorem But2.alloc {b c : Nat} {a w : World} (h : But2 b c a w) (o : Obj) : But2 b c a (w.alloc o) :=
  h.trans ⟨rfl, rfl, rfl, by simp, fun k hk _ _ => Below.heap_alloc w o k hk⟩

theorem But2.low {b c B : Nat} {w w' : World} (h : But2 b c w w') (h1 : B ≤ b) (h2 : B ≤ c) (hB : B ≤ w.heap.size) : Below B w w' :=
  ⟨h.os, h.tape, h.output, h.size, fun k hk => h.block k (by omega) (by omega) (by omega)⟩

theorem OwnL.but2 {b c : Nat} {w w' : World} {x m : Nat} {L : NL} (h : OwnL w x m L) (hb : But2 b c w w') (h1 : x ≠ b) (h2 : x ≠ c) : OwnL w' x m L := World.rowIs.of_block h (hb.block x h.lt h1 h2)

set_option maxHeartbeats 800000 in
theorem gPop2 (c b m k cap : Nat) (L : NL) (w : World) (h : GV w c b m (k + 1) cap L) (hkc : k + 1 ≤ cap) :
    Calls Try.prog 94 #[.pointer (some ⟨c, 0, none⟩)] w fun e w' => (∃ v, e = .returned v) ∧ But2 b c w w' ∧ GV w' c b m k cap L := by
  obtain ⟨h1, h2, h3, h4, h5, h6, h7⟩ := h
  have b1 := OwnN.c0 h5 (show k < m by omega)
  have b2 := OwnN.c1 h5 (show k < m by omega)
  have H5 := hide h5
  have hlt := h5.lt
  have hk1 : (((k + 1 : Nat) : Int) - 1) = (k : Int) := by omega
  clear h5
  go_enter Try.func94, Try.ntmps94
  go_wp2_with fail
  go_ret
  refine ⟨⟨_, rfl⟩, ?_, ?_, h2, ?_, ?_, ?_, by omega, h7⟩
  · exact ((But2.refl b c w).setC 0 _).alloc _
  · simp; omega
  · simp [go_sem, h1, h3]
  · simp [go_sem, h1, h4, h3]
  · exact (H5.out.away _ _ (Ne.symm h2)).below (balloc (Below.refl _ _) _)

set_option maxHeartbeats 800000 in
theorem hPop2 (c b m k cap : Nat) (L : NL) (w : World) (h : GV w c b m (k + 1) cap L) (hkc : k + 1 ≤ cap) :
    Calls Try.prog 63 #[.iface 91 (.pointer (some ⟨c, 0, none⟩))] w fun e w' => (∃ v, e = .returned v) ∧ But2 b c w w' ∧ GV w' c b m k cap (dnL k 0 (swp L 0 k)) := by
  have hcw := h.lt
  have hkm : k + 1 ≤ 1048576 := Nat.le_trans h.le h.small
  have ML := meth_Len c _ w h.cell
  have MS := meth_Swap c _ w h.cell
  have GL := hide (gLen_any (some ⟨b, 0, none⟩) (k + 1) cap w)
  have SW := hide (gSwap_any b m (k + 1) cap L 0 k w h.own h.le (by omega) (by omega))
  have H := hide h
  clear h
  go_enter Try.func63, Try.ntmps63
  go_wp2_with fail
  refine GL.out.mono ?_
  rintro e w2 ⟨rfl, hw2⟩
  obtain rfl := hw2.symm
  go_wp2_with fail
  refine SW.out.mono ?_
  rintro e w1 ⟨rfl, hb1, o1⟩
  have h1 := H.out.but hb1 o1
  have hs1 := hb1.size
  have DN := hide (hDown_any c b m (k + 1) cap (swp L 0 k) k w1 h1.lt h1.ne h1.cell h1.own h1.le (by omega) h1.small)
  have B1 : But2 b c w w1 := But2.ofBut hb1
  have H1 := hide h1
  clear h1 o1 hb1 ML MS GL SW
  go_wp2_with fail
  refine DN.out.mono ?_
  rintro e w3 ⟨v3, rfl, hb3, o3⟩
  have h3 := H1.out.but hb3 o3
  have hs3 := hb3.size
  have B3 : But2 b c w w3 := B1.trans (But2.ofBut hb3)
  have MP := meth_Pop c w3
  have PO := hide (gPop2 c b m k cap (dnL k 0 (swp L 0 k)) w3 h3 hkc)
  clear h3 o3 hb3 DN
  go_wp2_with fail
  refine PO.out.mono ?_
  rintro e w4 ⟨⟨v4, rfl⟩, hb4, h4⟩
  go_wp2_with fail
  go_ret
  exact ⟨⟨_, rfl⟩, B3.trans hb4, h4⟩

theorem GV.away {w : World} {c b m l cap : Nat} {L : NL} (h : GV w c b m l cap L) (p : Addr) (v : Value) (h1 : p.block ≠ c) (h2 : p.block ≠ b) : GV (w.setCell p v) c b m l cap L :=
  ⟨by simpa [World.setCell] using h.lt, h.ne, (World.cell?_of_block (a := ⟨c, 0, none⟩) (Below.heap_setCell w p v c (Ne.symm h1))).trans h.cell, (World.frozen?_of_block (a := ⟨c, 0, none⟩) (Below.heap_setCell w p v c (Ne.symm h1))).trans h.froz, h.own.away p v (Ne.symm h2), h.le, h.small⟩

def lenAt (c : Nat) (w : World) : Nat := match w.cell? ⟨c, 0, none⟩ with | some (.slice _ l _) => l | _ => 0

theorem GV.lenAt {w : World} {c b m l cap : Nat} {L : NL} (h : GV w c b m l cap L) : lenAt c w = l := by unfold Go.Proofs.Ytjliecggfncelaa.lenAt; rw [h.cell]

theorem listL_heap {K : Int} {n : Nat} {f g : Nat → Int} (h : heapB K n f g = true) : HeapP n (listL n f g) := by
  unfold heapB at h
  rw [Bool.and_eq_true] at h
  intro j h0 hj
  have := allN_at h.2 hj
  unfold heapAt at this
  simp only [Bool.and_eq_true, Bool.not_eq_true'] at this
  unfold lt2 listL
  rw [if_pos (show (j - 1) / 2 < n by omega), if_pos hj]
  exact this.2

def ISorted (w : World) (n : Nat) (L : NL) (e : Ending) (w' : World) : Prop :=
  ∃ b, e = .returned (.slice (some ⟨b, 0, none⟩) n n) ∧ w.heap.size ≤ b ∧ OwnL w' b n (hsL n L) ∧ Below w.heap.size w w'

set_option maxHeartbeats 1600000 in
theorem iHeapSorted_no (K : Int) (a : Option Addr) (n cap : Nat) (f g : Nat → Int) (w : World) (h : PRow w a n f g) (hno : heapB K n f g = false) :
    Calls Try.prog 47 #[.agg #[.int .i64 K, .slice a n cap]] w fun e w' => e = .returned (.slice none 0 0) ∧ Below w.heap.size w w' := by
  have HO := hide (fun w1 (hb : Below w.heap.size w w1) => iHeapOk_any K a n cap f g w1 (h.below hb))
  rw [hno] at HO
  clear h hno
  go_enter Try.func47, Try.ntmps47
  go_wp2_with fail
  refine (HO.out _ (by repeat' first | with_reducible exact Below.refl _ _ | with_reducible assumption | with_reducible refine below_drewN ?_ _ | with_reducible refine balloc ?_ _ | with_reducible refine Below.drew ?_ | with_reducible refine Below.setCell ?_ (by first | (simp; done) | (simp; omega) | omega) _ | with_reducible refine bstep ?_ (by assumption))).mono ?_
  rintro e w1 ⟨rfl, hb1⟩
  go_wp2_with fail
  go_ret
  exact ⟨rfl, (by repeat' first | with_reducible exact Below.refl _ _ | with_reducible assumption | with_reducible refine below_drewN ?_ _ | with_reducible refine balloc ?_ _ | with_reducible refine Below.drew ?_ | with_reducible refine Below.setCell ?_ (by first | (simp; done) | (simp; omega) | omega) _ | with_reducible refine bstep ?_ (by assumption))⟩

set_option maxHeartbeats 3200000 in
theorem iHeapSorted_yes (K : Int) (a : Option Addr) (n cap : Nat) (f g : Nat → Int) (w : World) (h : PRow w a n f g) (hok : heapB K n f g = true) (hn20 : n ≤ 20) :
    Calls Try.prog 47 #[.agg #[.int .i64 K, .slice a n cap]] w fun e w' => ISorted w n (listL n f g) e w' := by
  have HO := hide (fun w1 (hb : Below w.heap.size w w1) => iHeapOk_any K a n cap f g w1 (h.below hb))
  rw [hok] at HO
  have GO := hide (fun w1 (hb : Below w.heap.size w w1) => greatestOf_any K a n cap f g w1 (h.below hb) hn20)
  have hmk := run_make_pairs (P := Try.prog) 28 49 (.int .i64 0) (.int .i64 0) 16 Try.underlying28 Try.infoNear .i64 .i64 n (by omega) (by omega)
  clear h hok
  go_enter Try.func47, Try.ntmps47
  go_wp2_with fail
  refine (HO.out _ (by repeat' first | with_reducible exact Below.refl _ _ | with_reducible assumption | with_reducible refine below_drewN ?_ _ | with_reducible refine balloc ?_ _ | with_reducible refine Below.drew ?_ | with_reducible refine Below.setCell ?_ (by first | (simp; done) | (simp; omega) | omega) _ | with_reducible refine bstep ?_ (by assumption))).mono ?_
  rintro e w1 ⟨rfl, hb1⟩
  have h0 : w1.cell? ⟨w.heap.size, 0, none⟩ = some (.int .i64 K) := (hb1.cell (p := ⟨w.heap.size, 0, none⟩) (by simp)).trans (by simp [go_sem])
  have h1 : w1.cell? ⟨w.heap.size, 1, none⟩ = some (.slice a n cap) := (hb1.cell (p := ⟨w.heap.size, 1, none⟩) (by simp)).trans (by simp [go_sem])
  have B1 : Below w.heap.size w w1 := (by repeat' first | with_reducible exact Below.refl _ _ | with_reducible assumption | with_reducible refine below_drewN ?_ _ | with_reducible refine balloc ?_ _ | with_reducible refine Below.drew ?_ | with_reducible refine Below.setCell ?_ (by first | (simp; done) | (simp; omega) | omega) _ | with_reducible refine bstep ?_ (by assumption))
  clear hb1 HO
  go_wp2_with fail
  refine (GO.out _ B1).mono ?_
  rintro e w3 ⟨b, rfl, hbl, hown, hb3⟩
  have B3 : Below w.heap.size w w3 := (by repeat' first | with_reducible exact Below.refl _ _ | with_reducible assumption | with_reducible refine below_drewN ?_ _ | with_reducible refine balloc ?_ _ | with_reducible refine Below.drew ?_ | with_reducible refine Below.setCell ?_ (by first | (simp; done) | (simp; omega) | omega) _ | with_reducible refine bstep ?_ (by assumption))
  have s1 := B1.size
  have s3 := B3.size
  have hbw := hown.lt
  clear h0 h1 hb3 GO
  have G4 : GV (w3.alloc (Obj.cells #[Value.slice (some ⟨b, 0, none⟩) n (n + 1)] 88)) w3.heap.size b (n + 1) n (n + 1) (listL n f g) := by
    refine ⟨?_, by omega, ?_, ?_, hown.below (balloc (Below.refl _ _) _), by omega, by omega⟩ <;> simp [go_sem]
  have M5 := OwnN.made (w3.alloc (Obj.cells #[Value.slice (some ⟨b, 0, none⟩) n (n + 1)] 88)) n
  rw [World.size_alloc] at M5
  have G5 := G4.below (balloc (Below.refl _ _) (.cells (madeCells #[.int .i64 0, .int .i64 0] (n * 2)) 49))
  have B5 : Below w.heap.size w ((w3.alloc (Obj.cells #[Value.slice (some ⟨b, 0, none⟩) n (n + 1)] 88)).alloc (.cells (madeCells #[.int .i64 0, .int .i64 0] (n * 2)) 49)) := (by repeat' first | with_reducible exact Below.refl _ _ | with_reducible assumption | with_reducible refine below_drewN ?_ _ | with_reducible refine balloc ?_ _ | with_reducible refine Below.drew ?_ | with_reducible refine Below.setCell ?_ (by first | (simp; done) | (simp; omega) | omega) _ | with_reducible refine bstep ?_ (by assumption))
  have c4 := G4.cell
  have HG := hide G5
  have HM := hide (show OwnL _ (w3.heap.size + 1) n (fun _ => (0, 0)) from M5)
  have HB := hide B5
  clear G4 G5 M5 B5 hown B3
  go_wp2_with fail
  clear c4
  go_loopw [5] (fun _ wr => ∃ (k : Nat) (L O : NL), k ≤ n ∧ GV wr w3.heap.size b (n + 1) k (n + 1) L ∧ OwnL wr (w3.heap.size + 1) n O ∧ (∀ i, i < n → hsL n (listL n f g) i = if i < k then hsL k L i else O i) ∧ Below w.heap.size w wr) (fun _ wr => lenAt w3.heap.size wr)
  case atStart => exact ⟨n, listL n f g, fun _ => (0, 0), Nat.le_refl _, HG.out, HM.out, fun i hi => by rw [if_pos hi], HB.out⟩
  case round =>
    obtain ⟨k, L, O, hk, hG, hO, hrel2, hbel⟩ := hrel
    have HGr := hide hG
    have HOr := hide hO
    have HR := hide hrel2
    have HBr := hide hbel
    have c4 := hG.cell
    have clt := hG.lt
    have olt := hO.lt
    have slt := hbel.size
    clear hG hO hrel2 hbel
    rcases k with _ | k
    · go_wp2_with fail
      go_ret
      exact ⟨_, rfl, by omega, HOr.out.congr (fun i hi => by rw [HR.out i hi, if_neg (by omega)]), HBr.out⟩
    · have y0 := OwnN.c0 HGr.out.own (show 0 < n + 1 by omega)
      have y1 := OwnN.c1 HGr.out.own (show 0 < n + 1 by omega)
      simp only [Nat.zero_mul, Nat.zero_add] at y0 y1
      have hk1 : (0 : Int) < ((k + 1 : Nat) : Int) := by omega
      have blt := HGr.out.own.lt
      have PO := hide (fun w7 (hb : Below wr.heap.size wr w7) => hPop2 w3.heap.size b (n + 1) k (n + 1) L w7 (HGr.out.below hb) (by omega))
      go_wp2_with fail
      refine (PO.out _ (balloc (Below.refl _ _) _)).mono ?_
      rintro e w7 ⟨⟨v7, rfl⟩, hb7, G7⟩
      have hbw7 : w.heap.size ≤ b := by omega
      have F0 : w7.cell? ⟨wr.heap.size, 0, none⟩ = some (.int .i64 (L 0).1) := (World.cell?_of_block (a := ⟨wr.heap.size, 0, none⟩) (hb7.block wr.heap.size (by simp) (by omega) (by omega))).trans (by simp [go_sem])
      have F1 : w7.cell? ⟨wr.heap.size, 1, none⟩ = some (.int .i64 (L 0).2) := (World.cell?_of_block (a := ⟨wr.heap.size, 1, none⟩) (hb7.block wr.heap.size (by simp) (by omega) (by omega))).trans (by simp [go_sem])
      have O7 := (HOr.out.below (balloc (Below.refl _ _) (.cells #[.int .i64 (L 0).1, .int .i64 (L 0).2] 49))).but2 hb7 (by omega) (by omega)
      have B7 : Below w.heap.size w w7 := (balloc HBr.out (.cells #[.int .i64 (L 0).1, .int .i64 (L 0).2] 49)).trans (hb7.low hbw7 (by omega) (by simp; omega))
      have d4 := G7.cell
      have z0 := OwnN.c0 O7 (show k < n by omega)
      have z1 := OwnN.c1 O7 (show k < n by omega)
      have z2 := World.rowIs.frozen O7 (k * 2)
      have z3 := World.rowIs.frozen O7 (k * 2 + 1)
      have hkn : (k : Int) < (n : Int) := by omega
      have HG7 := hide G7
      have HO7 := hide O7
      clear c4 y0 y1 hb7 G7 O7 PO
      go_wp2_with fail
      go_roundw
      case rel =>
        refine ⟨k, dnL k 0 (swp L 0 k), O.put k (L 0), by omega, (HG7.out.away _ _ (by simp) (by simp; omega)).away _ _ (by simp) (by simp; omega), HO7.out.set k (L 0).1 (L 0).2, fun i hi => ?_, ?_⟩
        · rw [HR.out i hi]
          by_cases e1 : i < k
          · rw [if_pos (by omega), if_pos e1]
            show (hsL k (dnL k 0 (swp L 0 k))).put k (L 0) i = _
            rw [put_off _ _ (by omega)]
          · rw [if_neg e1]
            by_cases e2 : i = k
            · subst e2
              rw [if_pos (by omega), put_at]
              show (hsL i (dnL i 0 (swp L 0 i))).put i (L 0) i = _
              rw [put_at]
            · rw [if_neg (by omega), put_off _ _ e2]
        · exact (B7.setCell (by simp; omega) _).setCell (by simp; omega) _
      case measure =>
        rw [((HG7.out.away _ _ (by simp) (by simp; omega)).away _ _ (by simp) (by simp; omega)).lenAt, HGr.out.lenAt]
        omega
end Go.Proofs.Ytjliecggfncelaa
