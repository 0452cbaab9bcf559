/- Items in memory: slices of structs of two numbers and a slice of numbers (three cells each). What such a slice leads to; one that the call owns; worlds that part between two blocks alone. -/
import Derived.Test.YtgckhnnkphlciaaDoorFAR
import Derived.Test.YtgckhnnkphlciaaDoorPA
namespace Go.Proofs.YtgckhnnkphlciaaDoor
open Go.RowKit
set_option maxRecDepth 8000
set_option linter.unusedSimpArgs false
set_option linter.unusedVariables false

/-- An item: an id, tags, a vector. -/
structure It where
  id : Int
  tags : Int
  vec : List Int
abbrev IL := Nat → It
def IL.put (L : IL) (k : Nat) (x : It) : IL := fun i => if i = k then x else L i

theorem IL.put_at (L : IL) (k : Nat) (x : It) : L.put k x k = x := by simp [IL.put]

theorem IL.put_off (L : IL) {k i : Nat} (x : It) (h : i ≠ k) : L.put k x i = L i := by simp [IL.put, h]

/-- At b, o lies the item x. -/
structure IAt (w : World) (b o : Nat) (x : It) : Prop where
  c0 : w.cell? ⟨b, o, none⟩ = some (.int .i64 x.id)
  c1 : w.cell? ⟨b, o + 1, none⟩ = some (.int .i64 x.tags)
  vec : ∃ a n c, w.cell? ⟨b, o + 2, none⟩ = some (.slice a n c) ∧ Row w a n x.vec

theorem IAt.below {w w' : World} {b o : Nat} {x : It} (h : IAt w b o x) (lt : b < w.heap.size) (hb : Below w.heap.size w w') : IAt w' b o x := by
  obtain ⟨a, n, c, hc, hr⟩ := h.vec
  exact ⟨(hb.cell (p := ⟨b, o, none⟩) lt).trans h.c0, (hb.cell (p := ⟨b, o + 1, none⟩) lt).trans h.c1, a, n, c, (hb.cell (p := ⟨b, o + 2, none⟩) lt).trans hc, hr.below hb⟩

/-- A slice of n items that begins at a leads to the items L. -/
structure IRow (w : World) (a : Option Addr) (n : Nat) (L : IL) : Prop where
  lies : n = 0 ∨ ∃ b off, a = some ⟨b, off, none⟩ ∧ b < w.heap.size ∧ ∀ i, i < n → IAt w b (off + i * 3) (L i)

theorem IRow.below {w w' : World} {a : Option Addr} {n : Nat} {L : IL} (h : IRow w a n L) (hb : Below w.heap.size w w') : IRow w' a n L := by
  rcases h.lies with h0 | ⟨b, off, e, lt, hc⟩
  · exact ⟨.inl h0⟩
  · exact ⟨.inr ⟨b, off, e, Nat.lt_of_lt_of_le lt hb.size, fun i hi => (hc i hi).below lt hb⟩⟩

theorem IRow.congr {w : World} {a : Option Addr} {n : Nat} {L M : IL} (h : IRow w a n L) (e : ∀ i, i < n → L i = M i) : IRow w a n M := by
  rcases h.lies with h0 | ⟨b, off, e', lt, hc⟩
  · exact ⟨.inl h0⟩
  · exact ⟨.inr ⟨b, off, e', lt, fun i hi => e i hi ▸ hc i hi⟩⟩

/-- A block whose first m cells are f 0, f 1, .., and may be written. -/
def Arr (w : World) (g m : Nat) (f : Nat → Value) : Prop :=
  ∃ (c : Array Value) (t : TypeId), w.heap[g]? = some (.cells c t (0, 0)) ∧ m ≤ c.size ∧ ∀ j, j < m → c[j]? = some (f j)

theorem Arr.lt {w : World} {g m : Nat} {f : Nat → Value} (h : Arr w g m f) : g < w.heap.size := by
  obtain ⟨c, t, hc, _⟩ := h
  exact (Array.getElem?_eq_some_iff.1 hc).1

theorem Arr.cell {w : World} {g m : Nat} {f : Nat → Value} (h : Arr w g m f) {j : Nat} (hj : j < m) : w.cell? ⟨g, j, none⟩ = some (f j) := by
  obtain ⟨c, t, hc, _, hv⟩ := h
  simp [World.cell?, hc, hv j hj]

theorem Arr.froz {w : World} {g m : Nat} {f : Nat → Value} (h : Arr w g m f) (o : Nat) : w.frozen? ⟨g, o, none⟩ = false := by
  obtain ⟨c, t, hc, _⟩ := h
  simp [World.frozen?, hc]

theorem Arr.block {w w' : World} {g m : Nat} {f : Nat → Value} (h : Arr w g m f) (hb : w'.heap[g]? = w.heap[g]?) : Arr w' g m f := by
  obtain ⟨c, t, hc, hr⟩ := h
  exact ⟨c, t, hb.trans hc, hr⟩

theorem Arr.below {w w' : World} {g m : Nat} {f : Nat → Value} (h : Arr w g m f) (hb : Below w.heap.size w w') : Arr w' g m f := h.block (hb.block g h.lt)

theorem Arr.but {x : Nat} {w w' : World} {g m : Nat} {f : Nat → Value} (h : Arr w g m f) (hb : But x w w') (hne : g ≠ x) : Arr w' g m f := h.block (hb.block g h.lt hne)

theorem Arr.away {w : World} {g m : Nat} {f : Nat → Value} (h : Arr w g m f) (p : Addr) (v : Value) (hp : g ≠ p.block) : Arr (w.setCell p v) g m f := h.block (Below.heap_setCell w p v g hp)

theorem Arr.congr {w : World} {g m : Nat} {f f' : Nat → Value} (h : Arr w g m f) (e : ∀ j, j < m → f j = f' j) : Arr w g m f' := by
  obtain ⟨c, t, hc, hs, hv⟩ := h
  exact ⟨c, t, hc, hs, fun j hj => e j hj ▸ hv j hj⟩

theorem Arr.less {w : World} {g m k : Nat} {f : Nat → Value} (h : Arr w g m f) (hk : k ≤ m) : Arr w g k f := by
  obtain ⟨c, t, hc, hs, hv⟩ := h
  exact ⟨c, t, hc, by omega, fun j hj => hv j (by omega)⟩

theorem heapSet {w : World} {b o : Nat} {c : Array Value} {t : TypeId} {v : Value} (h : w.heap[b]? = some (.cells c t (0, 0))) : (w.setCell ⟨b, o, none⟩ v).heap[b]? = some (.cells (c.setIfInBounds o v) t (0, 0)) := by
  have hlt := (Array.getElem?_eq_some_iff.1 h).1
  simp [World.setCell, h, hlt, Array.getElem_modify, (Array.getElem?_eq_some_iff.1 h).2]

theorem Arr.set {w : World} {g m : Nat} {f : Nat → Value} (h : Arr w g m f) (k : Nat) (v : Value) : Arr (w.setCell ⟨g, k, none⟩ v) g m (fun j => if j = k then v else f j) := by
  obtain ⟨c, t, hc, hs, hv⟩ := h
  refine ⟨_, t, heapSet hc, by simpa using hs, fun j hj => ?_⟩
  by_cases e : j = k
  · subst e
    simp [Array.getElem?_setIfInBounds, show j < c.size by omega]
  · simp [Array.getElem?_setIfInBounds, e, show ¬ k = j by omega, hv j hj]

theorem Arr.ofRow {w : World} {g n : Nat} {t : TypeId} {f : Nat → Value} (h : w.rowIs g t n f) : Arr w g n f := by
  obtain ⟨c, hc, hs, hv⟩ := h
  exact ⟨c, t, hc, by omega, hv⟩
def intF (xs : List Int) : Nat → Value := fun j => .int .i64 (nth xs j)

theorem Own.arr {w : World} {g : Nat} {xs : List Int} (h : Own w g xs) : Arr w g xs.length (intF xs) := Arr.ofRow h

theorem Arr.row {w : World} {g : Nat} {xs : List Int} (h : Arr w g xs.length (intF xs)) : Row w (some ⟨g, 0, none⟩) xs.length xs :=
  ⟨rfl, .inr ⟨g, 0, rfl, h.lt, fun i hi => by rw [Nat.zero_add]; exact h.cell hi⟩⟩


/-- A block of numbers, all its room known: cap cells, the first m are f 0, f 1, .. -/
def ArrC (w : World) (g m : Nat) (f : Nat → Value) (cap : Nat) : Prop :=
  ∃ c : Array Value, w.heap[g]? = some (.cells c 2 (0, 0)) ∧ c.size = cap ∧ m ≤ cap ∧ (cap ≤ maxLen ∨ cap = m) ∧ ∀ j, j < m → c[j]? = some (f j)

theorem ArrC.arr {w : World} {g m : Nat} {f : Nat → Value} {cap : Nat} (h : ArrC w g m f cap) : Arr w g m f := by
  obtain ⟨c, hc, hs, hm, _, hv⟩ := h
  exact ⟨c, _, hc, by omega, hv⟩

theorem ArrC.lt {w : World} {g m : Nat} {f : Nat → Value} {cap : Nat} (h : ArrC w g m f cap) : g < w.heap.size := h.arr.lt

theorem ArrC.cell {w : World} {g m : Nat} {f : Nat → Value} {cap : Nat} (h : ArrC w g m f cap) {j : Nat} (hj : j < m) : w.cell? ⟨g, j, none⟩ = some (f j) := h.arr.cell hj

theorem ArrC.froz {w : World} {g m : Nat} {f : Nat → Value} {cap : Nat} (h : ArrC w g m f cap) (o : Nat) : w.frozen? ⟨g, o, none⟩ = false := h.arr.froz o

theorem ArrC.block {w w' : World} {g m : Nat} {f : Nat → Value} {cap : Nat} (h : ArrC w g m f cap) (hb : w'.heap[g]? = w.heap[g]?) : ArrC w' g m f cap := by
  obtain ⟨c, hc, hr⟩ := h
  exact ⟨c, hb.trans hc, hr⟩

theorem ArrC.away {w : World} {g m : Nat} {f : Nat → Value} {cap : Nat} (h : ArrC w g m f cap) (p : Addr) (v : Value) (hp : g ≠ p.block) : ArrC (w.setCell p v) g m f cap := h.block (Below.heap_setCell w p v g hp)

theorem ArrC.congr {w : World} {g m : Nat} {f f' : Nat → Value} {cap : Nat} (h : ArrC w g m f cap) (e : ∀ j, j < m → f j = f' j) : ArrC w g m f' cap := by
  obtain ⟨c, hc, hs, h1, h2, hv⟩ := h
  exact ⟨c, hc, hs, h1, h2, fun j hj => e j hj ▸ hv j hj⟩

theorem ArrC.set {w : World} {g m : Nat} {f : Nat → Value} {cap : Nat} (h : ArrC w g m f cap) (k : Nat) (v : Value) : ArrC (w.setCell ⟨g, k, none⟩ v) g m (fun j => if j = k then v else f j) cap := by
  obtain ⟨c, hc, hs, h1, h2, hv⟩ := h
  refine ⟨_, heapSet hc, by simpa using hs, h1, h2, fun j hj => ?_⟩
  by_cases e : j = k
  · subst e
    simp [Array.getElem?_setIfInBounds, show j < c.size by omega]
  · simp [Array.getElem?_setIfInBounds, e, show ¬ k = j by omega, hv j hj]

theorem ArrC.row {w : World} {g : Nat} {xs : List Int} {cap : Nat} (h : ArrC w g xs.length (intF xs) cap) : Row w (some ⟨g, 0, none⟩) xs.length xs := h.arr.row

theorem Own.arrc {w : World} {g : Nat} {xs : List Int} (h : Own w g xs) : ArrC w g xs.length (intF xs) xs.length := by
  obtain ⟨c, hc, hs, hv⟩ := h
  exact ⟨c, hc, by omega, Nat.le_refl _, .inr rfl, hv⟩

/-- A slice of numbers that the call owns: it leads to xs, in block b where it has something, from B to ahead of C. -/
def VSl (w : World) (B C : Nat) (v : Value) (xs : List Int) (b : Nat) : Prop :=
  ∃ a c, v = .slice a xs.length c ∧ (xs.length = 0 ∨ (a = some ⟨b, 0, none⟩ ∧ B ≤ b ∧ b < C ∧ ArrC w b xs.length (intF xs) c))

theorem VSl.keep {w w' : World} {B C : Nat} {v : Value} {xs : List Int} {b : Nat} (h : VSl w B C v xs b) (hk : ∀ k, B ≤ k → k < C → k < w.heap.size → w'.heap[k]? = w.heap[k]?) : VSl w' B C v xs b := by
  obtain ⟨a, c, e, h0 | ⟨ea, h1, h2, ha⟩⟩ := h
  · exact ⟨a, c, e, .inl h0⟩
  · exact ⟨a, c, e, .inr ⟨ea, h1, h2, ha.block (hk b h1 h2 ha.lt)⟩⟩

theorem VSl.below {w w' : World} {B C : Nat} {v : Value} {xs : List Int} {b : Nat} (h : VSl w B C v xs b) (hb : Below w.heap.size w w') : VSl w' B C v xs b := h.keep fun k _ _ lt => hb.block k lt

theorem VSl.mono {w : World} {B C B' C' : Nat} {v : Value} {xs : List Int} {b : Nat} (h : VSl w B C v xs b) (h1 : B' ≤ B) (h2 : C ≤ C') : VSl w B' C' v xs b := by
  obtain ⟨a, c, e, h0 | ⟨ea, k1, k2, ha⟩⟩ := h
  · exact ⟨a, c, e, .inl h0⟩
  · exact ⟨a, c, e, .inr ⟨ea, by omega, by omega, ha⟩⟩

theorem VSl.far {w w' : World} {B C B' C' : Nat} {v : Value} {xs : List Int} {b : Nat} (h : VSl w B C v xs b) (hf : Far B' C' w w') (hd : C ≤ B' ∨ C' ≤ B) : VSl w' B C v xs b := h.keep fun k k1 k2 lt => hf.block k lt (by omega)

theorem VSl.row {w : World} {B C : Nat} {v : Value} {xs : List Int} {b : Nat} (h : VSl w B C v xs b) : ∃ a c, v = .slice a xs.length c ∧ Row w a xs.length xs := by
  obtain ⟨a, c, e, h0 | ⟨rfl, k1, k2, ha⟩⟩ := h
  · exact ⟨a, c, e, rfl, .inl h0⟩
  · exact ⟨_, c, e, ha.row⟩

/-- The cells of items whose vectors are the slices sv. -/
def icell (L : IL) (sv : Nat → Value) (j : Nat) : Value := if j % 3 = 0 then .int .i64 (L (j / 3)).id else if j % 3 = 1 then .int .i64 (L (j / 3)).tags else sv (j / 3)

theorem icell_0 (L : IL) (sv : Nat → Value) (i : Nat) : icell L sv (i * 3) = .int .i64 (L i).id := by simp [icell]

theorem icell_1 (L : IL) (sv : Nat → Value) (i : Nat) : icell L sv (i * 3 + 1) = .int .i64 (L i).tags := by
  have h1 : (i * 3 + 1) % 3 = 1 := by omega
  have h2 : (i * 3 + 1) / 3 = i := by omega
  simp [icell, h1, h2]

theorem icell_2 (L : IL) (sv : Nat → Value) (i : Nat) : icell L sv (i * 3 + 2) = sv i := by
  have h1 : (i * 3 + 2) % 3 = 2 := by omega
  have h2 : (i * 3 + 2) / 3 = i := by omega
  simp [icell, h1, h2]

/-- A slice of items that the call owns: the row in block g, the vectors in blocks V i, all from B to ahead of C, no two in one block. -/
structure Its (w : World) (B C : Nat) (a : Option Addr) (n : Nat) (L : IL) (g : Nat) (V : Nat → Nat) (sv : Nat → Value) : Prop where
  arr : n = 0 ∨ (a = some ⟨g, 0, none⟩ ∧ B ≤ g ∧ g < C ∧ Arr w g (n * 3) (icell L sv))
  vec : ∀ i, i < n → VSl w B C (sv i) (L i).vec (V i)
  sep : ∀ i, i < n → (L i).vec.length ≠ 0 → V i ≠ g ∧ ∀ j, j < n → j ≠ i → (L j).vec.length ≠ 0 → V j ≠ V i

theorem Its.keep {w w' : World} {B C : Nat} {a : Option Addr} {n : Nat} {L : IL} {g : Nat} {V : Nat → Nat} {sv : Nat → Value} (h : Its w B C a n L g V sv) (hk : ∀ k, B ≤ k → k < C → k < w.heap.size → w'.heap[k]? = w.heap[k]?) : Its w' B C a n L g V sv := by
  refine ⟨?_, fun i hi => (h.vec i hi).keep hk, h.sep⟩
  rcases h.arr with h0 | ⟨e, h1, h2, ha⟩
  · exact .inl h0
  · exact .inr ⟨e, h1, h2, ha.block (hk g h1 h2 ha.lt)⟩

theorem Its.below {w w' : World} {B C : Nat} {a : Option Addr} {n : Nat} {L : IL} {g : Nat} {V : Nat → Nat} {sv : Nat → Value} (h : Its w B C a n L g V sv) (hb : Below w.heap.size w w') : Its w' B C a n L g V sv := h.keep fun k _ _ lt => hb.block k lt

theorem Its.far {w w' : World} {B C B' C' : Nat} {a : Option Addr} {n : Nat} {L : IL} {g : Nat} {V : Nat → Nat} {sv : Nat → Value} (h : Its w B C a n L g V sv) (hf : Far B' C' w w') (hd : C ≤ B' ∨ C' ≤ B) : Its w' B C a n L g V sv := h.keep fun k k1 k2 lt => hf.block k lt (by omega)

theorem Its.mono {w : World} {B C B' C' : Nat} {a : Option Addr} {n : Nat} {L : IL} {g : Nat} {V : Nat → Nat} {sv : Nat → Value} (h : Its w B C a n L g V sv) (h1 : B' ≤ B) (h2 : C ≤ C') : Its w B' C' a n L g V sv := by
  refine ⟨?_, fun i hi => (h.vec i hi).mono h1 h2, h.sep⟩
  rcases h.arr with h0 | ⟨e, k1, k2, ha⟩
  · exact .inl h0
  · exact .inr ⟨e, by omega, by omega, ha⟩

theorem Its.irow {w : World} {B C : Nat} {a : Option Addr} {n : Nat} {L : IL} {g : Nat} {V : Nat → Nat} {sv : Nat → Value} (h : Its w B C a n L g V sv) : IRow w a n L := by
  rcases h.arr with h0 | ⟨rfl, h1, h2, ha⟩
  · exact ⟨.inl h0⟩
  · refine ⟨.inr ⟨g, 0, rfl, ha.lt, fun i hi => ?_⟩⟩
    rw [Nat.zero_add]
    have c0 := ha.cell (j := i * 3) (by omega)
    have c1 := ha.cell (j := i * 3 + 1) (by omega)
    have c2 := ha.cell (j := i * 3 + 2) (by omega)
    rw [icell_0] at c0
    rw [icell_1] at c1
    rw [icell_2] at c2
    obtain ⟨a', c', e, hr⟩ := (h.vec i hi).row
    rw [e] at c2
    exact ⟨c0, c1, a', _, c', c2, hr⟩

theorem run_make_cells {P : Program} (t e : TypeId) (z : Value) (zs : Array Value) (bytes : Nat) (hz : z.cells = zs) (ht : P.underlying t = some (.slice e)) (hinfo : (P.info? e).map (fun i => (i.zero, i.size, i.bytes)) = some (some z, zs.size, bytes))
    (kl kc : IntKind) (n : Nat) (hbytes : bytes * n ≤ 281474976710656) (h63 : n ≤ 9223372036854775807) (w : World) :
    (Instr.makeSlice t (.int kl (n : Int)) (.int kc (n : Int))).run P w = .ok (.slice (some ⟨w.heap.size, 0, none⟩) n n) (w.alloc (.cells (madeCells zs (n * zs.size)) e)) := by
  obtain ⟨i, hi, hzz⟩ := Option.map_eq_some_iff.1 hinfo
  simp only [Prod.mk.injEq] at hzz
  obtain ⟨hzi, hs, hb⟩ := hzz
  have hb' : (i.bytes : Int) * (n : Int) ≤ 281474976710656 := by
    have h : ((i.bytes * n : Nat) : Int) ≤ 281474976710656 := by rw [hb]; omega
    rwa [Int.natCast_mul] at h
  have hr := run_make (P := P) w t e i _ ht hi hzi kl kc n n (by omega) (Int.le_refl _) hb' (by omega)
  simp only [Int.toNat_natCast, hs, hz] at hr
  exact hr

end Go.Proofs.YtgckhnnkphlciaaDoor
