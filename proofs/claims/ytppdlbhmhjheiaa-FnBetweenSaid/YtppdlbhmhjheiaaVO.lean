/- VecAdd of the model: a list made by append, in a statement that draws its order. -/
import Derived.Test.YtppdlbhmhjheiaaVI
import Derived.Deep.AppendLies
import Derived.Deep.RegionLaw
namespace Go.Proofs.Ytppdlbhmhjheiaa
open Go.RowKit
set_option linter.unusedSimpArgs false

/-- The first k sums. -/
def sumF (xs ys : List Int) : Nat → Int := fun j => nth xs j + nth ys j

theorem wrapIn (x : Int) (h1 : -9223372036854775808 ≤ x) (h2 : x ≤ 9223372036854775807) : IntKind.i64.wrap x = x := by rw [IntKind.wrap_i64]; omega
def AddPost (w : World) (n : Nat) (f : Nat → Int) (ok : Bool) (e : Ending) (w' : World) : Prop :=
  ∃ a2 c2, e = .returned (.tuple #[if ok then .slice a2 n c2 else .slice none 0 0, .bool ok]) ∧ Row w' a2 n (ints f n) ∧ Below w.heap.size w w'
theorem below_app' {w wr w2 : World} {o : Obj} {v : Value} {k : Nat} {e : TypeId} {size : Nat} {xs : List Value} (hb : Below w.heap.size w wr) (ho : wr.ownsRow w.heap.size e size v k xs) (hg : (wr.alloc o).drew.grownBy w2 v.ownBlock) : Below w.heap.size w w2 :=
  (balloc hb o).drew.grown hg (by have := hb.size; simp; omega) fun k' hk' => (ho.lt k' hk').1
theorem owns_drew {w : World} {base : Nat} {e : TypeId} {size : Nat} {v : Value} {n : Nat} {xs : List Value} (h : w.ownsRow base e size v n xs) : w.drew.ownsRow base e size v n xs := h

set_option maxHeartbeats 2000000 in
theorem sVecAdd_yes (b off n cap b' off' cap' : Nat) (xs ys : List Int) (w : World) (hl : xs.length = n) (hl' : ys.length = n) (hb : b < w.heap.size) (hb' : b' < w.heap.size)
    (hc : ∀ i, i < n → w.cell? ⟨b, off + i, none⟩ = some (.int .i64 (nth xs i))) (hc' : ∀ i, i < n → w.cell? ⟨b', off' + i, none⟩ = some (.int .i64 (nth ys i))) (hv : vecOkB xs = true) (hv' : vecOkB ys = true) (ok : Bool) (hok : vecOkB (ints (sumF xs ys) n) = ok) :
    Calls Try.prog 16 #[.slice (some ⟨b, off, none⟩) n cap, .slice (some ⟨b', off', none⟩) n cap'] w fun e w' => AddPost w n (sumF xs ys) ok e w' := by
  obtain ⟨n1, n8, hbd⟩ := vecOk_bd hv hl
  obtain ⟨_, _, hbd'⟩ := vecOk_bd hv' hl'
  obtain ⟨i0, hi, hz0, hz1, hz2⟩ := info_parts Try.infoI64
  have H1 := hide (sVecOk_some b off n cap xs w hl (by omega) hc)
  have H2 := hide (sVecOk_some b' off' n cap' ys w hl' (by omega) hc')
  rw [hv] at H1
  rw [hv'] at H2
  have hne : ((n : Int) != (n : Int)) = false := by simp
  have HBD := hide hbd
  have HBD' := hide hbd'
  have HOK := hide hok
  clear hbd hbd' hv hv' hok
  go_enter Try.func16, Try.ntmps16
  go_wp2_with fail
  refine H1.out.mono ?_
  rintro e w' ⟨rfl, hw⟩
  obtain rfl := hw.symm
  go_wp2_with fail
  refine H2.out.mono ?_
  rintro e w' ⟨rfl, hw⟩
  obtain rfl := hw.symm
  clear H1 H2
  go_wp2_with fail
  go_loopw [6, 7] (fun v i wr => ∃ k : Nat, k ≤ n ∧ i = .int .i64 k ∧ wr.ownsRow w.heap.size 2 1 v k (vals (sumF xs ys) k) ∧ Below w.heap.size w wr) (fun _ i _ => n - (intOf i).toNat)
  case atStart => exact ⟨0, Nat.zero_le _, rfl, World.ownsRow_made w #[] 0 (Nat.le_refl _) (Nat.zero_le _) rfl, (by repeat' first | with_reducible exact Below.refl _ _ | with_reducible assumption | with_reducible refine below_drewN ?_ _ | with_reducible refine balloc ?_ _ | with_reducible refine Below.drew ?_ | with_reducible refine Below.setCell ?_ (by first | (simp; done) | (simp; omega) | omega) _ | with_reducible refine bstep ?_ (by assumption))⟩
  case round =>
    obtain ⟨k, hk, rfl, hown, hbel⟩ := hrel
    have HC := hide hc
    have HC' := hide hc'
    have HB := hide hbel
    by_cases hlt : k < n
    · have h1 : wr.cell? ⟨b, off + k, none⟩ = some (.int .i64 (nth xs k)) := (hbel.cell (p := ⟨b, off + k, none⟩) hb).trans (hc k hlt)
      have h2 : wr.cell? ⟨b', off' + k, none⟩ = some (.int .i64 (nth ys k)) := (hbel.cell (p := ⟨b', off' + k, none⟩) hb').trans (hc' k hlt)
      have lt1 : b < wr.heap.size := Nat.lt_of_lt_of_le hb hbel.size
      have lt2 : b' < wr.heap.size := Nat.lt_of_lt_of_le hb' hbel.size
      obtain ⟨x0, x1⟩ := HBD.out k hlt
      obtain ⟨y0, y1⟩ := HBD'.out k hlt
      have hlt' : (k : Int) < (n : Int) := by omega
      have HO := hide hown
      clear hc hc' hbel hown
      go_wp2_with fail
      go_region_law (refine step_append_lies _ rfl _ _ 24 rfl w.heap.size 2 i0 (.int .i64 0) 1 8 Try.underlying24 hi hz0 hz1 hz2 rfl (by decide) _ _ _ rfl (owns_drew (HO.out.alloc _)) ⟨_, 0, none⟩ 1 1 [.int .i64 (IntKind.i64.wrap (nth xs k + nth ys k))] rfl rfl (one_new _ _ _) (by intro u hu; simp at hu; subst hu; rfl) (by omega) (by unfold maxLen; omega) (by omega) (by have := HB.out.size; simp; omega) _ rfl ?_; intro g c w1 hown1 hgrow hat hglt)
      all_goals
        have hB2 := below_app' HB.out HO.out hgrow
        rw [wrapIn _ (by omega) (by omega), show nth xs k + nth ys k = sumF xs ys k from rfl, ← vals_succ (sumF xs ys) k] at hown1
        clear hgrow hat HO
        have HO := hide hown1
        clear hown1
        go_wp2_with fail
        go_roundw
        case rel => exact ⟨k + 1, by omega, by go_num, HO.out, hB2⟩
        case measure => simp [intOf]; omega
    · clear hc hc'
      have hkn : k = n := by omega
      subst hkn
      obtain ⟨a2, c2, hv2, hr2, _⟩ := row_of_owns hown
      subst hv2
      have H3 := hide (sVecOk_any a2 k c2 _ wr hr2 (by omega))
      rw [HOK.out] at H3
      cases ok
      · go_wp2_with fail
        refine H3.out.mono ?_
        rintro e w' ⟨rfl, hw⟩
        obtain rfl := hw.symm
        go_wp2_with fail
        go_ret2
        exact ⟨a2, c2, rfl, hr2, hbel⟩
      · go_wp2_with fail
        refine H3.out.mono ?_
        rintro e w' ⟨rfl, hw⟩
        obtain rfl := hw.symm
        go_wp2_with fail
        go_ret2
        exact ⟨a2, c2, rfl, hr2, hbel⟩

def addOkB (xs ys : List Int) : Bool := vecOkB xs && vecOkB ys && decide (xs.length = ys.length) && vecOkB (ints (sumF xs ys) xs.length)
/-- The sums; none where one is no vector, they are not equally long, or that is none. -/
def addL (xs ys : List Int) : List Int := if addOkB xs ys then ints (sumF xs ys) xs.length else []

set_option maxHeartbeats 1000000 in
theorem sVecAdd_no (a a' : Option Addr) (n cap n' cap' : Nat) (xs ys : List Int) (w : World) (h : Row w a n xs) (h' : Row w a' n' ys) (hn : n ≤ 1048576) (hn' : n' ≤ 1048576) (hno : (vecOkB xs && vecOkB ys && decide (n = n')) = false) :
    Calls Try.prog 16 #[.slice a n cap, .slice a' n' cap'] w fun e w' => e = .returned (.tuple #[.slice none 0 0, .bool false]) ∧ Below w.heap.size w w' := by
  have H1 := hide (sVecOk_any a n cap xs w h hn)
  have H2 := hide (sVecOk_any a' n' cap' ys w h' hn')
  cases hx : vecOkB xs
  · rw [hx] at H1
    clear h h' H2 hno
    go_enter Try.func16, Try.ntmps16
    go_wp2_with fail
    refine H1.out.mono ?_
    rintro e w' ⟨rfl, hw⟩
    obtain rfl := hw.symm
    go_wp2
    go_ret2
    exact ⟨rfl, (by repeat' first | with_reducible exact Below.refl _ _ | with_reducible assumption | with_reducible refine below_drewN ?_ _ | with_reducible refine balloc ?_ _ | with_reducible refine Below.drew ?_ | with_reducible refine Below.setCell ?_ (by first | (simp; done) | (simp; omega) | omega) _ | with_reducible refine bstep ?_ (by assumption))⟩
  · rw [hx] at H1
    cases hy : vecOkB ys
    · rw [hy] at H2
      clear h h' hno
      go_enter Try.func16, Try.ntmps16
      go_wp2_with fail
      refine H1.out.mono ?_
      rintro e w' ⟨rfl, hw⟩
      obtain rfl := hw.symm
      go_wp2_with fail
      refine H2.out.mono ?_
      rintro e w' ⟨rfl, hw⟩
      obtain rfl := hw.symm
      go_wp2
      go_ret2
      exact ⟨rfl, (by repeat' first | with_reducible exact Below.refl _ _ | with_reducible assumption | with_reducible refine below_drewN ?_ _ | with_reducible refine balloc ?_ _ | with_reducible refine Below.drew ?_ | with_reducible refine Below.setCell ?_ (by first | (simp; done) | (simp; omega) | omega) _ | with_reducible refine bstep ?_ (by assumption))⟩
    · rw [hy] at H2
      have e : ¬ n = n' := by simpa [hx, hy] using hno
      have hne : ((n : Int) != (n' : Int)) = true := by rw [bne_iff_ne]; omega
      clear h h' hx hy e hno
      go_enter Try.func16, Try.ntmps16
      go_wp2_with fail
      refine H1.out.mono ?_
      rintro e w' ⟨rfl, hw⟩
      obtain rfl := hw.symm
      go_wp2_with fail
      refine H2.out.mono ?_
      rintro e w' ⟨rfl, hw⟩
      obtain rfl := hw.symm
      go_wp2
      go_ret2
      exact ⟨rfl, (by repeat' first | with_reducible exact Below.refl _ _ | with_reducible assumption | with_reducible refine below_drewN ?_ _ | with_reducible refine balloc ?_ _ | with_reducible refine Below.drew ?_ | with_reducible refine Below.setCell ?_ (by first | (simp; done) | (simp; omega) | omega) _ | with_reducible refine bstep ?_ (by assumption))⟩

theorem sVecAdd_any (a a' : Option Addr) (n cap n' cap' : Nat) (xs ys : List Int) (w : World) (h : Row w a n xs) (h' : Row w a' n' ys) (hn : n ≤ 1048576) (hn' : n' ≤ 1048576) :
    Calls Try.prog 16 #[.slice a n cap, .slice a' n' cap'] w fun e w' => ∃ a2 c2, e = .returned (.tuple #[.slice a2 (addL xs ys).length c2, .bool (addOkB xs ys)]) ∧ Row w' a2 (addL xs ys).length (addL xs ys) ∧ Below w.heap.size w w' := by
  unfold addL addOkB
  rw [h.len, h'.len]
  cases hp : (vecOkB xs && vecOkB ys && decide (n = n'))
  · refine (sVecAdd_no a a' n cap n' cap' xs ys w h h' hn hn' hp).mono ?_
    rintro e w' ⟨rfl, hb⟩
    exact ⟨none, 0, rfl, ⟨rfl, .inl rfl⟩, hb⟩
  · simp only [Bool.and_eq_true, decide_eq_true_eq] at hp
    obtain ⟨⟨hx, hy⟩, rfl⟩ := hp
    obtain ⟨n1, _, _⟩ := vecOk_bd hx h.len
    rcases h.lies with h0 | ⟨b, off, rfl, hb, hc⟩
    · omega
    · rcases h'.lies with h0 | ⟨b', off', rfl, hb', hc'⟩
      · omega
      · refine (sVecAdd_yes b off n cap b' off' cap' xs ys w h.len h'.len hb hb' hc hc' hx hy _ rfl).mono ?_
        rintro e w' ⟨a2, c2, rfl, hr, hbel⟩
        cases vecOkB (ints (sumF xs ys) n)
        · exact ⟨none, 0, rfl, ⟨rfl, .inl rfl⟩, hbel⟩
        · refine ⟨a2, c2, ?_, ?_, hbel⟩
          · simp [ints_len]
          · simpa [ints_len] using hr
end Go.Proofs.Ytppdlbhmhjheiaa
