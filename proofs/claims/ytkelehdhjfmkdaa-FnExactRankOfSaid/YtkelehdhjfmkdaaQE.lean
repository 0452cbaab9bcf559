/- InRadius of the program: the closure, eachNear, the query. -/
import Derived.Test.YtkelehdhjfmkdaaQD
import Derived.Test.YtkelehdhjfmkdaaQB
import Derived.Test.YtkelehdhjfmkdaaHR0
namespace Go.Proofs.Ytkelehdhjfmkdaa
open Go.RowKit
set_option linter.unusedSimpArgs false
set_option linter.unusedVariables false

theorem fil_at {p : It → Bool} {L : IL} {k : Nat} (h : p (L k) = true) : ∀ n, k < n → fil p L n (cntP p L k) = L k := by
  intro n
  induction n with
  | zero => intro hk; omega
  | succ n ih =>
    intro hk
    by_cases e : k = n
    · subst e; rw [fil_yes h, IL.put_at]
    · have hlt : cntP p L k < cntP p L n := by
        have mono : ∀ j, cntP p L k + 1 ≤ cntP p L (k + 1 + j) := by
          intro j
          induction j with
          | zero => rw [Nat.add_zero, cntP_yes h]; exact Nat.le_refl _
          | succ j ihj => show _ ≤ cntP p L (k + 1 + j + 1); simp only [cntP]; split <;> omega
        have := mono (n - (k + 1))
        rw [show k + 1 + (n - (k + 1)) = n by omega] at this
        omega
      cases hn : p (L n)
      · rw [fil_no hn]; exact ih (by omega)
      · rw [fil_yes hn, IL.put_off _ _ (by omega)]; exact ih (by omega)
theorem nrL_at {qs : List Int} {mask : Int} {L : IL} {k n : Nat} (h : mtB mask (L k) = true) (hk : k < n) : nrL qs mask L n (cntP (mtB mask) L k) = nrOf qs (L k) := by
  unfold nrL
  rw [fil_at h n hk]

/-- What the closure of InRadius keeps: the radius, and the slice that it appends to. -/
structure Cap (w0 : World) (rb vb : Nat) (r : Int) (m : Nat) (M : NL) (w : World) : Prop where
  rad : w.heap[rb]? = some (.cells #[.int .i64 r] 2 (0, 0))
  ex : ∃ g c, w.heap[vb]? = some (.cells #[.slice (some ⟨g, 0, none⟩) m c] 25 (0, 0)) ∧ RC w w0.heap.size g c m M
  lo : w0.heap.size ≤ vb
  bel : Below w0.heap.size w0 w
theorem blkLt {w : World} {b : Nat} {o : Obj} (h : w.heap[b]? = some o) : b < w.heap.size := (Array.getElem?_eq_some_iff.1 h).1
theorem Cap.below {w0 : World} {rb vb : Nat} {r : Int} {m : Nat} {M : NL} {w w' : World} (h : Cap w0 rb vb r m M w) (hb : Below w.heap.size w w') : Cap w0 rb vb r m M w' := by
  obtain ⟨h1, ⟨g, c, h2, h3⟩, h4, h5⟩ := h
  exact ⟨(hb.block rb (blkLt h1)).trans h1, ⟨g, c, (hb.block vb (blkLt h2)).trans h2, h3.below hb⟩, h4, bstep h5 hb⟩
theorem one_cell {w : World} {b : Nat} {v : Value} {t : TypeId} (h : w.heap[b]? = some (.cells #[v] t (0, 0))) : w.cell? ⟨b, 0, none⟩ = some v := by simp [World.cell?, h]
theorem one_free {w : World} {b : Nat} {v : Value} {t : TypeId} (h : w.heap[b]? = some (.cells #[v] t (0, 0))) : w.frozen? ⟨b, 0, none⟩ = false := by simp [World.frozen?, h]
theorem RC.blk {w : World} {base g cap k : Nat} {M : NL} (h : RC w base g cap k M) : ∃ cur, w.heap[g]? = some (.cells cur 45 (0, 0)) := by
  obtain ⟨_, cur, h1, _⟩ := h
  exact ⟨cur, h1⟩

theorem two_newAt (w : World) (x y : Value) (t : TypeId) (b : Nat) (hb : w.heap.size = b) : ∀ (j : Nat) (u : Value), [x, y][j]? = some u → (w.alloc (.cells #[x, y] t)).cell? ((⟨b, 0, none⟩ : Addr).add j) = some u := hb ▸ two_new2 w x y t

set_option maxHeartbeats 400000 in
theorem matches_any (mask : Int) (x : It) (a : Option Addr) (n cap : Nat) (w : World) :
    Calls Try.prog 39 #[.agg #[.int .i64 x.id, .int .i64 x.tags, .slice a n cap], .int .i64 mask] w fun e w' => e = .returned (.bool (mtB mask x)) ∧ Below w.heap.size w w' := by
  unfold mtB
  go_enter Try.func39, Try.ntmps39
  go_wp2_with fail
  go_ret
  exact ⟨rfl, (by repeat' first | with_reducible exact Below.refl _ _ | with_reducible assumption | with_reducible refine below_drewN ?_ _ | with_reducible refine balloc ?_ _ | with_reducible refine Below.drew ?_ | with_reducible refine Below.setCell ?_ (by first | (simp; done) | (simp; omega) | omega) _ | with_reducible refine bstep ?_ (by assumption))⟩

set_option maxHeartbeats 4000000 in
theorem inRadius1_any (w0 : World) (rb vb : Nat) (r : Int) (m : Nat) (M : NL) (x : Int × Int) (w : World) (h : Cap w0 rb vb r m M w) (hm : m ≤ 60) :
    Calls Try.prog 25 #[.agg #[.int .i64 x.1, .int .i64 x.2], .pointer (some ⟨rb, 0, none⟩), .pointer (some ⟨vb, 0, none⟩)] w fun e w' => e = .returned (.tuple #[]) ∧ Cap w0 rb vb r (if inR r x then m + 1 else m) (if inR r x then M.put m x else M) w' := by
  have hb1 : Below w.heap.size w (w.alloc (.cells #[.int .i64 x.1, .int .i64 x.2] 45)) := balloc (Below.refl _ _) _
  obtain ⟨i0, hi, hz0, hz1, hz2⟩ := nearInfo2
  have HI := hide hi
  have HC := hide (h.below hb1)
  obtain ⟨h1, ⟨g, c, h2, h3⟩, h4, h5⟩ := h.below hb1
  have q1 := one_cell h1
  have q2 := one_cell h2
  have hs0 := h5.size
  have l1 := blkLt h1
  have l2 := blkLt h2
  simp only [World.size_alloc] at hs0 l1 l2
  have hne : vb ≠ g := fun e => by
    obtain ⟨cur, hcur⟩ := h3.blk
    rw [← e, h2] at hcur
    simp at hcur
  have HRC := hide h3
  have HH2 := hide h2
  have HH1 := hide h1
  have HB5 := hide h5
  clear h h1 h2 h3 h5 hi hb1
  cases hm' : inR r x
  · have hq := of_decide_eq_false hm'
    simp only [Bool.false_eq_true, if_false]
    go_enter Try.func25, Try.ntmps25
    go_wp2_with fail
    go_end0
    exact ⟨rfl, HC.out⟩
  · have hq := of_decide_eq_true hm'
    simp only [if_true]
    generalize hNV : nlv M m = NV at *
    have HNV := hide hNV
    have hown := hide (HRC.out.owns.alloc (.cells #[.int .i64 x.1, .int .i64 x.2] 45))
    rw [HNV.out] at hown
    have hnew := two_newAt (w.alloc (.cells #[.int .i64 x.1, .int .i64 x.2] 45)) (.int .i64 x.1) (.int .i64 x.2) 45 (w.heap.size + 1) (by simp)
    have HN := hide hnew
    clear hNV hm' hnew
    go_enter Try.func25, Try.ntmps25
    go_wp2_with (at_builtin; refine wpList_append_lies _ rfl _ _ 25 rfl w0.heap.size 45 i0 _ 2 16 Try.underlying25 HI.out hz0 hz1 hz2 rfl (by decide) _ _ _ rfl hown.out ⟨w.heap.size + 1, 0, none⟩ 1 1 [.int .i64 x.1, .int .i64 x.2] rfl rfl HN.out (two_one _ _) (by omega) (by unfold maxLen; omega) (by omega) (by simp; omega) _ rfl ?_)
    intro g5 c5 w5 hown5 hgrow hat5 hglt
    have HG5 : Hid (RC w5 w0.heap.size g5 c5 (m + 1) (M.put m x)) := hide (RC.grown (x := x.1) (y := x.2) (by rw [HNV.out]; exact hown5))
    have hvb5 : w5.heap[vb]? = some (.cells #[.slice (some ⟨g, 0, none⟩) m c] 25 (0, 0)) := by
      rw [hgrow.block vb (by simp; omega) (by simpa [Value.ownBlock] using hne)]
      exact ((balloc (Below.refl _ _) _).block vb (by simp; omega)).trans HH2.out
    have hrb5 : w5.heap[rb]? = some (.cells #[.int .i64 r] 2 (0, 0)) := by
      have hne' : rb ≠ g := fun e => by
        obtain ⟨cur, hcur⟩ := HRC.out.blk
        rw [← e, HH1.out] at hcur
        simp at hcur
      rw [hgrow.block rb (by simp; omega) (by simpa [Value.ownBlock] using hne')]
      exact ((balloc (Below.refl _ _) _).block rb (by simp; omega)).trans HH1.out
    have hbel5 : Below w0.heap.size w0 w5 := (balloc HB5.out (.cells #[.int .i64 x.1, .int .i64 x.2] 45)).grown hgrow (by simp; omega) fun k' hk' => (hown.out.lt k' hk').1
    have hne5 : vb ≠ g5 := by
      rcases hat5 with h | h
      · simp [Value.ownBlock] at h; omega
      · omega
    have hrv : rb ≠ vb := fun e => by
      rw [e, hvb5] at hrb5
      simp at hrb5
    have HEND : Hid (Cap w0 rb vb r (m + 1) (M.put m x) (w5.setCell ⟨vb, 0, none⟩ (.slice (some ⟨g5, 0, none⟩) (m + 1) c5))) := hide ⟨(Below.heap_setCell w5 ⟨vb, 0, none⟩ _ rb hrv).trans hrb5, ⟨g5, c5, by rw [heap_set hvb5]; simp, HG5.out.block (Below.heap_setCell w5 ⟨vb, 0, none⟩ _ g5 (Ne.symm hne5))⟩, h4, hbel5.setCell h4 _⟩
    have q5 := one_cell hvb5
    have q6 := one_free hvb5
    clear hown5 hgrow hat5 hown hvb5 hrb5 hbel5
    go_wp2_with fail
    go_end0
    exact ⟨rfl, HEND.out⟩

theorem cap_step {r : Int} {A : NL} {j : Nat} {w0 : World} {rb vb : Nat} {w : World} (h : Cap w0 rb vb r (if inR r (A j) then cntN (inR r) A j + 1 else cntN (inR r) A j) (if inR r (A j) then (filN (inR r) A j).put (cntN (inR r) A j) (A j) else filN (inR r) A j) w) : Cap w0 rb vb r (cntN (inR r) A (j + 1)) (filN (inR r) A (j + 1)) w := by
  simp only [cntN, filN]
  exact h

set_option maxHeartbeats 8000000 in
set_option maxRecDepth 4000 in
theorem eachNear_rad (w0 : World) (rb vb : Nat) (r : Int) (dim : Int) (b off n cap : Nat) (L : IL) (qa : Option Addr) (qn qc : Nat) (qs : List Int) (mask : Int) (w : World) (hb : b < w0.heap.size) (hc : ∀ i, i < n → IAt w0 b (off + i * 3) (L i)) (rq : Row w0 qa qn qs) (hqn : qn ≤ 1048576) (hf : Fine dim n L qs)
    (h : Cap w0 rb vb r 0 (fun _ => (0, 0)) w) :
    Calls Try.prog 24 #[.slice (some ⟨b, off, none⟩) n cap, .slice qa qn qc, .int .i64 mask, .func (.func 25) #[] #[.pointer (some ⟨rb, 0, none⟩), .pointer (some ⟨vb, 0, none⟩)]] w fun e w' => e = .returned (.tuple #[]) ∧ Cap w0 rb vb r (cntN (inR r) (nrL qs mask L n) (cntP (mtB mask) L n)) (filN (inR r) (nrL qs mask L n) (cntP (mtB mask) L n)) w' := by
  have HAT := hide (fun k (hk : k < n) (hm : mtB mask (L k) = true) => nrL_at (qs := qs) hm hk)
  have hn := hf.n60
  have HF := hide hf
  have HC := hide hc
  have HRQ := hide rq
  have HCAP := hide h
  generalize nrL qs mask L n = A at *
  clear hf hc rq h
  go_enter Try.func24, Try.ntmps24
  go_wp2_with fail
  go_loopw [12] (fun i wr => ∃ k : Nat, k ≤ n ∧ i = .int .i64 k ∧ Cap w0 rb vb r (cntN (inR r) A (cntP (mtB mask) L k)) (filN (inR r) A (cntP (mtB mask) L k)) wr) (fun i _ => n - (intOf i).toNat)
  case atStart => exact ⟨0, Nat.zero_le _, rfl, HCAP.out⟩
  case round =>
    obtain ⟨k, hk, rfl, hcap⟩ := hrel
    have HK := hide hcap
    have hbel := hcap.bel
    by_cases hlt : k < n
    · obtain ⟨c0, c1', va, vn, vc, c2, vr⟩ := (HC.out k hlt).below hb hbel
      have hlt' : (k : Int) < (n : Int) := by omega
      have MT := hide (fun w1 => matches_any mask (L k) va vn vc w1)
      cases hm : mtB mask (L k)
      · simp only [hm] at MT
        have E1 := hide (cntP_no hm)
        clear hbel hcap vr hm
        go_wp2_with fail
        refine (MT.out _).mono ?_
        rintro e w1 ⟨rfl, hb1⟩
        have bel1 : Below wr.heap.size wr w1 := (by repeat' first | with_reducible exact Below.refl _ _ | with_reducible assumption | with_reducible refine below_drewN ?_ _ | with_reducible refine balloc ?_ _ | with_reducible refine Below.drew ?_ | with_reducible refine Below.setCell ?_ (by first | (simp; done) | (simp; omega) | omega) _ | with_reducible refine bstep ?_ (by assumption))
        go_wp2_with fail
        go_roundw
        case rel => exact ⟨k + 1, by omega, by go_num, by rw [E1.out]; exact HK.out.below bel1⟩
        case measure => simp [intOf]; omega
      · simp only [hm] at MT
        have E1 := hide (cntP_yes hm)
        have hvl := vr.len
        have NO := hide (fun w1 (h1 : Below wr.heap.size wr w1) => nearOf_any (L k) va vn vc qa qn qc qs w1 (vr.below h1) (by have := (vecOk_all (HF.out.vi k hlt) hvl).2.1; omega) ((HRQ.out.below hbel).below h1) hqn (HF.out.vi k hlt) HF.out.vq (HF.out.li k hlt))
        have hat := HAT.out k hlt hm
        have hj : cntN (inR r) A (cntP (mtB mask) L k) ≤ 60 := Nat.le_trans (cntN_le _ _ _) (Nat.le_trans (cntP_le _ _ _) (by omega))
        have CL := hide (fun w1 (h1 : Cap w0 rb vb r (cntN (inR r) A (cntP (mtB mask) L k)) (filN (inR r) A (cntP (mtB mask) L k)) w1) => inRadius1_any w0 rb vb r _ _ (A (cntP (mtB mask) L k)) w1 h1 hj)
        rw [← hat] at NO
        generalize cntP (mtB mask) L k = j at *
        obtain ⟨y, hy⟩ : ∃ y, A j = y := ⟨_, rfl⟩
        rw [hy] at NO CL
        have HY := hide hy
        clear hbel hcap vr hm hat hy
        go_wp2_with fail
        refine (MT.out _).mono ?_
        rintro e w1 ⟨rfl, hb1⟩
        have bel1 : Below wr.heap.size wr w1 := (by repeat' first | with_reducible exact Below.refl _ _ | with_reducible assumption | with_reducible refine below_drewN ?_ _ | with_reducible refine balloc ?_ _ | with_reducible refine Below.drew ?_ | with_reducible refine Below.setCell ?_ (by first | (simp; done) | (simp; omega) | omega) _ | with_reducible refine bstep ?_ (by assumption))
        obtain ⟨_, q1, q2, q3, _⟩ := (Tri.new wr (.int .i64 (L k).id) (.int .i64 (L k).tags) (.slice va vn vc) 46).below hb1
        go_wp2_with fail
        refine (NO.out _ bel1).mono ?_
        rintro e w2 ⟨rfl, hb2⟩
        go_wp2_with fail
        refine (CL.out _ (HK.out.below (bstep bel1 hb2))).mono ?_
        rintro e w3 ⟨rfl, hc3⟩
        have HC3 := hide hc3
        clear hc3
        go_wp2_with fail
        go_roundw
        case rel => exact ⟨k + 1, by omega, by go_num, by rw [E1.out]; have := HC3.out; rw [← HY.out] at this; exact cap_step this⟩
        case measure => simp [intOf]; omega
    · obtain rfl : k = n := by omega
      clear hcap hbel
      go_wp2_with fail
      go_end0
      exact ⟨rfl, HK.out⟩
end Go.Proofs.Ytkelehdhjfmkdaa
