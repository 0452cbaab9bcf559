/- InRadius of the model; Nears that are picked, plain. -/
import Derived.Test.YtkelehdhjfmkdaaQC
namespace Go.Proofs.Ytkelehdhjfmkdaa
open Go.RowKit
set_option linter.unusedSimpArgs false
set_option linter.unusedVariables false

/-- How many of the first k are such, and these. -/
def cntN (p : Int × Int → Bool) (A : NL) : Nat → Nat
  | 0 => 0
  | k + 1 => if p (A k) then cntN p A k + 1 else cntN p A k
def filN (p : Int × Int → Bool) (A : NL) : Nat → NL
  | 0 => fun _ => (0, 0)
  | k + 1 => if p (A k) then (filN p A k).put (cntN p A k) (A k) else filN p A k
theorem cntN_le (p : Int × Int → Bool) (A : NL) (k : Nat) : cntN p A k ≤ k := by
  induction k with
  | zero => exact Nat.le_refl _
  | succ k ih => simp only [cntN]; split <;> omega
theorem cntN_yes {p : Int × Int → Bool} {A : NL} {k : Nat} (h : p (A k) = true) : cntN p A (k + 1) = cntN p A k + 1 := by simp [cntN, h]
theorem cntN_no {p : Int × Int → Bool} {A : NL} {k : Nat} (h : p (A k) = false) : cntN p A (k + 1) = cntN p A k := by simp [cntN, h]
theorem filN_yes {p : Int × Int → Bool} {A : NL} {k : Nat} (h : p (A k) = true) : filN p A (k + 1) = (filN p A k).put (cntN p A k) (A k) := by simp [filN, h]
theorem filN_no {p : Int × Int → Bool} {A : NL} {k : Nat} (h : p (A k) = false) : filN p A (k + 1) = filN p A k := by simp [filN, h]

/-- Within a radius. -/
def inR (r : Int) (x : Int × Int) : Bool := decide (x.2 ≤ r)
def radM (dim : Int) (n : Nat) (L : IL) (qs : List Int) (r mask : Int) : Nat := if formB dim n L qs then cntN (inR r) (nrL qs mask L n) (cntP (mtB mask) L n) else 0
def radA (n : Nat) (L : IL) (qs : List Int) (r mask : Int) : NL := filN (inR r) (nrL qs mask L n) (cntP (mtB mask) L n)

set_option maxHeartbeats 8000000 in
set_option maxRecDepth 4000 in
theorem sInRadius_yes (dim : Int) (a : Option Addr) (n cap : Nat) (L : IL) (qa : Option Addr) (qn qc : Nat) (qs : List Int) (r mask : Int) (w : World) (h : IRow w a n L) (hv : ∀ i, i < n → (L i).vec.length ≤ 1048576) (rq : Row w qa qn qs) (hqn : qn ≤ 1048576) (hf : formB dim n L qs = true) :
    Calls Try.prog 6 #[.int .i64 dim, .slice a n cap, .slice qa qn qc, .int .i64 r, .int .i64 mask] w fun e w' => NearsR w (cntN (inR r) (nrL qs mask L n) (cntP (mtB mask) L n)) (radA n L qs r mask) e w' := by
  have hfine := fine_of hf
  have hn := hfine.n60
  obtain ⟨i0, hi, hz0, hz1, hz2⟩ := nearInfo2
  have HI := hide hi
  have K := hide (fun w1 (hb : Below w.heap.size w w1) => l8Form_any dim a n cap L qa qn qc qs w1 (h.below hb) (by omega) hv (rq.below hb) hqn)
  simp only [hf] at K
  have NR := hide (fun w1 (hb : Below w.heap.size w w1) => l8Nears_any dim a n cap L qa qn qc qs mask w1 (h.below hb) (rq.below hb) hfine)
  have hml : cntP (mtB mask) L n ≤ 60 := Nat.le_trans (cntP_le _ _ _) hn
  unfold radA
  generalize cntP (mtB mask) L n = N at *
  generalize nrL qs mask L n = A at *
  clear h hv rq hf hi hfine
  go_enter Try.func6, Try.ntmps6
  go_wp2_with fail
  refine (K.out _ (by repeat' first | with_reducible exact Below.refl _ _ | with_reducible assumption | with_reducible refine below_drewN ?_ _ | with_reducible refine balloc ?_ _ | with_reducible refine Below.drew ?_ | with_reducible refine Below.setCell ?_ (by first | (simp; done) | (simp; omega) | omega) _ | with_reducible refine bstep ?_ (by assumption))).mono ?_
  rintro e w1 ⟨rfl, b1⟩
  go_wp2_with fail
  refine (NR.out _ (by repeat' first | with_reducible exact Below.refl _ _ | with_reducible assumption | with_reducible refine below_drewN ?_ _ | with_reducible refine balloc ?_ _ | with_reducible refine Below.drew ?_ | with_reducible refine Below.setCell ?_ (by first | (simp; done) | (simp; omega) | omega) _ | with_reducible refine bstep ?_ (by assumption))).mono ?_
  rintro e w2 ⟨g2, c2, rfl, hr2, b2⟩
  have bw2 : Below w.heap.size w w2 := (by repeat' first | with_reducible exact Below.refl _ _ | with_reducible assumption | with_reducible refine below_drewN ?_ _ | with_reducible refine balloc ?_ _ | with_reducible refine Below.drew ?_ | with_reducible refine Below.setCell ?_ (by first | (simp; done) | (simp; omega) | omega) _ | with_reducible refine bstep ?_ (by assumption))
  have R0 : RC w2 w.heap.size w.heap.size 0 0 (filN (inR r) A 0) := ((RC.new w _).below b1).below b2
  have HR2 := hide hr2.rowl
  have lt2 := hr2.rowl.lt
  have hg2 : w.heap.size + 1 ≤ g2 := by have := hr2.base; have := b1.size; simp at this; omega
  have HBW := hide bw2
  have HR0 := hide R0
  clear b1 b2 bw2 hr2 R0 K NR
  go_wp2_with fail
  go_loopw [11, 13] (fun s i wr => ∃ k : Nat, k ≤ N ∧ i = .int .i64 k ∧ (∃ g c, s = .slice (some ⟨g, 0, none⟩) (cntN (inR r) A k) c ∧ RC wr w.heap.size g c (cntN (inR r) A k) (filN (inR r) A k) ∧ g ≠ g2) ∧ RowL wr g2 N A ∧ Below w.heap.size w wr) (fun _ i _ => N - (intOf i).toNat)
  case atStart => exact ⟨0, Nat.zero_le _, rfl, ⟨w.heap.size, 0, rfl, HR0.out, by omega⟩, HR2.out, HBW.out⟩
  case round =>
    obtain ⟨k, hk, rfl, ⟨g1, c1, rfl, hrc, hne⟩, hra, hbel⟩ := hrel
    have HB := hide hbel
    have HG := hide hrc
    have HA := hide hra
    have hcl := cntN_le (inR r) A k
    have hsz := hbel.size
    have lta := hra.lt
    by_cases hlt : k < N
    · have c0 := hra.c0 hlt
      have c1' := hra.c1 hlt
      have hlt' : (k : Int) < (N : Int) := by omega
      cases hm : inR r (A k)
      · have hq := of_decide_eq_false hm
        have E1 := hide (cntN_no hm)
        have E2 := hide (filN_no hm)
        clear hbel hrc hm hra
        go_wp2_with fail
        go_roundw
        case rel => exact ⟨k + 1, by omega, by go_num, ⟨g1, c1, by rw [E1.out], by rw [E1.out, E2.out]; exact HG.out, hne⟩, HA.out, HB.out⟩
        case measure => simp [intOf]; omega
      · have hq := of_decide_eq_true hm
        have E1 := hide (cntN_yes hm)
        have E2 := hide (filN_yes hm)
        generalize cntN (inR r) A k = m at *
        generalize filN (inR r) A k = M at *
        generalize hNV : nlv M m = NV at *
        have HNV := hide hNV
        have hown := hide (HG.out.owns.alloc (.cells #[.int .i64 (A k).1, .int .i64 (A k).2] 45))
        rw [HNV.out] at hown
        clear hbel hrc hm hNV hra
        go_wp2_with (at_builtin; refine wpList_append_lies _ rfl _ _ 25 rfl w.heap.size 45 i0 _ 2 16 Try.underlying25 HI.out hz0 hz1 hz2 rfl (by decide) _ _ _ rfl hown.out ⟨_, 0, none⟩ 1 1 [.int .i64 (A k).1, .int .i64 (A k).2] rfl rfl (two_new2 _ _ _ _) (two_one _ _) (by omega) (by unfold maxLen; omega) (by omega) (by simp; omega) _ rfl ?_)
        intro g5 c5 w5 hown5 hgrow hat5 hglt
        have HG5 : Hid (RC w5 w.heap.size g5 c5 (m + 1) (M.put m (A k))) := hide (RC.grown (x := (A k).1) (y := (A k).2) (by rw [HNV.out]; exact hown5))
        have HB5 : Hid (Below w.heap.size w w5) := hide ((balloc HB.out (.cells #[.int .i64 (A k).1, .int .i64 (A k).2] 45)).grown hgrow (by simp; omega) fun k' hk' => (hown.out.lt k' hk').1)
        have HA5 : Hid (RowL w5 g2 N A) := hide ((HA.out.below (balloc (Below.refl _ _) (.cells #[.int .i64 (A k).1, .int .i64 (A k).2] 45))).block (hgrow.block g2 (by simp; omega) (by simpa [Value.ownBlock] using Ne.symm hne)))
        have hne5 : g5 ≠ g2 := by
          rcases hat5 with h | h
          · simp [Value.ownBlock] at h; omega
          · omega
        clear hown5 hgrow hat5 hown HB HG HA
        go_wp2_with fail
        go_roundw
        case rel => exact ⟨k + 1, by omega, by go_num, ⟨g5, c5, by rw [E1.out], by rw [E1.out, E2.out]; exact HG5.out, hne5⟩, HA5.out, HB5.out⟩
        case measure => simp [intOf]; omega
    · obtain rfl : k = N := by omega
      clear hrc hbel hra
      go_wp2_with fail
      go_ret
      exact ⟨g1, c1, rfl, HG.out, HB.out⟩

set_option maxHeartbeats 800000 in
theorem sInRadius_no (dim : Int) (a : Option Addr) (n cap : Nat) (L : IL) (qa : Option Addr) (qn qc : Nat) (qs : List Int) (r mask : Int) (w : World) (h : IRow w a n L) (hn : n ≤ 1048576) (hv : ∀ i, i < n → (L i).vec.length ≤ 1048576) (rq : Row w qa qn qs) (hqn : qn ≤ 1048576) (hf : formB dim n L qs = false) (A : NL) :
    Calls Try.prog 6 #[.int .i64 dim, .slice a n cap, .slice qa qn qc, .int .i64 r, .int .i64 mask] w fun e w' => NearsR w 0 A e w' := by
  have K := hide (fun w1 (hb : Below w.heap.size w w1) => l8Form_any dim a n cap L qa qn qc qs w1 (h.below hb) hn hv (rq.below hb) hqn)
  simp only [hf] at K
  clear h hv rq hf
  go_enter Try.func6, Try.ntmps6
  go_wp2_with fail
  refine (K.out _ (by repeat' first | with_reducible exact Below.refl _ _ | with_reducible assumption | with_reducible refine below_drewN ?_ _ | with_reducible refine balloc ?_ _ | with_reducible refine Below.drew ?_ | with_reducible refine Below.setCell ?_ (by first | (simp; done) | (simp; omega) | omega) _ | with_reducible refine bstep ?_ (by assumption))).mono ?_
  rintro e w1 ⟨rfl, b1⟩
  go_wp2_with fail
  go_ret
  exact ⟨w.heap.size, 0, rfl, (RC.new w A).below b1, (by repeat' first | with_reducible exact Below.refl _ _ | with_reducible assumption | with_reducible refine below_drewN ?_ _ | with_reducible refine balloc ?_ _ | with_reducible refine Below.drew ?_ | with_reducible refine Below.setCell ?_ (by first | (simp; done) | (simp; omega) | omega) _ | with_reducible refine bstep ?_ (by assumption))⟩

theorem sInRadius_any (dim : Int) (a : Option Addr) (n cap : Nat) (L : IL) (qa : Option Addr) (qn qc : Nat) (qs : List Int) (r mask : Int) (w : World) (h : IRow w a n L) (hn : n ≤ 1048576) (hv : ∀ i, i < n → (L i).vec.length ≤ 1048576) (rq : Row w qa qn qs) (hqn : qn ≤ 1048576) :
    Calls Try.prog 6 #[.int .i64 dim, .slice a n cap, .slice qa qn qc, .int .i64 r, .int .i64 mask] w fun e w' => NearsR w (radM dim n L qs r mask) (radA n L qs r mask) e w' := by
  unfold radM
  cases hf : formB dim n L qs
  · exact sInRadius_no dim a n cap L qa qn qc qs r mask w h hn hv rq hqn hf _
  · exact sInRadius_yes dim a n cap L qa qn qc qs r mask w h hv rq hqn hf
end Go.Proofs.Ytkelehdhjfmkdaa
