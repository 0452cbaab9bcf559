/- InRadius of the program, by its parts. -/
import Derived.Test.YtkelehdhjfmkdaaQE
namespace Go.Proofs.Ytkelehdhjfmkdaa
open Go.RowKit
set_option linter.unusedSimpArgs false
set_option linter.unusedVariables false

/-- The answer of whoever tells Nears of its own. -/
def OutN (w : World) (m : Nat) (A : NL) (e : Ending) (w' : World) : Prop :=
  ∃ a cap, e = .returned (.slice a m cap) ∧ Wr w' a m A w.heap.size ∧ Below w.heap.size w w'
theorem NearsR.out {w : World} {m : Nat} {A : NL} {e : Ending} {w' : World} (h : NearsR w m A e w') : OutN w m A e w' := by
  obtain ⟨g, cap, he, hr, hb⟩ := h
  exact ⟨_, cap, he, .inr ⟨g, rfl, hr.base, hr.rowl⟩, hb⟩
theorem outN_nil {w w' : World} {A : NL} {e : Ending} (he : e = .returned (.slice none 0 0)) (hb : Below w.heap.size w w') : OutN w 0 A e w' := ⟨none, 0, he, .inl rfl, hb⟩

set_option maxHeartbeats 400000 in
theorem eachNear_zero (a : Option Addr) (n cap : Nat) (qv fv : Value) (mask : Int) (w : World) (hn : n < 1) :
    Calls Try.prog 24 #[.slice a n cap, qv, .int .i64 mask, fv] w fun e w' => e = .returned (.tuple #[]) ∧ w' = w := by
  go_enter Try.func24, Try.ntmps24
  go_wp2_with fail
  refine wp_loop_rounds 1 ?_
  rw [rounds_succ]
  go_wp2_with fail
  go_end0
  exact ⟨rfl, rfl⟩

theorem eachNear_radAny (w0 : World) (rb vb : Nat) (r : Int) (dim : Int) (a : Option Addr) (n cap : Nat) (L : IL) (qa : Option Addr) (qn qc : Nat) (qs : List Int) (mask : Int) (w : World) (hi : IRow w0 a n L) (rq : Row w0 qa qn qs) (hqn : qn ≤ 1048576) (hf : Fine dim n L qs)
    (h : Cap w0 rb vb r 0 (fun _ => (0, 0)) w) :
    Calls Try.prog 24 #[.slice a n cap, .slice qa qn qc, .int .i64 mask, .func (.func 25) #[] #[.pointer (some ⟨rb, 0, none⟩), .pointer (some ⟨vb, 0, none⟩)]] w fun e w' => e = .returned (.tuple #[]) ∧ Cap w0 rb vb r (cntN (inR r) (nrL qs mask L n) (cntP (mtB mask) L n)) (filN (inR r) (nrL qs mask L n) (cntP (mtB mask) L n)) w' := by
  rcases hi.lies with h0 | ⟨b, off, rfl, lt, hc⟩
  · subst h0
    exact (eachNear_zero a 0 cap _ _ mask w (by omega)).mono fun e w' ⟨he, hw⟩ => ⟨he, hw ▸ h⟩
  · exact eachNear_rad w0 rb vb r dim b off n cap L qa qn qc qs mask w lt hc rq hqn hf h

set_option maxHeartbeats 4000000 in
theorem iInRadius_yes (dim : Int) (a : Option Addr) (n cap : Nat) (L : IL) (qa : Option Addr) (qn qc : Nat) (qs : List Int) (r mask : Int) (w : World) (h : IRow w a n L) (hv : ∀ i, i < n → (L i).vec.length ≤ 1048576) (rq : Row w qa qn qs) (hqn : qn ≤ 1048576) (hf : formB dim n L qs = true) :
    Calls Try.prog 9 #[.int .i64 dim, .slice a n cap, .slice qa qn qc, .int .i64 r, .int .i64 mask] w fun e w' => NearsR w (cntN (inR r) (nrL qs mask L n) (cntP (mtB mask) L n)) (radA n L qs r mask) e w' := by
  have hfine := fine_of hf
  have hn := hfine.n60
  have K := hide (fun w1 (hb : Below w.heap.size w w1) => queryOk_any dim a n cap L qa qn qc qs w1 (h.below hb) (by omega) hv (rq.below hb) hqn)
  simp only [hf] at K
  have EN := hide (fun vb w1 (hc : Cap w w.heap.size vb r 0 (fun _ => (0, 0)) w1) => eachNear_radAny w w.heap.size vb r dim a n cap L qa qn qc qs mask w1 h rq hqn hfine hc)
  unfold radA
  generalize cntN (inR r) (nrL qs mask L n) (cntP (mtB mask) L n) = m at *
  generalize filN (inR r) (nrL qs mask L n) (cntP (mtB mask) L n) = M at *
  clear h hv rq hf hfine
  go_enter Try.func9, Try.ntmps9
  go_wp2_with fail
  refine (K.out _ (by repeat' first | with_reducible exact Below.refl _ _ | with_reducible assumption | with_reducible refine below_drewN ?_ _ | with_reducible refine balloc ?_ _ | with_reducible refine Below.drew ?_ | with_reducible refine Below.setCell ?_ (by first | (simp; done) | (simp; omega) | omega) _ | with_reducible refine bstep ?_ (by assumption))).mono ?_
  rintro e w1 ⟨rfl, b1⟩
  have hs1 := b1.size
  simp only [World.size_alloc] at hs1
  have C0 : Hid (Cap w w.heap.size (w1.heap.size + 1) r 0 (fun _ => (0, 0)) ((w1.alloc (.cells #[] 45)).alloc (.cells #[.slice (some ⟨w1.heap.size, 0, none⟩) 0 0] 25))) := hide (by
    have bb : Below w1.heap.size w1 ((w1.alloc (.cells #[] 45)).alloc (.cells #[.slice (some ⟨w1.heap.size, 0, none⟩) 0 0] 25)) := balloc (balloc (Below.refl _ _) _) _
    refine ⟨?_, ⟨w1.heap.size, 0, ?_, ?_⟩, by omega, (by repeat' first | with_reducible exact Below.refl _ _ | with_reducible assumption | with_reducible refine below_drewN ?_ _ | with_reducible refine balloc ?_ _ | with_reducible refine Below.drew ?_ | with_reducible refine Below.setCell ?_ (by first | (simp; done) | (simp; omega) | omega) _ | with_reducible refine bstep ?_ (by assumption))⟩
    · rw [bb.block _ (by omega), b1.block _ (by simp)]
      exact Go.Deep.blk_alloc_new _ _
    · have := Go.Deep.blk_alloc_new (w1.alloc (.cells #[] 45)) (.cells #[.slice (some ⟨w1.heap.size, 0, none⟩) 0 0] 25)
      simp only [World.size_alloc] at this
      exact this
    · have := (RC.new w1 (fun _ => (0, 0))).below (balloc (Below.refl _ _) (.cells #[.slice (some ⟨w1.heap.size, 0, none⟩) 0 0] 25))
      exact ⟨by omega, this.2⟩)
  go_wp2_with fail
  refine (EN.out _ _ C0.out).mono ?_
  rintro e w2 ⟨rfl, hc2⟩
  obtain ⟨_, ⟨g, c, hv2, hr2⟩, _, hb2⟩ := hc2
  have q1 := one_cell hv2
  have HR2 := hide hr2
  have HB2 := hide hb2
  clear hv2 hr2 hb2 b1
  go_wp2_with fail
  go_ret
  exact ⟨g, c, rfl, HR2.out, HB2.out⟩

set_option maxHeartbeats 800000 in
theorem iInRadius_no (dim : Int) (a : Option Addr) (n cap : Nat) (L : IL) (qa : Option Addr) (qn qc : Nat) (qs : List Int) (r mask : Int) (w : World) (h : IRow w a n L) (hn : n ≤ 1048576) (hv : ∀ i, i < n → (L i).vec.length ≤ 1048576) (rq : Row w qa qn qs) (hqn : qn ≤ 1048576) (hf : formB dim n L qs = false) (A : NL) :
    Calls Try.prog 9 #[.int .i64 dim, .slice a n cap, .slice qa qn qc, .int .i64 r, .int .i64 mask] w fun e w' => OutN w 0 A e w' := by
  have K := hide (fun w1 (hb : Below w.heap.size w w1) => queryOk_any dim a n cap L qa qn qc qs w1 (h.below hb) hn hv (rq.below hb) hqn)
  simp only [hf] at K
  clear h hv rq hf
  go_enter Try.func9, Try.ntmps9
  go_wp2_with fail
  refine (K.out _ (by repeat' first | with_reducible exact Below.refl _ _ | with_reducible assumption | with_reducible refine below_drewN ?_ _ | with_reducible refine balloc ?_ _ | with_reducible refine Below.drew ?_ | with_reducible refine Below.setCell ?_ (by first | (simp; done) | (simp; omega) | omega) _ | with_reducible refine bstep ?_ (by assumption))).mono ?_
  rintro e w1 ⟨rfl, b1⟩
  go_wp2_with fail
  go_ret
  exact outN_nil rfl (by repeat' first | with_reducible exact Below.refl _ _ | with_reducible assumption | with_reducible refine below_drewN ?_ _ | with_reducible refine balloc ?_ _ | with_reducible refine Below.drew ?_ | with_reducible refine Below.setCell ?_ (by first | (simp; done) | (simp; omega) | omega) _ | with_reducible refine bstep ?_ (by assumption))

theorem iInRadius_any (dim : Int) (a : Option Addr) (n cap : Nat) (L : IL) (qa : Option Addr) (qn qc : Nat) (qs : List Int) (r mask : Int) (w : World) (h : IRow w a n L) (hn : n ≤ 1048576) (hv : ∀ i, i < n → (L i).vec.length ≤ 1048576) (rq : Row w qa qn qs) (hqn : qn ≤ 1048576) :
    Calls Try.prog 9 #[.int .i64 dim, .slice a n cap, .slice qa qn qc, .int .i64 r, .int .i64 mask] w fun e w' => OutN w (radM dim n L qs r mask) (radA n L qs r mask) e w' := by
  unfold radM
  cases hf : formB dim n L qs
  · exact iInRadius_no dim a n cap L qa qn qc qs r mask w h hn hv rq hqn hf _
  · exact (iInRadius_yes dim a n cap L qa qn qc qs r mask w h hv rq hqn hf).mono fun e w' h => h.out
end Go.Proofs.Ytkelehdhjfmkdaa
