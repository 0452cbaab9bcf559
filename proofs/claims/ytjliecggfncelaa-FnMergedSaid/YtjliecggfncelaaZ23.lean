/- Drawn Nears of two parts: DrawMerged. -/
import Derived.Test.YtjliecggfncelaaZ8
import Derived.Test.YtjliecggfncelaaZ14
import Derived.Test.YtjliecggfncelaaZ7
import Derived.Deep.AppendLies
namespace Go.Proofs.Ytjliecggfncelaa
open Go.RowKit
set_option maxRecDepth 8000
set_option linter.unusedSimpArgs false
set_option linter.unusedVariables false

theorem two_newS (w : World) (x y : Value) (t : TypeId) : ∀ (j : Nat) (u : Value), [x, y][j]? = some u → (w.alloc (.cells #[x, y] t)).cell? ((⟨w.heap.size, 0, none⟩ : Addr).add j) = some u := by
  intro j u hj
  match j, hj with
  | 0, hj => simp at hj; subst hj; simp [Addr.add]
  | 1, hj => simp at hj; subst hj; simp [Addr.add]
  | j + 2, hj => simp at hj

theorem owns_butS {base : Nat} {wr w1 : World} {rb : Nat} {e : TypeId} {size : Nat} {v : Value} {k : Nat} {xs : List Value} (h : wr.ownsRow base e size v k xs) (hb : But rb wr w1) (hlt : rb < base) : w1.ownsRow base e size v k xs := by
  refine ⟨h.1, ?_⟩
  rcases h.2 with h0 | ⟨g, cap, cur, hv, hg, hh, rest⟩
  · exact .inl h0
  · exact .inr ⟨g, cap, cur, hv, hg, (hb.block g (Array.getElem?_eq_some_iff.1 hh).1 (by omega)).trans hh, rest⟩

theorem owns_prowS {w : World} {base g n cap : Nat} {M : NL} (h : w.ownsRow base 49 2 (.slice (some ⟨g, 0, none⟩) n cap) n (nlv M n)) : PRow w (some ⟨g, 0, none⟩) n (fun i => (M i).1) (fun i => (M i).2) := by
  rcases h.2 with ⟨h0, h1⟩ | ⟨g', cap', cur, hv, hg, hh, hcap, hm, hs, ht⟩
  · cases h0
  · refine ⟨.inr ⟨g, 0, rfl, (h.lt g rfl).2, fun i hi => ?_⟩⟩
    have c0 := h.cellAt (i * 2) (by omega)
    have c1 := h.cellAt (i * 2 + 1) (by omega)
    rw [(nlv_at M hi).1] at c0
    rw [(nlv_at M hi).2] at c1
    rw [Nat.zero_add]
    exact ⟨c0, c1⟩
/-- Two lists of the call's own, apart. -/
structure AB (w : World) (base g1 n1 c1 : Nat) (M1 : NL) (g2 n2 c2 : Nat) (M2 : NL) : Prop where
  a : w.ownsRow base 49 2 (.slice (some ⟨g1, 0, none⟩) n1 c1) n1 (nlv M1 n1)
  b : w.ownsRow base 49 2 (.slice (some ⟨g2, 0, none⟩) n2 c2) n2 (nlv M2 n2)
  ne : g1 ≠ g2

theorem AB.but {w w' : World} {base g1 n1 c1 : Nat} {M1 : NL} {g2 n2 c2 : Nat} {M2 : NL} (h : AB w base g1 n1 c1 M1 g2 n2 c2 M2) {rb : Nat} (hb : But rb w w') (hlt : rb < base) : AB w' base g1 n1 c1 M1 g2 n2 c2 M2 :=
  ⟨owns_butS h.a hb hlt, owns_butS h.b hb hlt, h.ne⟩

theorem AB.swap {w : World} {base g1 n1 c1 : Nat} {M1 : NL} {g2 n2 c2 : Nat} {M2 : NL} (h : AB w base g1 n1 c1 M1 g2 n2 c2 M2) : AB w base g2 n2 c2 M2 g1 n1 c1 M1 := ⟨h.b, h.a, fun e => h.ne e.symm⟩

theorem AB.alloc {w : World} {base g1 n1 c1 : Nat} {M1 : NL} {g2 n2 c2 : Nat} {M2 : NL} (h : AB w base g1 n1 c1 M1 g2 n2 c2 M2) (o : Obj) : AB (w.alloc o) base g1 n1 c1 M1 g2 n2 c2 M2 := ⟨h.a.alloc o, h.b.alloc o, h.ne⟩
/-- A cell of another block is written. -/
theorem owns_farS {base : Nat} {w : World} {e : TypeId} {size : Nat} {g n cap : Nat} {xs : List Value} (h : w.ownsRow base e size (.slice (some ⟨g, 0, none⟩) n cap) n xs) {z : Nat} (hz : g ≠ z) (o : Nat) (u : Value) : (w.setCell ⟨z, o, none⟩ u).ownsRow base e size (.slice (some ⟨g, 0, none⟩) n cap) n xs := by
  refine ⟨h.1, ?_⟩
  rcases h.2 with h0 | ⟨g', cap', cur, hv, hg, hh, rest⟩
  · exact .inl h0
  · refine .inr ⟨g', cap', cur, hv, hg, (Below.heap_setCell w ⟨z, o, none⟩ u g' ?_).trans hh, rest⟩
    simp only [Value.slice.injEq, Option.some.injEq, Addr.mk.injEq] at hv
    have : g = g' := hv.1.1
    simp; omega

theorem AB.far {w : World} {base g1 n1 c1 : Nat} {M1 : NL} {g2 n2 c2 : Nat} {M2 : NL} (h : AB w base g1 n1 c1 M1 g2 n2 c2 M2) {z : Nat} (h1 : g1 ≠ z) (h2 : g2 ≠ z) (o : Nat) (u : Value) : AB (w.setCell ⟨z, o, none⟩ u) base g1 n1 c1 M1 g2 n2 c2 M2 := ⟨owns_farS h.a h1 o u, owns_farS h.b h2 o u, h.ne⟩
/-- One Near more onto the first list. -/
theorem AB.step {w w5 : World} {base g1 n1 c1 : Nat} {M1 : NL} {g2 n2 c2 : Nat} {M2 : NL} (h : AB w base g1 n1 c1 M1 g2 n2 c2 M2) {g5 c5 : Nat} {x y : Int}
    (hown : w5.ownsRow base 49 2 (.slice (some ⟨g5, 0, none⟩) (n1 + 1) c5) (n1 + 1) (nlv M1 n1 ++ [.int .i64 x, .int .i64 y])) (hg : w.grownBy w5 (some g1)) (hat : g1 = g5 ∨ g5 = w.heap.size) : AB w5 base g5 (n1 + 1) c5 (M1.put n1 (x, y)) g2 n2 c2 M2 := by
  have l2 := (h.b.lt g2 rfl)
  refine ⟨(RC.grown hown).owns, ⟨h.b.1, ?_⟩, ?_⟩
  · rcases h.b.2 with h0 | ⟨g', cap', cur, hv, hg', hh, rest⟩
    · exact .inl h0
    · have e : g2 = g' := by
        simp only [Value.slice.injEq, Option.some.injEq, Addr.mk.injEq] at hv
        exact hv.1.1
      exact .inr ⟨g', cap', cur, hv, hg', (hg.block g' (by omega) (by simp; have := h.ne; omega)).trans hh, rest⟩
  · rcases hat with e | e
    · rw [← e]; exact h.ne
    · omega

theorem rd_grownS {B base : Nat} {w w5 : World} {rb : Nat} {a : Option Addr} {n c : Nat} {v : Value} {k : Nat} {e : TypeId} {size : Nat} {xs : List Value} (h : Rd B w rb a n c) (ho : w.ownsRow base e size v k xs) (hg : w.grownBy w5 v.ownBlock) (hlt : rb < base) : Rd B w5 rb a n c := by
  have hs := h.lt
  refine ⟨h.from_, h.small, ?_, ?_⟩
  · obtain ⟨p, hp, he⟩ := h.blk
    exact ⟨p, hp, (hg.block rb h.lt (fun e => by have := (ho.lt rb e.symm).1; omega)).trans he⟩
  · rcases h.code with h0 | ⟨b, off, e', lt, hc⟩
    · exact .inl h0
    · refine .inr ⟨b, off, e', lt, fun i hi => ?_⟩
      obtain ⟨z, z0, z1, hz⟩ := hc i hi
      exact ⟨z, z0, z1, (World.cell?_of_block (w := w) (a := ⟨b, off + i, none⟩) (hg.block b (show b < w.heap.size by have := h.from_; omega) (fun e => by have := (ho.lt b e.symm).1; have := h.from_; omega))).trans hz⟩

def DrawM (w : World) (e : Ending) (w' : World) : Prop :=
  ∃ (a1 : Option Addr) (n1 c1 : Nat) (f1 g1 : Nat → Int) (a2 : Option Addr) (n2 c2 : Nat) (f2 g2 : Nat → Int) (k : Int), e = .returned (.tuple #[.slice a1 n1 c1, .slice a2 n2 c2, .int .i64 k]) ∧ n1 ≤ 21 ∧ n2 ≤ 21 ∧ PRow w' a1 n1 f1 g1 ∧ PRow w' a2 n2 f2 g2 ∧ Below w.heap.size w w'

set_option maxHeartbeats 8000000 in
theorem drawMerged_any (a : Option Addr) (n c : Nat) (w : World) (h : Code w a n) :
    Calls Try.prog 6 #[.slice a n c] w fun e w' => DrawM w e w' := by
  obtain ⟨i0, hi, hz0, hz1, hz2⟩ := nearInfo2
  have HI := hide hi
  have O := hide (open_any a n c w h)
  clear h hi
  have FIN : Hid (∀ W a1 n1 c1 f1 g1 a2 n2 c2 f2 g2 k, n1 ≤ 21 → n2 ≤ 21 → PRow W a1 n1 f1 g1 → PRow W a2 n2 f2 g2 → Below w.heap.size w W → DrawM w (.returned (.tuple #[.slice a1 n1 c1, .slice a2 n2 c2, .int .i64 k])) W) := hide fun W a1 n1 c1 f1 g1 a2 n2 c2 f2 g2 k h1 h2 h3 h4 h5 => ⟨a1, n1, c1, f1, g1, a2, n2, c2, f2, g2, k, rfl, h1, h2, h3, h4, h5⟩
  have B8 := hide (fun W (h : Rd w.heap.size W w.heap.size a n c) => below_any w.heap.size w.heap.size n c a 8 W h (by omega) (by omega))
  have B16 := hide (fun W (h : Rd w.heap.size W w.heap.size a n c) => below_any w.heap.size w.heap.size n c a 16 W h (by omega) (by omega))
  have B2 := hide (fun W (h : Rd w.heap.size W w.heap.size a n c) => below_any w.heap.size w.heap.size n c a 2 W h (by omega) (by omega))
  have OFF := hide (fun W (h : Rd w.heap.size W w.heap.size a n c) => off_any w.heap.size w.heap.size n c a 1 9 W h (by omega) (by omega) (by omega) (by omega))
  have NB := hide (fun W (h : Rd w.heap.size W w.heap.size a n c) => nearby_any w.heap.size w.heap.size n c a W h)
  go_enter Try.func6, Try.ntmps6
  go_wp2_with fail
  refine O.out.mono ?_
  rintro e w1 ⟨rfl, hr1, hb1, hs1⟩
  have A1 : Hid (AB ((w1.alloc (.cells #[] 49)).alloc (.cells #[] 49)) (w.heap.size + 1) w1.heap.size 0 0 (fun _ => (0, 0)) (w1.heap.size + 1) 0 0 (fun _ => (0, 0))) := hide
    ⟨(World.ownsRow_made w1 #[] 0 (by omega) (Nat.zero_le _) rfl).alloc _, by have q := World.ownsRow_made (base := w.heap.size + 1) (e := 49) (size := 2) (w1.alloc (.cells #[] 49)) #[] 0 (by simp; omega) (Nat.zero_le _) rfl; rw [World.size_alloc] at q; exact q, by omega⟩
  have sz1 : w.heap.size < w1.heap.size := by omega
  have R1 := hide ((hr1.alloc (.cells #[] 49)).alloc (.cells #[] 49))
  have W1 := hide (balloc (balloc hb1 (.cells #[] 49)) (.cells #[] 49))
  clear hr1 hb1 O hs1
  go_wp2_with fail
  go_loopw [6, 8] (fun s i wr => ∃ (k g1 c1 : Nat) (M1 : NL), k ≤ 7 ∧ i = .int .i64 k ∧ s = .slice (some ⟨g1, 0, none⟩) k c1 ∧ AB wr (w.heap.size + 1) g1 k c1 M1 (w1.heap.size + 1) 0 0 (fun _ => (0, 0)) ∧ Rd w.heap.size wr w.heap.size a n c ∧ Below w.heap.size w wr) (fun _ i _ => 8 - (intOf i).toNat)
  case atStart => exact ⟨0, _, _, _, by omega, rfl, rfl, A1.out, R1.out, W1.out⟩
  case round =>
    clear A1 R1 W1
    obtain ⟨k, g1, c1, M1, hk, rfl, rfl, hA, hR, hbel⟩ := hrel
    have HA := hide hA
    have HB := hide hbel
    have HR := hide hR
    clear hA hbel hR
    go_wp2_with fail
    refine (B8.out _ HR.out).mono ?_
    rintro e w2 ⟨x, rfl, x0, x1, hr2, hb2⟩
    have l2 := (HA.out.a.lt g1 rfl).1
    have HA2 := hide (HA.out.but hb2 (by omega))
    have HB2 := hide (HB.out.trans (hb2.below (Nat.le_refl _) HB.out.size))
    have HR2 := hide hr2
    clear hr2 hb2 HA HB HR
    by_cases hlt : (k : Int) < x
    · go_wp2_with fail
      refine (NB.out _ HR2.out).mono ?_
      rintro e w3 ⟨ni, nd, rfl, hr3, hb3⟩
      have HA4 := hide ((HA2.out.but hb3 (by omega)).alloc (.cells #[.int .i64 (2 * (k : Int) + 1), .int .i64 nd] 49))
      have HB4 := hide (balloc (HB2.out.trans (hb3.below (Nat.le_refl _) HB2.out.size)) (.cells #[.int .i64 (2 * (k : Int) + 1), .int .i64 nd] 49))
      have HR4 := hide (hr3.alloc (.cells #[.int .i64 (2 * (k : Int) + 1), .int .i64 nd] 49))
      have hg1l := (HA2.out.but hb3 (by omega)).a.lt g1 rfl
      have sw3 : w.heap.size < w3.heap.size := by omega
      clear hr3 hb3 HA2 HB2 HR2
      have hown := hide (HA4.out.a)
      generalize hNV : nlv M1 k = NV at hown
      have HNV := hide hNV
      clear hNV
      have hsz := HB4.out.size
      have N1 : Hid (∀ (t : Nat) (u : Value), [Value.int .i64 (2 * (k : Int) + 1), Value.int .i64 nd][t]? = some u → ((w3.alloc (.cells #[.int .i64 (2 * (k : Int) + 1), .int .i64 nd] 49)).alloc (.cells #[.int .i64 (2 * (k : Int) + 1), .int .i64 nd] 49)).cell? ((⟨w3.heap.size + 1, 0, none⟩ : Addr).add t) = some u) := hide (by
        have q := two_newS (w3.alloc (.cells #[.int .i64 (2 * (k : Int) + 1), .int .i64 nd] 49)) (.int .i64 (2 * (k : Int) + 1)) (.int .i64 nd) 49
        rw [show (w3.alloc (.cells #[.int .i64 (2 * (k : Int) + 1), .int .i64 nd] 49)).heap.size = w3.heap.size + 1 by simp] at q
        exact q)
      go_wp2_with (at_builtin; refine wpList_append_lies _ rfl _ _ 28 rfl (w.heap.size + 1) 49 i0 _ 2 16 Try.underlying28 HI.out hz0 hz1 hz2 rfl (by decide) _ _ _ rfl (hown.out.alloc _) ⟨_, 0, none⟩ 1 1 [.int .i64 (2 * (k : Int) + 1), .int .i64 nd] rfl rfl N1.out (by intro u hu; simp at hu; rcases hu with rfl | rfl <;> rfl) (by omega) (by unfold maxLen; omega) (by omega) (by simp; omega) _ rfl ?_)
      intro g5 c5 w5 hown5 hgrow hat5 hglt
      rw [← HNV.out] at hown5
      have HA4' := hide (HA4.out.alloc (.cells #[.int .i64 (2 * (k : Int) + 1), .int .i64 nd] 49))
      have HA5 := hide (HA4'.out.step hown5 hgrow (by rcases hat5 with h | h; exact .inl (by simpa [Value.ownBlock] using h); exact .inr (h.trans (by simp))))
      have HB5 : Hid (Below w.heap.size w w5) := hide ((balloc HB4.out (.cells #[.int .i64 (2 * (k : Int) + 1), .int .i64 nd] 49)).grown hgrow (by simp; omega) fun k' hk' => by have := (HA4'.out.a.lt k' hk').1; omega)
      have HR5 : Hid (Rd w.heap.size w5 w.heap.size a n c) := hide (rd_grownS (HR4.out.alloc (.cells #[.int .i64 (2 * (k : Int) + 1), .int .i64 nd] 49)) HA4'.out.a hgrow (by omega))
      clear hown5 hgrow hat5 hglt hown HA4 HA4' HB4 HR4 N1 HNV
      go_wp2_with fail
      go_roundw
      case rel => exact ⟨k + 1, g5, c5, _, by omega, by go_num, rfl, HA5.out, HR5.out, HB5.out⟩
      case measure => simp [intOf]; omega
    · go_wp2_with fail
      go_loopw [7, 10] (fun s i wy => ∃ (j g2 c2 : Nat) (M2 : NL), j ≤ 7 ∧ i = .int .i64 j ∧ s = .slice (some ⟨g2, 0, none⟩) j c2 ∧ AB wy (w.heap.size + 1) g1 k c1 M1 g2 j c2 M2 ∧ Rd w.heap.size wy w.heap.size a n c ∧ Below w.heap.size w wy) (fun _ i _ => 8 - (intOf i).toNat)
      case atStart => exact ⟨0, _, _, _, by omega, rfl, rfl, HA2.out, HR2.out, HB2.out⟩
      case round =>
        clear HA2 HR2 HB2 hlt x0 x1 l2
        obtain ⟨j, g2, c2, M2, hj, rfl, rfl, hA, hR, hbel⟩ := hrel
        have HA := hide hA
        have HB := hide hbel
        have HR := hide hR
        clear hA hbel hR
        go_wp2_with fail
        refine (B8.out _ HR.out).mono ?_
        rintro e w2 ⟨x, rfl, x0, x1, hr2, hb2⟩
        have l2 := (HA.out.a.lt g1 rfl).1
        have HC2 := hide (HA.out.but hb2 (by omega))
        have HB2 := hide (HB.out.trans (hb2.below (Nat.le_refl _) HB.out.size))
        have HR2 := hide hr2
        clear hr2 hb2 HA HB HR
        by_cases hlt : (j : Int) < x
        · go_wp2_with fail
          refine (NB.out _ HR2.out).mono ?_
          rintro e w3 ⟨ni, nd, rfl, hr3, hb3⟩
          have HC4 := hide ((HC2.out.but hb3 (by omega)).swap.alloc (.cells #[.int .i64 (2 * (j : Int) + 2), .int .i64 nd] 49))
          have HB4 := hide (balloc (HB2.out.trans (hb3.below (Nat.le_refl _) HB2.out.size)) (.cells #[.int .i64 (2 * (j : Int) + 2), .int .i64 nd] 49))
          have HR4 := hide (hr3.alloc (.cells #[.int .i64 (2 * (j : Int) + 2), .int .i64 nd] 49))
          have hg1l := (HC2.out.but hb3 (by omega)).b.lt g2 rfl
          have sw3 : w.heap.size < w3.heap.size := by omega
          clear hr3 hb3 HC2 HB2 HR2
          have hown := hide (HC4.out.a)
          generalize hNV : nlv M2 j = NV at hown
          have HNV := hide hNV
          clear hNV
          have hsz := HB4.out.size
          have N1 : Hid (∀ (t : Nat) (u : Value), [Value.int .i64 (2 * (j : Int) + 2), Value.int .i64 nd][t]? = some u → ((w3.alloc (.cells #[.int .i64 (2 * (j : Int) + 2), .int .i64 nd] 49)).alloc (.cells #[.int .i64 (2 * (j : Int) + 2), .int .i64 nd] 49)).cell? ((⟨w3.heap.size + 1, 0, none⟩ : Addr).add t) = some u) := hide (by
            have q := two_newS (w3.alloc (.cells #[.int .i64 (2 * (j : Int) + 2), .int .i64 nd] 49)) (.int .i64 (2 * (j : Int) + 2)) (.int .i64 nd) 49
            rw [show (w3.alloc (.cells #[.int .i64 (2 * (j : Int) + 2), .int .i64 nd] 49)).heap.size = w3.heap.size + 1 by simp] at q
            exact q)
          go_wp2_with (at_builtin; refine wpList_append_lies _ rfl _ _ 28 rfl (w.heap.size + 1) 49 i0 _ 2 16 Try.underlying28 HI.out hz0 hz1 hz2 rfl (by decide) _ _ _ rfl (hown.out.alloc _) ⟨_, 0, none⟩ 1 1 [.int .i64 (2 * (j : Int) + 2), .int .i64 nd] rfl rfl N1.out (by intro u hu; simp at hu; rcases hu with rfl | rfl <;> rfl) (by omega) (by unfold maxLen; omega) (by omega) (by simp; omega) _ rfl ?_)
          intro g5 c5 w5 hown5 hgrow hat5 hglt
          rw [← HNV.out] at hown5
          have HC4' := hide (HC4.out.alloc (.cells #[.int .i64 (2 * (j : Int) + 2), .int .i64 nd] 49))
          have HC5 := hide (HC4'.out.step hown5 hgrow (by rcases hat5 with h | h; exact .inl (by simpa [Value.ownBlock] using h); exact .inr (h.trans (by simp))))
          have HB5 : Hid (Below w.heap.size w w5) := hide ((balloc HB4.out (.cells #[.int .i64 (2 * (j : Int) + 2), .int .i64 nd] 49)).grown hgrow (by simp; omega) fun k' hk' => by have := (HC4'.out.a.lt k' hk').1; omega)
          have HR5 : Hid (Rd w.heap.size w5 w.heap.size a n c) := hide (rd_grownS (HR4.out.alloc (.cells #[.int .i64 (2 * (j : Int) + 2), .int .i64 nd] 49)) HC4'.out.a hgrow (by omega))
          clear hown5 hgrow hat5 hglt hown HC4 HC4' HB4 HR4 N1 HNV
          go_wp2_with fail
          go_roundw
          case rel => exact ⟨j + 1, g5, c5, _, by omega, by go_num, rfl, HC5.out.swap, HR5.out, HB5.out⟩
          case measure => simp [intOf]; omega
        · go_wp2_with fail
          refine (B16.out _ HR2.out).mono ?_
          rintro e w3 ⟨u, rfl, u0, u1, hr3, hb3⟩
          have HC3 := hide (HC2.out.but hb3 (by omega))
          have HB3 := hide (HB2.out.trans (hb3.below (Nat.le_refl _) HB2.out.size))
          have HR3 := hide hr3
          clear hr3 hb3 HC2 HB2 HR2 x0 x1
          by_cases e0 : u = 0
          · have b0 : (u == 0) = true := by simp [e0]
            go_wp2_with fail
            refine (NB.out _ HR3.out).mono ?_
            rintro e w4 ⟨ni, nd, rfl, hr4, hb4⟩
            have HC4 := hide (HC3.out.but hb4 (by omega))
            have HB4 := hide (HB3.out.trans (hb4.below (Nat.le_refl _) HB3.out.size))
            have HR4 := hide hr4
            have sw4 := HB4.out.size
            have l4 := HC4.out.a.lt g1 rfl
            clear hr4 hb4 HC3 HB3 HR3
            have hown := hide (HC4.out.a)
            generalize hNV : nlv M1 k = NV at hown
            have HNV := hide hNV
            clear hNV
            go_wp2_with (at_builtin; refine wpList_append_lies _ rfl _ _ 28 rfl (w.heap.size + 1) 49 i0 _ 2 16 Try.underlying28 HI.out hz0 hz1 hz2 rfl (by decide) _ _ _ rfl (hown.out.alloc _) ⟨_, 0, none⟩ 1 1 [.int .i64 ni, .int .i64 nd] rfl rfl (two_newS _ _ _ _) (by intro u hu; simp at hu; rcases hu with rfl | rfl <;> rfl) (by omega) (by unfold maxLen; omega) (by omega) (by simp; omega) _ rfl ?_)
            intro g5 c5 w5 hown5 hgrow hat5 hglt
            rw [← HNV.out] at hown5
            have HC4' := hide (HC4.out.alloc (.cells #[.int .i64 ni, .int .i64 nd] 49))
            have HC5 := hide (HC4'.out.step hown5 hgrow (by rcases hat5 with h | h; exact .inl (by simpa [Value.ownBlock] using h); exact .inr (h.trans (by simp))))
            have HB5 : Hid (Below w.heap.size w w5) := hide ((balloc HB4.out (.cells #[.int .i64 ni, .int .i64 nd] 49)).grown hgrow (by simp; omega) fun k' hk' => by have := (HC4'.out.a.lt k' hk').1; omega)
            have HR5 : Hid (Rd w.heap.size w5 w.heap.size a n c) := hide (rd_grownS (HR4.out.alloc (.cells #[.int .i64 ni, .int .i64 nd] 49)) HC4'.out.a hgrow (by omega))
            clear hown5 hgrow hat5 hglt hown HC4 HC4' HB4 HR4 HNV
            go_wp2_with fail
            refine (OFF.out _ HR5.out).mono ?_
            rintro e w6 ⟨v, rfl, hr6, hb6⟩
            have HC6 := HC5.out.but hb6 (by omega)
            have FF := hide (FIN.out w6 _ (k + 1) c5 _ _ _ j c2 _ _ v (by omega) (by omega) (owns_prowS HC6.a) (owns_prowS HC6.b) (HB5.out.trans (hb6.below (Nat.le_refl _) HB5.out.size)))
            clear hr6 hb6 HC6
            go_wp2_with fail
            refine bodyPost_ret ?_ rfl FF.out
            simp [results, Try.results6, go_sem]
          · have b0 : (u == 0) = false := by simp [e0]
            by_cases e1 : u = 1
            · have b1 : (u == 1) = true := by simp [e1]
              go_upto_region 20 with fail
              refine wp_region_held_drew (S := fun wx => True) (by kernel_rfl) (trivial) (fun hH0 => ?_)
              refine wpAnyH_take (i := 0) (oi := { dst := some 59, op := _, type := _, pos := _, after := _, guard := _ }) (v := ?_) rfl (by kernel_rfl) (by kernel_rfl) (by kernel_rfl) (fun _ _ _ h => h) (Or.inl ⟨by rfl, ?_⟩) (hH0) ?_
              rotate_left
              · (intro wx hSw; obtain _ := hSw; go_simp <;> with_reducible rfl)
              simp only [Act.put, List.setIfInBounds_toArray, List.set_cons_zero, List.set_cons_succ]
              refine wpAnyH_take (i := 1) (oi := { dst := some 60, op := _, type := _, pos := _, after := _, guard := _ }) (v := ?_) rfl (by kernel_rfl) (by kernel_rfl) (by kernel_rfl) (fun _ _ _ h => h) (Or.inl ⟨by rfl, ?_⟩) (hH0) ?_
              rotate_left
              · (intro wx hSw; obtain _ := hSw; go_simp <;> with_reducible rfl)
              simp only [Act.put, List.setIfInBounds_toArray, List.set_cons_zero, List.set_cons_succ]
              -- behind it: go_wp2_with fail, then go_meet (a cut) or go_ret; the condition at the end: hH0
              refine wpAnyH_ready (rs := [2]) (by kernel_rfl) (by simp) ?_
              refine AllReadyH.cons (o := { dst := some 61, op := _, type := _, pos := _, after := _, guard := _ }) rfl (fun K hK => ?_) AllReadyH.nil
              go_simp
              refine (B2.out _ (HR3.out.stays (Below.drew (Below.refl _ _)))).mono ?_
              rintro e w4 ⟨v, rfl, v0, v1, hr4, hb4⟩
              dsimp only
              have HC4 := hide ((HC3.out.but (But.ofBelow (Below.drew (Below.refl _ _))) (rb := w.heap.size) (by omega)).but hb4 (by omega))
              have HB4 := hide ((Below.drew HB3.out).trans (hb4.below (Nat.le_refl _) HB3.out.size))
              obtain ⟨q, hq⟩ : ∃ q : Nat, 20 + v = (q : Int) := ⟨(20 + v).toNat, by omega⟩
              have hq21 : q ≤ 21 := by omega
              have hwq : IntKind.i64.wrap (q : Int) = (q : Int) := wrapIn _ (by omega) (by omega)
              have hmk := run_make_pairs (P := Try.prog) 28 49 (.int .i64 0) (.int .i64 0) 16 Try.underlying28 Try.infoNear .i64 .i64 q (by omega) (by omega)
              have OM := OwnN.made w4 q
              have HC5 := HC4.out.alloc (.cells (madeCells #[.int .i64 0, .int .i64 0] (q * 2)) 49)
              have P2 : PRow (w4.alloc (.cells (madeCells #[.int .i64 0, .int .i64 0] (q * 2)) 49)) (some ⟨w4.heap.size, 0, none⟩) q (fun _ => 0) (fun _ => 0) := ⟨.inr ⟨w4.heap.size, 0, rfl, by simp, fun i hi => by
                have o0 := World.rowIs.cell OM (i := i * 2) (by omega)
                have o1 := World.rowIs.cell OM (i := i * 2 + 1) (by omega)
                rw [Nat.zero_add]
                refine ⟨o0.trans ?_, o1.trans ?_⟩
                · unfold pcell; split <;> rfl
                · unfold pcell; split <;> rfl⟩⟩
              have FF := hide (FIN.out _ _ k c1 _ _ _ q q _ _ 3 (by omega) hq21 (owns_prowS HC5.a) P2 (balloc HB4.out _))
              refine hK.out _ _ trivial (fun hH1 => ?_)
              clear hK K OM P2 HC5 hr4 hb4
              refine wpAnyH_take (i := 3) (oi := { dst := some 62, op := _, type := _, pos := _, after := _, guard := _ }) (v := ?_) rfl (by kernel_rfl) (by kernel_rfl) (by kernel_rfl) (fun _ _ _ h => h) (Or.inl ⟨by rfl, ?_⟩) (hH1) ?_
              rotate_left
              · (intro wx hSw; obtain _ := hSw; go_simp <;> with_reducible rfl)
              simp only [Act.put, List.setIfInBounds_toArray, List.set_cons_zero, List.set_cons_succ]
              refine wpAnyH_take (i := 5) (oi := { dst := some 2, op := _, type := _, pos := _, after := _, guard := _ }) (v := ?_) rfl (by kernel_rfl) (by kernel_rfl) (by kernel_rfl) (fun _ _ _ h => h) (Or.inl ⟨by rfl, ?_⟩) (hH1) ?_
              rotate_left
              · (intro wx hSw; obtain _ := hSw; go_simp <;> with_reducible rfl)
              simp only [Act.put, List.setIfInBounds_toArray, List.set_cons_zero, List.set_cons_succ]
              refine wpAnyH_ready (rs := [4]) (by kernel_rfl) (by simp) ?_
              refine AllReadyH.cons (o := { dst := some 63, op := _, type := _, pos := _, after := _, guard := _ }) rfl (fun K hK => ?_) AllReadyH.nil
              go_simp
              refine hK.out _ _ (trivial) (fun hH12 => ?_)
              clear hK K
              refine wpAnyH_take (i := 6) (oi := { dst := some 3, op := _, type := _, pos := _, after := _, guard := _ }) (v := ?_) rfl (by kernel_rfl) (by kernel_rfl) (by kernel_rfl) (fun _ _ _ h => h) (Or.inl ⟨by rfl, ?_⟩) (hH12) ?_
              rotate_left
              · (intro wx hSw; obtain _ := hSw; go_simp <;> with_reducible rfl)
              simp only [Act.put, List.setIfInBounds_toArray, List.set_cons_zero, List.set_cons_succ]
              refine wpAnyH_take (i := 7) (oi := { dst := some 4, op := _, type := _, pos := _, after := _, guard := _ }) (v := ?_) rfl (by kernel_rfl) (by kernel_rfl) (by kernel_rfl) (fun _ _ _ h => h) (Or.inl ⟨by rfl, ?_⟩) (hH12) ?_
              rotate_left
              · (intro wx hSw; obtain _ := hSw; go_simp <;> with_reducible rfl)
              simp only [Act.put, List.setIfInBounds_toArray, List.set_cons_zero, List.set_cons_succ]
              refine wpAnyH_done (by kernel_rfl) ?_ _
              -- behind it: go_wp2_with fail, then go_meet (a cut) or go_ret; the condition at the end: hH12
              go_wp2_with fail
              refine bodyPost_ret ?_ rfl FF.out
              simp [results, Try.results6, go_sem]
            · have b1 : (u == 1) = false := by simp [e1]
              go_wp2_with fail
              refine (OFF.out _ HR3.out).mono ?_
              rintro e w6 ⟨v, rfl, hr6, hb6⟩
              have HC6 := HC3.out.but hb6 (by omega)
              have FF := hide (FIN.out w6 _ k c1 _ _ _ j c2 _ _ v (by omega) (by omega) (owns_prowS HC6.a) (owns_prowS HC6.b) (HB3.out.trans (hb6.below (Nat.le_refl _) HB3.out.size)))
              clear hr6 hb6 HC6
              go_wp2_with fail
              refine bodyPost_ret ?_ rfl FF.out
              simp [results, Try.results6, go_sem]
end Go.Proofs.Ytjliecggfncelaa
