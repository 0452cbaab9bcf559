/- Ranges of vectors, plain; RangesOf of program and model as one contract. -/
import Derived.Test.YtoiaamcnmpdglaaZ22
import Derived.Test.YtoiaamcnmpdglaaZ21
import Derived.OpenShut
import Derived.Test.YtoiaamcnmpdglaaZ15
import Derived.Test.YtoiaamcnmpdglaaZ12
import Derived.Test.YtoiaamcnmpdglaaZ8
import Derived.Test.YtoiaamcnmpdglaaZ20
import Derived.Deep.RegionHeld3
namespace Go.Proofs.Ytoiaamcnmpdglaa
open Go.RowKit
set_option maxRecDepth 8000
set_option linter.unusedSimpArgs false
set_option linter.unusedVariables false

theorem loF_le (xss : List (List Int)) (p : Nat) : ∀ m k, k < m → loF xss p m ≤ nth (row xss k) p
  | 0, k, h => by omega
  | m + 1, k, h => by
    have e : loF xss p (m + 1) = min (loF xss p m) (nth (row xss m) p) := rfl
    rcases Nat.lt_succ_iff_lt_or_eq.1 h with g | g
    · have := loF_le xss p m k g; omega
    · subst g; omega

theorem hiF_ge (xss : List (List Int)) (p : Nat) : ∀ m k, k < m → nth (row xss k) p ≤ hiF xss p m
  | 0, k, h => by omega
  | m + 1, k, h => by
    have e : hiF xss p (m + 1) = max (hiF xss p m) (nth (row xss m) p) := rfl
    rcases Nat.lt_succ_iff_lt_or_eq.1 h with g | g
    · have := hiF_ge xss p m k g; omega
    · subst g; omega

theorem loF_mem (xss : List (List Int)) (p : Nat) : ∀ m, 1 ≤ m → ∃ k, k < m ∧ nth (row xss k) p = loF xss p m
  | 0, h => by omega
  | m + 1, _ => by
    have e : loF xss p (m + 1) = min (loF xss p m) (nth (row xss m) p) := rfl
    by_cases g : nth (row xss m) p ≤ loF xss p m
    · exact ⟨m, by omega, by omega⟩
    · by_cases h0 : m = 0
      · subst h0; exact ⟨0, by omega, by have : loF xss p 0 = nth (row xss 0) p := rfl; omega⟩
      · obtain ⟨k, hk, hv⟩ := loF_mem xss p m (by omega)
        exact ⟨k, by omega, by omega⟩

theorem hiF_mem (xss : List (List Int)) (p : Nat) : ∀ m, 1 ≤ m → ∃ k, k < m ∧ nth (row xss k) p = hiF xss p m
  | 0, h => by omega
  | m + 1, _ => by
    have e : hiF xss p (m + 1) = max (hiF xss p m) (nth (row xss m) p) := rfl
    by_cases g : hiF xss p m ≤ nth (row xss m) p
    · exact ⟨m, by omega, by omega⟩
    · by_cases h0 : m = 0
      · subst h0; exact ⟨0, by omega, by have : hiF xss p 0 = nth (row xss 0) p := rfl; omega⟩
      · obtain ⟨k, hk, hv⟩ := hiF_mem xss p m (by omega)
        exact ⟨k, by omega, by omega⟩

theorem vecOk_comp {xs : List Int} (h : vecOkB xs = true) {j : Nat} (hj : j < xs.length) : compB (nth xs j) = true := by
  unfold vecOkB at h
  rw [Bool.and_eq_true, List.all_eq_true] at h
  refine h.2 _ ?_
  unfold nth
  rw [List.getD_eq_getElem?_getD, List.getElem?_eq_getElem hj]
  exact List.getElem_mem hj
/-- Ranges of right vectors are right, and each number is in its own. -/
theorem rng_right {xss : List (List Int)} (ha : alikeMB xss = true) {p : Nat} (hp : p < (row xss 0).length) (h1 : 1 ≤ xss.length) :
    rightB (loF xss p xss.length) (hiF xss p xss.length) = true := by
  obtain ⟨k, hk, e⟩ := loF_mem xss p _ h1
  obtain ⟨k', hk', e'⟩ := hiF_mem xss p _ h1
  have a := alike_at ha hk
  have a' := alike_at ha hk'
  have q := hiF_ge xss p _ k hk
  unfold rightB
  rw [← e, ← e', vecOk_comp a.1 (by omega), vecOk_comp a'.1 (by omega), decide_eq_true (by omega)]
  rfl

theorem rng_has {xss : List (List Int)} (ha : alikeMB xss = true) {p : Nat} (hp : p < (row xss 0).length) {k : Nat} (hk : k < xss.length) :
    hasB (loF xss p xss.length) (hiF xss p xss.length) (nth (row xss k) p) = true := by
  unfold hasB inB
  rw [rng_right ha hp (by omega), decide_eq_true ⟨loF_le xss p _ k hk, hiF_ge xss p _ k hk⟩]
  rfl
def rngN (xss : List (List Int)) : Nat := if rngB xss then (row xss 0).length else 0

theorem rng_parts {xss : List (List Int)} (h : rngB xss = true) : 1 ≤ xss.length ∧ xss.length ≤ 60 ∧ alikeMB xss = true := by
  unfold rngB at h
  simp only [Bool.and_eq_true, decide_eq_true_eq] at h
  exact ⟨h.1.1, h.1.2, h.2⟩

theorem rngN_8 (xss : List (List Int)) : rngN xss ≤ 8 := by
  unfold rngN
  cases h : rngB xss
  · exact Nat.zero_le _
  · obtain ⟨h1, _, ha⟩ := rng_parts h
    exact (vecOk_len (alike_at ha (k := 0) (by omega)).1).2
/-- What RangesOf tells, of the program and of the model. -/
def RngP (w : World) (xss : List (List Int)) (e : Ending) (w' : World) : Prop :=
  ∃ a c, e = .returned (.tuple #[.slice a (rngN xss) c, .bool (rngB xss)]) ∧ PRow w' a (rngN xss) (fun p => loF xss p xss.length) (fun p => hiF xss p xss.length) ∧ (∀ b off, a = some ⟨b, off, none⟩ → w.heap.size ≤ b) ∧ Below w.heap.size w w'



set_option maxHeartbeats 1600000 in
theorem sRangesOf_out (a : Option Addr) (m cap : Nat) (w : World) (hm : ¬ (1 ≤ m ∧ m ≤ 60)) :
    Calls Try.prog 54 #[.slice a m cap] w fun e w' => e = .returned (.tuple #[.slice none 0 0, .bool false]) ∧ Below w.heap.size w w' := by
  have IN := hide (fun w1 => l1In_any (m : Int) 1 60 w1)
  rw [show inB (m : Int) 1 60 = false from by unfold inB; simp; omega] at IN
  go_enter Try.func54, Try.ntmps54
  go_wp2_with fail
  refine (IN.out _).mono ?_
  rintro e w1 ⟨rfl, hb1⟩
  obtain rfl := hb1.symm
  clear hb1 IN
  go_wp2_with fail
  refine bodyPost_ret (v := .tuple #[.slice none 0 0, .bool false]) ?_ rfl ⟨rfl, (by repeat' first | with_reducible exact Below.refl _ _ | with_reducible assumption | with_reducible refine below_drewN ?_ _ | with_reducible refine balloc ?_ _ | with_reducible refine Below.drew ?_ | with_reducible refine Below.setCell ?_ (by first | (simp; done) | (simp; omega) | omega) _ | with_reducible refine bstep ?_ (by assumption))⟩
  simp [results, Try.results54, go_sem]

theorem RngP.no {w w' : World} {xss : List (List Int)} {e : Ending} (h0 : rngB xss = false) (he : e = .returned (.tuple #[.slice none 0 0, .bool false])) (hb : Below w.heap.size w w') : RngP w xss e w' := by
  refine ⟨none, 0, ?_, ⟨.inl ?_⟩, (fun b off e => by cases e), hb⟩
  · rw [he]; unfold rngN; rw [h0]; rfl
  · unfold rngN; rw [h0]; rfl

theorem sRangesP (a : Option Addr) (m cap : Nat) (xss : List (List Int)) (w : World) (h : Mat w a m xss) :
    Calls Try.prog 54 #[.slice a m cap] w fun e w' => RngP w xss e w' := by
  by_cases hm : 1 ≤ m ∧ m ≤ 60
  · rcases h.lies with h0 | ⟨b, off, rfl, hb, hc⟩
    · omega
    · cases ha : alikeMB xss
      · exact (sRangesOf_no b off m cap xss w h.len hm.1 hm.2 hb hc ha).mono fun e w' q => .no (by rw [rng_of (by rw [h.len]; exact hm.1) (by rw [h.len]; exact hm.2), ha]) q.1 q.2
      · refine (sRangesOf_yes b off m cap xss w h.len hm.1 hm.2 hb hc ha).mono fun e w' q => ?_
        obtain ⟨v, he, ho, hb'⟩ := q
        obtain ⟨a', c', rfl, hp, hlo⟩ := prow_of_owns ho
        have h0 : rngB xss = true := by rw [rng_of (by rw [h.len]; exact hm.1) (by rw [h.len]; exact hm.2), ha]
        have e1 : rngN xss = (row xss 0).length := by unfold rngN; rw [h0]; rfl
        exact ⟨a', c', by rw [he, e1, h0], by rw [e1]; exact hp, hlo, hb'⟩
  · have h0 : rngB xss = false := by
      have := h.len
      by_cases h1 : 1 ≤ xss.length
      · exact rng_many (by omega)
      · exact rng_few h1
    exact (sRangesOf_out a m cap w hm).mono fun e w' q => .no h0 q.1 q.2
def anyLo (xss : List (List Int)) (p : Nat) (x : Int) : Nat → Bool
  | 0 => false
  | k + 1 => anyLo xss p x k || (nth (row xss k) p == x)

theorem anyLo_at {xss : List (List Int)} {p : Nat} {x : Int} : ∀ m k, k < m → nth (row xss k) p = x → anyLo xss p x m = true
  | 0, k, h, _ => by omega
  | m + 1, k, h, e => by
    unfold anyLo
    rcases Nat.lt_succ_iff_lt_or_eq.1 h with g | g
    · rw [anyLo_at m k g e]; rfl
    · subst g; rw [e]; simp
end Go.Proofs.Ytoiaamcnmpdglaa

/- Drawn boxes: box; DrawLowOf, DrawHighOf. -/
namespace Go.Proofs.Ytoiaamcnmpdglaa
open Go.RowKit
set_option maxRecDepth 8000
set_option linter.unusedSimpArgs false
set_option linter.unusedVariables false

theorem pvals_congr {f g f' g' : Nat → Int} : ∀ {k : Nat}, (∀ j, j < k → f j = f' j ∧ g j = g' j) → pvals f g k = pvals f' g' k
  | 0, _ => rfl
  | k + 1, h => by
    simp only [pvals]
    rw [pvals_congr (k := k) (fun j hj => h j (by omega)), (h k (by omega)).1, (h k (by omega)).2]
def putAt (k : Nat) (x : Int) (f : Nat → Int) (j : Nat) : Int := if j = k then x else f j

theorem pvals_snoc (f g : Nat → Int) (k : Nat) (x y : Int) : pvals f g k ++ [.int .i64 x, .int .i64 y] = pvals (putAt k x f) (putAt k y g) (k + 1) := by
  have e : pvals (putAt k x f) (putAt k y g) k = pvals f g k := pvals_congr fun j hj => by simp [putAt, show j ≠ k by omega]
  simp only [pvals]
  rw [e]
  simp [putAt]

/-- The numbers that a drawn box may have. -/
def Bds (f g : Nat → Int) (k : Nat) : Prop := ∀ j, j < k → -4000000 ≤ f j ∧ f j ≤ 4000000 ∧ -4000000 ≤ g j ∧ g j ≤ 4000000

theorem Bds.snoc {f g : Nat → Int} {k : Nat} (h : Bds f g k) {x y : Int} (x0 : -4000000 ≤ x) (x1 : x ≤ 4000000) (y0 : -4000000 ≤ y) (y1 : y ≤ 4000000) : Bds (putAt k x f) (putAt k y g) (k + 1) := by
  intro j hj
  unfold putAt
  by_cases e : j = k
  · rw [if_pos e, if_pos e]; exact ⟨x0, x1, y0, y1⟩
  · rw [if_neg e, if_neg e]; exact h j (by omega)

def BoxPost (B : Nat) (w : World) (rb : Nat) (a : Option Addr) (n c d : Nat) (e : Ending) (w' : World) : Prop :=
  ∃ (v : Value) (f g : Nat → Int), e = .returned v ∧ w'.ownsRow w.heap.size 64 2 v d (pvals f g d) ∧ Bds f g d ∧ Rd B w' rb a n c ∧ But rb w w'

set_option maxHeartbeats 4000000 in
theorem box_any (B rb n c : Nat) (a : Option Addr) (d : Nat) (w : World) (h : Rd B w rb a n c) (hB : B ≤ w.heap.size) (hd : d ≤ 100) :
    Calls Try.prog 49 #[.pointer (some ⟨rb, 0, none⟩), .int .i64 d] w fun e w' => BoxPost B w rb a n c d e w' := by
  obtain ⟨i0, hi, hz0, hz1, hz2⟩ := infoRange_parts
  have HH := hide h
  have hltw := h.lt
  clear h
  go_enter Try.func49, Try.ntmps49
  go_wp2_with fail
  go_loopw [5, 6] (fun v i wr => ∃ (k : Nat) (f g : Nat → Int), k ≤ d ∧ i = .int .i64 k ∧ wr.ownsRow w.heap.size 64 2 v k (pvals f g k) ∧ Bds f g k ∧ Rd B wr rb a n c ∧ But rb w wr) (fun _ i _ => d - (intOf i).toNat)
  case atStart => exact ⟨0, fun _ => 0, fun _ => 0, Nat.zero_le _, rfl, World.ownsRow_made w #[] 0 (Nat.le_refl _) (Nat.zero_le _) rfl, (fun j hj => absurd hj (by omega)), HH.out.alloc _, (But.refl _ _).alloc _⟩
  case round =>
    obtain ⟨k, f, g, hk, rfl, hown, hbd, hr, hb⟩ := hrel
    by_cases hlt : k < d
    · have SP := hide (span_any B rb n c a wr hr)
      have O8 := hide (fun w (h : Rd B w rb a n c) => once_any B rb n c a 8 w h (by omega) (by omega))
      have HO := hide hown
      have HBB := hide hb
      have HD := hide hbd
      have hltr := hr.lt
      have hsw := hb.size
      have fin : Hid (∀ (x y : Int) (wq : World), -4000000 ≤ x → x ≤ 4000000 → -4000000 ≤ y → y ≤ 4000000 → Rd B wq rb a n c → But rb wr wq → wq.ownsRow w.heap.size 64 2 u5 k (pvals f g k) ∧ But rb w wq ∧ w.heap.size ≤ wq.heap.size ∧ Bds (putAt k x f) (putAt k y g) (k + 1)) :=
        fun x y wq x0 x1 y0 y1 hR hbq => ⟨owns_but HO.out hbq hltw, HBB.out.trans hbq, Nat.le_trans hsw hbq.size, HD.out.snoc x0 x1 y0 y1⟩
      clear hr hb hown hbd
      go_wp2_with fail
      refine SP.out.mono ?_
      rintro e w1 ⟨lo, hi', rfl, a0, a1, a2, a3, hr1, hb1⟩
      have s1 := hb1.size
      by_cases hxy : hi' < lo
      · go_wp2_with fail
        refine (O8.out _ (hr1.alloc _)).mono ?_
        rintro e w2 ⟨v8, rfl, hr2, hb2⟩
        have X := hide ((Bx.new w1 (.int .i64 lo) (.int .i64 hi') 64).but hb2 (by omega))
        obtain ⟨x1, x2, x3, x4, x5⟩ := X.out
        have hbq := (hb1.alloc (.cells #[.int .i64 lo, .int .i64 hi'] 64)).trans hb2
        cases v8
        · have hR := hr2.but (((But.refl w1.heap.size w2).setCell 0 (.int .i64 hi')).setCell 1 (.int .i64 lo)) (by omega) (by omega)
          have hb3 := but_far (but_far hbq (show wr.heap.size ≤ w1.heap.size by omega) 0 (.int .i64 hi')) (show wr.heap.size ≤ w1.heap.size by omega) 1 (.int .i64 lo)
          obtain ⟨o3, b3, s3, d3⟩ := fin.out hi' lo _ a2 a3 a0 a1 hR hb3
          have HO3 := hide o3
          have HB3 := hide b3
          have HR3 := hide hR
          have HD3 := hide d3
          clear o3 b3 hR d3 hb3 hbq hr2 hb2 hr1 hb1 SP O8 HO HBB
          go_wp2_with (at_builtin; refine wpList_append_own _ rfl _ _ 24 rfl w.heap.size 64 i0 _ 2 16 Try.underlying24 hi hz0 hz1 hz2 rfl (by decide) _ _ _ rfl (HO3.out.alloc _) ⟨_, 0, none⟩ 1 1 [.int .i64 hi', .int .i64 lo] rfl rfl ?c1 ?c2 ?c3 ?c4 ?c5 ?_)
          case c1 => (have q := two_new ((w2.setCell ⟨w1.heap.size, 0, none⟩ (.int .i64 hi')).setCell ⟨w1.heap.size, 1, none⟩ (.int .i64 lo)) (.int .i64 hi') (.int .i64 lo) 64; simp only [World.size_setCell] at q; exact q)
          case c2 => intro u hu; simp at hu; rcases hu with rfl | rfl <;> rfl
          case c3 => unfold maxLen; omega
          case c4 => omega
          case c5 => simp; simp at s3; omega
          intro v' w3 hown2 hgrow _
          rw [pvals_snoc] at hown2
          have hB2 := but_app HB3.out HO3.out hgrow
          have hR2 := HR3.out.app hltw hB HO3.out hgrow
          have HO2 := hide hown2
          have HB2 := hide hB2
          have HR2 := hide hR2
          clear hgrow hown2 hB2 hR2 HO3
          go_wp2_with fail
          go_roundw
          case rel => exact ⟨k + 1, _, _, by omega, by go_num, HO2.out, HD3.out, HR2.out, HB2.out⟩
          case measure => simp [intOf]; omega
        · obtain ⟨o3, b3, s3, d3⟩ := fin.out lo hi' _ a0 a1 a2 a3 hr2 hbq
          have HO3 := hide o3
          have HB3 := hide b3
          have HR3 := hide hr2
          have HD3 := hide d3
          clear o3 b3 hr2 d3 hbq hb2 hr1 hb1 SP O8 HO HBB
          go_wp2_with (at_builtin; refine wpList_append_own _ rfl _ _ 24 rfl w.heap.size 64 i0 _ 2 16 Try.underlying24 hi hz0 hz1 hz2 rfl (by decide) _ _ _ rfl (HO3.out.alloc _) ⟨_, 0, none⟩ 1 1 [.int .i64 lo, .int .i64 hi'] rfl rfl ?c1 ?c2 ?c3 ?c4 ?c5 ?_)
          case c1 => exact two_new _ _ _ _
          case c2 => intro u hu; simp at hu; rcases hu with rfl | rfl <;> rfl
          case c3 => unfold maxLen; omega
          case c4 => omega
          case c5 => simp; omega
          intro v' w3 hown2 hgrow _
          rw [pvals_snoc] at hown2
          have hB2 := but_app HB3.out HO3.out hgrow
          have hR2 := HR3.out.app hltw hB HO3.out hgrow
          have HO2 := hide hown2
          have HB2 := hide hB2
          have HR2 := hide hR2
          clear hgrow hown2 hB2 hR2 HO3
          go_wp2_with fail
          go_roundw
          case rel => exact ⟨k + 1, _, _, by omega, by go_num, HO2.out, HD3.out, HR2.out, HB2.out⟩
          case measure => simp [intOf]; omega
      · obtain ⟨o3, b3, s3, d3⟩ := fin.out lo hi' _ a0 a1 a2 a3 (hr1.alloc (.cells #[.int .i64 lo, .int .i64 hi'] 64)) (hb1.alloc (.cells #[.int .i64 lo, .int .i64 hi'] 64))
        have HO3 := hide o3
        have HB3 := hide b3
        have HR3 := hide (hr1.alloc (.cells #[.int .i64 lo, .int .i64 hi'] 64))
        have HD3 := hide d3
        clear o3 b3 d3 hr1 hb1 SP O8 HO HBB
        go_wp2_with (at_builtin; refine wpList_append_own _ rfl _ _ 24 rfl w.heap.size 64 i0 _ 2 16 Try.underlying24 hi hz0 hz1 hz2 rfl (by decide) _ _ _ rfl (HO3.out.alloc _) ⟨_, 0, none⟩ 1 1 [.int .i64 lo, .int .i64 hi'] rfl rfl ?c1 ?c2 ?c3 ?c4 ?c5 ?_)
        case c2 => exact ⟨rfl, rfl⟩
        case c3 => unfold maxLen; omega
        case c4 => omega
        case c5 => first | omega | (simp at s3; omega)
        intro v' w3 hown2 hgrow _
        rw [pvals_snoc] at hown2
        have hB2 := but_app HB3.out HO3.out hgrow
        have hR2 := HR3.out.app hltw hB HO3.out hgrow
        have HO2 := hide hown2
        have HB2 := hide hB2
        have HR2 := hide hR2
        clear hgrow hown2 hB2 hR2 HO3
        go_wp2_with fail
        go_roundw
        case rel => exact ⟨k + 1, _, _, by omega, by go_num, HO2.out, HD3.out, HR2.out, HB2.out⟩
        case measure => simp [intOf]; omega
    · have hkn : k = d := by omega
      subst hkn
      go_wp2_with fail
      go_ret
      exact ⟨_, f, g, rfl, hown, hbd, hr, hb⟩
end Go.Proofs.Ytoiaamcnmpdglaa

/- Drawn boxes and vectors: DrawLowOf, DrawHighOf. -/
namespace Go.Proofs.Ytoiaamcnmpdglaa
open Go.RowKit
set_option maxRecDepth 8000
set_option linter.unusedSimpArgs false
set_option linter.unusedVariables false

def LowPost (w : World) (e : Ending) (w' : World) : Prop :=
  ∃ (a1 : Option Addr) (n1 c1 : Nat) (f g : Nat → Int) (a2 : Option Addr) (n2 c2 : Nat) (ys : List Int), e = .returned (.tuple #[.slice a1 n1 c1, .slice a2 n2 c2]) ∧ PRow w' a1 n1 f g ∧ Bds f g n1 ∧ Row w' a2 n2 ys ∧ n1 ≤ 200 ∧ n2 ≤ 200 ∧ Below w.heap.size w w'



end Go.Proofs.Ytoiaamcnmpdglaa
/- Drawn boxes and vectors of them: inside, DrawBoxHas. -/
namespace Go.Proofs.Ytoiaamcnmpdglaa
open Go.RowKit
set_option maxRecDepth 8000
set_option linter.unusedSimpArgs false
set_option linter.unusedVariables false

/-- Two cells that are read. -/
structure Duo (w : World) (b o : Nat) (lo hi : Int) : Prop where
  c0 : w.cell? ⟨b, o, none⟩ = some (.int .i64 lo)
  c1 : w.cell? ⟨b, o + 1, none⟩ = some (.int .i64 hi)

theorem Duo.drew {w : World} {b o : Nat} {lo hi : Int} (h : Duo w b o lo hi) : Duo w.drew b o lo hi := ⟨h.c0, h.c1⟩

set_option maxRecDepth 4000 in
set_option maxHeartbeats 4000000 in
theorem rinside_any (B rb n c : Nat) (a : Option Addr) (b off d c1 : Nat) (f g : Nat → Int) (w : World) (h : Rd B w rb a n c) (hB : B ≤ w.heap.size) (hd : d ≤ 100) (hb : b < w.heap.size) (hne : b ≠ rb) (hbd : Bds f g d)
    (hc : ∀ i, i < d → w.cell? ⟨b, off + i * 2, none⟩ = some (.int .i64 (f i)) ∧ w.cell? ⟨b, off + i * 2 + 1, none⟩ = some (.int .i64 (g i))) :
    Calls Try.prog 27 #[.pointer (some ⟨rb, 0, none⟩), .slice (some ⟨b, off, none⟩) d c1] w fun e w' => VecPost B w rb a n c d e w' := by
  obtain ⟨i0, hi, hz0, hz1, hz2⟩ := info_parts Try.infoI64
  have HH := hide h
  have HC := hide hc
  have HD := hide hbd
  have hltw := h.lt
  clear h hc hbd
  go_enter Try.func27, Try.ntmps27
  go_wp2_with fail
  go_loopw [5, 6] (fun v i wr => ∃ (k : Nat) (F : Nat → Int), k ≤ d ∧ i = .int .i64 k ∧ wr.ownsRow w.heap.size 2 1 v k (vals F k) ∧ Rd B wr rb a n c ∧ But rb w wr) (fun _ i _ => d - (intOf i).toNat)
  case atStart => exact ⟨0, fun _ => 0, Nat.zero_le _, rfl, World.ownsRow_made w #[] 0 (Nat.le_refl _) (Nat.zero_le _) rfl, HH.out.alloc _, (But.refl _ _).alloc _⟩
  case round =>
    obtain ⟨k, F, hk, rfl, hown, hr, hbu⟩ := hrel
    by_cases hlt : k < d
    · have Z := hide (fun (W : World) (hW : But rb w W) => And.intro ((hW.cell (p := ⟨b, off + k * 2, none⟩) hb hne).trans (HC.out k hlt).1) ((hW.cell (p := ⟨b, off + k * 2 + 1, none⟩) hb hne).trans (HC.out k hlt).2))
      obtain ⟨z1, z2⟩ := Z.out wr hbu
      have hlt' : (k : Int) < (d : Int) := by omega
      have bdk := HD.out k hlt
      have B3 := hide (below_any B rb n c a 3 wr hr (by omega) (by omega))
      have HO := hide hown
      have HBB := hide hbu
      clear hown hr hbu
      obtain ⟨lo, hlo⟩ : ∃ lo, f k = lo := ⟨_, rfl⟩
      obtain ⟨hi', hhi⟩ : ∃ hi', g k = hi' := ⟨_, rfl⟩
      rw [hlo] at z1 bdk Z
      rw [hhi] at z2 bdk Z
      clear hlo hhi
      go_wp2_with fail
      refine B3.out.mono ?_
      rintro e w1 ⟨z, rfl, p0, p1, hr1, hb1⟩
      obtain ⟨y1, y2⟩ := Z.out w1 (HBB.out.trans hb1)
      have hob : w1.ownsRow w.heap.size 2 1 u5 k (vals F k) := owns_but HO.out hb1 hltw
      have HO1 := hide hob
      have HB1 := hide (HBB.out.trans hb1)
      have HR1 := hide hr1
      have s1 := HB1.out.size
      clear hob hb1 hr1 HO HBB z1 z2 B3
      rcases (show z = 0 ∨ z = 1 ∨ z = 2 by omega) with rfl | rfl | rfl
      · go_wp2_with (at_builtin; refine wpList_append_own _ rfl _ _ 25 rfl w.heap.size 2 i0 (.int .i64 0) 1 8 Try.underlying25 hi hz0 hz1 hz2 rfl (by decide) _ _ _ rfl (HO1.out.alloc _) ⟨_, 0, none⟩ 1 1 [.int .i64 hi'] rfl rfl ?c1 ?c2 ?c3 ?c4 ?c5 ?_)
        case c1 => exact one_new _ _ _
        case c2 => intro u hu; simp at hu; subst hu; rfl
        case c3 => unfold maxLen; omega
        case c4 => omega
        case c5 => simp; omega
        intro v' w3 hown2 hgrow _
        rw [vals_snoc] at hown2
        have hB2 := but_app HB1.out HO1.out hgrow
        have hR2 := HR1.out.app hltw hB HO1.out hgrow
        have HO2 := hide hown2
        have HB2 := hide hB2
        have HR2 := hide hR2
        clear hgrow hown2 hB2 hR2
        go_wp2_with fail
        go_roundw
        case rel => exact ⟨k + 1, _, by omega, by go_num, HO2.out, HR2.out, HB2.out⟩
        case measure => simp [intOf]; omega
      · obtain ⟨t, ht⟩ : ∃ t, hi' - lo + 1 = t := ⟨_, rfl⟩
        have f1 : IntKind.i64.wrap (hi' - lo) = hi' - lo := wrapIn _ (by omega) (by omega)
        have f2 : IntKind.i64.wrap (hi' - lo + 1) = t := by rw [wrapIn _ (by omega) (by omega)]; exact ht
        have t0 : t ≤ 9000000 := by omega
        clear ht bdk
        have DU := hide (show Duo w1 b (off + k * 2) lo hi' from ⟨y1, y2⟩)
        have HBd := hide (show But rb w w1.drew from ⟨HB1.out.os, HB1.out.tape, HB1.out.output, HB1.out.size, HB1.out.block⟩)
        have WD := hide (word_any B rb n c a w1.drew (HR1.out.stays (Below.drew (Below.refl _ _))))
        have g0 : ¬ IntKind.u64.wrap (if t < 1 then 1 else t) = 0 := by
          rw [IntKind.wrap_u64]
          split <;> omega
        · skip
          go_upto_region 10 with fail
          refine wp_region_held_drew (S := fun wx => Duo wx b (off + k * 2) lo hi') (by kernel_rfl) (DU.out.drew) (fun hH0 => ?_)
          refine wpAnyH_take (i := 0) (oi := { dst := some 31, op := _, type := _, pos := _, after := _, guard := _ }) (v := ?_) rfl (by kernel_rfl) (by kernel_rfl) (by kernel_rfl) (fun _ _ _ h => h) (Or.inl ⟨by rfl, ?_⟩) (hH0) ?_
          rotate_left
          · (intro wx hSw; obtain ⟨q1, q2⟩ := hSw; go_simp <;> with_reducible rfl)
          simp only [Act.put, List.setIfInBounds_toArray, List.set_cons_zero, List.set_cons_succ]
          refine wpAnyH_take (i := 1) (oi := { dst := some 32, op := _, type := _, pos := _, after := _, guard := _ }) (v := ?_) rfl (by kernel_rfl) (by kernel_rfl) (by kernel_rfl) (fun _ _ _ h => h) (Or.inl ⟨by rfl, ?_⟩) (hH0) ?_
          rotate_left
          · (intro wx hSw; obtain ⟨q1, q2⟩ := hSw; go_simp <;> with_reducible rfl)
          simp only [Act.put, List.setIfInBounds_toArray, List.set_cons_zero, List.set_cons_succ]
          refine wpAnyH_take (i := 2) (oi := { dst := some 33, op := _, type := _, pos := _, after := _, guard := _ }) (v := ?_) rfl (by kernel_rfl) (by kernel_rfl) (by kernel_rfl) (fun _ _ _ h => h) (Or.inl ⟨by rfl, ?_⟩) (hH0) ?_
          rotate_left
          · (intro wx hSw; obtain ⟨q1, q2⟩ := hSw; go_simp <;> with_reducible rfl)
          simp only [Act.put, List.setIfInBounds_toArray, List.set_cons_zero, List.set_cons_succ]
          refine wpAnyH_take (i := 3) (oi := { dst := some 34, op := _, type := _, pos := _, after := _, guard := _ }) (v := ?_) rfl (by kernel_rfl) (by kernel_rfl) (by kernel_rfl) (fun _ _ _ h => h) (Or.inl ⟨by rfl, ?_⟩) (hH0) ?_
          rotate_left
          · (intro wx hSw; obtain ⟨q1, q2⟩ := hSw; go_simp <;> with_reducible rfl)
          simp only [Act.put, List.setIfInBounds_toArray, List.set_cons_zero, List.set_cons_succ]
          refine wpAnyH_take (i := 4) (oi := { dst := some 35, op := _, type := _, pos := _, after := _, guard := _ }) (v := ?_) rfl (by kernel_rfl) (by kernel_rfl) (by kernel_rfl) (fun _ _ _ h => h) (Or.inl ⟨by rfl, ?_⟩) (hH0) ?_
          rotate_left
          · (intro wx hSw; obtain ⟨q1, q2⟩ := hSw; go_simp <;> with_reducible rfl)
          simp only [Act.put, List.setIfInBounds_toArray, List.set_cons_zero, List.set_cons_succ]
          refine wpAnyH_take (i := 5) (oi := { dst := some 36, op := _, type := _, pos := _, after := _, guard := _ }) (v := ?_) rfl (by kernel_rfl) (by kernel_rfl) (by kernel_rfl) (fun _ _ _ h => h) (Or.inl ⟨by rfl, ?_⟩) (hH0) ?_
          rotate_left
          · (intro wx hSw; obtain ⟨q1, q2⟩ := hSw; go_simp <;> with_reducible rfl)
          simp only [Act.put, List.setIfInBounds_toArray, List.set_cons_zero, List.set_cons_succ]
          refine wpAnyH_take (i := 7) (oi := { dst := some 38, op := _, type := _, pos := _, after := _, guard := _ }) (v := ?_) rfl (by kernel_rfl) (by kernel_rfl) (by kernel_rfl) (fun _ _ _ h => h) (Or.inl ⟨by rfl, ?_⟩) (hH0) ?_
          rotate_left
          · (intro wx hSw; obtain ⟨q1, q2⟩ := hSw; go_simp <;> with_reducible rfl)
          simp only [Act.put, List.setIfInBounds_toArray, List.set_cons_zero, List.set_cons_succ]
          refine wpAnyH_take (i := 8) (oi := { dst := some 39, op := _, type := _, pos := _, after := _, guard := _ }) (v := ?_) rfl (by kernel_rfl) (by kernel_rfl) (by kernel_rfl) (fun _ _ _ h => h) (Or.inl ⟨by rfl, ?_⟩) (hH0) ?_
          rotate_left
          · (intro wx hSw; obtain ⟨q1, q2⟩ := hSw; go_simp <;> with_reducible rfl)
          simp only [Act.put, List.setIfInBounds_toArray, List.set_cons_zero, List.set_cons_succ]
          refine wpAnyH_take (i := 9) (oi := { dst := some 40, op := _, type := _, pos := _, after := _, guard := _ }) (v := ?_) rfl (by kernel_rfl) (by kernel_rfl) (by kernel_rfl) (fun _ _ _ h => h) (Or.inl ⟨by rfl, ?_⟩) (hH0) ?_
          rotate_left
          · (intro wx hSw; obtain ⟨q1, q2⟩ := hSw; go_simp <;> with_reducible rfl)
          simp only [Act.put, List.setIfInBounds_toArray, List.set_cons_zero, List.set_cons_succ]
          refine wpAnyH_take (i := 10) (oi := { dst := some 41, op := _, type := _, pos := _, after := _, guard := _ }) (v := ?_) rfl (by kernel_rfl) (by kernel_rfl) (by kernel_rfl) (fun _ _ _ h => h) (Or.inl ⟨by rfl, ?_⟩) (hH0) ?_
          rotate_left
          · (intro wx hSw; obtain ⟨q1, q2⟩ := hSw; go_simp <;> with_reducible rfl)
          simp only [Act.put, List.setIfInBounds_toArray, List.set_cons_zero, List.set_cons_succ]
          refine wpAnyH_take (i := 11) (oi := { dst := some 42, op := _, type := _, pos := _, after := _, guard := _ }) (v := ?_) rfl (by kernel_rfl) (by kernel_rfl) (by kernel_rfl) (fun _ _ _ h => h) (Or.inl ⟨by rfl, ?_⟩) (hH0) ?_
          rotate_left
          · (intro wx hSw; obtain ⟨q1, q2⟩ := hSw; go_simp <;> with_reducible rfl)
          simp only [Act.put, List.setIfInBounds_toArray, List.set_cons_zero, List.set_cons_succ]
          refine wpAnyH_take (i := 12) (oi := { dst := some 43, op := _, type := _, pos := _, after := _, guard := _ }) (v := ?_) rfl (by kernel_rfl) (by kernel_rfl) (by kernel_rfl) (fun _ _ _ h => h) (Or.inl ⟨by rfl, ?_⟩) (hH0) ?_
          rotate_left
          · (intro wx hSw; obtain ⟨q1, q2⟩ := hSw; go_simp <;> with_reducible rfl)
          simp only [Act.put, List.setIfInBounds_toArray, List.set_cons_zero, List.set_cons_succ]
          refine wpAnyH_take (i := 13) (oi := { dst := some 44, op := _, type := _, pos := _, after := _, guard := _ }) (v := ?_) rfl (by kernel_rfl) (by kernel_rfl) (by kernel_rfl) (fun _ _ _ h => h) (Or.inl ⟨by rfl, ?_⟩) (hH0) ?_
          rotate_left
          · (intro wx hSw; obtain ⟨q1, q2⟩ := hSw; go_simp <;> with_reducible rfl)
          simp only [Act.put, List.setIfInBounds_toArray, List.set_cons_zero, List.set_cons_succ]
          refine wpAnyH_take (i := 14) (oi := { dst := some 45, op := _, type := _, pos := _, after := _, guard := _ }) (v := ?_) rfl (by kernel_rfl) (by kernel_rfl) (by kernel_rfl) (fun _ _ _ h => h) (Or.inl ⟨by rfl, ?_⟩) (hH0) ?_
          rotate_left
          · (intro wx hSw; obtain ⟨q1, q2⟩ := hSw; go_simp <;> with_reducible rfl)
          simp only [Act.put, List.setIfInBounds_toArray, List.set_cons_zero, List.set_cons_succ]
          refine wpAnyH_take (i := 15) (oi := { dst := some 46, op := _, type := _, pos := _, after := _, guard := _ }) (v := ?_) rfl (by kernel_rfl) (by kernel_rfl) (by kernel_rfl) (fun _ _ _ h => h) (Or.inl ⟨by rfl, ?_⟩) (hH0) ?_
          rotate_left
          · (intro wx hSw; obtain ⟨q1, q2⟩ := hSw; go_simp <;> with_reducible rfl)
          simp only [Act.put, List.setIfInBounds_toArray, List.set_cons_zero, List.set_cons_succ]
          refine wpAnyH_take (i := 16) (oi := { dst := some 47, op := _, type := _, pos := _, after := _, guard := _ }) (v := ?_) rfl (by kernel_rfl) (by kernel_rfl) (by kernel_rfl) (fun _ _ _ h => h) (Or.inl ⟨by rfl, ?_⟩) (hH0) ?_
          rotate_left
          · (intro wx hSw; obtain ⟨q1, q2⟩ := hSw; go_simp <;> with_reducible rfl)
          simp only [Act.put, List.setIfInBounds_toArray, List.set_cons_zero, List.set_cons_succ]
          refine wpAnyH_take (i := 17) (oi := { dst := some 48, op := _, type := _, pos := _, after := _, guard := _ }) (v := ?_) rfl (by kernel_rfl) (by kernel_rfl) (by kernel_rfl) (fun _ _ _ h => h) (Or.inl ⟨by rfl, ?_⟩) (hH0) ?_
          rotate_left
          · (intro wx hSw; obtain ⟨q1, q2⟩ := hSw; go_simp <;> with_reducible rfl)
          simp only [Act.put, List.setIfInBounds_toArray, List.set_cons_zero, List.set_cons_succ]
          refine wpAnyH_take (i := 18) (oi := { dst := some 49, op := _, type := _, pos := _, after := _, guard := _ }) (v := ?_) rfl (by kernel_rfl) (by kernel_rfl) (by kernel_rfl) (fun _ _ _ h => h) (Or.inl ⟨by rfl, ?_⟩) (hH0) ?_
          rotate_left
          · (intro wx hSw; obtain ⟨q1, q2⟩ := hSw; go_simp <;> with_reducible rfl)
          simp only [Act.put, List.setIfInBounds_toArray, List.set_cons_zero, List.set_cons_succ]
          refine wpAnyH_take (i := 19) (oi := { dst := some 50, op := _, type := _, pos := _, after := _, guard := _ }) (v := ?_) rfl (by kernel_rfl) (by kernel_rfl) (by kernel_rfl) (fun _ _ _ h => h) (Or.inl ⟨by rfl, ?_⟩) (hH0) ?_
          rotate_left
          · (intro wx hSw; obtain ⟨q1, q2⟩ := hSw; go_simp <;> with_reducible rfl)
          simp only [Act.put, List.setIfInBounds_toArray, List.set_cons_zero, List.set_cons_succ]
          refine wpAnyH_take (i := 20) (oi := { dst := some 51, op := _, type := _, pos := _, after := _, guard := _ }) (v := ?_) rfl (by kernel_rfl) (by kernel_rfl) (by kernel_rfl) (fun _ _ _ h => h) (Or.inl ⟨by rfl, ?_⟩) (hH0) ?_
          rotate_left
          · (intro wx hSw; obtain ⟨q1, q2⟩ := hSw; go_simp <;> with_reducible rfl)
          simp only [Act.put, List.setIfInBounds_toArray, List.set_cons_zero, List.set_cons_succ]
          refine wpAnyH_ready (rs := [6]) (by kernel_rfl) (by simp) ?_
          refine AllReadyH.cons (o := { dst := some 37, op := _, type := _, pos := _, after := _, guard := _ }) rfl (fun K hK => ?_) AllReadyH.nil
          go_simp
          refine WD.out.mono ?_
          rintro e w2 ⟨u, rfl, u0, u1, hr2, hb2⟩
          dsimp only
          refine hK.out _ _ (Duo.mk (Z.out w2 (HBd.out.trans hb2)).1 (Z.out w2 (HBd.out.trans hb2)).2) (fun hH1 => ?_)
          clear hK K
          refine wpAnyH_take (i := 21) (oi := { dst := some 52, op := _, type := _, pos := _, after := _, guard := _ }) (v := ?_) rfl (by kernel_rfl) (by kernel_rfl) (by kernel_rfl) (fun _ _ _ h => h) (Or.inl ⟨by rfl, ?_⟩) (hH1) ?_
          rotate_left
          · (intro wx hSw; obtain ⟨q1, q2⟩ := hSw; go_simp <;> with_reducible rfl)
          simp only [Act.put, List.setIfInBounds_toArray, List.set_cons_zero, List.set_cons_succ]
          refine wpAnyH_take (i := 22) (oi := { dst := some 53, op := _, type := _, pos := _, after := _, guard := _ }) (v := ?_) rfl (by kernel_rfl) (by kernel_rfl) (by kernel_rfl) (fun _ _ _ h => h) (Or.inl ⟨by rfl, ?_⟩) (hH1) ?_
          rotate_left
          · (intro wx hSw; obtain ⟨q1, q2⟩ := hSw; go_simp <;> with_reducible rfl)
          simp only [Act.put, List.setIfInBounds_toArray, List.set_cons_zero, List.set_cons_succ]
          refine wpAnyH_take (i := 23) (oi := { dst := some 54, op := _, type := _, pos := _, after := _, guard := _ }) (v := ?_) rfl (by kernel_rfl) (by kernel_rfl) (by kernel_rfl) (fun _ _ _ h => h) (Or.inl ⟨by rfl, ?_⟩) (hH1) ?_
          rotate_left
          · (intro wx hSw; obtain ⟨q1, q2⟩ := hSw; go_simp <;> with_reducible rfl)
          simp only [Act.put, List.setIfInBounds_toArray, List.set_cons_zero, List.set_cons_succ]
          refine wpAnyH_take (i := 24) (oi := { dst := some 7, op := _, type := _, pos := _, after := _, guard := _ }) (v := ?_) rfl (by kernel_rfl) (by kernel_rfl) (by kernel_rfl) (fun _ _ _ h => h) (Or.inl ⟨by rfl, ?_⟩) (hH1) ?_
          rotate_left
          · (intro wx hSw; obtain ⟨q1, q2⟩ := hSw; go_simp <;> with_reducible rfl)
          simp only [Act.put, List.setIfInBounds_toArray, List.set_cons_zero, List.set_cons_succ]
          refine wpAnyH_done (by kernel_rfl) ?_ _
          -- behind it: go_wp2_with fail, then go_meet (a cut) or go_ret; the condition at the end: hH1
          obtain ⟨y, hy⟩ : ∃ y, IntKind.i64.wrap (lo + IntKind.i64.wrap (u.tmod (IntKind.u64.wrap (if t < 1 then 1 else t)))) = y := ⟨_, rfl⟩
          rw [hy]
          generalize (if t < 1 then (1 : Int) else t) = m at g0 hy ⊢
          have hod : w2.ownsRow w.heap.size 2 1 u5 k (vals F k) := owns_but (show w1.drew.ownsRow w.heap.size 2 1 u5 k (vals F k) from HO1.out) hb2 hltw
          have HO3 := hide hod
          have HB3 := hide (HBd.out.trans hb2)
          have HR3 := hide hr2
          have s3 := HB3.out.size
          clear hod hb2 hr2 HO1
          go_wp2_with (at_builtin; refine wpList_append_own _ rfl _ _ 25 rfl w.heap.size 2 i0 (.int .i64 0) 1 8 Try.underlying25 hi hz0 hz1 hz2 rfl (by decide) _ _ _ rfl (HO3.out.alloc _) ⟨_, 0, none⟩ 1 1 [.int .i64 y] rfl rfl ?c1 ?c2 ?c3 ?c4 ?c5 ?_)
          case c1 => exact one_new _ _ _
          case c2 => intro u hu; simp at hu; subst hu; rfl
          case c3 => unfold maxLen; omega
          case c4 => omega
          case c5 => simp; omega
          intro v' w3 hown2 hgrow _
          rw [vals_snoc] at hown2
          have hB2 := but_app HB3.out HO3.out hgrow
          have hR2 := HR3.out.app hltw hB HO3.out hgrow
          have HO2 := hide hown2
          have HB2 := hide hB2
          have HR2 := hide hR2
          clear hgrow hown2 hB2 hR2
          go_wp2_with fail
          go_roundw
          case rel => exact ⟨k + 1, _, by omega, by go_num, HO2.out, HR2.out, HB2.out⟩
          case measure => simp [intOf]; omega
      · go_wp2_with (at_builtin; refine wpList_append_own _ rfl _ _ 25 rfl w.heap.size 2 i0 (.int .i64 0) 1 8 Try.underlying25 hi hz0 hz1 hz2 rfl (by decide) _ _ _ rfl (HO1.out.alloc _) ⟨_, 0, none⟩ 1 1 [.int .i64 lo] rfl rfl ?c1 ?c2 ?c3 ?c4 ?c5 ?_)
        case c1 => exact one_new _ _ _
        case c2 => intro u hu; simp at hu; subst hu; rfl
        case c3 => unfold maxLen; omega
        case c4 => omega
        case c5 => simp; omega
        intro v' w3 hown2 hgrow _
        rw [vals_snoc] at hown2
        have hB2 := but_app HB1.out HO1.out hgrow
        have hR2 := HR1.out.app hltw hB HO1.out hgrow
        have HO2 := hide hown2
        have HB2 := hide hB2
        have HR2 := hide hR2
        clear hgrow hown2 hB2 hR2
        go_wp2_with fail
        go_roundw
        case rel => exact ⟨k + 1, _, by omega, by go_num, HO2.out, HR2.out, HB2.out⟩
        case measure => simp [intOf]; omega
    · have hkn : k = d := by omega
      subst hkn
      go_wp2_with fail
      go_ret
      exact ⟨_, F, rfl, hown, hr, hbu⟩

end Go.Proofs.Ytoiaamcnmpdglaa
/- Drawn books: book, DrawRowOf. -/
namespace Go.Proofs.Ytoiaamcnmpdglaa
open Go.RowKit
set_option maxRecDepth 8000
set_option linter.unusedSimpArgs false
set_option linter.unusedVariables false

theorem prow_butM {rb : Nat} {w w' : World} {a : Option Addr} {n : Nat} {f g : Nat → Int} (h : PRow w a n f g) (hb : But rb w w') (hq : ∀ b off, a = some ⟨b, off, none⟩ → b ≠ rb) : PRow w' a n f g := by
  rcases h.lies with h0 | ⟨b, off, e, lt, hc⟩
  · exact ⟨.inl h0⟩
  · have hk := hb.block b lt (hq b off e)
    exact ⟨.inr ⟨b, off, e, Nat.lt_of_lt_of_le lt hb.size, fun i hi => ⟨(World.cell?_of_block (a := ⟨b, off + i * 2, none⟩) hk).trans (hc i hi).1, (World.cell?_of_block (a := ⟨b, off + i * 2 + 1, none⟩) hk).trans (hc i hi).2⟩⟩⟩

theorem But.ofBelowM {g : Nat} {a b : World} (h : Below a.heap.size a b) : But g a b := ⟨h.os, h.tape, h.output, h.size, fun k hk _ => h.block k hk⟩

theorem compB_of {x : Int} (h1 : -1048576 ≤ x) (h2 : x ≤ 1048576) : compB x = true := decide_eq_true ⟨h1, h2⟩

theorem vecOk_of {xs : List Int} (h1 : 1 ≤ xs.length) (h8 : xs.length ≤ 8) (h : ∀ j, j < xs.length → -1048576 ≤ nth xs j ∧ nth xs j ≤ 1048576) : vecOkB xs = true := by
  unfold vecOkB
  rw [decide_eq_true ⟨h1, h8⟩, Bool.true_and]
  exact all_nth fun j hj => compB_of (h j hj).1 (h j hj).2

theorem lists_alike {k d : Nat} {xs : Nat → List Int} (hk : 1 ≤ k) (h1 : 1 ≤ d) (h8 : d ≤ 8) (h : ∀ i, i < k → (xs i).length = d ∧ ∀ j, j < d → -1048576 ≤ nth (xs i) j ∧ nth (xs i) j ≤ 1048576) : alikeMB (lists xs k) = true := by
  refine decide_eq_true fun i hi => ?_
  rw [lists_len] at hi
  unfold okAt
  rw [row_lists _ hi, row_lists _ (by omega), (h i hi).1, (h 0 (by omega)).1, vecOk_of (by rw [(h i hi).1]; exact h1) (by rw [(h i hi).1]; exact h8) (fun j hj => (h i hi).2 j (by rwa [(h i hi).1] at hj))]
  simp
def BookPost (B : Nat) (w : World) (rb : Nat) (a : Option Addr) (n c d : Nat) (e : Ending) (w' : World) : Prop :=
  ∃ b off cp F G, e = .returned (.slice (some ⟨b, off, none⟩) d cp) ∧ PRow w' (some ⟨b, off, none⟩) d F G ∧ (∀ p, p < d → rightB (F p) (G p) = true) ∧ w.heap.size ≤ b ∧ b < w'.heap.size ∧ Rd B w' rb a n c ∧ But rb w w'

set_option maxHeartbeats 2000000 in
theorem book_any (B rb n c : Nat) (a : Option Addr) (d : Nat) (w : World) (h : Rd B w rb a n c) (hB : B ≤ w.heap.size) (hd1 : 1 ≤ d) (hd : d ≤ 8) :
    Calls Try.prog 24 #[.pointer (some ⟨rb, 0, none⟩), .int .i64 d] w fun e w' => BookPost B w rb a n c d e w' := by
  have V := hide (vecs_any B rb n c a d w h hB hd1 (by omega))
  have hltw := h.lt
  clear h
  go_enter Try.func24, Try.ntmps24
  go_wp2_with fail
  refine V.out.mono ?_
  rintro e w1 ⟨g, cp, k, sv, xs, V0, rfl, k1, k12, hO, hX, hr1, hb1⟩
  have hal := lists_alike k1 hd1 hd hX
  have hlen : (row (lists xs k) 0).length = d := by rw [row_lists _ (by omega)]; exact (hX 0 (by omega)).1
  have hrb : rngB (lists xs k) = true := by rw [rng_of (by rw [lists_len]; exact k1) (by rw [lists_len]; omega), hal]
  have hrn : rngN (lists xs k) = d := by unfold rngN; rw [hrb]; exact hlen
  have SR := hide (sRangesP (some ⟨g, 0, none⟩) k cp (lists xs k) w1 hO.mat)
  have HR1 := hide hr1
  have HB1 := hide hb1
  have s1 := hb1.size
  have hk0 : ((k : Int) == 0) = false := by simp; omega
  have RGT := hide (fun p (hp : p < d) => rng_right hal (p := p) (by omega) (by rw [lists_len]; exact k1))
  obtain ⟨F, hF⟩ : ∃ F, (fun p => loF (lists xs k) p (lists xs k).length) = F := ⟨_, rfl⟩
  obtain ⟨G, hG⟩ : ∃ G, (fun p => hiF (lists xs k) p (lists xs k).length) = G := ⟨_, rfl⟩
  have eF : ∀ p, loF (lists xs k) p (lists xs k).length = F p := fun p => by rw [← hF]
  have eG : ∀ p, hiF (lists xs k) p (lists xs k).length = G p := fun p => by rw [← hG]
  simp only [eF, eG] at RGT
  unfold RngP at SR
  rw [hrb, hrn, hF, hG] at SR
  clear hO hX hr1 hb1 hal hlen hrb hrn V hF hG eF eG
  go_wp2_with fail
  refine SR.out.mono ?_
  rintro e w2 ⟨ra, rc, rfl, hp2, hlo2, hb2⟩
  obtain ⟨b, off, rfl, ltb⟩ : ∃ b off, ra = some ⟨b, off, none⟩ ∧ b < w2.heap.size := by
    rcases hp2.lies with h0 | ⟨b, off, e, lt, _⟩
    · omega
    · exact ⟨b, off, e, lt⟩
  have FF : Hid (BookPost B w rb a n c d (.returned (.slice (some ⟨b, off, none⟩) d rc)) w2) := hide ⟨b, off, rc, F, G, rfl, hp2, RGT.out, by have := hlo2 b off rfl; omega, ltb, HR1.out.stays hb2, HB1.out.trans (But.ofBelowM hb2)⟩
  clear hp2 hlo2 hb2
  go_wp2_with fail
  refine bodyPost_ret ?_ rfl FF.out
  simp [results, Try.results24, go_sem]

/-- A drawn book and a vector. -/
def DrawRow (w : World) (e : Ending) (w' : World) : Prop :=
  ∃ b off d cp F G a2 n2 c2 xs, e = .returned (.tuple #[.slice (some ⟨b, off, none⟩) d cp, .slice a2 n2 c2]) ∧ 1 ≤ d ∧ d ≤ 8 ∧ PRow w' (some ⟨b, off, none⟩) d F G ∧ (∀ p, p < d → rightB (F p) (G p) = true) ∧ Row w' a2 n2 xs ∧ n2 ≤ 200 ∧ Below w.heap.size w w'

set_option maxHeartbeats 2000000 in
theorem drawRowOf_any (a : Option Addr) (n c : Nat) (w : World) (h : Code w a n) :
    Calls Try.prog 7 #[.slice a n c] w fun e w' => DrawRow w e w' := by
  have O := hide (open_any a n c w h)
  clear h
  go_enter Try.func7, Try.ntmps7
  go_wp2_with fail
  refine O.out.mono ?_
  rintro e w1 ⟨rfl, hr1, hb1, hs1⟩
  go_wp2_with fail
  refine (below_any _ _ n c a 4 w1 hr1 (by omega) (by omega)).mono ?_
  rintro e w2 ⟨v, rfl, v0, v1, hr2, hb2⟩
  obtain ⟨d, hd⟩ : ∃ d : Nat, 1 + v = (d : Int) := ⟨(1 + v).toNat, by omega⟩
  have s2 := hb2.size
  have rlt : w.heap.size < w2.heap.size := by omega
  go_wp2_with fail
  refine (book_any _ _ n c a d w2 hr2 (by omega) (by omega) (by omega)).mono ?_
  rintro e w3 ⟨b, off, cp, F, G, rfl, hp3, hrt, hlo, hbl, hr3, hb3⟩
  have s3 := hb3.size
  have B3 : Below w.heap.size w w3 := hb1.trans ((hb2.below (Nat.le_refl _) (by omega)).trans (hb3.below (Nat.le_refl _) (by omega)))
  have hne : ∀ b' off', some (⟨b, off, none⟩ : Addr) = some ⟨b', off', none⟩ → b' ≠ w.heap.size := fun b' off' e => by cases e; omega
  clear hr1 hb1 hr2 hb2 hb3 O
  go_wp2_with fail
  refine (once_any _ _ n c a 2 w3 hr3 (by omega) (by omega)).mono ?_
  rintro e w4 ⟨vo, rfl, hr4, hb4⟩
  have P4 := prow_butM hp3 hb4 hne
  have B4 := B3.trans (hb4.below (Nat.le_refl _) (by omega))
  have s4 := hb4.size
  have HRT := hide hrt
  clear hp3 hr3 hb4 B3 hrt
  cases vo
  · go_wp2_with fail
    refine (vec_any _ _ n c a d w4 hr4 (by omega) (by omega)).mono ?_
    rintro e w5 ⟨v5, f5, rfl, ho5, hr5, hb5⟩
    obtain ⟨g5, c5, rfl, _, _⟩ := ho5.form (by omega)
    go_wp2_with fail
    refine (hurtVec_any _ _ n c a d c5 g5 f5 w4 w5 hr5 (by omega) (by omega) hb5 (by omega) (by omega) ho5).mono ?_
    rintro e w6 ⟨v6, d6, f6, rfl, hd6, ho6, hr6, hb6⟩
    obtain ⟨a6, c6, rfl, r6, _⟩ := row_of_owns ho6
    have FF : Hid (DrawRow w (.returned (.tuple #[.slice (some ⟨b, off, none⟩) d cp, .slice a6 d6 c6])) w6) := hide ⟨b, off, d, cp, F, G, a6, d6, c6, _, rfl, by omega, by omega, prow_butM P4 hb6 hne, HRT.out, r6, hd6, B4.trans (hb6.below (Nat.le_refl _) (by omega))⟩
    clear ho5 hr5 hb5 ho6 hr6 hb6 P4 B4
    go_wp2_with fail
    refine bodyPost_ret (v := .tuple #[.slice (some ⟨b, off, none⟩) d cp, .slice a6 d6 c6]) ?_ rfl FF.out
    simp [results, Try.results7, go_sem]
  · have hcc : ∀ i, i < d → w4.cell? ⟨b, off + i * 2, none⟩ = some (.int .i64 (F i)) ∧ w4.cell? ⟨b, off + i * 2 + 1, none⟩ = some (.int .i64 (G i)) := by
      rcases P4.lies with h0 | ⟨b', off', e, lt, hc⟩
      · omega
      · cases e; exact hc
    have hbd : Bds F G d := fun j hj => by
      have := HRT.out j hj
      unfold rightB compB at this
      simp only [Bool.and_eq_true, decide_eq_true_eq] at this
      omega
    have I := hide (rinside_any _ _ n c a b off d cp F G w4 hr4 (by omega) (by omega) (by omega) (by omega) hbd hcc)
    clear hcc hbd hr4
    go_wp2_with fail
    refine I.out.mono ?_
    rintro e w5 ⟨v5, f5, rfl, ho5, hr5, hb5⟩
    obtain ⟨a5, c5, rfl, r5, _⟩ := row_of_owns ho5
    have FF : Hid (DrawRow w (.returned (.tuple #[.slice (some ⟨b, off, none⟩) d cp, .slice a5 d c5])) w5) := hide ⟨b, off, d, cp, F, G, a5, d, c5, _, rfl, by omega, by omega, prow_butM P4 hb5 hne, HRT.out, r5, by omega, B4.trans (hb5.below (Nat.le_refl _) (by omega))⟩
    clear ho5 hr5 hb5 P4 B4
    go_wp2_with fail
    refine bodyPost_ret (v := .tuple #[.slice (some ⟨b, off, none⟩) d cp, .slice a5 d c5]) ?_ rfl FF.out
    simp [results, Try.results7, go_sem]
end Go.Proofs.Ytoiaamcnmpdglaa

/- A drawn book and a vector; the book lies in new memory. -/
namespace Go.Proofs.Ytoiaamcnmpdglaa
open Go.RowKit
set_option maxRecDepth 8000
set_option linter.unusedSimpArgs false
set_option linter.unusedVariables false

def DrawRowN (w : World) (e : Ending) (w' : World) : Prop :=
  ∃ b off d cp F G a2 n2 c2 xs, e = .returned (.tuple #[.slice (some ⟨b, off, none⟩) d cp, .slice a2 n2 c2]) ∧ 1 ≤ d ∧ d ≤ 8 ∧ PRow w' (some ⟨b, off, none⟩) d F G ∧ (∀ p, p < d → rightB (F p) (G p) = true) ∧ Row w' a2 n2 xs ∧ n2 ≤ 200 ∧ Below w.heap.size w w' ∧ w.heap.size ≤ b

set_option maxHeartbeats 2000000 in
theorem drawRowOf_new (a : Option Addr) (n c : Nat) (w : World) (h : Code w a n) :
    Calls Try.prog 7 #[.slice a n c] w fun e w' => DrawRowN w e w' := by
  have O := hide (open_any a n c w h)
  clear h
  go_enter Try.func7, Try.ntmps7
  go_wp2_with fail
  refine O.out.mono ?_
  rintro e w1 ⟨rfl, hr1, hb1, hs1⟩
  go_wp2_with fail
  refine (below_any _ _ n c a 4 w1 hr1 (by omega) (by omega)).mono ?_
  rintro e w2 ⟨v, rfl, v0, v1, hr2, hb2⟩
  obtain ⟨d, hd⟩ : ∃ d : Nat, 1 + v = (d : Int) := ⟨(1 + v).toNat, by omega⟩
  have s2 := hb2.size
  have rlt : w.heap.size < w2.heap.size := by omega
  go_wp2_with fail
  refine (book_any _ _ n c a d w2 hr2 (by omega) (by omega) (by omega)).mono ?_
  rintro e w3 ⟨b, off, cp, F, G, rfl, hp3, hrt, hlo, hbl, hr3, hb3⟩
  have s3 := hb3.size
  have B3 : Below w.heap.size w w3 := hb1.trans ((hb2.below (Nat.le_refl _) (by omega)).trans (hb3.below (Nat.le_refl _) (by omega)))
  have hne : ∀ b' off', some (⟨b, off, none⟩ : Addr) = some ⟨b', off', none⟩ → b' ≠ w.heap.size := fun b' off' e => by cases e; omega
  clear hr1 hb1 hr2 hb2 hb3 O
  go_wp2_with fail
  refine (once_any _ _ n c a 2 w3 hr3 (by omega) (by omega)).mono ?_
  rintro e w4 ⟨vo, rfl, hr4, hb4⟩
  have P4 := prow_butM hp3 hb4 hne
  have B4 := B3.trans (hb4.below (Nat.le_refl _) (by omega))
  have s4 := hb4.size
  have HRT := hide hrt
  clear hp3 hr3 hb4 B3 hrt
  cases vo
  · go_wp2_with fail
    refine (vec_any _ _ n c a d w4 hr4 (by omega) (by omega)).mono ?_
    rintro e w5 ⟨v5, f5, rfl, ho5, hr5, hb5⟩
    obtain ⟨g5, c5, rfl, _, _⟩ := ho5.form (by omega)
    go_wp2_with fail
    refine (hurtVec_any _ _ n c a d c5 g5 f5 w4 w5 hr5 (by omega) (by omega) hb5 (by omega) (by omega) ho5).mono ?_
    rintro e w6 ⟨v6, d6, f6, rfl, hd6, ho6, hr6, hb6⟩
    obtain ⟨a6, c6, rfl, r6, _⟩ := row_of_owns ho6
    have FF : Hid (DrawRowN w (.returned (.tuple #[.slice (some ⟨b, off, none⟩) d cp, .slice a6 d6 c6])) w6) := hide ⟨b, off, d, cp, F, G, a6, d6, c6, _, rfl, by omega, by omega, prow_butM P4 hb6 hne, HRT.out, r6, hd6, B4.trans (hb6.below (Nat.le_refl _) (by omega)), by omega⟩
    clear ho5 hr5 hb5 ho6 hr6 hb6 P4 B4
    go_wp2_with fail
    refine bodyPost_ret (v := .tuple #[.slice (some ⟨b, off, none⟩) d cp, .slice a6 d6 c6]) ?_ rfl FF.out
    simp [results, Try.results7, go_sem]
  · have hcc : ∀ i, i < d → w4.cell? ⟨b, off + i * 2, none⟩ = some (.int .i64 (F i)) ∧ w4.cell? ⟨b, off + i * 2 + 1, none⟩ = some (.int .i64 (G i)) := by
      rcases P4.lies with h0 | ⟨b', off', e, lt, hc⟩
      · omega
      · cases e; exact hc
    have hbd : Bds F G d := fun j hj => by
      have := HRT.out j hj
      unfold rightB compB at this
      simp only [Bool.and_eq_true, decide_eq_true_eq] at this
      omega
    have I := hide (rinside_any _ _ n c a b off d cp F G w4 hr4 (by omega) (by omega) (by omega) (by omega) hbd hcc)
    clear hcc hbd hr4
    go_wp2_with fail
    refine I.out.mono ?_
    rintro e w5 ⟨v5, f5, rfl, ho5, hr5, hb5⟩
    obtain ⟨a5, c5, rfl, r5, _⟩ := row_of_owns ho5
    have FF : Hid (DrawRowN w (.returned (.tuple #[.slice (some ⟨b, off, none⟩) d cp, .slice a5 d c5])) w5) := hide ⟨b, off, d, cp, F, G, a5, d, c5, _, rfl, by omega, by omega, prow_butM P4 hb5 hne, HRT.out, r5, by omega, B4.trans (hb5.below (Nat.le_refl _) (by omega)), by omega⟩
    clear ho5 hr5 hb5 P4 B4
    go_wp2_with fail
    refine bodyPost_ret (v := .tuple #[.slice (some ⟨b, off, none⟩) d cp, .slice a5 d c5]) ?_ rfl FF.out
    simp [results, Try.results7, go_sem]
end Go.Proofs.Ytoiaamcnmpdglaa
