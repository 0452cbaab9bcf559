/- l1Num of the model at all texts. -/
import Derived.Test.YtecheolhmohhjaaDoorSC2
namespace Go.Proofs.YtecheolhmohhjaaDoor
open Go.RowKit
set_option maxRecDepth 8000
set_option linter.unusedSimpArgs false
set_option linter.unusedVariables false

theorem nat45 {l : List UInt8} (h : l.head? = some 45) : natL l = none := by
  cases l with
  | nil => cases h
  | cons c r =>
    obtain rfl : c = 45 := Option.some.inj h
    unfold natL
    split
    · rfl
    · show (if 48 ≤ (45 : UInt8).toNat ∧ _ then _ else none) = none
      rw [if_neg (by decide)]

theorem numL_plus {l : List UInt8} (h : minusL l = false) : numL l = (natL l).map fun (n : Nat) => (n : Int) := by unfold numL; rw [h, if_neg (by decide)]

theorem numL_minus {l : List UInt8} (h : minusL l = true) (h' : l.tail.head? ≠ some 48) : numL l = (natL l.tail).map fun (n : Nat) => -(n : Int) := by unfold numL; rw [h, if_pos rfl, if_neg h']

theorem nat_num {l : List UInt8} (h : numL l = (natL l).map fun (n : Nat) => (n : Int)) : natV l = numV l ∧ (natL l).isSome = (numL l).isSome := by
  unfold natV numV
  rw [h]
  cases natL l <;> exact ⟨rfl, rfl⟩

theorem natV_le (l : List UInt8) : 0 ≤ natV l ∧ natV l ≤ 9999999999999999 := by
  unfold natV
  cases h : natL l with
  | none => exact ⟨by decide, by decide⟩
  | some n =>
    obtain ⟨e, hl⟩ := (natL_iff l n).1 h
    have := dec_lt16 (n := n) (by rw [e]; exact hl)
    show 0 ≤ ((n : Nat) : Int) ∧ ((n : Nat) : Int) ≤ _
    omega

theorem list_cons {s : ByteArray} (h : 1 < s.size) : ∃ r, s.data.toList = s[0] :: s[1] :: r := by
  have a := byte_at s 0 (by omega)
  have b := byte_at s 1 h
  match e : s.data.toList with
  | [] => rw [e] at a; cases a
  | [x] => rw [e] at b; cases b
  | x :: y :: r =>
    rw [e] at a b
    exact ⟨r, by rw [Option.some.inj a, Option.some.inj b]⟩

set_option maxHeartbeats 2000000 in
theorem l1Num_any (s : ByteArray) (w : World) (hs : s.size ≤ 9223372036854775807) :
    Calls Tryd.prog 20 #[.string s] w fun e w' => e = .returned (.tuple #[.int .i64 (numV s.data.toList), .bool (numL s.data.toList).isSome]) ∧ Below w.heap.size w w' := by
  have HLen := hide (size_list s)
  have pass : numL s.data.toList = ((natL s.data.toList).map fun (n : Nat) => (n : Int)) → (s.size ≤ 1 ∨ ∃ h : 1 < s.size, s[0] ≠ 45 ∨ (s[0] = 45 ∧ (s[1] = 48 ∨ s[1] = 45))) → Calls Tryd.prog 20 #[.string s] w fun e w' => e = .returned (.tuple #[.int .i64 (numV s.data.toList), .bool (numL s.data.toList).isSome]) ∧ Below w.heap.size w w' := fun h hp => by
    have := l1Num_nat s w hs hp
    rwa [(nat_num h).1, (nat_num h).2] at this
  by_cases h1 : s.size ≤ 1
  · refine pass ?_ (.inl h1)
    have hlen := HLen.out
    match e : s.data.toList with
    | [] => rfl
    | [x] =>
      by_cases hx : x = 45
      · subst hx
        rw [nat45 (l := [45]) rfl]; rfl
      · exact numL_plus (decide_eq_false fun q => hx (Option.some.inj q))
    | x :: y :: r => rw [e] at hlen; simp at hlen; omega
  · have h2 : 1 < s.size := by omega
    obtain ⟨r, hr⟩ := list_cons h2
    by_cases h45 : s[0] = 45
    · by_cases hb : s[1] = 48 ∨ s[1] = 45
      · refine pass ?_ (.inr ⟨h2, .inr ⟨h45, hb⟩⟩)
        have n0 : natL s.data.toList = none := nat45 (by rw [hr, h45]; rfl)
        have hm : minusL s.data.toList = true := decide_eq_true (by rw [hr, h45]; rfl)
        rw [n0]
        rcases hb with hb | hb
        · unfold numL
          rw [hm, if_pos rfl, if_pos (by rw [hr, hb]; rfl)]; rfl
        · rw [numL_minus hm (by rw [hr, hb]; intro q; exact absurd (Option.some.inj q) (by decide)), nat45 (by rw [hr, hb]; rfl)]; rfl
      · have hm : minusL s.data.toList = true := decide_eq_true (by rw [hr, h45]; rfl)
        have nl := numL_minus hm (by rw [hr]; intro q; exact hb (.inl (Option.some.inj q)))
        have htl : (s.extract 1 s.size).data.toList = s.data.toList.tail := by rw [ext_drop, bs_list, List.drop_one]
        obtain ⟨t, ht⟩ : ∃ t, s.extract 1 s.size = t := ⟨_, rfl⟩
        have ts : t.size = s.size - 1 := by rw [← ht, size_list, htl, List.length_tail, ← size_list]
        rw [ht] at htl
        have N := hide (l1Num_nat t w (by omega) (by
          by_cases q : t.size ≤ 1
          · exact .inl q
          · refine .inr ⟨by omega, .inl fun e => hb (.inr ?_)⟩
            have a := byte_at t 0 (by omega)
            have b : t.data.toList[0]? = some s[1] := by rw [htl, hr]; rfl
            rw [Option.some.inj (b.symm.trans a), e]))
        rw [htl] at N
        obtain ⟨v, hv⟩ : ∃ v, natV s.data.toList.tail = v := ⟨_, rfl⟩
        have vb := natV_le s.data.toList.tail
        rw [hv] at N vb
        have e1 : numV s.data.toList = -v := by
          unfold numV
          rw [nl, ← hv]
          unfold natV
          cases natL s.data.toList.tail <;> rfl
        have e2 : (numL s.data.toList).isSome = (natL s.data.toList.tail).isSome := by
          rw [nl]
          cases natL s.data.toList.tail <;> rfl
        obtain ⟨b, hbb⟩ : ∃ b, (natL s.data.toList.tail).isSome = b := ⟨_, rfl⟩
        rw [hbb] at N e2
        rw [e1, e2]
        have g0 : 1 < (s.size : Int) := by omega
        have g1 : (s[0].toNat : Int) = 45 := by rw [h45]; rfl
        have g2 : ¬ (s[1].toNat : Int) = 48 := fun e => hb (.inl (UInt8.toNat_inj.1 (by show _ = 48; omega)))
        have g3 : ¬ (s[1].toNat : Int) = 45 := fun e => hb (.inr (UInt8.toNat_inj.1 (by show _ = 45; omega)))
        have g4 : ((s[1].toNat : Int) != 48) = true := by rw [bne_iff_ne]; exact g2
        have g5 : ((s[1].toNat : Int) != 45) = true := by rw [bne_iff_ne]; exact g3
        have HS := hide hs
        clear pass HLen hr hm nl htl ts hv e1 e2 hbb hb h45
        go_enter Tryd.func20, Tryd.ntmps20
        go_wp2_with fail
        refine N.out.mono ?_
        rintro e w1 ⟨rfl, hb1⟩
        go_wp2_with fail
        refine bodyPost_ret (v := .tuple #[.int .i64 (-v), .bool b]) (by simp [results, Tryd.results20, go_sem]) rfl ⟨rfl, (by repeat' first | with_reducible exact Below.refl _ _ | with_reducible assumption | with_reducible refine below_drewN ?_ _ | with_reducible refine balloc ?_ _ | with_reducible refine Below.drew ?_ | with_reducible refine Below.setCell ?_ (by first | (simp; done) | (simp; omega) | omega) _ | with_reducible refine bstep ?_ (by assumption))⟩
    · refine pass (numL_plus (decide_eq_false fun q => h45 ?_)) (.inr ⟨h2, .inl h45⟩)
      rw [hr] at q
      exact Option.some.inj q
end Go.Proofs.YtecheolhmohhjaaDoor
