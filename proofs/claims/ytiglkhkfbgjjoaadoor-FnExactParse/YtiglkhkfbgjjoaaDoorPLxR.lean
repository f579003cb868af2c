/- The model's l8Token, all ways, and Lex. -/
import Derived.Test.YtiglkhkfbgjjoaaDoorProg
import Derived.Test.YtiglkhkfbgjjoaaDoorPLxT
import Derived.Test.YtiglkhkfbgjjoaaDoorPLxO
import Derived.Test.YtiglkhkfbgjjoaaDoorPLxQ
namespace Go.Proofs.YtiglkhkfbgjjoaaDoor
set_option maxRecDepth 20000
open Go.RowKit Go.PlainAid
set_option linter.unusedSimpArgs false
set_option linter.unusedVariables false

theorem l8Token_at (t : ByteArray) (i : Nat) (w : World) (hi : i < t.size) (ht : t.size ≤ 3000) :
    Calls Tryd.prog 26 #[.string t, .int .i64 (i : Int)] w fun e w' => e = .returned (.tuple #[.agg #[.int .i64 (tokAt t i).x.k, .int .i64 ((tokAt t i).x.at_ : Int), .string (tokAt t i).x.tx, .int .i64 (tokAt t i).x.n], .int .i64 (tokAt t i).code, .int .i64 ((tokAt t i).e : Int)]) ∧ Below w.heap.size w w' := by
  cases h1 : ltB (bt t i) with
  | true =>
    refine (l8Token_let t i _ _ _ w hi ht h1 rfl rfl rfl).mono ?_
    rintro e w' ⟨rfl, b⟩
    refine ⟨?_, b⟩
    unfold tokAt
    cases hq : isW (t.extract i (runE ltB t i)) <;> by_cases hg : 12 < runE ltB t i - i <;> simp [h1, hq, hg]
  | false =>
    cases h2 : dgB (bt t i) with
    | true =>
      refine (l8Token_dig t i _ _ w hi ht h1 h2 rfl rfl).mono ?_
      rintro e w' ⟨rfl, b⟩
      refine ⟨?_, b⟩
      unfold tokAt
      by_cases hq : 15 < runE dgB t i - i ∨ (1 < runE dgB t i - i ∧ bt t i = 48) ∨ (runE dgB t i < t.size ∧ ltB (bt t (runE dgB t i)) = true) <;> simp [h1, h2, hq]
    | false =>
      cases h3 : (bt t i == 34) with
      | true =>
        have h3' : bt t i = 34 := by simpa using h3
        refine (l8Token_quo t i _ _ w hi ht h1 h2 h3 rfl rfl).mono ?_
        rintro e w' ⟨rfl, b⟩
        refine ⟨?_, b⟩
        by_cases hq : t.size ≤ runE plB t (i + 1) ∨ bt t (runE plB t (i + 1)) ≠ 34 ∨ 160 < runE plB t (i + 1) - i - 1
        · have e1 : decide (t.size ≤ runE plB t (i + 1) ∨ bt t (runE plB t (i + 1)) ≠ 34 ∨ 160 < runE plB t (i + 1) - i - 1) = true := decide_eq_true hq
          have eT : tokAt t i = ⟨5, ⟨0, i, ⟨#[]⟩, 0⟩, runE plB t (i + 1)⟩ := by
            unfold tokAt
            rw [if_neg (by simp [h1]), if_neg (by simp [h2]), if_pos h3', if_pos hq]
          rw [e1, eT]
          rfl
        · have e1 : decide (t.size ≤ runE plB t (i + 1) ∨ bt t (runE plB t (i + 1)) ≠ 34 ∨ 160 < runE plB t (i + 1) - i - 1) = false := decide_eq_false hq
          have eT : tokAt t i = ⟨0, ⟨4, i, t.extract (i + 1) (runE plB t (i + 1)), 0⟩, runE plB t (i + 1) + 1⟩ := by
            unfold tokAt
            rw [if_neg (by simp [h1]), if_neg (by simp [h2]), if_pos h3', if_neg hq]
          rw [e1, eT]
          rfl
      | false =>
        have h3' : ¬ bt t i = 34 := by simpa using h3
        cases hm : mkAt t i with
        | some m =>
          refine (l8Token_mark t i m w hi ht h1 h2 h3 hm).mono ?_
          rintro e w' ⟨rfl, b⟩
          refine ⟨?_, b⟩
          unfold tokAt
          rw [if_neg (by simp [h1]), if_neg (by simp [h2]), if_neg h3', hm]
        | none =>
          refine (l8Token_none t i w hi ht h1 h2 h3 hm).mono ?_
          rintro e w' ⟨rfl, b⟩
          refine ⟨?_, b⟩
          unfold tokAt
          rw [if_neg (by simp [h1]), if_neg (by simp [h2]), if_neg h3', hm]
set_option maxHeartbeats 2000000 in
theorem specLex_at (t : ByteArray) (w : World) (ht0 : t.size ≤ 1048576) :
    Calls Tryd.prog 8 #[.string t] w fun e w' => ∃ v, e = .returned (.tuple #[v, .int .i64 (lexR t).1, .int .i64 ((lexR t).2.1 : Int)]) ∧ Toks w.heap.size w' v (lexR t).2.2 ∧ Below w.heap.size w w' := by
  by_cases hL : 3000 < t.size
  · have hL' : 3000 < (t.size : Int) := by omega
    have e : lexR t = (1, 0, []) := by unfold lexR; rw [if_pos hL]
    rw [e]
    go_enter Tryd.func8, Tryd.ntmps8
    go_wp2
    go_ret3
    exact ⟨_, rfl, Toks.nil _ _, Below.refl _ _⟩
  · have ht : t.size ≤ 3000 := by omega
    have hL' : ¬ 3000 < (t.size : Int) := by omega
    have e : lexR t = lexF t 0 [] := by unfold lexR; rw [if_neg hL]
    rw [e]
    obtain ⟨R, hR⟩ : ∃ R, R = lexF t 0 [] := ⟨_, rfl⟩
    rw [← hR]
    have HR : Hid (lexF t 0 [] = R) := hR.symm
    clear hR e hL ht0
    have hb := get_bt t
    have ht' : (t.size : Int) ≤ 3000 := by omega
    obtain ⟨i0, hi, hz0, hz1, hz2⟩ := info_tok
    go_enter Tryd.func8, Tryd.ntmps8
    go_wp2_with fail
    go_loopw [5, 6] (fun vo q wr => ∃ (i : Nat) (acc : List TokD), q = .int .i64 i ∧ i ≤ t.size ∧ acc.length ≤ i ∧ Toks w.heap.size wr vo acc ∧ Hid (Below w.heap.size w wr) ∧ Hid (lexF t i acc = R)) (fun _ q _ => t.size - (intOf q).toNat)
    case atStart => exact ⟨0, [], by go_num, by omega, by simp, World.ownsRow_lit w #[] 0 (Nat.le_refl _) (by unfold maxLen; omega) rfl, (Below.refl _ _).alloc (Nat.le_refl _) _, HR⟩
    case round =>
      obtain ⟨i, acc, rfl, his, hacc, hT, hB, hr⟩ := hrel
      obtain ⟨va, vc, rfl⟩ := hT.form
      have HT : Hid (Toks w.heap.size wr (.slice va acc.length vc) acc) := hT
      clear hT
      by_cases hlt : i < t.size
      · have hlt' : (i : Int) < t.size := by omega
        cases hbk : bkB (bt t i) with
        | true =>
          have hr2 : Hid (lexF t (i + 1) acc = R) := by show lexF t (i + 1) acc = R; rw [← lexF_blk hlt hbk]; exact hr.out
          rcases of_decide_eq_true hbk with e | e | e
          · have e9 : (bt t i == 9) = true := by simpa using e
            clear e hbk
            go_wp2
            go_roundw
            case rel => exact ⟨i + 1, acc, by go_num, by omega, by omega, HT.out, hB, hr2⟩
            case measure => simp [intOf]; omega
          · have e9 : (bt t i == 9) = false := by rw [e]; rfl
            have e10 : (bt t i == 10) = true := by simpa using e
            clear e hbk
            go_wp2
            go_roundw
            case rel => exact ⟨i + 1, acc, by go_num, by omega, by omega, HT.out, hB, hr2⟩
            case measure => simp [intOf]; omega
          · have e9 : (bt t i == 9) = false := by rw [e]; rfl
            have e10 : (bt t i == 10) = false := by rw [e]; rfl
            have e32 : (bt t i == 32) = true := by simpa using e
            clear e hbk
            go_wp2
            go_roundw
            case rel => exact ⟨i + 1, acc, by go_num, by omega, by omega, HT.out, hB, hr2⟩
            case measure => simp [intOf]; omega
        | false =>
          have hbk' := of_decide_eq_false hbk
          simp only [not_or] at hbk'
          have e9 : (bt t i == 9) = false := by simpa using hbk'.1
          have e10 : (bt t i == 10) = false := by simpa using hbk'.2.1
          have e32 : (bt t i == 32) = false := by simpa using hbk'.2.2
          clear hbk'
          cases hrm : remB t i with
          | true =>
            have hrm' := of_decide_eq_true hrm
            have e45 : (bt t i == 45) = true := by simpa using hrm'.1
            have h1 : (i : Int) + 1 < t.size := by omega
            have h45 : (bt t (i + 1) == 45) = true := by simpa using hrm'.2.2
            have h2 : ((i : Int) + 1).toNat = i + 1 := by omega
            have hr2 : Hid (lexF t (runE lnB t i) acc = R) := by show lexF t (runE lnB t i) acc = R; rw [← lexF_rem hlt hbk hrm]; exact hr.out
            have hgt : Hid (i < runE lnB t i) := rem_gt hrm
            clear hrm' hrm hbk
            go_wp2_with fail
            go_loopw [6] (fun q wz => wz = wr ∧ ∃ j : Nat, q = .int .i64 j ∧ i ≤ j ∧ j ≤ t.size ∧ Hid (runE lnB t j = runE lnB t i)) (fun q _ => t.size - (intOf q).toNat)
            case atStart => exact ⟨rfl, i, by go_num, Nat.le_refl _, his, rfl⟩
            case round =>
              obtain ⟨rfl, j, rfl, hij, hj, hj2⟩ := hrel
              by_cases hjl : j < t.size
              · have hjl' : (j : Int) < t.size := by omega
                cases hc : (bt t j == 10) with
                | false =>
                  have hc2 : (bt t j != 10) = true := by simp only [bne, hc]; rfl
                  have hj3 : Hid (runE lnB t (j + 1) = runE lnB t i) := by show runE lnB t (j + 1) = runE lnB t i; rw [← runE_yes hjl (by simpa [lnB] using hc)]; exact hj2.out
                  clear hc
                  go_wp2
                  go_roundw
                  case rel => exact ⟨trivial, j + 1, by go_num, by omega, by omega, hj3⟩
                  case measure => simp [intOf]; omega
                | true =>
                  have hc2 : (bt t j != 10) = false := by simp only [bne, hc]; rfl
                  have e : runE lnB t i = j := by rw [← hj2.out]; exact runE_no (by simpa [lnB] using hc)
                  rw [e] at hr2 hgt
                  have hgt' := hgt.out
                  clear hc
                  go_wp2
                  go_roundw
                  case rel => exact ⟨j, acc, by go_num, by omega, by omega, HT.out, hB, hr2⟩
                  case measure => simp [intOf]; omega
              · have hjl' : ¬ (j : Int) < t.size := by omega
                have e : runE lnB t i = j := by rw [← hj2.out]; exact runE_end hjl
                rw [e] at hr2 hgt
                have hgt' := hgt.out
                go_wp2
                go_roundw
                case rel => exact ⟨j, acc, by go_num, by omega, by omega, HT.out, hB, hr2⟩
                case measure => simp [intOf]; omega
          | false =>
            have HK := l8Token_at t i
            have hE := tokAt_end hlt
            have hr3 : Hid ((tokAt t i).code = 0 → lexF t (tokAt t i).e (acc ++ [(tokAt t i).x]) = R) := fun h => by rw [← lexF_tok hlt hbk hrm h]; exact hr.out
            have hr4 : Hid ((tokAt t i).code ≠ 0 → ((tokAt t i).code, i, []) = R) := fun h => by rw [← lexF_bad hlt hbk hrm h]; exact hr.out
            generalize tokAt t i = r at HK hE hr3 hr4
            obtain ⟨co, ⟨k, at_, tx, n⟩, en⟩ := r
            simp only at HK hE hr3 hr4
            have HKK : Hid _ := HK
            have HE : Hid (co = 0 → i < en ∧ en ≤ t.size) := hE
            have hrm' := of_decide_eq_false hrm
            clear HK hE hrm hbk
            by_cases e45 : (bt t i == 45) = true
            · have h45 : ¬ (i + 1 < t.size ∧ bt t (i + 1) = 45) := fun h => hrm' ⟨by simpa using e45, h⟩
              clear hrm'
              by_cases h1 : i + 1 < t.size
              · have h1' : (i : Int) + 1 < t.size := by omega
                have h2 : ((i : Int) + 1).toNat = i + 1 := by omega
                have h46 : (bt t (i + 1) == 45) = false := by simpa [h1] using h45
                clear h45
                go_wp2_with fail
                refine (HKK.out _ hlt ht).mono ?_
                rintro e w1 ⟨rfl, b1⟩
                have B1 : Hid (Below w.heap.size w w1) := below_next hB.out b1
                have T1 : Hid (Toks w.heap.size w1 (.slice va acc.length vc) acc) := HT.out.below b1
                clear HKK HT b1
                by_cases hc : co = 0
                · obtain ⟨en1, en2⟩ := HE.out hc
                  have hr5 := hr3.out hc
                  subst hc
                  have HR5 : Hid (lexF t en (acc ++ [⟨k, at_, tx, n⟩]) = R) := hr5
                  clear hr5 hr3 hr4 HE
                  have lz : w.heap.size ≤ w1.heap.size := B1.out.size
                  go_wp2_with (at_builtin; refine wpList_append_own _ rfl _ _ 22 rfl w.heap.size 32 i0 (.agg #[.int .i64 0, .int .i64 0, .string ⟨#[]⟩, .int .i64 0]) 4 40 Tryd.underlying22 hi hz0 hz1 hz2 rfl (by decide) _ acc.length (tokCells acc) rfl ((T1.out.alloc _).alloc _) ⟨w1.heap.size + 1, 0, none⟩ 1 1 (tok4 ⟨k, at_, tx, n⟩) rfl rfl (cell_new4 (by simp) ⟨k, at_, tx, n⟩ _) (tokCells_one (X := [⟨k, at_, tx, n⟩])) (by unfold maxLen; omega) (by omega) (by simp; omega) ?_; intro v' w3 hown' hgrow hnil; clear hnil; have T3 : Hid (Toks w.heap.size w3 v' (acc ++ [⟨k, at_, tx, n⟩])) := Toks.grow hown'; have B3 : Hid (Below w.heap.size w w3) := Below.grown (((B1.out.alloc lz _).alloc (by simp; omega) _)) hgrow (by simp; omega) (fun j hj => (World.ownsRow.lt T1.out j hj).1); clear hown' hgrow T1 B1)
                  go_roundw
                  case rel => exact ⟨en, acc ++ [⟨k, at_, tx, n⟩], by go_num, by omega, by simp; omega, T3.out, B3, HR5⟩
                  case measure => simp [intOf]; omega
                · have hc' : (co != 0) = true := by simpa using hc
                  have e := hr4.out hc
                  subst e
                  clear hr3 hr4 HE hc
                  go_wp2
                  go_ret3
                  exact ⟨_, rfl, Toks.nil _ _, (B1.out.alloc B1.out.size _)⟩
              · have h1' : ¬ (i : Int) + 1 < t.size := by omega
                clear h45
                go_wp2_with fail
                refine (HKK.out _ hlt ht).mono ?_
                rintro e w1 ⟨rfl, b1⟩
                have B1 : Hid (Below w.heap.size w w1) := below_next hB.out b1
                have T1 : Hid (Toks w.heap.size w1 (.slice va acc.length vc) acc) := HT.out.below b1
                clear HKK HT b1
                by_cases hc : co = 0
                · obtain ⟨en1, en2⟩ := HE.out hc
                  have hr5 := hr3.out hc
                  subst hc
                  have HR5 : Hid (lexF t en (acc ++ [⟨k, at_, tx, n⟩]) = R) := hr5
                  clear hr5 hr3 hr4 HE
                  have lz : w.heap.size ≤ w1.heap.size := B1.out.size
                  go_wp2_with (at_builtin; refine wpList_append_own _ rfl _ _ 22 rfl w.heap.size 32 i0 (.agg #[.int .i64 0, .int .i64 0, .string ⟨#[]⟩, .int .i64 0]) 4 40 Tryd.underlying22 hi hz0 hz1 hz2 rfl (by decide) _ acc.length (tokCells acc) rfl ((T1.out.alloc _).alloc _) ⟨w1.heap.size + 1, 0, none⟩ 1 1 (tok4 ⟨k, at_, tx, n⟩) rfl rfl (cell_new4 (by simp) ⟨k, at_, tx, n⟩ _) (tokCells_one (X := [⟨k, at_, tx, n⟩])) (by unfold maxLen; omega) (by omega) (by simp; omega) ?_; intro v' w3 hown' hgrow hnil; clear hnil; have T3 : Hid (Toks w.heap.size w3 v' (acc ++ [⟨k, at_, tx, n⟩])) := Toks.grow hown'; have B3 : Hid (Below w.heap.size w w3) := Below.grown (((B1.out.alloc lz _).alloc (by simp; omega) _)) hgrow (by simp; omega) (fun j hj => (World.ownsRow.lt T1.out j hj).1); clear hown' hgrow T1 B1)
                  go_roundw
                  case rel => exact ⟨en, acc ++ [⟨k, at_, tx, n⟩], by go_num, by omega, by simp; omega, T3.out, B3, HR5⟩
                  case measure => simp [intOf]; omega
                · have hc' : (co != 0) = true := by simpa using hc
                  have e := hr4.out hc
                  subst e
                  clear hr3 hr4 HE hc
                  go_wp2
                  go_ret3
                  exact ⟨_, rfl, Toks.nil _ _, (B1.out.alloc B1.out.size _)⟩
            · have e45 : (bt t i == 45) = false := by simpa using e45
              clear hrm'
              go_wp2_with fail
              refine (HKK.out _ hlt ht).mono ?_
              rintro e w1 ⟨rfl, b1⟩
              have B1 : Hid (Below w.heap.size w w1) := below_next hB.out b1
              have T1 : Hid (Toks w.heap.size w1 (.slice va acc.length vc) acc) := HT.out.below b1
              clear HKK HT b1
              by_cases hc : co = 0
              · obtain ⟨en1, en2⟩ := HE.out hc
                have hr5 := hr3.out hc
                subst hc
                have HR5 : Hid (lexF t en (acc ++ [⟨k, at_, tx, n⟩]) = R) := hr5
                clear hr5 hr3 hr4 HE
                have lz : w.heap.size ≤ w1.heap.size := B1.out.size
                go_wp2_with (at_builtin; refine wpList_append_own _ rfl _ _ 22 rfl w.heap.size 32 i0 (.agg #[.int .i64 0, .int .i64 0, .string ⟨#[]⟩, .int .i64 0]) 4 40 Tryd.underlying22 hi hz0 hz1 hz2 rfl (by decide) _ acc.length (tokCells acc) rfl ((T1.out.alloc _).alloc _) ⟨w1.heap.size + 1, 0, none⟩ 1 1 (tok4 ⟨k, at_, tx, n⟩) rfl rfl (cell_new4 (by simp) ⟨k, at_, tx, n⟩ _) (tokCells_one (X := [⟨k, at_, tx, n⟩])) (by unfold maxLen; omega) (by omega) (by simp; omega) ?_; intro v' w3 hown' hgrow hnil; clear hnil; have T3 : Hid (Toks w.heap.size w3 v' (acc ++ [⟨k, at_, tx, n⟩])) := Toks.grow hown'; have B3 : Hid (Below w.heap.size w w3) := Below.grown (((B1.out.alloc lz _).alloc (by simp; omega) _)) hgrow (by simp; omega) (fun j hj => (World.ownsRow.lt T1.out j hj).1); clear hown' hgrow T1 B1)
                go_roundw
                case rel => exact ⟨en, acc ++ [⟨k, at_, tx, n⟩], by go_num, by omega, by simp; omega, T3.out, B3, HR5⟩
                case measure => simp [intOf]; omega
              · have hc' : (co != 0) = true := by simpa using hc
                have e := hr4.out hc
                subst e
                clear hr3 hr4 HE hc
                go_wp2
                go_ret3
                exact ⟨_, rfl, Toks.nil _ _, (B1.out.alloc B1.out.size _)⟩
      · have hlt' : ¬ (i : Int) < t.size := by omega
        have e : R = (0, 0, acc) := by rw [← hr.out, lexF_end hlt]
        subst e
        go_wp2
        go_ret3
        exact ⟨_, rfl, HT.out, hB.out⟩
end Go.Proofs.YtiglkhkfbgjjoaaDoor
