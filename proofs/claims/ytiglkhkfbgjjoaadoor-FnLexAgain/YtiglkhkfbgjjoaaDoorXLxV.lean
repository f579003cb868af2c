/- The walk of FnLexAgain. -/
import Derived.Test.YtiglkhkfbgjjoaaDoorProg
import Derived.Test.YtiglkhkfbgjjoaaDoorXLxG
import Derived.Test.YtiglkhkfbgjjoaaDoorXLxU
import Derived.Test.YtiglkhkfbgjjoaaDoorXDrwJ
namespace Go.Proofs.YtiglkhkfbgjjoaaDoor
set_option maxRecDepth 20000
open Go.RowKit Go.PlainAid
set_option linter.unusedSimpArgs false
set_option linter.unusedVariables false

theorem bigLx (a : Option Addr) (n cap : Nat) (w : World) :
    Calls Tryd.prog 13 #[.slice a n cap] w fun e w' => e = .returned (.bool (decide ((1048576 : Int) < n))) ∧ w' = w := by
  go_enter Tryd.func13, Tryd.ntmps13
  go_wp2
  go_ret
  exact ⟨rfl, rfl⟩
theorem wrL_take {X : List TokD} {j : Nat} (h : j < X.length) : wrL (X.take (j + 1)) = wrL (X.take j) ++ ((pieceT X[j]).data.toList ++ [32]) := by
  rw [List.take_succ_eq_append_getElem h]
  unfold wrL
  rw [List.flatMap_append]
  simp
theorem lexN_none (t : ByteArray) : ∀ n i acc, (lexN t n i acc).1 ≠ 0 → (lexN t n i acc).2.2 = []
  | 0, i, acc, h => absurd rfl h
  | n + 1, i, acc, h => by
    unfold lexN at h ⊢
    split
    · rename_i hi
      rw [if_pos hi] at h
      split
      · rename_i h2
        rw [if_pos h2] at h
        exact lexN_none t n _ _ h
      · rename_i h2
        rw [if_neg h2] at h
        split
        · rename_i h3
          rw [if_pos h3] at h
          exact lexN_none t n _ _ h
        · rename_i h3
          rw [if_neg h3] at h
          split
          · rename_i h4
            rw [if_pos h4] at h
            exact lexN_none t n _ _ h
          · rfl
    · rename_i hi
      rw [if_neg hi] at h
      exact absurd rfl h
theorem lexR_none (t : ByteArray) (h : (lexR t).1 ≠ 0) : (lexR t).2.2 = [] := by
  unfold lexR at h ⊢
  split
  · rfl
  · rename_i hL
    rw [if_neg hL] at h
    exact lexN_none t _ _ _ h
theorem lexR_len (t : ByteArray) : (lexR t).2.2.length ≤ 3000 := by
  unfold lexR
  split
  · simp
  · unfold lexF
    have := lexN_many t (t.size - 0) 0 []
    simp at this ⊢
    omega
theorem size_toList (t : ByteArray) : t.toList.length = t.size := by rw [ByteArray.toList_eq, size_list]
theorem isW_small {t : ByteArray} (h : isW t = true) : t.size ≤ 160 := by
  unfold isW inL at h
  obtain ⟨y, hy, he⟩ := List.any_eq_true.1 h
  have e : y.toList = t.toList := by simpa using he
  rw [← size_toList, ← e, size_toList]
  exact (show ∀ m ∈ wordsL, m.size ≤ 160 by decide) _ hy
theorem mk_small : ∀ m ∈ mkS, m.size ≤ 160 := by decide
theorem tok_small {x : TokD} (h : TokOk x) : x.tx.size ≤ 160 := by
  rcases h with ⟨_, _, _, h, _⟩ | ⟨_, _, h, _⟩ | ⟨_, _, h, _⟩ | ⟨_, h, _⟩ | ⟨_, h, _⟩
  · exact isW_small h
  · omega
  · omega
  · exact h
  · exact mk_small _ h
set_option maxHeartbeats 4000000 in
theorem lexAgain_small (a : Option Addr) (n cap : Nat) (w : World) (hn : n ≤ 1048576) (hc : n = 0 ∨ ∃ bb off, a = some ⟨bb, off, none⟩ ∧ bb < w.heap.size ∧ ∀ j, j < n → ∃ x, w.cell? ⟨bb, off + j, none⟩ = some (.int .u8 x)) (hM : MkV w) :
    Calls Tryd.prog 4 #[.slice a n cap] w fun e w' => e = .returned (.bool true) ∧ Below w.heap.size w w' := by
  have hn' : ¬ (1048576 : Int) < (n : Int) := by omega
  have hp : 0 < w.heap.size := hM.1
  have HM : Hid (MkV w) := hM
  have HC : Hid (n = 0 ∨ ∃ bb off, a = some ⟨bb, off, none⟩ ∧ bb < w.heap.size ∧ ∀ j, j < n → ∃ x, w.cell? ⟨bb, off + j, none⟩ = some (.int .u8 x)) := hc
  clear hM hc
  go_enter Tryd.func4, Tryd.ntmps4
  go_wp2_with fail
  refine (bigLx a n cap _).mono ?_
  rintro e w0 ⟨rfl, h0⟩
  rw [h0]
  clear h0 w0
  go_wp2_with fail
  refine (DrawLex_at a n cap _ hn HC.out).mono ?_
  rintro e w1 ⟨t, rfl, ht, b1⟩
  have B1 : Hid (Below w.heap.size w w1) := b1
  clear b1 HC
  have HSp := fun W => specLex_at t W (by omega)
  have HIm := fun W (h : MkV W) => implLex_at t W (by omega) h
  have hlen := lexR_len t
  have hno := lexR_none t
  have hok := lexR_ok t
  generalize lexR t = R at HSp HIm hlen hno hok
  obtain ⟨co, pl, X⟩ := R
  simp only at HSp HIm hlen hno hok
  obtain ⟨jj, hok⟩ := hok
  have HSP : Hid (∀ W, _) := HSp
  have HIM : Hid (∀ W, MkV W → _) := HIm
  have HOK : Hid (ToksOk jj X) := hok
  clear HSp HIm hok ht
  go_wp2_with fail
  refine (HIM.out _ (HM.out.below B1.out hp)).mono ?_
  rintro e w2 ⟨v0, rfl, k1, b2⟩
  obtain ⟨a0, c0, rfl⟩ := k1.form
  obtain ⟨L, hL⟩ : ∃ L, L = X.length := ⟨_, rfl⟩
  rw [← hL] at k1 hlen ⊢
  have hL' : (L : Int) ≤ 3000 := by omega
  have B2 : Hid (Below w.heap.size w w2) := below_next B1.out b2
  have S2 : Hid (SlF w2.heap.size w2 (.slice a0 L c0) L (L * 4) (tkF X)) := by have := k1.sl; rw [← hL] at this; exact this
  clear k1 b2 B1
  go_wp2_with fail
  refine (HSP.out _).mono ?_
  rintro e w3 ⟨v1, rfl, k3, b3⟩
  obtain ⟨a1, c1, rfl⟩ := k3.form
  rw [← hL]
  have B3 : Hid (Below w.heap.size w w3) := below_next B2.out b3
  have Z3 : w2.heap.size ≤ w3.heap.size := b3.size
  have S3 : Hid (SlF w2.heap.size w3 (.slice a0 L c0) L (L * 4) (tkF X)) := S2.out.below b3 (Nat.le_refl _)
  clear k3 b3 B2 S2 HSP
  have HL : Hid (L = X.length) := hL
  have HNO : Hid (co ≠ 0 → X = []) := hno
  clear hL hno
  go_wp2
  go_loopw [10, 11] (fun s q wr => ∃ (j : Nat) (A : ByteArray), j ≤ L ∧ s = .string A ∧ Hid (A.data.toList = wrL (X.take j)) ∧ A.size ≤ 200 * j ∧ q = .int .i64 j ∧ Hid (Below w3.heap.size w3 wr)) (fun _ q _ => L - (intOf q).toNat)
  case atStart => exact ⟨0, ⟨#[]⟩, Nat.zero_le _, rfl, rfl, Nat.le_refl _, rfl, Below.refl _ _⟩
  case round =>
    obtain ⟨j, A, hj, rfl, hA, zA, rfl, hB⟩ := hrel
    by_cases hlt : j < L
    · have hlt' : (j : Int) < L := by omega
      obtain ⟨bb, oo, cc, hv, _, lz, hcs⟩ := (S3.out.below hB.out Z3).parts (k := 0) (by omega)
      simp only [Value.slice.injEq] at hv
      obtain ⟨rfl, _, rfl⟩ := hv
      have hjX : j < X.length := by rw [← HL.out]; exact hlt
      obtain ⟨x0, x1, x2, x3⟩ := tkF_at hjX
      have hx : TokOk X[j] := (HOK.out.1 _ (List.getElem_mem hjX)).1
      have hsm := tok_small hx
      have hw := wrL_take hjX
      have hbef : ∀ m (hm : m < j), (X[m]'(by omega)).at_ < X[j].at_ := fun m hm => HOK.out.2 m j hm hjX
      generalize hgx : X[j] = x at x0 x1 x2 x3 hsm hw hbef
      clear hx
      obtain ⟨k, at_, tx, nn⟩ := x
      simp only at x0 x1 x2 x3 hsm hbef
      have y0 : wr.cell? ⟨bb, oo + j * 4, none⟩ = some (.int .i64 k) := by rw [hcs _ (by omega), x0]
      have y1 : wr.cell? ⟨bb, oo + j * 4 + 1, none⟩ = some (.int .i64 (at_ : Int)) := by rw [Nat.add_assoc, hcs _ (by omega), x1]
      have y2 : wr.cell? ⟨bb, oo + j * 4 + 2, none⟩ = some (.string tx) := by rw [Nat.add_assoc, hcs _ (by omega), x2]
      have HWR : Hid (wrL (X.take (j + 1)) = wrL (X.take j) ++ ((pieceT ⟨k, at_, tx, nn⟩).data.toList ++ [32])) := hw
      clear x0 x1 x2 x3 hw
      have z1 : (A.size : Int) ≤ 600000 := by omega
      have z2 : (tx.size : Int) ≤ 160 := by omega
      have R4 : k = 4 → ∀ D : ByteArray, D.data.toList = A.data.toList ++ ([34] ++ (tx.data.toList ++ [34, 32])) → D.data.toList = wrL (X.take (j + 1)) := fun hk D hD => by
        rw [HWR.out, hD, hA.out]
        subst hk
        simp [pieceT, ByteArray.data_append, Array.toList_append]
      have R5 : k ≠ 4 → ∀ D : ByteArray, D.data.toList = A.data.toList ++ (tx.data.toList ++ [32]) → D.data.toList = wrL (X.take (j + 1)) := fun hk D hD => by
        rw [HWR.out, hD, hA.out, pieceT_no hk]
      have R6 : Hid (k = 4 → ∀ D : ByteArray, D.data.toList = A.data.toList ++ ([34] ++ (tx.data.toList ++ [34, 32])) → D.data.toList = wrL (X.take (j + 1))) := R4
      have R7 : Hid (k ≠ 4 → ∀ D : ByteArray, D.data.toList = A.data.toList ++ (tx.data.toList ++ [32]) → D.data.toList = wrL (X.take (j + 1))) := R5
      clear R4 R5 HWR hgx
      have HA : Hid (A.size ≤ 200 * j) := zA
      rcases Nat.eq_zero_or_pos j with h0 | h0
      · subst h0
        simp only [Nat.zero_mul, Nat.add_zero] at y0 y1 y2
        clear hbef hcs
        by_cases hk : k = 4
        · go_wp2_with fail
          go_quiet (fail)
          go_wp2
          go_roundw
          case rel => exact ⟨0 + 1, _, by omega, rfl, R6.out hk _ (by simp [ByteArray.data_append, Array.toList_append]), by simp [ByteArray.size_append, bsz]; omega, by go_num, below_drewN hB.out _⟩
          case measure => simp [intOf]; omega
        · go_wp2_with fail
          go_quiet (fail)
          go_wp2
          go_roundw
          case rel => exact ⟨0 + 1, _, by omega, rfl, R7.out hk _ (by simp [ByteArray.data_append, Array.toList_append]), by simp [ByteArray.size_append, bsz]; omega, by go_num, below_drewN hB.out _⟩
          case measure => simp [intOf]; omega
      · obtain ⟨m, rfl⟩ : ∃ m, j = m + 1 := ⟨j - 1, by omega⟩
        obtain ⟨u0, u1, u2, u3⟩ := tkF_at (show m < X.length by omega)
        have hat := hbef m (by omega)
        generalize (X[m]'(by omega)).at_ = am at u1 hat
        have y3 : wr.cell? ⟨bb, oo + m * 4 + 1, none⟩ = some (.int .i64 (am : Int)) := by rw [Nat.add_assoc, hcs _ (by omega), u1]
        clear hbef hcs u0 u1 u2 u3
        have hat' : ¬ (at_ : Int) ≤ (am : Int) := by omega
        by_cases hk : k = 4
        · go_wp2_with fail
          go_quiet (fail)
          go_wp2
          go_roundw
          case rel => exact ⟨m + 1 + 1, _, by omega, rfl, R6.out hk _ (by simp [ByteArray.data_append, Array.toList_append]), by simp [ByteArray.size_append, bsz]; omega, by go_num, below_drewN hB.out _⟩
          case measure => simp [intOf]; omega
        · go_wp2_with fail
          go_quiet (fail)
          go_wp2
          go_roundw
          case rel => exact ⟨m + 1 + 1, _, by omega, rfl, R7.out hk _ (by simp [ByteArray.data_append, Array.toList_append]), by simp [ByteArray.size_append, bsz]; omega, by go_num, below_drewN hB.out _⟩
          case measure => simp [intOf]; omega
    · have hge : ¬ (j : Int) < L := by omega
      have e : j = L := by omega
      subst e
      have hA2 : Hid (A.data.toList = wrL X) := by have := hA.out; rw [List.take_of_length_le (by rw [← HL.out]; exact Nat.le_refl _)] at this; exact this
      clear hA
      by_cases hco : co = 0
      · subst hco
        by_cases hz : 3000 < A.size
        · have hz' : (3000 : Int) < (A.size : Int) := by omega
          go_wp2
          go_ret
          exact ⟨rfl, below_next B3.out hB.out⟩
        · have hz' : ¬ (3000 : Int) < (A.size : Int) := by omega
          obtain ⟨Y, y1, y2, y3⟩ := lex_again (A := A) X [] [] (by simpa using hA2.out) (fun x hx => (HOK.out.1 x hx).1)
          have eR : lexR A = (0, 0, Y) := by
            unfold lexR
            rw [if_neg hz]
            simpa using y1
          have HIa := fun W (h : MkV W) => implLex_at A W (by omega) h
          rw [eR] at HIa
          simp only at HIa
          have HIA : Hid (∀ W, MkV W → _) := HIa
          have HY : Hid (∀ j (h1 : j < X.length) (h2 : j < Y.length), Y[j].k = X[j].k ∧ Y[j].tx = X[j].tx ∧ Y[j].n = X[j].n) := y3
          clear HIa eR y1 y3 HIM
          go_wp2_with fail
          refine (HIA.out _ (HM.out.below (below_next B3.out hB.out) hp)).mono ?_
          rintro e w5 ⟨v5, rfl, k5, b5⟩
          obtain ⟨a5, c5, rfl⟩ := k5.form
          have S5 : Hid (SlF w2.heap.size w5 (.slice a0 j c0) j (j * 4) (tkF X)) := (S3.out.below hB.out Z3).below b5 (Nat.le_trans Z3 hB.out.size)
          have yl : Y.length = j := by rw [y2, ← HL.out]
          have T5 : Hid (SlF w5.heap.size w5 (.slice a5 Y.length c5) Y.length (Y.length * 4) (tkF Y)) := k5.sl
          rw [yl] at T5 ⊢
          have HYl : Hid (Y.length = j) := yl
          have B5 : Hid (Below w.heap.size w w5) := below_next (below_next B3.out hB.out) b5
          have z5 : w2.heap.size ≤ w5.heap.size := Nat.le_trans Z3 (Nat.le_trans hB.out.size b5.size)
          clear k5 b5 yl y2 S3 HIA B3 hB Z3
          go_wp2
          go_loopw [15] (fun q wr => ∃ (i : Nat), i ≤ j ∧ q = .int .i64 i ∧ Hid (Below w5.heap.size w5 wr)) (fun q _ => j - (intOf q).toNat)
          case atStart => exact ⟨0, Nat.zero_le _, rfl, Below.refl _ _⟩
          case round =>
            obtain ⟨i, hi, rfl, hB⟩ := hrel
            by_cases hlt : i < j
            · have hlt' : (i : Int) < j := by omega
              obtain ⟨bb, oo, cc, hv, _, lz, hcs⟩ := (S5.out.below hB.out z5).parts (k := 0) (by omega)
              simp only [Value.slice.injEq] at hv
              obtain ⟨rfl, _, rfl⟩ := hv
              obtain ⟨bd, od, cd, hv, _, ld, hds⟩ := (T5.out.below hB.out (Nat.le_refl _)).parts (k := 0) (by omega)
              simp only [Value.slice.injEq] at hv
              obtain ⟨rfl, _, rfl⟩ := hv
              have hjX : i < X.length := by rw [← HL.out]; exact hlt
              have hjY : i < Y.length := by rw [HYl.out]; exact hlt
              obtain ⟨x0, x1, x2, x3⟩ := tkF_at hjX
              obtain ⟨u0, u1, u2, u3⟩ := tkF_at hjY
              obtain ⟨f1, f2, f3⟩ := HY.out i hjX hjY
              rw [f1] at u0
              rw [f2] at u2
              rw [f3] at u3
              generalize X[i].k = k at x0 u0
              generalize X[i].tx = tx at x2 u2
              generalize X[i].n = nn at x3 u3
              have y0 : wr.cell? ⟨bb, oo + i * 4, none⟩ = some (.int .i64 k) := by rw [hcs _ (by omega), x0]
              have y2 : wr.cell? ⟨bb, oo + i * 4 + 2, none⟩ = some (.string tx) := by rw [Nat.add_assoc, hcs _ (by omega), x2]
              have y3 : wr.cell? ⟨bb, oo + i * 4 + 3, none⟩ = some (.int .i64 nn) := by rw [Nat.add_assoc, hcs _ (by omega), x3]
              have v0 : wr.cell? ⟨bd, od + i * 4, none⟩ = some (.int .i64 k) := by rw [hds _ (by omega), u0]
              have v2 : wr.cell? ⟨bd, od + i * 4 + 2, none⟩ = some (.string tx) := by rw [Nat.add_assoc, hds _ (by omega), u2]
              have v3 : wr.cell? ⟨bd, od + i * 4 + 3, none⟩ = some (.int .i64 nn) := by rw [Nat.add_assoc, hds _ (by omega), u3]
              clear x0 x1 x2 x3 u0 u1 u2 u3 f1 f2 f3 hcs hds S5 T5 HY HYl HL
              go_wp2_with fail
              go_quiet (fail)
              go_wp2
              go_roundw
              case rel => exact ⟨i + 1, by omega, by go_num, below_drewN hB.out _⟩
              case measure => simp [intOf]; omega
            · have hge2 : ¬ (i : Int) < j := by omega
              go_wp2
              go_ret
              exact ⟨rfl, below_next B5.out hB.out⟩
      · have hX := HNO.out hco
        have hj0 : (j : Int) = 0 := by have := HL.out; rw [hX] at this; simp at this; omega
        have hco' : (co != 0) = true := by simpa using hco
        go_wp2
        go_ret
        exact ⟨rfl, below_next B3.out hB.out⟩
end Go.Proofs.YtiglkhkfbgjjoaaDoor
