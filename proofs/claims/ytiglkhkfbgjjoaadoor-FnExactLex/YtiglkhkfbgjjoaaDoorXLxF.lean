/- The laws' eqTokenS, markTokenS, heldTokenS. -/
import Derived.Test.YtiglkhkfbgjjoaaDoorProg
import Derived.Test.YtiglkhkfbgjjoaaDoorXLxE
import Derived.Deep.RegionHeld3
namespace Go.Proofs.YtiglkhkfbgjjoaaDoor
set_option maxRecDepth 20000
open Go.RowKit Go.PlainAid
set_option linter.unusedSimpArgs false
set_option linter.unusedVariables false

/-- The cells of a row of tokens. -/
def tkF (X : List TokD) (i : Nat) : Value := ((tokCells X)[i]?).getD undef
theorem tkF_at {X : List TokD} {j : Nat} (h : j < X.length) : tkF X (j * 4) = .int .i64 X[j].k ∧ tkF X (j * 4 + 1) = .int .i64 (X[j].at_ : Int) ∧ tkF X (j * 4 + 2) = .string X[j].tx ∧ tkF X (j * 4 + 3) = .int .i64 X[j].n := by
  obtain ⟨a, b, c, d⟩ := tokCells_at h
  unfold tkF
  rw [a, b, c, d]
  exact ⟨rfl, rfl, rfl, rfl⟩
theorem eqToken_same (k : Int) (at_ : Nat) (tx : ByteArray) (n : Int) (w : World) :
    Calls Tryd.prog 28 #[.agg #[.int .i64 k, .int .i64 (at_ : Int), .string tx, .int .i64 n], .agg #[.int .i64 k, .int .i64 (at_ : Int), .string tx, .int .i64 n]] w fun e w' => e = .returned (.bool true) ∧ Below w.heap.size w w' := by
  go_enter Tryd.func28, Tryd.ntmps28
  go_wp2
  go_ret
  exact ⟨rfl, ((Below.refl _ _).alloc (Nat.le_refl _) _).alloc (by simp) _⟩
set_option maxHeartbeats 2000000 in
theorem eqTokenS_same (a b : Option Addr) (L c d : Nat) (X : List TokD) (T1 T2 : Nat) (w : World) (hL : X.length = L) (hl : L ≤ 3000) (h1 : SlF T1 w (.slice a L c) L (L * 4) (tkF X)) (h2 : SlF T2 w (.slice b L d) L (L * 4) (tkF X)) :
    Calls Tryd.prog 10 #[.slice a L c, .slice b L d] w fun e w' => e = .returned (.bool true) ∧ Below w.heap.size w w' := by
  have hl' : (L : Int) ≤ 3000 := by omega
  have HL : Hid (X.length = L) := hL
  have H1 : Hid (SlF T1 w (.slice a L c) L (L * 4) (tkF X)) := h1
  have H2 : Hid (SlF T2 w (.slice b L d) L (L * 4) (tkF X)) := h2
  clear h1 h2 hL
  go_enter Tryd.func10, Tryd.ntmps10
  go_wp2
  go_loopw [5] (fun q wr => ∃ j : Nat, j ≤ L ∧ q = .int .i64 j ∧ Hid (Below w.heap.size w wr)) (fun q _ => L - (intOf q).toNat)
  case atStart => exact ⟨0, Nat.zero_le _, rfl, Below.refl _ _⟩
  case round =>
    obtain ⟨j, hj, rfl, hB⟩ := hrel
    by_cases hlt : j < L
    · have hlt' : (j : Int) < L := by omega
      obtain ⟨b1, o1, c1, hv, _, lz1, hc1⟩ := H1.out.parts (k := 0) (by omega)
      simp only [Value.slice.injEq] at hv
      obtain ⟨rfl, _, rfl⟩ := hv
      obtain ⟨b2, o2, c2, hv, _, lz2, hc2⟩ := H2.out.parts (k := 0) (by omega)
      simp only [Value.slice.injEq] at hv
      obtain ⟨rfl, _, rfl⟩ := hv
      have hjX : j < X.length := by rw [HL.out]; exact hlt
      obtain ⟨x0, x1, x2, x3⟩ := tkF_at hjX
      generalize X[j] = x at x0 x1 x2 x3
      obtain ⟨k, at_, tx, n⟩ := x
      simp only at x0 x1 x2 x3
      have KP : ∀ V, Below wr.heap.size wr V → (Below wr.heap.size wr V ∧ V.cell? ⟨b1, o1 + j * 4, none⟩ = some (.int .i64 k) ∧ V.cell? ⟨b1, o1 + j * 4 + 1, none⟩ = some (.int .i64 (at_ : Int)) ∧ V.cell? ⟨b1, o1 + j * 4 + 2, none⟩ = some (.string tx) ∧ V.cell? ⟨b1, o1 + j * 4 + 3, none⟩ = some (.int .i64 n) ∧ V.cell? ⟨b2, o2 + j * 4, none⟩ = some (.int .i64 k) ∧ V.cell? ⟨b2, o2 + j * 4 + 1, none⟩ = some (.int .i64 (at_ : Int)) ∧ V.cell? ⟨b2, o2 + j * 4 + 2, none⟩ = some (.string tx) ∧ V.cell? ⟨b2, o2 + j * 4 + 3, none⟩ = some (.int .i64 n)) := fun V hV => by
        have hV2 := below_next hB.out hV
        refine ⟨hV, ?_, ?_, ?_, ?_, ?_, ?_, ?_, ?_⟩
        · rw [hV2.cell (p := ⟨b1, o1 + j * 4, none⟩) lz1, hc1 (j * 4) (by omega), x0]
        · rw [hV2.cell (p := ⟨b1, o1 + j * 4 + 1, none⟩) lz1, Nat.add_assoc, hc1 (j * 4 + 1) (by omega), x1]
        · rw [hV2.cell (p := ⟨b1, o1 + j * 4 + 2, none⟩) lz1, Nat.add_assoc, hc1 (j * 4 + 2) (by omega), x2]
        · rw [hV2.cell (p := ⟨b1, o1 + j * 4 + 3, none⟩) lz1, Nat.add_assoc, hc1 (j * 4 + 3) (by omega), x3]
        · rw [hV2.cell (p := ⟨b2, o2 + j * 4, none⟩) lz2, hc2 (j * 4) (by omega), x0]
        · rw [hV2.cell (p := ⟨b2, o2 + j * 4 + 1, none⟩) lz2, Nat.add_assoc, hc2 (j * 4 + 1) (by omega), x1]
        · rw [hV2.cell (p := ⟨b2, o2 + j * 4 + 2, none⟩) lz2, Nat.add_assoc, hc2 (j * 4 + 2) (by omega), x2]
        · rw [hV2.cell (p := ⟨b2, o2 + j * 4 + 3, none⟩) lz2, Nat.add_assoc, hc2 (j * 4 + 3) (by omega), x3]
      have bd' := (Below.refl wr.heap.size wr).drew
      clear hc1 hc2 x0 x1 x2 x3 H1 H2 HL
      go_wp2_with fail
      go_region_held3 (fun V => Below wr.heap.size wr V ∧ V.cell? ⟨b1, o1 + j * 4, none⟩ = some (.int .i64 k) ∧ V.cell? ⟨b1, o1 + j * 4 + 1, none⟩ = some (.int .i64 (at_ : Int)) ∧ V.cell? ⟨b1, o1 + j * 4 + 2, none⟩ = some (.string tx) ∧ V.cell? ⟨b1, o1 + j * 4 + 3, none⟩ = some (.int .i64 n) ∧ V.cell? ⟨b2, o2 + j * 4, none⟩ = some (.int .i64 k) ∧ V.cell? ⟨b2, o2 + j * 4 + 1, none⟩ = some (.int .i64 (at_ : Int)) ∧ V.cell? ⟨b2, o2 + j * 4 + 2, none⟩ = some (.string tx) ∧ V.cell? ⟨b2, o2 + j * 4 + 3, none⟩ = some (.int .i64 n)) (first | assumption | exact KP _ bd' | exact KP _ (by assumption)) (first | (go_at_call 28; refine (eqToken_same k at_ tx n _).mono ?_; rintro e w1 ⟨rfl, b1'⟩; have hB1 := below_next (w := wr) (And.left (by assumption)) b1'; clear b1'))
      all_goals
        go_wp2
        go_roundw
        case rel => exact ⟨j + 1, by omega, by go_num, below_next hB.out hB1⟩
        case measure => simp [intOf]; omega
    · have hge : (L : Int) ≤ (j : Int) := by omega
      go_wp2
      go_ret
      exact ⟨rfl, hB.out⟩
theorem markText_is (x : Int) (k : Nat) (w : World) (hx : x = (k : Int)) (h0 : 0 < k) (h1 : k ≤ 20000) :
    Calls Tryd.prog 29 #[.int .i64 x] w fun e w' => e = .returned (.string (mtx k)) ∧ Below w.heap.size w w' := by
  subst hx
  exact markText_at k w h0 h1
/-- A marked token: its fields have the numbers from k on. -/
def mkdT (k : Nat) : TokD := ⟨(k : Int), k + 1, mtx (k + 2), ((k + 3 : Nat) : Int)⟩
def mkd (L : Nat) : List TokD := (List.range L).map fun j => mkdT (1 + 4 * j)
theorem mkd_len (L : Nat) : (mkd L).length = L := by simp [mkd]
theorem mkd_succ (L : Nat) : mkd (L + 1) = mkd L ++ [mkdT (1 + 4 * L)] := by
  unfold mkd
  rw [List.range_succ, List.map_append]
  rfl
theorem mkd_at {L j : Nat} (h : j < (mkd L).length) : (mkd L)[j] = mkdT (1 + 4 * j) := by simp [mkd]
theorem cells_split (A : List TokD) (x : TokD) (R : List TokD) : tokCells (A ++ x :: R) = tokCells A ++ (tok4 x ++ tokCells R) := by
  unfold tokCells
  rw [List.flatMap_append]
  rfl
theorem cells_set (A : List TokD) (x y : TokD) (R : List TokD) (j : Nat) (h : A.length = j) :
    ((((tokCells (A ++ x :: R)).set (j * 4) (.int .i64 y.k)).set (j * 4 + 1) (.int .i64 (y.at_ : Int))).set (j * 4 + 2) (.string y.tx)).set (j * 4 + 3) (.int .i64 y.n) = tokCells (A ++ y :: R) := by
  have hl : (tokCells A).length = j * 4 := by rw [tokCells_len, h]
  rw [cells_split, cells_split]
  have g : ∀ (r : Nat) (Z : List Value) (u : Value), (tokCells A ++ Z).set (j * 4 + r) u = tokCells A ++ Z.set r u := fun r Z u => by
    rw [List.set_append_right _ _ (by omega)]
    congr 2
    omega
  have g0 := g 0
  simp only [Nat.add_zero] at g0
  rw [g0, g, g, g]
  rfl
set_option maxHeartbeats 2000000 in
theorem markTokenS_at (B L : Nat) (v : Value) (X : List TokD) (w : World) (hL : X.length = L) (hl : L ≤ 3000) (hT : Toks B w v X) (hB0 : B ≤ w.heap.size) :
    Calls Tryd.prog 11 #[v, .int .i64 1] w fun e w' => e = .returned (.int .i64 (1 + 4 * (L : Int))) ∧ Toks B w' v (mkd L) ∧ Below B w w' := by
  have hl' : (L : Int) ≤ 3000 := by omega
  obtain ⟨va, vc, rfl⟩ := hT.form
  rw [hL] at hT ⊢
  have HL : Hid (X.length = L) := hL
  have HT : Hid (Toks B w (.slice va L vc) X) := hT
  clear hT hL
  go_enter Tryd.func11, Tryd.ntmps11
  go_wp2
  go_loopw [1, 5] (fun kk q wr => ∃ j : Nat, j ≤ L ∧ kk = .int .i64 (1 + 4 * (j : Int)) ∧ q = .int .i64 j ∧ Hid (Toks B wr (.slice va L vc) (mkd j ++ X.drop j)) ∧ Hid (Below B w wr)) (fun _ q _ => L - (intOf q).toNat)
  case atStart => exact ⟨0, Nat.zero_le _, by go_num, rfl, HT, Below.refl _ _⟩
  case round =>
    obtain ⟨j, hj, rfl, rfl, hT, hB⟩ := hrel
    by_cases hlt : j < L
    · have hlt' : (j : Int) < L := by omega
      have hjX : j < X.length := by rw [HL.out]; exact hlt
      have hlen : (mkd j ++ X.drop j).length = L := by rw [List.length_append, mkd_len, List.length_drop, HL.out]; omega
      have hT' := hT.out
      unfold Toks at hT'
      rw [hlen, List.drop_eq_getElem_cons hjX] at hT'
      obtain ⟨x, hx⟩ : ∃ x, x = X[j] := ⟨_, rfl⟩
      rw [← hx] at hT'
      obtain ⟨g, cap, hv⟩ : ∃ g cap, (Value.slice va L vc) = .slice (some ⟨g, 0, none⟩) L cap := by
        rcases hT'.2 with ⟨_, h0⟩ | ⟨g, cap, cur, h0, _⟩
        · omega
        · exact ⟨g, cap, h0⟩
      simp only [Value.slice.injEq, true_and] at hv
      obtain ⟨rfl, rfl⟩ := hv
      have hgB := (World.ownsRow.lt hT' g rfl)
      obtain ⟨xs, hxs⟩ : ∃ xs, xs = tokCells (mkd j ++ x :: X.drop (j + 1)) := ⟨_, rfl⟩
      rw [← hxs] at hT'
      have HXS : Hid (xs = tokCells (mkd j ++ x :: X.drop (j + 1))) := hxs
      have hxl : xs.length = L * 4 := hT'.1
      clear hxs hx hlen
      have HO : Hid (wr.ownsRow B 32 4 (.slice (some ⟨g, 0, none⟩) L vc) L xs) := hT'
      have q0 : ∀ r, r < L * 4 → ∃ u, wr.cell? ⟨g, r, none⟩ = some u := fun r hr => by rw [hT'.cellAt r hr]; exact ⟨_, List.getElem?_eq_getElem (by omega)⟩
      obtain ⟨u0, e0⟩ := q0 (j * 4) (by omega)
      obtain ⟨u1, e1⟩ := q0 (j * 4 + 1) (by omega)
      have f0 := fun r => hT'.frozenAt r
      obtain ⟨hg1, hg2⟩ := hgB
      clear hT' hT q0 hxl
      have j9 : (j : Int) ≤ 3000 := by omega
      go_wp2_with fail
      obtain ⟨w2, hw2⟩ : ∃ V, V = (wr.setCell ⟨g, j * 4, none⟩ (.int .i64 (1 + 4 * (j : Int)))).setCell ⟨g, j * 4 + 1, none⟩ (.int .i64 (1 + 4 * (j : Int) + 1)) := ⟨_, rfl⟩
      have O2 : w2.ownsRow B 32 4 (.slice (some ⟨g, 0, none⟩) L vc) L ((xs.set (j * 4) (.int .i64 (1 + 4 * (j : Int)))).set (j * 4 + 1) (.int .i64 (1 + 4 * (j : Int) + 1))) := by rw [hw2]; exact ((HO.out.stored _ _).1.stored _ _).1
      have B2 : Below B wr w2 := by rw [hw2]; exact ((Below.refl _ _).setCell hg1 _).setCell hg1 _
      have z2 : g < w2.heap.size := by rw [hw2]; simpa using hg2
      have zz : B ≤ w2.heap.size := by omega
      rw [← hw2]
      clear hw2 e0 e1 f0 HO
      refine (markText_is _ (1 + 4 * j + 2) _ (by omega) (by omega) (by omega)).mono ?_
      rintro e w3 ⟨rfl, b3⟩
      have O3 : w3.ownsRow B 32 4 (.slice (some ⟨g, 0, none⟩) L vc) L ((xs.set (j * 4) (.int .i64 (1 + 4 * (j : Int)))).set (j * 4 + 1) (.int .i64 (1 + 4 * (j : Int) + 1))) := World.ownsRow.kept O2 (row := none) ⟨b3.os, b3.tape, b3.output, b3.size, fun k hk _ => b3.block k hk⟩ (Or.inr (fun h => by cases h))
      have B3 : Hid (Below B w w3) := hB.out.trans (B2.trans (b3.mono zz))
      have hxl := O3.1
      have q0 : ∀ r, r < L * 4 → ∃ u, w3.cell? ⟨g, r, none⟩ = some u := fun r hr => by rw [O3.cellAt r hr]; exact ⟨_, List.getElem?_eq_getElem (by omega)⟩
      obtain ⟨u0, e0⟩ := q0 (j * 4 + 2) (by omega)
      obtain ⟨u1, e1⟩ := q0 (j * 4 + 3) (by omega)
      have f0 := fun r => O3.frozenAt r
      have z3 : g < w3.heap.size := Nat.lt_of_lt_of_le z2 b3.size
      have HO3 : Hid (w3.ownsRow B 32 4 (.slice (some ⟨g, 0, none⟩) L vc) L ((xs.set (j * 4) (.int .i64 (1 + 4 * (j : Int)))).set (j * 4 + 1) (.int .i64 (1 + 4 * (j : Int) + 1)))) := O3
      clear O2 O3 B2 b3 z2 zz hB q0 hxl
      go_wp2
      go_roundw
      case rel =>
        refine ⟨j + 1, by omega, by go_num, by go_num, ?_, (B3.out.setCell hg1 _).setCell hg1 _⟩
        have O4 := ((HO3.out.stored (j * 4 + 2) (.string (mtx (1 + 4 * j + 2)))).1.stored (j * 4 + 3) (.int .i64 (1 + 4 * (j : Int) + 1 + 1 + 1))).1
        have e : (((xs.set (j * 4) (.int .i64 (1 + 4 * (j : Int)))).set (j * 4 + 1) (.int .i64 (1 + 4 * (j : Int) + 1))).set (j * 4 + 2) (.string (mtx (1 + 4 * j + 2)))).set (j * 4 + 3) (.int .i64 (1 + 4 * (j : Int) + 1 + 1 + 1)) = tokCells (mkd (j + 1) ++ X.drop (j + 1)) := by
          have h4 := cells_set (mkd j) x (mkdT (1 + 4 * j)) (X.drop (j + 1)) j (mkd_len j)
          rw [mkd_succ, List.append_assoc, List.singleton_append, ← h4, HXS.out]
          have v0 : (1 + 4 * (j : Int)) = (mkdT (1 + 4 * j)).k := by show (1 + 4 * (j : Int)) = ((1 + 4 * j : Nat) : Int); omega
          have v1 : (1 + 4 * (j : Int) + 1) = ((mkdT (1 + 4 * j)).at_ : Int) := by show (1 + 4 * (j : Int) + 1) = ((1 + 4 * j + 1 : Nat) : Int); omega
          have v3 : (1 + 4 * (j : Int) + 1 + 1 + 1) = (mkdT (1 + 4 * j)).n := by show (1 + 4 * (j : Int) + 1 + 1 + 1) = ((1 + 4 * j + 3 : Nat) : Int); omega
          rw [v3, v1, v0]
          rfl
        show Toks B _ _ _
        unfold Toks
        rw [← e, show (mkd (j + 1) ++ X.drop (j + 1)).length = L by rw [List.length_append, mkd_len, List.length_drop, HL.out]; omega]
        exact O4
      case measure => simp [intOf]; omega
    · have hge : ¬ (j : Int) < L := by omega
      have e : j = L := by omega
      subst e
      have hT2 : Hid (Toks B wr (.slice va j vc) (mkd j)) := by
        have := hT.out
        rw [List.drop_of_length_le (by rw [HL.out]; exact Nat.le_refl _), List.append_nil] at this
        exact this
      clear hT
      go_wp2
      go_ret
      exact ⟨rfl, hT2.out, hB.out⟩
set_option maxHeartbeats 2000000 in
theorem heldTokenS_at (B L : Nat) (v : Value) (w : World) (hl : L ≤ 3000) (hT : Toks B w v (mkd L)) :
    Calls Tryd.prog 12 #[v, .int .i64 1] w fun e w' => e = .returned (.int .i64 (1 + 4 * (L : Int))) ∧ Below w.heap.size w w' := by
  have hl' : (L : Int) ≤ 3000 := by omega
  obtain ⟨va, vc, rfl⟩ := hT.form
  rw [mkd_len] at hT ⊢
  have hS := hT.sl
  rw [mkd_len] at hS
  have HS : Hid (SlF w.heap.size w (.slice va L vc) L (L * 4) (tkF (mkd L))) := hS
  clear hT hS
  go_enter Tryd.func12, Tryd.ntmps12
  go_wp2
  go_loopw [1, 5] (fun kk q wr => ∃ j : Nat, j ≤ L ∧ kk = .int .i64 (1 + 4 * (j : Int)) ∧ q = .int .i64 j ∧ Hid (Below w.heap.size w wr)) (fun _ q _ => L - (intOf q).toNat)
  case atStart => exact ⟨0, Nat.zero_le _, by go_num, rfl, Below.refl _ _⟩
  case round =>
    obtain ⟨j, hj, rfl, rfl, hB⟩ := hrel
    by_cases hlt : j < L
    · have hlt' : (j : Int) < L := by omega
      obtain ⟨b1, o1, c1, hv, lT, lz1, hc1⟩ := HS.out.parts (k := 0) (by omega)
      simp only [Value.slice.injEq] at hv
      obtain ⟨rfl, _, rfl⟩ := hv
      have hjX : j < (mkd L).length := by rw [mkd_len]; exact hlt
      obtain ⟨x0, x1, x2, x3⟩ := tkF_at hjX
      rw [mkd_at hjX] at x0 x1 x2 x3
      have KP : ∀ V, Below wr.heap.size wr V → (Below wr.heap.size wr V ∧ V.cell? ⟨b1, o1 + j * 4, none⟩ = some (.int .i64 (1 + 4 * (j : Int))) ∧ V.cell? ⟨b1, o1 + j * 4 + 1, none⟩ = some (.int .i64 (1 + 4 * (j : Int) + 1)) ∧ V.cell? ⟨b1, o1 + j * 4 + 2, none⟩ = some (.string (mtx (1 + 4 * j + 2))) ∧ V.cell? ⟨b1, o1 + j * 4 + 3, none⟩ = some (.int .i64 (1 + 4 * (j : Int) + 1 + 1 + 1))) := fun V hV => by
        have hV2 := below_next hB.out hV
        refine ⟨hV, ?_, ?_, ?_, ?_⟩
        · rw [hV2.cell (p := ⟨b1, o1 + j * 4, none⟩) lz1, hc1 (j * 4) (by omega), x0]; show some (Value.int .i64 ((1 + 4 * j : Nat) : Int)) = _; rw [show ((1 + 4 * j : Nat) : Int) = 1 + 4 * (j : Int) by omega]
        · rw [hV2.cell (p := ⟨b1, o1 + j * 4 + 1, none⟩) lz1, Nat.add_assoc, hc1 (j * 4 + 1) (by omega), x1]; show some (Value.int .i64 ((1 + 4 * j + 1 : Nat) : Int)) = _; rw [show ((1 + 4 * j + 1 : Nat) : Int) = 1 + 4 * (j : Int) + 1 by omega]
        · rw [hV2.cell (p := ⟨b1, o1 + j * 4 + 2, none⟩) lz1, Nat.add_assoc, hc1 (j * 4 + 2) (by omega), x2]; rfl
        · rw [hV2.cell (p := ⟨b1, o1 + j * 4 + 3, none⟩) lz1, Nat.add_assoc, hc1 (j * 4 + 3) (by omega), x3]; show some (Value.int .i64 ((1 + 4 * j + 3 : Nat) : Int)) = _; rw [show ((1 + 4 * j + 3 : Nat) : Int) = 1 + 4 * (j : Int) + 1 + 1 + 1 by omega]
      obtain ⟨_, p0, p1, p2, p3⟩ := KP wr (Below.refl _ _)
      have lz' : b1 < wr.heap.size := Nat.lt_of_lt_of_le lz1 hB.out.size
      have bd' := (Below.refl wr.heap.size wr).drew
      have j9 : (j : Int) ≤ 3000 := by omega
      have HKP : Hid (∀ V, Below wr.heap.size wr V → _) := KP
      have MT := fun W => markText_is (1 + 4 * (j : Int) + 1 + 1) (1 + 4 * j + 2) W (by omega) (by omega) (by omega)
      clear hc1 x0 x1 x2 x3 HS
      generalize mtx (1 + 4 * j + 2) = M at *
      have HMT : Hid (∀ W, _) := MT
      clear MT
      go_wp2_with fail
      clear p0 p1 p2 p3
      go_region_held3 (fun V => Below wr.heap.size wr V ∧ V.cell? ⟨b1, o1 + j * 4, none⟩ = some (.int .i64 (1 + 4 * (j : Int))) ∧ V.cell? ⟨b1, o1 + j * 4 + 1, none⟩ = some (.int .i64 (1 + 4 * (j : Int) + 1)) ∧ V.cell? ⟨b1, o1 + j * 4 + 2, none⟩ = some (.string M) ∧ V.cell? ⟨b1, o1 + j * 4 + 3, none⟩ = some (.int .i64 (1 + 4 * (j : Int) + 1 + 1 + 1))) (first | assumption | exact HKP.out _ bd' | exact HKP.out _ (by assumption)) (first | (go_at_call 29; refine (HMT.out _).mono ?_; rintro e w1 ⟨rfl, b1'⟩; have hB1 := below_next (w := wr) (And.left (by assumption)) b1'; clear b1'))
      all_goals
        obtain ⟨_, p0, p1, p2, p3⟩ := HKP.out _ hB1
        have lz2 : b1 < w1.heap.size := Nat.lt_of_lt_of_le lz' hB1.size
        go_wp2
        go_roundw
        case rel => exact ⟨j + 1, by omega, by go_num, by go_num, below_next hB.out hB1⟩
        case measure => simp [intOf]; omega
    · have hge : ¬ (j : Int) < L := by omega
      have e : j = L := by omega
      subst e
      go_wp2
      go_ret
      exact ⟨rfl, hB.out⟩
end Go.Proofs.YtiglkhkfbgjjoaaDoor
