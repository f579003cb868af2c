/- The model's l8Letter, l8Digit, l8Plain, l8Marks, l8Token. -/
import Derived.Test.YtiglkhkfbgjjoaaDoorProg
import Derived.Test.YtiglkhkfbgjjoaaDoorXLxA
namespace Go.Proofs.YtiglkhkfbgjjoaaDoor
set_option maxRecDepth 20000
open Go.RowKit Go.PlainAid
set_option linter.unusedSimpArgs false
set_option linter.unusedVariables false

theorem l8Letter_at (r : Int) (w : World) : Calls Tryd.prog 50 #[.int .u8 r] w fun e w' => e = .returned (.bool (ltB r)) ∧ w = w' := by
  by_cases h1 : 97 ≤ r <;> by_cases h2 : r ≤ 122 <;> by_cases h3 : 65 ≤ r <;> by_cases h4 : r ≤ 90
  all_goals
    have e1 : ltB r = decide ((97 ≤ r ∧ r ≤ 122) ∨ (65 ≤ r ∧ r ≤ 90)) := rfl
    simp only [h1, h2, h3, h4] at e1
    simp at e1
    rw [e1]
    clear e1
    go_enter Tryd.func50, Tryd.ntmps50
    go_wp2
    go_ret
    exact ⟨rfl, rfl⟩
theorem l8Digit_at (r : Int) (w : World) : Calls Tryd.prog 52 #[.int .u8 r] w fun e w' => e = .returned (.bool (dgB r)) ∧ w = w' := by
  by_cases h1 : 48 ≤ r <;> by_cases h2 : r ≤ 57
  all_goals
    have e1 : dgB r = decide (48 ≤ r ∧ r ≤ 57) := rfl
    simp only [h1, h2] at e1
    simp at e1
    rw [e1]
    clear e1
    go_enter Tryd.func52, Tryd.ntmps52
    go_wp2
    go_ret
    exact ⟨rfl, rfl⟩
theorem l8Plain_at (r : Int) (w : World) : Calls Tryd.prog 53 #[.int .u8 r] w fun e w' => e = .returned (.bool (plB r)) ∧ w = w' := by
  by_cases h3 : r = 34
  · subst h3
    have e1 : plB 34 = false := rfl
    rw [e1]
    clear e1
    go_enter Tryd.func53, Tryd.ntmps53
    go_wp2
    go_ret
    exact ⟨rfl, rfl⟩
  · have e2 : (r != 34) = true := by simp [h3]
    by_cases h1 : 32 ≤ r <;> by_cases h2 : r ≤ 126
    all_goals
      have e1 : plB r = decide (32 ≤ r ∧ r ≤ 126 ∧ r ≠ 34) := rfl
      simp only [h1, h2, h3, ne_eq] at e1
      simp at e1
      rw [e1]
      clear e1 h3
      go_enter Tryd.func53, Tryd.ntmps53
      go_wp2
      go_ret
      exact ⟨rfl, rfl⟩
theorem l8Marks_at (w : World) :
    Calls Tryd.prog 54 #[] w fun e w' => e = .returned (.slice (some ⟨w.heap.size, 0, none⟩) 21 21) ∧ SlF (w.heap.size + 1) w' (.slice (some ⟨w.heap.size, 0, none⟩) 21 21) 21 21 (fun i => .string (txAt mkS i)) ∧ Below w.heap.size w w' := by
  go_enter Tryd.func54, Tryd.ntmps54
  go_wp2
  go_ret
  refine ⟨rfl, ?_, below_first (Below.refl _ _)⟩
  refine ⟨_, 21, rfl, .inr ⟨w.heap.size, 0, rfl, by omega, by simp, fun i hi => ?_⟩⟩
  rcases i with _ | _ | _ | _ | _ | _ | _ | _ | _ | _ | _ | _ | _ | _ | _ | _ | _ | _ | _ | _ | _ | i
  all_goals first | (simp [go_sem, txAt, mkS]; done) | omega
theorem tok_cells {w W : World} {A B : Array Value} {t : TypeId} (hB : Below ((w.alloc (.cells A t)).alloc (.cells B t)).heap.size ((w.alloc (.cells A t)).alloc (.cells B t)) W) :
    (∀ i, W.cell? ⟨w.heap.size, i, none⟩ = A[i]?) ∧ (∀ i, W.cell? ⟨w.heap.size + 1, i, none⟩ = B[i]?) ∧ w.heap.size + 1 < W.heap.size ∧ Below w.heap.size w W ∧ (∀ i, W.frozen? ⟨w.heap.size, i, none⟩ = false) ∧ (∀ i, W.frozen? ⟨w.heap.size + 1, i, none⟩ = false) := by
  refine ⟨fun i => ?_, fun i => ?_, ?_, ?_, fun i => ?_, fun i => ?_⟩
  · rw [hB.cell (p := ⟨w.heap.size, i, none⟩) (by simp; omega)]; simp [go_sem]
  · rw [hB.cell (p := ⟨w.heap.size + 1, i, none⟩) (by simp)]; simp [go_sem]
  · have := hB.size
    simp at this
    omega
  · exact below_next (((Below.refl w.heap.size w).alloc (Nat.le_refl _) _).alloc (by simp) _) hB
  · rw [hB.frozen (p := ⟨w.heap.size, i, none⟩) (by simp; omega)]; simp [go_sem]
  · rw [hB.frozen (p := ⟨w.heap.size + 1, i, none⟩) (by simp)]; simp [go_sem]
theorem below_two {w : World} {o o2 : Obj} : Below w.heap.size w ((w.alloc o).alloc o2) := ((Below.refl w.heap.size w).alloc (Nat.le_refl _) o).alloc (by simp) o2
set_option maxHeartbeats 1000000 in
theorem l8Token_let (t : ByteArray) (i E : Nat) (q g : Bool) (w : World) (hi : i < t.size) (ht : t.size ≤ 3000) (h : ltB (bt t i) = true) (hE : Hid (runE ltB t i = E)) (hq : isW (t.extract i E) = q) (hg : Hid (decide (12 < E - i) = g)) :
    Calls Tryd.prog 26 #[.string t, .int .i64 (i : Int)] w fun e w' => e = .returned (.tuple #[.agg #[.int .i64 (if q then 2 else 1), .int .i64 (i : Int), .string (t.extract i E), .int .i64 0], .int .i64 (if q then 0 else if g then 4 else 0), .int .i64 (E : Int)]) ∧ Below w.heap.size w w' := by
  have hb := get_bt t
  have hi' : (i : Int) < t.size := by omega
  have ht' : (t.size : Int) ≤ 3000 := by omega
  go_enter Tryd.func26, Tryd.ntmps26
  go_wp2_with fail
  refine (l8Letter_at _ _).mono ?_
  rw [h]
  rintro e w1 ⟨rfl, rfl⟩
  go_wp2_with fail
  go_loopw [7] (fun q wr => wr = ((w.alloc (.cells #[.int .i64 0, .int .i64 0, .string ⟨#[]⟩, .int .i64 0] 32)).alloc (.cells #[.int .i64 0, .int .i64 (i : Int), .string ⟨#[]⟩, .int .i64 0] 32)) ∧ ∃ j : Nat, q = .int .i64 j ∧ i ≤ j ∧ j ≤ t.size ∧ Hid (runE ltB t j = E)) (fun q _ => t.size - (intOf q).toNat)
  case atStart => exact ⟨rfl, i, by go_num, Nat.le_refl _, by omega, hE⟩
  case round =>
    obtain ⟨rfl, j, rfl, hij, hj, hr⟩ := hrel
    by_cases hlt : j < t.size
    · have hlt' : (j : Int) < t.size := by omega
      cases hc : ltB (bt t j) with
      | true =>
        have hr2 : Hid (runE ltB t (j + 1) = E) := by show runE ltB t (j + 1) = E; rw [← runE_yes hlt hc]; exact hr.out
        go_wp2_with (go_at_call 50; refine (l8Letter_at _ _).mono ?_; rw [hc]; rintro e w1 ⟨rfl, rfl⟩)
        go_roundw
        case rel => exact ⟨trivial, j + 1, by go_num, by omega, by omega, hr2⟩
        case measure => simp [intOf]; omega
      | false =>
        have e : j = E := by rw [← hr.out, runE_no hc]
        subst e
        go_wp2_with (go_at_call 50; refine (l8Letter_at _ _).mono ?_; rw [hc]; rintro e w1 ⟨rfl, rfl⟩)
        have ij : (i : Int) ≤ j := by omega
        have js : (j : Int) ≤ t.size := by omega
        cases q with
        | true =>
          go_wp2_with (go_at_call 51; refine (specIsWord_any _ _).mono ?_; rw [hq]; rintro e w1 ⟨rfl, b1⟩; obtain ⟨c1, c2, z1, b2, f1, f2⟩ := tok_cells b1; clear b1)
          (try simp only [Exit.inBlock, Exit.then])
          refine bodyPost_ret (v := .tuple #[.agg #[.int .i64 2, .int .i64 (i : Int), .string (t.extract i j), .int .i64 0], .int .i64 0, .int .i64 (j : Int)]) (by simp [results, Tryd.results26, go_sem, c1, c2, z1]) rfl ⟨rfl, ?_⟩
          repeat' first | exact b2 | refine Below.setCell ?_ (by first | exact Nat.le_refl _ | exact Nat.le_succ _) _
        | false =>
          cases g with
          | true =>
            have hg' : 12 < (j : Int) - i := by have := of_decide_eq_true hg.out; omega
            go_wp2_with (go_at_call 51; refine (specIsWord_any _ _).mono ?_; rw [hq]; rintro e w1 ⟨rfl, b1⟩; obtain ⟨c1, c2, z1, b2, f1, f2⟩ := tok_cells b1; clear b1)
            (try simp only [Exit.inBlock, Exit.then])
            refine bodyPost_ret (v := .tuple #[.agg #[.int .i64 1, .int .i64 (i : Int), .string (t.extract i j), .int .i64 0], .int .i64 4, .int .i64 (j : Int)]) (by simp [results, Tryd.results26, go_sem, c1, c2, z1]) rfl ⟨rfl, ?_⟩
            repeat' first | exact b2 | refine Below.setCell ?_ (by first | exact Nat.le_refl _ | exact Nat.le_succ _) _
          | false =>
            have hg' : ¬ 12 < (j : Int) - i := by have := of_decide_eq_false hg.out; omega
            go_wp2_with (go_at_call 51; refine (specIsWord_any _ _).mono ?_; rw [hq]; rintro e w1 ⟨rfl, b1⟩; obtain ⟨c1, c2, z1, b2, f1, f2⟩ := tok_cells b1; clear b1)
            (try simp only [Exit.inBlock, Exit.then])
            refine bodyPost_ret (v := .tuple #[.agg #[.int .i64 1, .int .i64 (i : Int), .string (t.extract i j), .int .i64 0], .int .i64 0, .int .i64 (j : Int)]) (by simp [results, Tryd.results26, go_sem, c1, c2, z1]) rfl ⟨rfl, ?_⟩
            repeat' first | exact b2 | refine Below.setCell ?_ (by first | exact Nat.le_refl _ | exact Nat.le_succ _) _
    · have hlt' : ¬ (j : Int) < t.size := by omega
      have e : j = E := by rw [← hr.out, runE_end hlt]
      subst e
      go_wp2_with fail
      have ij : (i : Int) ≤ j := by omega
      have js : (j : Int) ≤ t.size := by omega
      cases q with
      | true =>
        go_wp2_with (go_at_call 51; refine (specIsWord_any _ _).mono ?_; rw [hq]; rintro e w1 ⟨rfl, b1⟩; obtain ⟨c1, c2, z1, b2, f1, f2⟩ := tok_cells b1; clear b1)
        (try simp only [Exit.inBlock, Exit.then])
        refine bodyPost_ret (v := .tuple #[.agg #[.int .i64 2, .int .i64 (i : Int), .string (t.extract i j), .int .i64 0], .int .i64 0, .int .i64 (j : Int)]) (by simp [results, Tryd.results26, go_sem, c1, c2, z1]) rfl ⟨rfl, ?_⟩
        repeat' first | exact b2 | refine Below.setCell ?_ (by first | exact Nat.le_refl _ | exact Nat.le_succ _) _
      | false =>
        cases g with
        | true =>
          have hg' : 12 < (j : Int) - i := by have := of_decide_eq_true hg.out; omega
          go_wp2_with (go_at_call 51; refine (specIsWord_any _ _).mono ?_; rw [hq]; rintro e w1 ⟨rfl, b1⟩; obtain ⟨c1, c2, z1, b2, f1, f2⟩ := tok_cells b1; clear b1)
          (try simp only [Exit.inBlock, Exit.then])
          refine bodyPost_ret (v := .tuple #[.agg #[.int .i64 1, .int .i64 (i : Int), .string (t.extract i j), .int .i64 0], .int .i64 4, .int .i64 (j : Int)]) (by simp [results, Tryd.results26, go_sem, c1, c2, z1]) rfl ⟨rfl, ?_⟩
          repeat' first | exact b2 | refine Below.setCell ?_ (by first | exact Nat.le_refl _ | exact Nat.le_succ _) _
        | false =>
          have hg' : ¬ 12 < (j : Int) - i := by have := of_decide_eq_false hg.out; omega
          go_wp2_with (go_at_call 51; refine (specIsWord_any _ _).mono ?_; rw [hq]; rintro e w1 ⟨rfl, b1⟩; obtain ⟨c1, c2, z1, b2, f1, f2⟩ := tok_cells b1; clear b1)
          (try simp only [Exit.inBlock, Exit.then])
          refine bodyPost_ret (v := .tuple #[.agg #[.int .i64 1, .int .i64 (i : Int), .string (t.extract i j), .int .i64 0], .int .i64 0, .int .i64 (j : Int)]) (by simp [results, Tryd.results26, go_sem, c1, c2, z1]) rfl ⟨rfl, ?_⟩
          repeat' first | exact b2 | refine Below.setCell ?_ (by first | exact Nat.le_refl _ | exact Nat.le_succ _) _
end Go.Proofs.YtiglkhkfbgjjoaaDoor
