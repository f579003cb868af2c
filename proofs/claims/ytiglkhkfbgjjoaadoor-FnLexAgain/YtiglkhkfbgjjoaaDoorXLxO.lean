/- The model's l8Token: quoted texts. -/
import Derived.Test.YtiglkhkfbgjjoaaDoorProg
import Derived.Test.YtiglkhkfbgjjoaaDoorXLxN
import Derived.Deep.RegionHeld3
import Derived.BigQuiet
namespace Go.Proofs.YtiglkhkfbgjjoaaDoor
set_option maxRecDepth 20000
open Go.RowKit Go.PlainAid
set_option linter.unusedSimpArgs false
set_option linter.unusedVariables false

set_option maxHeartbeats 1000000 in
theorem l8Token_quo (t : ByteArray) (i E : Nat) (q : Bool) (w : World) (hi : i < t.size) (ht : t.size ≤ 3000) (h : ltB (bt t i) = false) (h2 : dgB (bt t i) = false) (h3 : (bt t i == 34) = true) (hE : Hid (runE plB t (i + 1) = E)) (hq : Hid (decide (t.size ≤ E ∨ bt t E ≠ 34 ∨ 160 < E - i - 1) = q)) :
    Calls Tryd.prog 26 #[.string t, .int .i64 (i : Int)] w fun e w' => e = .returned (.tuple #[.agg #[.int .i64 (if q then 0 else 4), .int .i64 (i : Int), .string (if q then ⟨#[]⟩ else t.extract (i + 1) E), .int .i64 0], .int .i64 (if q then 5 else 0), .int .i64 (if q then (E : Int) else E + 1)]) ∧ Below w.heap.size w w' := by
  have hb := get_bt t
  have hi' : (i : Int) < t.size := by omega
  have ht' : (t.size : Int) ≤ 3000 := by omega
  go_enter Tryd.func26, Tryd.ntmps26
  go_wp2_with fail
  refine (l8Letter_at _ _).mono ?_
  rw [h]
  rintro e w1 ⟨rfl, rfl⟩
  go_wp2_with fail
  refine (l8Digit_at _ _).mono ?_
  rw [h2]
  rintro e w1 ⟨rfl, rfl⟩
  go_wp2_with fail
  go_loopw [7] (fun q wr => wr = ((w.alloc (.cells #[.int .i64 0, .int .i64 0, .string ⟨#[]⟩, .int .i64 0] 32)).alloc (.cells #[.int .i64 0, .int .i64 (i : Int), .string ⟨#[]⟩, .int .i64 0] 32)) ∧ ∃ j : Nat, q = .int .i64 j ∧ i + 1 ≤ j ∧ j ≤ t.size ∧ Hid (runE plB t j = E)) (fun q _ => t.size - (intOf q).toNat)
  case atStart => exact ⟨rfl, i + 1, by go_num, Nat.le_refl _, by omega, hE⟩
  case round =>
    obtain ⟨rfl, j, rfl, hij, hj, hr⟩ := hrel
    have ij : (i : Int) + 1 ≤ j := by omega
    have js : (j : Int) ≤ t.size := by omega
    by_cases hlt : j < t.size
    · have hlt' : (j : Int) < t.size := by omega
      cases hc : plB (bt t j) with
      | true =>
        have hr2 : Hid (runE plB t (j + 1) = E) := by show runE plB t (j + 1) = E; rw [← runE_yes hlt hc]; exact hr.out
        go_wp2_with (go_at_call 53; refine (l8Plain_at _ _).mono ?_; rw [hc]; rintro e w1 ⟨rfl, rfl⟩)
        go_roundw
        case rel => exact ⟨trivial, j + 1, by go_num, by omega, by omega, hr2⟩
        case measure => simp [intOf]; omega
      | false =>
        have e : j = E := by rw [← hr.out, runE_no hc]
        subst e
        cases g1 : (bt t j == 34) with
        | false =>
          have g1' : (bt t j != 34) = true := by simp only [bne, g1]; rfl
          have e : q = true := by rw [← hq.out]; exact decide_eq_true (Or.inr (Or.inl (by simpa using g1)))
          subst e
          clear g1
          go_wp2_with (go_at_call 53; refine (l8Plain_at _ _).mono ?_; rw [hc]; rintro e w1 ⟨rfl, rfl⟩)
          (try simp only [Exit.inBlock, Exit.then])
          refine bodyPost_ret (v := .tuple #[.agg #[.int .i64 0, .int .i64 (i : Int), .string ⟨#[]⟩, .int .i64 0], .int .i64 5, .int .i64 (j : Int)]) (by simp [results, Tryd.results26, go_sem, World.cell?_alloc_lt]) rfl ⟨rfl, ?_⟩
          repeat' first | exact below_two | refine Below.setCell ?_ (by first | exact Nat.le_refl _ | exact Nat.le_succ _) _
        | true =>
          have g1' : (bt t j != 34) = false := by simp only [bne, g1]; rfl
          by_cases g2 : 160 < j - i - 1
          · have g2' : 160 < (j : Int) - i - 1 := by omega
            have e : q = true := by rw [← hq.out]; exact decide_eq_true (Or.inr (Or.inr g2))
            subst e
            clear g1
            go_wp2_with (go_at_call 53; refine (l8Plain_at _ _).mono ?_; rw [hc]; rintro e w1 ⟨rfl, rfl⟩)
            (try simp only [Exit.inBlock, Exit.then])
            refine bodyPost_ret (v := .tuple #[.agg #[.int .i64 0, .int .i64 (i : Int), .string ⟨#[]⟩, .int .i64 0], .int .i64 5, .int .i64 (j : Int)]) (by simp [results, Tryd.results26, go_sem, World.cell?_alloc_lt]) rfl ⟨rfl, ?_⟩
            repeat' first | exact below_two | refine Below.setCell ?_ (by first | exact Nat.le_refl _ | exact Nat.le_succ _) _
          · have g2' : ¬ 160 < (j : Int) - i - 1 := by omega
            have e : q = false := by rw [← hq.out]; exact decide_eq_false (by simp only [not_or, Nat.not_le]; exact ⟨hlt, by simpa using g1, g2⟩)
            subst e
            clear g1
            go_wp2_with (go_at_call 53; refine (l8Plain_at _ _).mono ?_; rw [hc]; rintro e w1 ⟨rfl, rfl⟩)
            (try simp only [Exit.inBlock, Exit.then])
            refine bodyPost_ret (v := .tuple #[.agg #[.int .i64 4, .int .i64 (i : Int), .string (t.extract (i + 1) j), .int .i64 0], .int .i64 0, .int .i64 ((j : Int) + 1)]) (by simp [results, Tryd.results26, go_sem, World.cell?_alloc_lt]) rfl ⟨rfl, ?_⟩
            repeat' first | exact below_two | refine Below.setCell ?_ (by first | exact Nat.le_refl _ | exact Nat.le_succ _) _
    · have hlt' : ¬ (j : Int) < t.size := by omega
      have e : j = E := by rw [← hr.out, runE_end hlt]
      subst e
      have e : q = true := by rw [← hq.out]; exact decide_eq_true (Or.inl (by omega))
      subst e
      have g3 : (t.size : Int) ≤ j := by omega
      go_wp2_with fail
      (try simp only [Exit.inBlock, Exit.then])
      refine bodyPost_ret (v := .tuple #[.agg #[.int .i64 0, .int .i64 (i : Int), .string ⟨#[]⟩, .int .i64 0], .int .i64 5, .int .i64 (j : Int)]) (by simp [results, Tryd.results26, go_sem, World.cell?_alloc_lt]) rfl ⟨rfl, ?_⟩
      repeat' first | exact below_two | refine Below.setCell ?_ (by first | exact Nat.le_refl _ | exact Nat.le_succ _) _
end Go.Proofs.YtiglkhkfbgjjoaaDoor
