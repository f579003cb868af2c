/- The program's scanner: isNumber, isClosed, add. -/
import Derived.Test.YtiglkhkfbgjjoaaDoorProg
import Derived.Test.YtiglkhkfbgjjoaaDoorPLxJ
namespace Go.Proofs.YtiglkhkfbgjjoaaDoor
set_option maxRecDepth 20000
open Go.RowKit Go.PlainAid
set_option linter.unusedSimpArgs false
set_option linter.unusedVariables false

theorem clone_at (s : ByteArray) (w : World) (hs : s.size ≤ 3000) :
    Calls Tryd.prog 107 #[.string s] w fun e w' => e = .returned (.string s) ∧ Below w.heap.size w w' := by
  go_enter Tryd.func107, Tryd.ntmps107
  go_wp2_with (go_at_call 152; refine (Tryd.stringslite_Clone _ _ (by omega)).mono ?_; rintro e w1 ⟨rfl, b1⟩)
  go_ret
  exact ⟨rfl, b1⟩
/-- A run of digits that is no number. -/
def badN (t : ByteArray) (i j : Nat) : Bool := decide (15 < j - i ∨ (1 < j - i ∧ bt t i = 48) ∨ (j < t.size ∧ ltB (bt t j) = true))
theorem badN_is (t : ByteArray) (i j : Nat) : badN t i j = (decide (15 < j - i) || ((decide (1 < j - i) && (bt t i == 48)) || (decide (j < t.size) && ltB (bt t j)))) := by
  unfold badN
  rw [Bool.eq_iff_iff]
  simp
set_option maxHeartbeats 1000000 in
theorem isNumber_at (sb : Nat) (t : ByteArray) (fr at_ : Nat) (v : Value) (w : World) (ht : t.size ≤ 3000) (h : Scn w sb t fr at_ v) (hf : fr < at_) (ha : at_ ≤ t.size) :
    Calls Tryd.prog 65 #[.pointer (some ⟨sb, 0, none⟩)] w fun e w' => e = .returned (.bool (!badN t fr at_)) ∧ Below w.heap.size w w' := by
  rw [badN_is]
  have hsz : (t.extract fr at_).size = at_ - fr := by rw [ByteArray.size_extract]; omega
  have hz : ((t.extract fr at_).size : Int) = (at_ : Int) - fr := by omega
  have hb := get_bt (t.extract fr at_)
  have h0 : bt (t.extract fr at_) 0 = bt t fr := by rw [bt_extract t fr at_ 0 ha (by omega), Nat.add_zero]
  have HN := fun W (hW : Scn W sb t fr at_ v) => isNext_ltB sb t fr at_ v W ht hW ha
  have HP := fun W (hW : Scn W sb t fr at_ v) => passed_at sb t fr at_ v W ht hW (by omega) ha
  have HH : Hid (Scn w sb t fr at_ v) := h
  clear h
  generalize t.extract fr at_ = s at hb h0 hz hsz HP
  generalize (decide (at_ < t.size) && ltB (bt t at_)) = q at HN ⊢
  have HNN : Hid (∀ W, Scn W sb t fr at_ v → _) := HN
  have HPP : Hid (∀ W, Scn W sb t fr at_ v → _) := HP
  clear HN HP
  have hl : 0 < (s.size : Int) := by omega
  have hs3 : (s.size : Int) ≤ 3000 := by omega
  by_cases g1 : 1 < at_ - fr
  · have g1' : 1 < (s.size : Int) := by omega
    rw [show decide (1 < at_ - fr) = true from decide_eq_true g1, Bool.true_and]
    cases g2 : (bt t fr == 48) with
    | true =>
      rw [Bool.true_or, Bool.or_true]
      rw [← h0] at g2
      go_enter Tryd.func65, Tryd.ntmps65
      go_wp2_with (go_at_call 63; refine (HPP.out _ HH.out).mono ?_; rintro e w1 ⟨rfl, b1⟩)
      go_ret
      exact ⟨rfl, b1⟩
    | false =>
      rw [Bool.false_or]
      rw [← h0] at g2
      by_cases g3 : 15 < at_ - fr
      · have g3' : ¬ (s.size : Int) ≤ 15 := by omega
        rw [show decide (15 < at_ - fr) = true from decide_eq_true g3, Bool.true_or]
        go_enter Tryd.func65, Tryd.ntmps65
        go_wp2_with (go_at_call 63; refine (HPP.out _ HH.out).mono ?_; rintro e w1 ⟨rfl, b1⟩)
        go_ret
        exact ⟨rfl, b1⟩
      · have g3' : (s.size : Int) ≤ 15 := by omega
        rw [show decide (15 < at_ - fr) = false from decide_eq_false g3, Bool.false_or]
        go_enter Tryd.func65, Tryd.ntmps65
        go_wp2_with (first | (go_at_call 63; refine (HPP.out _ HH.out).mono ?_; rintro e w1 ⟨rfl, b1⟩; have S1 : Hid (Scn w1 sb t fr at_ v) := HH.out.below b1 HH.out.lt) | (go_at_call 58; refine (HNN.out _ S1.out).mono ?_; rintro e w2 ⟨rfl, b2⟩))
        go_ret
        exact ⟨rfl, below_next b1 b2⟩
  · have g1' : ¬ 1 < (s.size : Int) := by omega
    have g3' : (s.size : Int) ≤ 15 := by omega
    rw [show decide (1 < at_ - fr) = false from decide_eq_false g1, Bool.false_and, Bool.false_or, show decide (15 < at_ - fr) = false from decide_eq_false (by omega), Bool.false_or]
    go_enter Tryd.func65, Tryd.ntmps65
    go_wp2_with (first | (go_at_call 63; refine (HPP.out _ HH.out).mono ?_; rintro e w1 ⟨rfl, b1⟩; have S1 : Hid (Scn w1 sb t fr at_ v) := HH.out.below b1 HH.out.lt) | (go_at_call 58; refine (HNN.out _ S1.out).mono ?_; rintro e w2 ⟨rfl, b2⟩))
    go_ret
    exact ⟨rfl, below_next b1 b2⟩
/-- The quotation mark that closes stands at j, and not too late. -/
def clsB (t : ByteArray) (i j : Nat) : Bool := decide (j < t.size) && ((bt t j == 34) && decide ((j : Int) - i - 1 ≤ 160))
set_option maxHeartbeats 1000000 in
theorem isClosed_at (sb : Nat) (t : ByteArray) (fr at_ : Nat) (v : Value) (w : World) (ht : t.size ≤ 3000) (h : Scn w sb t fr at_ v) (hf : fr < at_) (ha : at_ ≤ t.size) :
    Calls Tryd.prog 68 #[.pointer (some ⟨sb, 0, none⟩)] w fun e w' => e = .returned (.bool (clsB t fr at_)) ∧ Below w.heap.size w w' := by
  have hb := get_bt t
  have ht' : (t.size : Int) ≤ 3000 := by omega
  have hl := h.lt
  obtain ⟨c0, c1, c2, c3⟩ := h.cells
  clear h
  have f' : (fr : Int) < at_ := by omega
  have a' : (at_ : Int) ≤ t.size := by omega
  unfold clsB
  by_cases hlt : at_ < t.size
  · have hlt' : (at_ : Int) < t.size := by omega
    rw [show decide (at_ < t.size) = true from decide_eq_true hlt, Bool.true_and]
    cases hq : (bt t at_ == 34) with
    | true =>
      rw [Bool.true_and]
      go_enter Tryd.func68, Tryd.ntmps68
      go_wp2_with fail
      refine wp_region_held_drew (S := fun V => V = w.drew) (by kernel_rfl) (rfl) (fun hHeld => ?_)
      refine tkLx 0 3 (.pointer (some ⟨sb, 0, none⟩)) hHeld rfl ?_
      try simp only [Act.put, List.setIfInBounds_toArray, List.set_cons_zero, List.set_cons_succ]
      refine tkLx 1 4 (.pointer (some ⟨sb, 0, none⟩)) hHeld rfl ?_
      try simp only [Act.put, List.setIfInBounds_toArray, List.set_cons_zero, List.set_cons_succ]
      refine tkLx 2 5 (.pointer (some ⟨sb, 2, none⟩)) hHeld rfl ?_
      try simp only [Act.put, List.setIfInBounds_toArray, List.set_cons_zero, List.set_cons_succ]
      refine tkLx 3 6 (.int .i64 (at_ : Int)) hHeld rfl ?_
      try simp only [Act.put, List.setIfInBounds_toArray, List.set_cons_zero, List.set_cons_succ]
      refine tkLx 4 7 (.pointer (some ⟨sb, 0, none⟩)) hHeld rfl ?_
      try simp only [Act.put, List.setIfInBounds_toArray, List.set_cons_zero, List.set_cons_succ]
      refine tkLx 5 8 (.pointer (some ⟨sb, 0, none⟩)) hHeld rfl ?_
      try simp only [Act.put, List.setIfInBounds_toArray, List.set_cons_zero, List.set_cons_succ]
      refine tkLx 6 9 (.pointer (some ⟨sb, 0, none⟩)) hHeld rfl ?_
      try simp only [Act.put, List.setIfInBounds_toArray, List.set_cons_zero, List.set_cons_succ]
      refine tkLx 7 10 (.string t) hHeld rfl ?_
      try simp only [Act.put, List.setIfInBounds_toArray, List.set_cons_zero, List.set_cons_succ]
      refine tkLx 8 11 (.int .i64 (t.size : Int)) hHeld rfl ?_
      try simp only [Act.put, List.setIfInBounds_toArray, List.set_cons_zero, List.set_cons_succ]
      refine tkLx 9 12 (.bool true) hHeld rfl ?_
      try simp only [Act.put, List.setIfInBounds_toArray, List.set_cons_zero, List.set_cons_succ]
      refine tkLx 10 13 (.bool true) hHeld rfl ?_
      try simp only [Act.put, List.setIfInBounds_toArray, List.set_cons_zero, List.set_cons_succ]
      refine tkLx 11 14 (.pointer (some ⟨sb, 0, none⟩)) hHeld rfl ?_
      try simp only [Act.put, List.setIfInBounds_toArray, List.set_cons_zero, List.set_cons_succ]
      refine tkLx 12 15 (.pointer (some ⟨sb, 0, none⟩)) hHeld rfl ?_
      try simp only [Act.put, List.setIfInBounds_toArray, List.set_cons_zero, List.set_cons_succ]
      refine tkLx 13 16 (.pointer (some ⟨sb, 0, none⟩)) hHeld rfl ?_
      try simp only [Act.put, List.setIfInBounds_toArray, List.set_cons_zero, List.set_cons_succ]
      refine tkLx 14 17 (.string t) hHeld rfl ?_
      try simp only [Act.put, List.setIfInBounds_toArray, List.set_cons_zero, List.set_cons_succ]
      refine tkLx 15 18 (.pointer (some ⟨sb, 0, none⟩)) hHeld rfl ?_
      try simp only [Act.put, List.setIfInBounds_toArray, List.set_cons_zero, List.set_cons_succ]
      refine tkLx 16 19 (.pointer (some ⟨sb, 0, none⟩)) hHeld rfl ?_
      try simp only [Act.put, List.setIfInBounds_toArray, List.set_cons_zero, List.set_cons_succ]
      refine tkLx 17 20 (.pointer (some ⟨sb, 2, none⟩)) hHeld rfl ?_
      try simp only [Act.put, List.setIfInBounds_toArray, List.set_cons_zero, List.set_cons_succ]
      refine tkLx 18 21 (.int .i64 (at_ : Int)) hHeld rfl ?_
      try simp only [Act.put, List.setIfInBounds_toArray, List.set_cons_zero, List.set_cons_succ]
      refine tkLx 19 22 (.int .u8 (bt t at_)) hHeld rfl ?_
      try simp only [Act.put, List.setIfInBounds_toArray, List.set_cons_zero, List.set_cons_succ]
      refine tkLx 20 23 (.bool true) hHeld rfl ?_
      try simp only [Act.put, List.setIfInBounds_toArray, List.set_cons_zero, List.set_cons_succ]
      refine tkLx 21 24 (.bool true) hHeld rfl ?_
      try simp only [Act.put, List.setIfInBounds_toArray, List.set_cons_zero, List.set_cons_succ]
      refine tkLx 22 25 (.bool true) hHeld rfl ?_
      try simp only [Act.put, List.setIfInBounds_toArray, List.set_cons_zero, List.set_cons_succ]
      refine tkLx 23 26 (.pointer (some ⟨sb, 0, none⟩)) hHeld rfl ?_
      try simp only [Act.put, List.setIfInBounds_toArray, List.set_cons_zero, List.set_cons_succ]
      refine tkLx 24 27 (.pointer (some ⟨sb, 0, none⟩)) hHeld rfl ?_
      try simp only [Act.put, List.setIfInBounds_toArray, List.set_cons_zero, List.set_cons_succ]
      refine tkLx 25 28 (.pointer (some ⟨sb, 2, none⟩)) hHeld rfl ?_
      try simp only [Act.put, List.setIfInBounds_toArray, List.set_cons_zero, List.set_cons_succ]
      refine tkLx 26 29 (.int .i64 (at_ : Int)) hHeld rfl ?_
      try simp only [Act.put, List.setIfInBounds_toArray, List.set_cons_zero, List.set_cons_succ]
      refine tkLx 27 30 (.pointer (some ⟨sb, 0, none⟩)) hHeld rfl ?_
      try simp only [Act.put, List.setIfInBounds_toArray, List.set_cons_zero, List.set_cons_succ]
      refine tkLx 28 31 (.pointer (some ⟨sb, 0, none⟩)) hHeld rfl ?_
      try simp only [Act.put, List.setIfInBounds_toArray, List.set_cons_zero, List.set_cons_succ]
      refine tkLx 29 32 (.pointer (some ⟨sb, 1, none⟩)) hHeld rfl ?_
      try simp only [Act.put, List.setIfInBounds_toArray, List.set_cons_zero, List.set_cons_succ]
      refine tkLx 30 33 (.int .i64 (fr : Int)) hHeld rfl ?_
      try simp only [Act.put, List.setIfInBounds_toArray, List.set_cons_zero, List.set_cons_succ]
      refine wpAnyH_take (i := 31) (oi := { dst := some 34, op := _, type := _, pos := _, after := _, guard := _ }) (v := .int .i64 ((at_ : Int) - fr)) rfl (by kernel_rfl) (by kernel_rfl) (by kernel_rfl) (fun _ _ _ h => h) (Or.inl ⟨by kernel_rfl, ?_⟩) hHeld ?_
      · intro w hSw
        (try dsimp only at hSw)
        go_simp
        exact IntWalk.i64_in _ ⟨by omega, by omega⟩
      try simp only [Act.put, List.setIfInBounds_toArray, List.set_cons_zero, List.set_cons_succ]
      refine wpAnyH_take (i := 32) (oi := { dst := some 35, op := _, type := _, pos := _, after := _, guard := _ }) (v := .int .i64 ((at_ : Int) - fr - 1)) rfl (by kernel_rfl) (by kernel_rfl) (by kernel_rfl) (fun _ _ _ h => h) (Or.inl ⟨by kernel_rfl, ?_⟩) hHeld ?_
      · intro w hSw
        (try dsimp only at hSw)
        go_simp
        exact IntWalk.i64_in _ ⟨by omega, by omega⟩
      try simp only [Act.put, List.setIfInBounds_toArray, List.set_cons_zero, List.set_cons_succ]
      refine tkLx 33 36 (.bool (decide ((at_ : Int) - fr - 1 ≤ 160))) hHeld rfl ?_
      try simp only [Act.put, List.setIfInBounds_toArray, List.set_cons_zero, List.set_cons_succ]
      refine tkLx 34 37 (.bool (decide ((at_ : Int) - fr - 1 ≤ 160))) hHeld rfl ?_
      try simp only [Act.put, List.setIfInBounds_toArray, List.set_cons_zero, List.set_cons_succ]
      refine tkLx 35 2 (.bool (decide ((at_ : Int) - fr - 1 ≤ 160))) hHeld rfl ?_
      try simp only [Act.put, List.setIfInBounds_toArray, List.set_cons_zero, List.set_cons_succ]
      refine wpAnyH_done (by kernel_rfl) ?_ _
      go_wp2
      go_ret
      exact ⟨rfl, (Below.refl _ _).drew⟩
    | false =>
      rw [Bool.false_and]
      go_enter Tryd.func68, Tryd.ntmps68
      go_wp2_with fail
      refine wp_region_held_drew (S := fun V => V = w.drew) (by kernel_rfl) (rfl) (fun hHeld => ?_)
      refine tkLx 0 3 (.pointer (some ⟨sb, 0, none⟩)) hHeld rfl ?_
      try simp only [Act.put, List.setIfInBounds_toArray, List.set_cons_zero, List.set_cons_succ]
      refine tkLx 1 4 (.pointer (some ⟨sb, 0, none⟩)) hHeld rfl ?_
      try simp only [Act.put, List.setIfInBounds_toArray, List.set_cons_zero, List.set_cons_succ]
      refine tkLx 2 5 (.pointer (some ⟨sb, 2, none⟩)) hHeld rfl ?_
      try simp only [Act.put, List.setIfInBounds_toArray, List.set_cons_zero, List.set_cons_succ]
      refine tkLx 3 6 (.int .i64 (at_ : Int)) hHeld rfl ?_
      try simp only [Act.put, List.setIfInBounds_toArray, List.set_cons_zero, List.set_cons_succ]
      refine tkLx 4 7 (.pointer (some ⟨sb, 0, none⟩)) hHeld rfl ?_
      try simp only [Act.put, List.setIfInBounds_toArray, List.set_cons_zero, List.set_cons_succ]
      refine tkLx 5 8 (.pointer (some ⟨sb, 0, none⟩)) hHeld rfl ?_
      try simp only [Act.put, List.setIfInBounds_toArray, List.set_cons_zero, List.set_cons_succ]
      refine tkLx 6 9 (.pointer (some ⟨sb, 0, none⟩)) hHeld rfl ?_
      try simp only [Act.put, List.setIfInBounds_toArray, List.set_cons_zero, List.set_cons_succ]
      refine tkLx 7 10 (.string t) hHeld rfl ?_
      try simp only [Act.put, List.setIfInBounds_toArray, List.set_cons_zero, List.set_cons_succ]
      refine tkLx 8 11 (.int .i64 (t.size : Int)) hHeld rfl ?_
      try simp only [Act.put, List.setIfInBounds_toArray, List.set_cons_zero, List.set_cons_succ]
      refine tkLx 9 12 (.bool true) hHeld rfl ?_
      try simp only [Act.put, List.setIfInBounds_toArray, List.set_cons_zero, List.set_cons_succ]
      refine tkLx 10 13 (.bool true) hHeld rfl ?_
      try simp only [Act.put, List.setIfInBounds_toArray, List.set_cons_zero, List.set_cons_succ]
      refine tkLx 11 14 (.pointer (some ⟨sb, 0, none⟩)) hHeld rfl ?_
      try simp only [Act.put, List.setIfInBounds_toArray, List.set_cons_zero, List.set_cons_succ]
      refine tkLx 12 15 (.pointer (some ⟨sb, 0, none⟩)) hHeld rfl ?_
      try simp only [Act.put, List.setIfInBounds_toArray, List.set_cons_zero, List.set_cons_succ]
      refine tkLx 13 16 (.pointer (some ⟨sb, 0, none⟩)) hHeld rfl ?_
      try simp only [Act.put, List.setIfInBounds_toArray, List.set_cons_zero, List.set_cons_succ]
      refine tkLx 14 17 (.string t) hHeld rfl ?_
      try simp only [Act.put, List.setIfInBounds_toArray, List.set_cons_zero, List.set_cons_succ]
      refine tkLx 15 18 (.pointer (some ⟨sb, 0, none⟩)) hHeld rfl ?_
      try simp only [Act.put, List.setIfInBounds_toArray, List.set_cons_zero, List.set_cons_succ]
      refine tkLx 16 19 (.pointer (some ⟨sb, 0, none⟩)) hHeld rfl ?_
      try simp only [Act.put, List.setIfInBounds_toArray, List.set_cons_zero, List.set_cons_succ]
      refine tkLx 17 20 (.pointer (some ⟨sb, 2, none⟩)) hHeld rfl ?_
      try simp only [Act.put, List.setIfInBounds_toArray, List.set_cons_zero, List.set_cons_succ]
      refine tkLx 18 21 (.int .i64 (at_ : Int)) hHeld rfl ?_
      try simp only [Act.put, List.setIfInBounds_toArray, List.set_cons_zero, List.set_cons_succ]
      refine tkLx 19 22 (.int .u8 (bt t at_)) hHeld rfl ?_
      try simp only [Act.put, List.setIfInBounds_toArray, List.set_cons_zero, List.set_cons_succ]
      refine tkLx 20 23 (.bool false) hHeld rfl ?_
      try simp only [Act.put, List.setIfInBounds_toArray, List.set_cons_zero, List.set_cons_succ]
      refine tkLx 21 24 (.bool false) hHeld rfl ?_
      try simp only [Act.put, List.setIfInBounds_toArray, List.set_cons_zero, List.set_cons_succ]
      refine tkLx 22 25 (.bool false) hHeld rfl ?_
      try simp only [Act.put, List.setIfInBounds_toArray, List.set_cons_zero, List.set_cons_succ]
      refine tkLu 23 26 hHeld rfl ?_
      try simp only [Act.put, List.setIfInBounds_toArray, List.set_cons_zero, List.set_cons_succ]
      refine tkLu 24 27 hHeld rfl ?_
      try simp only [Act.put, List.setIfInBounds_toArray, List.set_cons_zero, List.set_cons_succ]
      refine tkLu 25 28 hHeld rfl ?_
      try simp only [Act.put, List.setIfInBounds_toArray, List.set_cons_zero, List.set_cons_succ]
      refine tkLu 26 29 hHeld rfl ?_
      try simp only [Act.put, List.setIfInBounds_toArray, List.set_cons_zero, List.set_cons_succ]
      refine tkLu 27 30 hHeld rfl ?_
      try simp only [Act.put, List.setIfInBounds_toArray, List.set_cons_zero, List.set_cons_succ]
      refine tkLu 28 31 hHeld rfl ?_
      try simp only [Act.put, List.setIfInBounds_toArray, List.set_cons_zero, List.set_cons_succ]
      refine tkLu 29 32 hHeld rfl ?_
      try simp only [Act.put, List.setIfInBounds_toArray, List.set_cons_zero, List.set_cons_succ]
      refine tkLu 30 33 hHeld rfl ?_
      try simp only [Act.put, List.setIfInBounds_toArray, List.set_cons_zero, List.set_cons_succ]
      refine tkLu 31 34 hHeld rfl ?_
      try simp only [Act.put, List.setIfInBounds_toArray, List.set_cons_zero, List.set_cons_succ]
      refine tkLu 32 35 hHeld rfl ?_
      try simp only [Act.put, List.setIfInBounds_toArray, List.set_cons_zero, List.set_cons_succ]
      refine tkLu 33 36 hHeld rfl ?_
      try simp only [Act.put, List.setIfInBounds_toArray, List.set_cons_zero, List.set_cons_succ]
      refine tkLx 34 37 (.bool false) hHeld rfl ?_
      try simp only [Act.put, List.setIfInBounds_toArray, List.set_cons_zero, List.set_cons_succ]
      refine tkLx 35 2 (.bool false) hHeld rfl ?_
      try simp only [Act.put, List.setIfInBounds_toArray, List.set_cons_zero, List.set_cons_succ]
      refine wpAnyH_done (by kernel_rfl) ?_ _
      go_wp2
      go_ret
      exact ⟨rfl, (Below.refl _ _).drew⟩
  · have hlt' : ¬ (at_ : Int) < t.size := by omega
    rw [show decide (at_ < t.size) = false from decide_eq_false hlt, Bool.false_and]
    go_enter Tryd.func68, Tryd.ntmps68
    go_wp2_with fail
    refine wp_region_held_drew (S := fun V => V = w.drew) (by kernel_rfl) (rfl) (fun hHeld => ?_)
    refine tkLx 0 3 (.pointer (some ⟨sb, 0, none⟩)) hHeld rfl ?_
    try simp only [Act.put, List.setIfInBounds_toArray, List.set_cons_zero, List.set_cons_succ]
    refine tkLx 1 4 (.pointer (some ⟨sb, 0, none⟩)) hHeld rfl ?_
    try simp only [Act.put, List.setIfInBounds_toArray, List.set_cons_zero, List.set_cons_succ]
    refine tkLx 2 5 (.pointer (some ⟨sb, 2, none⟩)) hHeld rfl ?_
    try simp only [Act.put, List.setIfInBounds_toArray, List.set_cons_zero, List.set_cons_succ]
    refine tkLx 3 6 (.int .i64 (at_ : Int)) hHeld rfl ?_
    try simp only [Act.put, List.setIfInBounds_toArray, List.set_cons_zero, List.set_cons_succ]
    refine tkLx 4 7 (.pointer (some ⟨sb, 0, none⟩)) hHeld rfl ?_
    try simp only [Act.put, List.setIfInBounds_toArray, List.set_cons_zero, List.set_cons_succ]
    refine tkLx 5 8 (.pointer (some ⟨sb, 0, none⟩)) hHeld rfl ?_
    try simp only [Act.put, List.setIfInBounds_toArray, List.set_cons_zero, List.set_cons_succ]
    refine tkLx 6 9 (.pointer (some ⟨sb, 0, none⟩)) hHeld rfl ?_
    try simp only [Act.put, List.setIfInBounds_toArray, List.set_cons_zero, List.set_cons_succ]
    refine tkLx 7 10 (.string t) hHeld rfl ?_
    try simp only [Act.put, List.setIfInBounds_toArray, List.set_cons_zero, List.set_cons_succ]
    refine tkLx 8 11 (.int .i64 (t.size : Int)) hHeld rfl ?_
    try simp only [Act.put, List.setIfInBounds_toArray, List.set_cons_zero, List.set_cons_succ]
    refine tkLx 9 12 (.bool false) hHeld rfl ?_
    try simp only [Act.put, List.setIfInBounds_toArray, List.set_cons_zero, List.set_cons_succ]
    refine tkLx 10 13 (.bool false) hHeld rfl ?_
    try simp only [Act.put, List.setIfInBounds_toArray, List.set_cons_zero, List.set_cons_succ]
    refine tkLu 11 14 hHeld rfl ?_
    try simp only [Act.put, List.setIfInBounds_toArray, List.set_cons_zero, List.set_cons_succ]
    refine tkLu 12 15 hHeld rfl ?_
    try simp only [Act.put, List.setIfInBounds_toArray, List.set_cons_zero, List.set_cons_succ]
    refine tkLu 13 16 hHeld rfl ?_
    try simp only [Act.put, List.setIfInBounds_toArray, List.set_cons_zero, List.set_cons_succ]
    refine tkLu 14 17 hHeld rfl ?_
    try simp only [Act.put, List.setIfInBounds_toArray, List.set_cons_zero, List.set_cons_succ]
    refine tkLu 15 18 hHeld rfl ?_
    try simp only [Act.put, List.setIfInBounds_toArray, List.set_cons_zero, List.set_cons_succ]
    refine tkLu 16 19 hHeld rfl ?_
    try simp only [Act.put, List.setIfInBounds_toArray, List.set_cons_zero, List.set_cons_succ]
    refine tkLu 17 20 hHeld rfl ?_
    try simp only [Act.put, List.setIfInBounds_toArray, List.set_cons_zero, List.set_cons_succ]
    refine tkLu 18 21 hHeld rfl ?_
    try simp only [Act.put, List.setIfInBounds_toArray, List.set_cons_zero, List.set_cons_succ]
    refine tkLu 19 22 hHeld rfl ?_
    try simp only [Act.put, List.setIfInBounds_toArray, List.set_cons_zero, List.set_cons_succ]
    refine tkLu 20 23 hHeld rfl ?_
    try simp only [Act.put, List.setIfInBounds_toArray, List.set_cons_zero, List.set_cons_succ]
    refine tkLx 21 24 (.bool false) hHeld rfl ?_
    try simp only [Act.put, List.setIfInBounds_toArray, List.set_cons_zero, List.set_cons_succ]
    refine tkLx 22 25 (.bool false) hHeld rfl ?_
    try simp only [Act.put, List.setIfInBounds_toArray, List.set_cons_zero, List.set_cons_succ]
    refine tkLu 23 26 hHeld rfl ?_
    try simp only [Act.put, List.setIfInBounds_toArray, List.set_cons_zero, List.set_cons_succ]
    refine tkLu 24 27 hHeld rfl ?_
    try simp only [Act.put, List.setIfInBounds_toArray, List.set_cons_zero, List.set_cons_succ]
    refine tkLu 25 28 hHeld rfl ?_
    try simp only [Act.put, List.setIfInBounds_toArray, List.set_cons_zero, List.set_cons_succ]
    refine tkLu 26 29 hHeld rfl ?_
    try simp only [Act.put, List.setIfInBounds_toArray, List.set_cons_zero, List.set_cons_succ]
    refine tkLu 27 30 hHeld rfl ?_
    try simp only [Act.put, List.setIfInBounds_toArray, List.set_cons_zero, List.set_cons_succ]
    refine tkLu 28 31 hHeld rfl ?_
    try simp only [Act.put, List.setIfInBounds_toArray, List.set_cons_zero, List.set_cons_succ]
    refine tkLu 29 32 hHeld rfl ?_
    try simp only [Act.put, List.setIfInBounds_toArray, List.set_cons_zero, List.set_cons_succ]
    refine tkLu 30 33 hHeld rfl ?_
    try simp only [Act.put, List.setIfInBounds_toArray, List.set_cons_zero, List.set_cons_succ]
    refine tkLu 31 34 hHeld rfl ?_
    try simp only [Act.put, List.setIfInBounds_toArray, List.set_cons_zero, List.set_cons_succ]
    refine tkLu 32 35 hHeld rfl ?_
    try simp only [Act.put, List.setIfInBounds_toArray, List.set_cons_zero, List.set_cons_succ]
    refine tkLu 33 36 hHeld rfl ?_
    try simp only [Act.put, List.setIfInBounds_toArray, List.set_cons_zero, List.set_cons_succ]
    refine tkLx 34 37 (.bool false) hHeld rfl ?_
    try simp only [Act.put, List.setIfInBounds_toArray, List.set_cons_zero, List.set_cons_succ]
    refine tkLx 35 2 (.bool false) hHeld rfl ?_
    try simp only [Act.put, List.setIfInBounds_toArray, List.set_cons_zero, List.set_cons_succ]
    refine wpAnyH_done (by kernel_rfl) ?_ _
    go_wp2
    go_ret
    exact ⟨rfl, (Below.refl _ _).drew⟩
end Go.Proofs.YtiglkhkfbgjjoaaDoor
