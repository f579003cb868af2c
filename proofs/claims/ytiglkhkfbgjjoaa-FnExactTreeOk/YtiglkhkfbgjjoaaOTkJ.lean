/- The program's isKnotOf. -/
import Derived.Test.YtiglkhkfbgjjoaaProg
import Derived.Test.YtiglkhkfbgjjoaaOTkI
namespace Go.Proofs.Ytiglkhkfbgjjoaa
set_option maxRecDepth 20000
open Go.RowKit Go.PlainAid Go.Maps
set_option linter.unusedSimpArgs false
set_option linter.unusedVariables false

theorem fitL_ones (n : Nat) (ks : List Int) : fitL (List.replicate n 1) ks = (decide (ks.length = n) && ks.all exB) := by
  by_cases h : ks.length = n
  · subst h
    rw [fitL_rep, all_ex]
    simp
  · rw [decide_eq_false h, Bool.false_and]
    exact fitL_bad (by simp; omega)
theorem fitL_ask2 (ks : List Int) : fitL [1, 3] ks = (decide (ks.length = 2) && askB ks) := by
  match ks with
  | [] => rfl
  | [x] => simp [fitL]
  | [x, y] => simp [fitL, askB, clsOk_1, clsOk_3]
  | x :: y :: z :: ks => rw [fitL_bad (by simp)]; simp
theorem fitL_ask3 (ks : List Int) (h : ks.length = 3) : fitL [1, 3, 3] ks = askB ks := by
  match ks, h with
  | [x, y, z], _ => simp [fitL, askB, clsOk_1, clsOk_3]
theorem kof0 (k : Int) (ks : List Int) (h : k = 1 ∨ k = 2 ∨ k = 3 ∨ k = 4 ∨ k = 5 ∨ k = 22) : kofB k ks = decide (ks.length = 0) := by
  have e : shp k ks.length = [] := by rcases h with rfl | rfl | rfl | rfl | rfl | rfl <;> rfl
  have e2 : clsK k ≠ 0 := by rcases h with rfl | rfl | rfl | rfl | rfl | rfl <;> decide
  unfold kofB
  rw [e, decide_eq_true e2, Bool.true_and]
  cases ks with
  | nil => rfl
  | cons x xs => simp [fitL]
theorem kof1 (k : Int) (ks : List Int) (h : k = 11 ∨ k = 14 ∨ k = 15 ∨ k = 19 ∨ k = 23) : kofB k ks = (decide (ks.length = 1) && ks.all exB) := by
  have e : shp k ks.length = List.replicate 1 1 := by rcases h with rfl | rfl | rfl | rfl | rfl <;> rfl
  have e2 : clsK k ≠ 0 := by rcases h with rfl | rfl | rfl | rfl | rfl <;> decide
  unfold kofB
  rw [e, decide_eq_true e2, Bool.true_and, fitL_ones]
theorem kof2 (k : Int) (ks : List Int) (h : k = 8 ∨ k = 10 ∨ k = 12 ∨ k = 13 ∨ k = 24) : kofB k ks = (decide (ks.length = 2) && ks.all exB) := by
  have e : shp k ks.length = List.replicate 2 1 := by rcases h with rfl | rfl | rfl | rfl | rfl <;> rfl
  have e2 : clsK k ≠ 0 := by rcases h with rfl | rfl | rfl | rfl | rfl <;> decide
  unfold kofB
  rw [e, decide_eq_true e2, Bool.true_and, fitL_ones]
theorem kof16 (ks : List Int) : kofB 16 ks = (decide (ks.length = 3) && ks.all exB) := by
  show (true && fitL (List.replicate 3 1) ks) = _
  rw [Bool.true_and, fitL_ones]
theorem kof7 (ks : List Int) : kofB 7 ks = ks.all flB := by
  show (true && fitL (List.replicate ks.length 5) ks) = _
  rw [Bool.true_and, fitL_rep]
  congr 1
  funext k
  exact clsOk_5 k
theorem kof21 (ks : List Int) : kofB 21 ks = ks.all stB := by
  show (true && fitL (List.replicate ks.length 2) ks) = _
  rw [Bool.true_and, fitL_rep]
  congr 1
  funext k
  exact clsOk_2 k
theorem kof9 (ks : List Int) : kofB 9 ks = (decide (0 < ks.length) && ks.all exB) := by
  show (true && fitL (List.replicate (ks.length - 1 + 1) 1) ks) = _
  rw [Bool.true_and, fitL_ones]
  congr 1
  exact decide_eq_decide.2 (by omega)
theorem kof6n : kofB 6 [] = false := rfl
theorem kof6 (ks : List Int) (k : Int) : kofB 6 (ks ++ [k]) = (blB k && ks.all paB) := by
  have e : shp 6 (ks ++ [k]).length = List.replicate ks.length 4 ++ [3] := by
    show List.replicate ((ks ++ [k]).length - 1) 4 ++ [3] = _
    simp
  unfold kofB
  rw [e, decide_eq_true (by decide : clsK 6 ≠ 0), Bool.true_and, fitL_snoc _ _ _ _ (by simp), fitL_rep, clsOk_3, Bool.and_comm]
  congr 2
  funext k
  exact clsOk_4 k
theorem kof18 (ks : List Int) : kofB 18 ks = (decide (ks.length = 2) && askB ks) := by
  show (true && fitL [1, 3] ks) = _
  rw [Bool.true_and, fitL_ask2]
theorem kof17 (ks : List Int) : kofB 17 ks = ((decide (ks.length = 2) && askB ks) || (decide (ks.length = 3) && askB ks)) := by
  show (true && fitL (if ks.length = 3 then [1, 3, 3] else [1, 3]) ks) = _
  rw [Bool.true_and]
  by_cases h : ks.length = 3
  · rw [if_pos h, fitL_ask3 ks h, decide_eq_true h, decide_eq_false (by omega), Bool.false_and, Bool.true_and, Bool.false_or]
  · rw [if_neg h, fitL_ask2, decide_eq_false h, Bool.false_and, Bool.or_false]
theorem kof20 (ks : List Int) : kofB 20 ks = decide (ks = [9]) := by
  show (true && fitL [6] ks) = _
  rw [Bool.true_and]
  match ks with
  | [] => rfl
  | [x] => simp [fitL, clsOk_6]
  | x :: y :: ks => rw [fitL_bad (by simp)]; simp
theorem kofX (k : Int) (ks : List Int) (h : ¬ (1 ≤ k ∧ k ≤ 24)) : kofB k ks = false := by
  have e : clsK k = 0 := by
    unfold clsK
    repeat (first | omega | split)
  unfold kofB
  rw [decide_eq_false (fun h => h e), Bool.false_and]
theorem len_is (ks : List Int) (n : Nat) : decide ((ks.length : Int) = (n : Int)) = decide (ks.length = n) := decide_eq_decide.2 (by omega)
set_option maxHeartbeats 1000000 in
theorem knotOf1 (a : Option Addr) (c : Nat) (ks : List Int) (B : Nat) (w : World) (hI : IR B w (.slice a ks.length c) ks) (hn : ks.length ≤ 1048576) :
    Calls Try.prog 16 #[.int .i64 1, .slice a ks.length c] w fun e w' => e = .returned (.bool (kofB 1 ks)) ∧ Below w.heap.size w w' := by
  have hn' : (ks.length : Int) ≤ 1048576 := by omega
  rw [kof0 _ ks (by decide), ← len_is ks 0]
  clear hI
  go_enter Try.func16, Try.ntmps16
  go_wp2
  go_ret
  exact ⟨by first | rfl | (simp; done) | (simp; rw [Bool.eq_iff_iff]; simp), Below.refl _ _⟩
set_option maxHeartbeats 1000000 in
theorem knotOf2 (a : Option Addr) (c : Nat) (ks : List Int) (B : Nat) (w : World) (hI : IR B w (.slice a ks.length c) ks) (hn : ks.length ≤ 1048576) :
    Calls Try.prog 16 #[.int .i64 2, .slice a ks.length c] w fun e w' => e = .returned (.bool (kofB 2 ks)) ∧ Below w.heap.size w w' := by
  have hn' : (ks.length : Int) ≤ 1048576 := by omega
  rw [kof0 _ ks (by decide), ← len_is ks 0]
  clear hI
  go_enter Try.func16, Try.ntmps16
  go_wp2
  go_ret
  exact ⟨by first | rfl | (simp; done) | (simp; rw [Bool.eq_iff_iff]; simp), Below.refl _ _⟩
set_option maxHeartbeats 1000000 in
theorem knotOf3 (a : Option Addr) (c : Nat) (ks : List Int) (B : Nat) (w : World) (hI : IR B w (.slice a ks.length c) ks) (hn : ks.length ≤ 1048576) :
    Calls Try.prog 16 #[.int .i64 3, .slice a ks.length c] w fun e w' => e = .returned (.bool (kofB 3 ks)) ∧ Below w.heap.size w w' := by
  have hn' : (ks.length : Int) ≤ 1048576 := by omega
  rw [kof0 _ ks (by decide), ← len_is ks 0]
  clear hI
  go_enter Try.func16, Try.ntmps16
  go_wp2
  go_ret
  exact ⟨by first | rfl | (simp; done) | (simp; rw [Bool.eq_iff_iff]; simp), Below.refl _ _⟩
set_option maxHeartbeats 1000000 in
theorem knotOf4 (a : Option Addr) (c : Nat) (ks : List Int) (B : Nat) (w : World) (hI : IR B w (.slice a ks.length c) ks) (hn : ks.length ≤ 1048576) :
    Calls Try.prog 16 #[.int .i64 4, .slice a ks.length c] w fun e w' => e = .returned (.bool (kofB 4 ks)) ∧ Below w.heap.size w w' := by
  have hn' : (ks.length : Int) ≤ 1048576 := by omega
  rw [kof0 _ ks (by decide), ← len_is ks 0]
  clear hI
  go_enter Try.func16, Try.ntmps16
  go_wp2
  go_ret
  exact ⟨by first | rfl | (simp; done) | (simp; rw [Bool.eq_iff_iff]; simp), Below.refl _ _⟩
set_option maxHeartbeats 1000000 in
theorem knotOf5 (a : Option Addr) (c : Nat) (ks : List Int) (B : Nat) (w : World) (hI : IR B w (.slice a ks.length c) ks) (hn : ks.length ≤ 1048576) :
    Calls Try.prog 16 #[.int .i64 5, .slice a ks.length c] w fun e w' => e = .returned (.bool (kofB 5 ks)) ∧ Below w.heap.size w w' := by
  have hn' : (ks.length : Int) ≤ 1048576 := by omega
  rw [kof0 _ ks (by decide), ← len_is ks 0]
  clear hI
  go_enter Try.func16, Try.ntmps16
  go_wp2
  go_ret
  exact ⟨by first | rfl | (simp; done) | (simp; rw [Bool.eq_iff_iff]; simp), Below.refl _ _⟩
set_option maxHeartbeats 1000000 in
theorem knotOf22 (a : Option Addr) (c : Nat) (ks : List Int) (B : Nat) (w : World) (hI : IR B w (.slice a ks.length c) ks) (hn : ks.length ≤ 1048576) :
    Calls Try.prog 16 #[.int .i64 22, .slice a ks.length c] w fun e w' => e = .returned (.bool (kofB 22 ks)) ∧ Below w.heap.size w w' := by
  have hn' : (ks.length : Int) ≤ 1048576 := by omega
  rw [kof0 _ ks (by decide), ← len_is ks 0]
  clear hI
  go_enter Try.func16, Try.ntmps16
  go_wp2
  go_ret
  exact ⟨by first | rfl | (simp; done) | (simp; rw [Bool.eq_iff_iff]; simp), Below.refl _ _⟩
set_option maxHeartbeats 1000000 in
theorem knotOf11 (a : Option Addr) (c : Nat) (ks : List Int) (B : Nat) (w : World) (hI : IR B w (.slice a ks.length c) ks) (hn : ks.length ≤ 1048576) :
    Calls Try.prog 16 #[.int .i64 11, .slice a ks.length c] w fun e w' => e = .returned (.bool (kofB 11 ks)) ∧ Below w.heap.size w w' := by
  have hn' : (ks.length : Int) ≤ 1048576 := by omega
  rw [kof1 _ ks (by decide), ← len_is ks 1]
  have HA : Hid (Calls _ _ _ _ _) := areEx_at a c ks 1 _ w hI.sl hn
  clear hI
  go_enter Try.func16, Try.ntmps16
  go_wp2_with (go_at_call 31; refine HA.out.mono ?_; rintro e w3 ⟨rfl, hw3⟩; rw [hw3]; clear hw3 w3)
  go_ret
  exact ⟨rfl, Below.refl _ _⟩
set_option maxHeartbeats 1000000 in
theorem knotOf14 (a : Option Addr) (c : Nat) (ks : List Int) (B : Nat) (w : World) (hI : IR B w (.slice a ks.length c) ks) (hn : ks.length ≤ 1048576) :
    Calls Try.prog 16 #[.int .i64 14, .slice a ks.length c] w fun e w' => e = .returned (.bool (kofB 14 ks)) ∧ Below w.heap.size w w' := by
  have hn' : (ks.length : Int) ≤ 1048576 := by omega
  rw [kof1 _ ks (by decide), ← len_is ks 1]
  have HA : Hid (Calls _ _ _ _ _) := areEx_at a c ks 1 _ w hI.sl hn
  clear hI
  go_enter Try.func16, Try.ntmps16
  go_wp2_with (go_at_call 31; refine HA.out.mono ?_; rintro e w3 ⟨rfl, hw3⟩; rw [hw3]; clear hw3 w3)
  go_ret
  exact ⟨rfl, Below.refl _ _⟩
set_option maxHeartbeats 1000000 in
theorem knotOf15 (a : Option Addr) (c : Nat) (ks : List Int) (B : Nat) (w : World) (hI : IR B w (.slice a ks.length c) ks) (hn : ks.length ≤ 1048576) :
    Calls Try.prog 16 #[.int .i64 15, .slice a ks.length c] w fun e w' => e = .returned (.bool (kofB 15 ks)) ∧ Below w.heap.size w w' := by
  have hn' : (ks.length : Int) ≤ 1048576 := by omega
  rw [kof1 _ ks (by decide), ← len_is ks 1]
  have HA : Hid (Calls _ _ _ _ _) := areEx_at a c ks 1 _ w hI.sl hn
  clear hI
  go_enter Try.func16, Try.ntmps16
  go_wp2_with (go_at_call 31; refine HA.out.mono ?_; rintro e w3 ⟨rfl, hw3⟩; rw [hw3]; clear hw3 w3)
  go_ret
  exact ⟨rfl, Below.refl _ _⟩
set_option maxHeartbeats 1000000 in
theorem knotOf19 (a : Option Addr) (c : Nat) (ks : List Int) (B : Nat) (w : World) (hI : IR B w (.slice a ks.length c) ks) (hn : ks.length ≤ 1048576) :
    Calls Try.prog 16 #[.int .i64 19, .slice a ks.length c] w fun e w' => e = .returned (.bool (kofB 19 ks)) ∧ Below w.heap.size w w' := by
  have hn' : (ks.length : Int) ≤ 1048576 := by omega
  rw [kof1 _ ks (by decide), ← len_is ks 1]
  have HA : Hid (Calls _ _ _ _ _) := areEx_at a c ks 1 _ w hI.sl hn
  clear hI
  go_enter Try.func16, Try.ntmps16
  go_wp2_with (go_at_call 31; refine HA.out.mono ?_; rintro e w3 ⟨rfl, hw3⟩; rw [hw3]; clear hw3 w3)
  go_ret
  exact ⟨rfl, Below.refl _ _⟩
set_option maxHeartbeats 1000000 in
theorem knotOf23 (a : Option Addr) (c : Nat) (ks : List Int) (B : Nat) (w : World) (hI : IR B w (.slice a ks.length c) ks) (hn : ks.length ≤ 1048576) :
    Calls Try.prog 16 #[.int .i64 23, .slice a ks.length c] w fun e w' => e = .returned (.bool (kofB 23 ks)) ∧ Below w.heap.size w w' := by
  have hn' : (ks.length : Int) ≤ 1048576 := by omega
  rw [kof1 _ ks (by decide), ← len_is ks 1]
  have HA : Hid (Calls _ _ _ _ _) := areEx_at a c ks 1 _ w hI.sl hn
  clear hI
  go_enter Try.func16, Try.ntmps16
  go_wp2_with (go_at_call 31; refine HA.out.mono ?_; rintro e w3 ⟨rfl, hw3⟩; rw [hw3]; clear hw3 w3)
  go_ret
  exact ⟨rfl, Below.refl _ _⟩
set_option maxHeartbeats 1000000 in
theorem knotOf8 (a : Option Addr) (c : Nat) (ks : List Int) (B : Nat) (w : World) (hI : IR B w (.slice a ks.length c) ks) (hn : ks.length ≤ 1048576) :
    Calls Try.prog 16 #[.int .i64 8, .slice a ks.length c] w fun e w' => e = .returned (.bool (kofB 8 ks)) ∧ Below w.heap.size w w' := by
  have hn' : (ks.length : Int) ≤ 1048576 := by omega
  rw [kof2 _ ks (by decide), ← len_is ks 2]
  have HA : Hid (Calls _ _ _ _ _) := areEx_at a c ks 2 _ w hI.sl hn
  clear hI
  go_enter Try.func16, Try.ntmps16
  go_wp2_with (go_at_call 31; refine HA.out.mono ?_; rintro e w3 ⟨rfl, hw3⟩; rw [hw3]; clear hw3 w3)
  go_ret
  exact ⟨rfl, Below.refl _ _⟩
set_option maxHeartbeats 1000000 in
theorem knotOf10 (a : Option Addr) (c : Nat) (ks : List Int) (B : Nat) (w : World) (hI : IR B w (.slice a ks.length c) ks) (hn : ks.length ≤ 1048576) :
    Calls Try.prog 16 #[.int .i64 10, .slice a ks.length c] w fun e w' => e = .returned (.bool (kofB 10 ks)) ∧ Below w.heap.size w w' := by
  have hn' : (ks.length : Int) ≤ 1048576 := by omega
  rw [kof2 _ ks (by decide), ← len_is ks 2]
  have HA : Hid (Calls _ _ _ _ _) := areEx_at a c ks 2 _ w hI.sl hn
  clear hI
  go_enter Try.func16, Try.ntmps16
  go_wp2_with (go_at_call 31; refine HA.out.mono ?_; rintro e w3 ⟨rfl, hw3⟩; rw [hw3]; clear hw3 w3)
  go_ret
  exact ⟨rfl, Below.refl _ _⟩
set_option maxHeartbeats 1000000 in
theorem knotOf12 (a : Option Addr) (c : Nat) (ks : List Int) (B : Nat) (w : World) (hI : IR B w (.slice a ks.length c) ks) (hn : ks.length ≤ 1048576) :
    Calls Try.prog 16 #[.int .i64 12, .slice a ks.length c] w fun e w' => e = .returned (.bool (kofB 12 ks)) ∧ Below w.heap.size w w' := by
  have hn' : (ks.length : Int) ≤ 1048576 := by omega
  rw [kof2 _ ks (by decide), ← len_is ks 2]
  have HA : Hid (Calls _ _ _ _ _) := areEx_at a c ks 2 _ w hI.sl hn
  clear hI
  go_enter Try.func16, Try.ntmps16
  go_wp2_with (go_at_call 31; refine HA.out.mono ?_; rintro e w3 ⟨rfl, hw3⟩; rw [hw3]; clear hw3 w3)
  go_ret
  exact ⟨rfl, Below.refl _ _⟩
set_option maxHeartbeats 1000000 in
theorem knotOf13 (a : Option Addr) (c : Nat) (ks : List Int) (B : Nat) (w : World) (hI : IR B w (.slice a ks.length c) ks) (hn : ks.length ≤ 1048576) :
    Calls Try.prog 16 #[.int .i64 13, .slice a ks.length c] w fun e w' => e = .returned (.bool (kofB 13 ks)) ∧ Below w.heap.size w w' := by
  have hn' : (ks.length : Int) ≤ 1048576 := by omega
  rw [kof2 _ ks (by decide), ← len_is ks 2]
  have HA : Hid (Calls _ _ _ _ _) := areEx_at a c ks 2 _ w hI.sl hn
  clear hI
  go_enter Try.func16, Try.ntmps16
  go_wp2_with (go_at_call 31; refine HA.out.mono ?_; rintro e w3 ⟨rfl, hw3⟩; rw [hw3]; clear hw3 w3)
  go_ret
  exact ⟨rfl, Below.refl _ _⟩
set_option maxHeartbeats 1000000 in
theorem knotOf24 (a : Option Addr) (c : Nat) (ks : List Int) (B : Nat) (w : World) (hI : IR B w (.slice a ks.length c) ks) (hn : ks.length ≤ 1048576) :
    Calls Try.prog 16 #[.int .i64 24, .slice a ks.length c] w fun e w' => e = .returned (.bool (kofB 24 ks)) ∧ Below w.heap.size w w' := by
  have hn' : (ks.length : Int) ≤ 1048576 := by omega
  rw [kof2 _ ks (by decide), ← len_is ks 2]
  have HA : Hid (Calls _ _ _ _ _) := areEx_at a c ks 2 _ w hI.sl hn
  clear hI
  go_enter Try.func16, Try.ntmps16
  go_wp2_with (go_at_call 31; refine HA.out.mono ?_; rintro e w3 ⟨rfl, hw3⟩; rw [hw3]; clear hw3 w3)
  go_ret
  exact ⟨rfl, Below.refl _ _⟩
set_option maxHeartbeats 1000000 in
theorem knotOf16 (a : Option Addr) (c : Nat) (ks : List Int) (B : Nat) (w : World) (hI : IR B w (.slice a ks.length c) ks) (hn : ks.length ≤ 1048576) :
    Calls Try.prog 16 #[.int .i64 16, .slice a ks.length c] w fun e w' => e = .returned (.bool (kofB 16 ks)) ∧ Below w.heap.size w w' := by
  have hn' : (ks.length : Int) ≤ 1048576 := by omega
  rw [kof16 ks, ← len_is ks 3]
  have HA : Hid (Calls _ _ _ _ _) := areEx_at a c ks 3 _ w hI.sl hn
  clear hI
  go_enter Try.func16, Try.ntmps16
  go_wp2_with (go_at_call 31; refine HA.out.mono ?_; rintro e w3 ⟨rfl, hw3⟩; rw [hw3]; clear hw3 w3)
  go_ret
  exact ⟨rfl, Below.refl _ _⟩
set_option maxHeartbeats 1000000 in
theorem knotOf7 (a : Option Addr) (c : Nat) (ks : List Int) (B : Nat) (w : World) (hI : IR B w (.slice a ks.length c) ks) (hn : ks.length ≤ 1048576) :
    Calls Try.prog 16 #[.int .i64 7, .slice a ks.length c] w fun e w' => e = .returned (.bool (kofB 7 ks)) ∧ Below w.heap.size w w' := by
  have hn' : (ks.length : Int) ≤ 1048576 := by omega
  rw [kof7 ks]
  have HA : Hid (Calls _ _ _ _ _) := all_isField a c ks _ w hI.sl hn
  clear hI
  go_enter Try.func16, Try.ntmps16
  go_wp2_with (go_at_call 27; refine HA.out.mono ?_; rintro e w3 ⟨rfl, hw3⟩; rw [hw3]; clear hw3 w3)
  go_ret
  exact ⟨rfl, Below.refl _ _⟩
set_option maxHeartbeats 1000000 in
theorem knotOf21 (a : Option Addr) (c : Nat) (ks : List Int) (B : Nat) (w : World) (hI : IR B w (.slice a ks.length c) ks) (hn : ks.length ≤ 1048576) :
    Calls Try.prog 16 #[.int .i64 21, .slice a ks.length c] w fun e w' => e = .returned (.bool (kofB 21 ks)) ∧ Below w.heap.size w w' := by
  have hn' : (ks.length : Int) ≤ 1048576 := by omega
  rw [kof21 ks]
  have HA : Hid (Calls _ _ _ _ _) := all_isStatement a c ks _ w hI.sl hn
  clear hI
  go_enter Try.func16, Try.ntmps16
  go_wp2_with (go_at_call 27; refine HA.out.mono ?_; rintro e w3 ⟨rfl, hw3⟩; rw [hw3]; clear hw3 w3)
  go_ret
  exact ⟨rfl, Below.refl _ _⟩
set_option maxHeartbeats 1000000 in
theorem knotOf9 (a : Option Addr) (c : Nat) (ks : List Int) (B : Nat) (w : World) (hI : IR B w (.slice a ks.length c) ks) (hn : ks.length ≤ 1048576) :
    Calls Try.prog 16 #[.int .i64 9, .slice a ks.length c] w fun e w' => e = .returned (.bool (kofB 9 ks)) ∧ Below w.heap.size w w' := by
  have hn' : (ks.length : Int) ≤ 1048576 := by omega
  rw [kof9 ks]
  have HA : Hid (Calls _ _ _ _ _) := all_isExpression a c ks _ w hI.sl hn
  clear hI
  by_cases h0 : 0 < ks.length
  · have h0' : (0 : Int) < (ks.length : Int) := by omega
    rw [decide_eq_true h0, Bool.true_and]
    go_enter Try.func16, Try.ntmps16
    go_wp2_with (go_at_call 27; refine HA.out.mono ?_; rintro e w3 ⟨rfl, hw3⟩; rw [hw3]; clear hw3 w3)
    go_ret
    exact ⟨rfl, Below.refl _ _⟩
  · have h0' : ¬ (0 : Int) < (ks.length : Int) := by omega
    rw [decide_eq_false h0, Bool.false_and]
    go_enter Try.func16, Try.ntmps16
    go_wp2
    go_ret
    exact ⟨rfl, Below.refl _ _⟩
set_option maxHeartbeats 1000000 in
theorem knotOf18 (a : Option Addr) (c : Nat) (ks : List Int) (B : Nat) (w : World) (hI : IR B w (.slice a ks.length c) ks) (hn : ks.length ≤ 1048576) :
    Calls Try.prog 16 #[.int .i64 18, .slice a ks.length c] w fun e w' => e = .returned (.bool (kofB 18 ks)) ∧ Below w.heap.size w w' := by
  have hn' : (ks.length : Int) ≤ 1048576 := by omega
  rw [kof18 ks, ← len_is ks 2]
  have HA : Hid (Calls _ _ _ _ _) := areAsked_at a c ks 2 B w hI hn (by decide)
  clear hI
  go_enter Try.func16, Try.ntmps16
  go_wp2_with (go_at_call 32; refine HA.out.mono ?_; rintro e w3 ⟨rfl, hw3⟩; rw [hw3]; clear hw3 w3)
  go_ret
  exact ⟨rfl, Below.refl _ _⟩
set_option maxHeartbeats 1000000 in
theorem knotOf17 (a : Option Addr) (c : Nat) (ks : List Int) (B : Nat) (w : World) (hI : IR B w (.slice a ks.length c) ks) (hn : ks.length ≤ 1048576) :
    Calls Try.prog 16 #[.int .i64 17, .slice a ks.length c] w fun e w' => e = .returned (.bool (kofB 17 ks)) ∧ Below w.heap.size w w' := by
  have hn' : (ks.length : Int) ≤ 1048576 := by omega
  rw [kof17 ks, ← len_is ks 2, ← len_is ks 3]
  show Calls _ _ _ _ fun e w' => e = .returned (.bool ((decide ((ks.length : Int) = 2) && askB ks) || (decide ((ks.length : Int) = 3) && askB ks))) ∧ Below w.heap.size w w'
  have HAB : Hid (∀ m : Int, 2 ≤ m → _) := fun m hm => areAsked_at a c ks m B w hI hn hm
  clear hI
  cases h2 : (decide ((ks.length : Int) = 2) && askB ks) with
  | true =>
    go_enter Try.func16, Try.ntmps16
    go_wp2_with (go_at_call 32; refine (HAB.out _ (by decide)).mono ?_; rintro e w3 ⟨rfl, hw3⟩; rw [hw3]; clear hw3 w3; try rw [h2])
    go_ret
    exact ⟨by first | rfl | simp, Below.refl _ _⟩
  | false =>
    go_enter Try.func16, Try.ntmps16
    go_wp2_with (go_at_call 32; refine (HAB.out _ (by decide)).mono ?_; rintro e w3 ⟨rfl, hw3⟩; rw [hw3]; clear hw3 w3; try rw [h2])
    go_ret
    exact ⟨by first | rfl | simp, Below.refl _ _⟩
set_option maxHeartbeats 1000000 in
theorem knotOf20 (a : Option Addr) (c : Nat) (ks : List Int) (B : Nat) (w : World) (hI : IR B w (.slice a ks.length c) ks) (hn : ks.length ≤ 1048576) :
    Calls Try.prog 16 #[.int .i64 20, .slice a ks.length c] w fun e w' => e = .returned (.bool (kofB 20 ks)) ∧ Below w.heap.size w w' := by
  have hn' : (ks.length : Int) ≤ 1048576 := by omega
  rw [kof20 ks]
  have HA : Hid (∀ W, Below w.heap.size w W → ∀ (b2 : Nat), SlF W.heap.size W (.slice (some ⟨b2, 0, none⟩) 1 1) 1 1 (fun i => .int .i64 (([9] : List Int).getD i 0)) → _) := fun W hW b2 h2 => eqInts_any a (some ⟨b2, 0, none⟩) ks.length c 1 1 (fun i => ks.getD i 0) (fun i => ([9] : List Int).getD i 0) w.heap.size W.heap.size W (hI.sl.below hW (Nat.le_refl _)) h2 hn (by omega)
  have hq : IEq ks.length 1 (fun i => ks.getD i 0) (fun i => ([9] : List Int).getD i 0) ↔ ks = [9] := by
    constructor
    · rintro ⟨h1, h2⟩
      match ks, h1 with
      | [x], _ =>
        have h3 := h2 0 Nat.one_pos
        have h4 : x = 9 := h3
        rw [h4]
    · rintro rfl
      exact ⟨rfl, fun i _ => rfl⟩
  clear hI
  go_enter Try.func16, Try.ntmps16
  go_wp2_with fail
  refine (HA.out _ ((Below.refl _ _).alloc (Nat.le_refl _) _) _ ⟨_, _, rfl, .inr ⟨w.heap.size, 0, rfl, by simp, by simp, fun i hi => by obtain rfl : i = 0 := (by omega); simp [go_sem]⟩⟩).mono ?_
  rintro e w3 ⟨q, rfl, hq2, b3⟩
  rw [hq] at hq2
  have e2 : decide (ks = [9]) = q := by rw [Bool.eq_iff_iff, decide_eq_true_iff]; exact hq2.symm
  go_wp2
  go_ret
  exact ⟨by rw [e2]; rfl, below_first b3⟩
set_option maxHeartbeats 1000000 in
theorem knotOf6 (a : Option Addr) (c : Nat) (ks : List Int) (B : Nat) (w : World) (hI : IR B w (.slice a ks.length c) ks) (hn : ks.length ≤ 1048576) :
    Calls Try.prog 16 #[.int .i64 6, .slice a ks.length c] w fun e w' => e = .returned (.bool (kofB 6 ks)) ∧ Below w.heap.size w w' := by
  have hn' : (ks.length : Int) ≤ 1048576 := by omega
  by_cases h0 : ks = []
  · subst h0
    rw [kof6n]
    clear hI
    go_enter Try.func16, Try.ntmps16
    go_wp2
    go_ret
    exact ⟨rfl, Below.refl _ _⟩
  obtain ⟨init, k, rfl⟩ : ∃ init k, ks = init ++ [k] := ⟨ks.dropLast, ks.getLast h0, (List.dropLast_concat_getLast _).symm⟩
  rw [kof6]
  have hl1 : (init ++ [k]).length = init.length + 1 := by simp
  obtain ⟨g, rfl, hc1, hc2⟩ := hI.cap (by rw [hl1]; omega)
  have hs := hI.sl
  obtain ⟨hs2, y0⟩ := hs.init hl1
  rw [Nat.zero_add] at y0
  have HA : Hid (Calls _ _ _ _ _) := all_isParam _ c init _ w hs2 (by omega)
  rw [hl1] at hn' hc1 ⊢
  have hc3 : ((init.length + 1 : Nat) : Int) ≤ (c : Int) := by omega
  have hc4 : (c : Int) ≤ 9223372036854775807 := by simp [maxLen] at hc2; omega
  have hq1 : (init.length : Int) ≤ (c : Int) := by omega
  clear hI hs hs2 h0
  cases hk : blB k with
  | false =>
    go_enter Try.func16, Try.ntmps16
    go_wp2_with (go_at_call 13; refine (isBlock_at _ _).mono ?_; rw [hk]; rintro e w3 ⟨rfl, hw3⟩; rw [hw3]; clear hw3 w3)
    go_ret
    exact ⟨rfl, Below.refl _ _⟩
  | true =>
    go_enter Try.func16, Try.ntmps16
    go_wp2_with (first | (go_at_call 13; refine (isBlock_at _ _).mono ?_; rw [hk]; rintro e w3 ⟨rfl, hw3⟩; rw [hw3]; clear hw3 w3) | (go_at_call 27; refine HA.out.mono ?_; rintro e w3 ⟨rfl, hw3⟩; rw [hw3]; clear hw3 w3))
    go_ret
    exact ⟨rfl, Below.refl _ _⟩
set_option maxHeartbeats 1000000 in
theorem knotOfX (k : Int) (a : Option Addr) (c : Nat) (ks : List Int) (w : World) (hk : ¬ (1 ≤ k ∧ k ≤ 24)) :
    Calls Try.prog 16 #[.int .i64 k, .slice a ks.length c] w fun e w' => e = .returned (.bool (kofB k ks)) ∧ Below w.heap.size w w' := by
  rw [kofX k ks hk]
  have q1 : (k == 1) = false := beq_eq_false_iff_ne.2 (by omega)
  have q2 : (k == 2) = false := beq_eq_false_iff_ne.2 (by omega)
  have q3 : (k == 3) = false := beq_eq_false_iff_ne.2 (by omega)
  have q4 : (k == 4) = false := beq_eq_false_iff_ne.2 (by omega)
  have q5 : (k == 5) = false := beq_eq_false_iff_ne.2 (by omega)
  have q6 : (k == 6) = false := beq_eq_false_iff_ne.2 (by omega)
  have q7 : (k == 7) = false := beq_eq_false_iff_ne.2 (by omega)
  have q8 : (k == 8) = false := beq_eq_false_iff_ne.2 (by omega)
  have q9 : (k == 9) = false := beq_eq_false_iff_ne.2 (by omega)
  have q10 : (k == 10) = false := beq_eq_false_iff_ne.2 (by omega)
  have q11 : (k == 11) = false := beq_eq_false_iff_ne.2 (by omega)
  have q12 : (k == 12) = false := beq_eq_false_iff_ne.2 (by omega)
  have q13 : (k == 13) = false := beq_eq_false_iff_ne.2 (by omega)
  have q14 : (k == 14) = false := beq_eq_false_iff_ne.2 (by omega)
  have q15 : (k == 15) = false := beq_eq_false_iff_ne.2 (by omega)
  have q16 : (k == 16) = false := beq_eq_false_iff_ne.2 (by omega)
  have q17 : (k == 17) = false := beq_eq_false_iff_ne.2 (by omega)
  have q18 : (k == 18) = false := beq_eq_false_iff_ne.2 (by omega)
  have q19 : (k == 19) = false := beq_eq_false_iff_ne.2 (by omega)
  have q20 : (k == 20) = false := beq_eq_false_iff_ne.2 (by omega)
  have q21 : (k == 21) = false := beq_eq_false_iff_ne.2 (by omega)
  have q22 : (k == 22) = false := beq_eq_false_iff_ne.2 (by omega)
  have q23 : (k == 23) = false := beq_eq_false_iff_ne.2 (by omega)
  have q24 : (k == 24) = false := beq_eq_false_iff_ne.2 (by omega)
  clear hk
  go_enter Try.func16, Try.ntmps16
  go_wp2
  go_ret
  exact ⟨rfl, Below.refl _ _⟩
theorem knotOf_at (k : Int) (a : Option Addr) (c : Nat) (ks : List Int) (B : Nat) (w : World) (hI : IR B w (.slice a ks.length c) ks) (hn : ks.length ≤ 1048576) :
    Calls Try.prog 16 #[.int .i64 k, .slice a ks.length c] w fun e w' => e = .returned (.bool (kofB k ks)) ∧ Below w.heap.size w w' := by
  by_cases hk : 1 ≤ k ∧ k ≤ 24
  · obtain ⟨n, rfl⟩ : ∃ n : Nat, k = n := ⟨k.toNat, by omega⟩
    have h1 : n < 25 := by omega
    have h2 : 0 < n := by omega
    match n, h1, h2 with
    | 1, _, _ => exact knotOf1 a c ks B w hI hn
    | 2, _, _ => exact knotOf2 a c ks B w hI hn
    | 3, _, _ => exact knotOf3 a c ks B w hI hn
    | 4, _, _ => exact knotOf4 a c ks B w hI hn
    | 5, _, _ => exact knotOf5 a c ks B w hI hn
    | 6, _, _ => exact knotOf6 a c ks B w hI hn
    | 7, _, _ => exact knotOf7 a c ks B w hI hn
    | 8, _, _ => exact knotOf8 a c ks B w hI hn
    | 9, _, _ => exact knotOf9 a c ks B w hI hn
    | 10, _, _ => exact knotOf10 a c ks B w hI hn
    | 11, _, _ => exact knotOf11 a c ks B w hI hn
    | 12, _, _ => exact knotOf12 a c ks B w hI hn
    | 13, _, _ => exact knotOf13 a c ks B w hI hn
    | 14, _, _ => exact knotOf14 a c ks B w hI hn
    | 15, _, _ => exact knotOf15 a c ks B w hI hn
    | 16, _, _ => exact knotOf16 a c ks B w hI hn
    | 17, _, _ => exact knotOf17 a c ks B w hI hn
    | 18, _, _ => exact knotOf18 a c ks B w hI hn
    | 19, _, _ => exact knotOf19 a c ks B w hI hn
    | 20, _, _ => exact knotOf20 a c ks B w hI hn
    | 21, _, _ => exact knotOf21 a c ks B w hI hn
    | 22, _, _ => exact knotOf22 a c ks B w hI hn
    | 23, _, _ => exact knotOf23 a c ks B w hI hn
    | 24, _, _ => exact knotOf24 a c ks B w hI hn
  · exact knotOfX k a c ks w hk
end Go.Proofs.Ytiglkhkfbgjjoaa
