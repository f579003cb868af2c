/- - -/
import Derived.Test.YtiglkhkfbgjjoaaDoorQTkI
namespace Go.Proofs.YtiglkhkfbgjjoaaDoor
set_option maxRecDepth 20000
open Go.RowKit Go.PlainAid Go.Maps
set_option linter.unusedSimpArgs false
set_option linter.unusedVariables false
theorem zbk (n : Nat) (ks : List Int) : zu (List.replicate n 1) ks = (decide (ks.length = n) && ks.all exB) := by
 by_cases h : ks.length = n
 · subst h
   rw [zbe, zjk]
   simp
 · rw [decide_eq_false h, Bool.false_and]
   exact zco (by simp; omega)
theorem zdm (ks : List Int) : zu [1, 3] ks = (decide (ks.length = 2) && zbg ks) := by
 match ks with
 | [] => rfl
 | [x] => simp [zu]
 | [x, y] => simp [zu, zbg, zdg, zdh]
 | x :: y :: z :: ks => rw [zco (by simp)]; simp
theorem zf8 (ks : List Int) (h : ks.length = 3) : zu [1, 3, 3] ks = zbg ks := by
 match ks, h with
 | [x, y, z], _ => simp [zu, zbg, zdg, zdh]
theorem zdi (k : Int) (ks : List Int) (h : k = 1 \/ k = 2 \/ k = 3 \/ k = 4 \/ k = 5 \/ k = 22) : zi k ks = decide (ks.length = 0) := by
 have e : shp k ks.length = [] := by rcases h with rfl | rfl | rfl | rfl | rfl | rfl <;> rfl
 have e2 : zt k ≠ 0 := by rcases h with rfl | rfl | rfl | rfl | rfl | rfl <;> decide
 unfold zi
 rw [e, decide_eq_true e2, Bool.true_and]
 cases ks with
 | nil => rfl
 | cons x xs => simp [zu]
theorem zeg (k : Int) (ks : List Int) (h : k = 11 \/ k = 14 \/ k = 15 \/ k = 19 \/ k = 23) : zi k ks = (decide (ks.length = 1) && ks.all exB) := by
 have e : shp k ks.length = List.replicate 1 1 := by rcases h with rfl | rfl | rfl | rfl | rfl <;> rfl
 have e2 : zt k ≠ 0 := by rcases h with rfl | rfl | rfl | rfl | rfl <;> decide
 unfold zi
 rw [e, decide_eq_true e2, Bool.true_and, zbk]
theorem zeh (k : Int) (ks : List Int) (h : k = 8 \/ k = 10 \/ k = 12 \/ k = 13 \/ k = 24) : zi k ks = (decide (ks.length = 2) && ks.all exB) := by
 have e : shp k ks.length = List.replicate 2 1 := by rcases h with rfl | rfl | rfl | rfl | rfl <;> rfl
 have e2 : zt k ≠ 0 := by rcases h with rfl | rfl | rfl | rfl | rfl <;> decide
 unfold zi
 rw [e, decide_eq_true e2, Bool.true_and, zbk]
theorem zj8 (ks : List Int) : zi 16 ks = (decide (ks.length = 3) && ks.all exB) := by
 show (true && zu (List.replicate 3 1) ks) = _
 rw [Bool.true_and, zbk]
theorem zko (ks : List Int) : zi 7 ks = ks.all flB := by
 show (true && zu (List.replicate ks.length 5) ks) = _
 rw [Bool.true_and, zbe]
 congr 1
 funext k
 exact zht k
theorem zj9 (ks : List Int) : zi 21 ks = ks.all stB := by
 show (true && zu (List.replicate ks.length 2) ks) = _
 rw [Bool.true_and, zbe]
 congr 1
 funext k
 exact zhr k
theorem zkp (ks : List Int) : zi 9 ks = (decide (0 < ks.length) && ks.all exB) := by
 show (true && zu (List.replicate (ks.length - 1 + 1) 1) ks) = _
 rw [Bool.true_and, zbk]
 congr 1
 exact decide_eq_decide.2 (by omega)
theorem zka : zi 6 [] = false := rfl
theorem zkq (ks : List Int) (k : Int) : zi 6 (ks ++ [k]) = (blB k && ks.all paB) := by
 have e : shp 6 (ks ++ [k]).length = List.replicate ks.length 4 ++ [3] := by
  show List.replicate ((ks ++ [k]).length - 1) 4 ++ [3] = _
  simp
 unfold zi
 rw [e, decide_eq_true (by decide : zt 6 ≠ 0), Bool.true_and, zdl _ _ _ _ (by simp), zbe, zdh, Bool.and_comm]
 congr 2
 funext k
 exact zhs k
theorem zkb (ks : List Int) : zi 18 ks = (decide (ks.length = 2) && zbg ks) := by
 show (true && zu [1, 3] ks) = _
 rw [Bool.true_and, zdm]
theorem zkc (ks : List Int) : zi 17 ks = ((decide (ks.length = 2) && zbg ks) || (decide (ks.length = 3) && zbg ks)) := by
 show (true && zu (if ks.length = 3 then [1, 3, 3] else [1, 3]) ks) = _
 rw [Bool.true_and]
 by_cases h : ks.length = 3
 · rw [if_pos h, zf8 ks h, decide_eq_true h, decide_eq_false (by omega), Bool.false_and, Bool.true_and, Bool.false_or]
 · rw [if_neg h, zdm, decide_eq_false h, Bool.false_and, Bool.or_false]
theorem zkd (ks : List Int) : zi 20 ks = decide (ks = [9]) := by
 show (true && zu [6] ks) = _
 rw [Bool.true_and]
 match ks with
 | [] => rfl
 | [x] => simp [zu, zhu]
 | x :: y :: ks => rw [zco (by simp)]; simp
theorem zkr (k : Int) (ks : List Int) (h : ¬ (1 <= k /\ k <= 24)) : zi k ks = false := by
 have e : zt k = 0 := by
  unfold zt
  repeat (first | omega | split)
 unfold zi
 rw [decide_eq_false (fun h => h e), Bool.false_and]
theorem zx (ks : List Int) (n : Nat) : decide ((ks.length : Int) = (n : Int)) = decide (ks.length = n) := decide_eq_decide.2 (by omega)
set_option maxHeartbeats 1000000 in
theorem zhv (a : Option Addr) (c : Nat) (ks : List Int) (B : Nat) (w : World) (hI : IR B w (.slice a ks.length c) ks) (hn : ks.length <= 1048576) :
 Calls Tryd.prog 86 #[.int .i64 1, .slice a ks.length c] w fun e w' => e = .returned (.bool (zi 1 ks)) /\ Below w.heap.size w w' := by
 have hn' : (ks.length : Int) <= 1048576 := by omega
 rw [zdi _ ks (by decide), <- zx ks 0]
 clear hI
 go_enter Tryd.func86, Tryd.ntmps86
 go_wp2
 go_ret
 exact ⟨by first | rfl | (simp; done) | (simp; rw [Bool.eq_iff_iff]; simp), Below.refl _ _⟩
set_option maxHeartbeats 1000000 in
theorem zhw (a : Option Addr) (c : Nat) (ks : List Int) (B : Nat) (w : World) (hI : IR B w (.slice a ks.length c) ks) (hn : ks.length <= 1048576) :
 Calls Tryd.prog 86 #[.int .i64 2, .slice a ks.length c] w fun e w' => e = .returned (.bool (zi 2 ks)) /\ Below w.heap.size w w' := by
 have hn' : (ks.length : Int) <= 1048576 := by omega
 rw [zdi _ ks (by decide), <- zx ks 0]
 clear hI
 go_enter Tryd.func86, Tryd.ntmps86
 go_wp2
 go_ret
 exact ⟨by first | rfl | (simp; done) | (simp; rw [Bool.eq_iff_iff]; simp), Below.refl _ _⟩
set_option maxHeartbeats 1000000 in
theorem zhx (a : Option Addr) (c : Nat) (ks : List Int) (B : Nat) (w : World) (hI : IR B w (.slice a ks.length c) ks) (hn : ks.length <= 1048576) :
 Calls Tryd.prog 86 #[.int .i64 3, .slice a ks.length c] w fun e w' => e = .returned (.bool (zi 3 ks)) /\ Below w.heap.size w w' := by
 have hn' : (ks.length : Int) <= 1048576 := by omega
 rw [zdi _ ks (by decide), <- zx ks 0]
 clear hI
 go_enter Tryd.func86, Tryd.ntmps86
 go_wp2
 go_ret
 exact ⟨by first | rfl | (simp; done) | (simp; rw [Bool.eq_iff_iff]; simp), Below.refl _ _⟩
set_option maxHeartbeats 1000000 in
theorem zhy (a : Option Addr) (c : Nat) (ks : List Int) (B : Nat) (w : World) (hI : IR B w (.slice a ks.length c) ks) (hn : ks.length <= 1048576) :
 Calls Tryd.prog 86 #[.int .i64 4, .slice a ks.length c] w fun e w' => e = .returned (.bool (zi 4 ks)) /\ Below w.heap.size w w' := by
 have hn' : (ks.length : Int) <= 1048576 := by omega
 rw [zdi _ ks (by decide), <- zx ks 0]
 clear hI
 go_enter Tryd.func86, Tryd.ntmps86
 go_wp2
 go_ret
 exact ⟨by first | rfl | (simp; done) | (simp; rw [Bool.eq_iff_iff]; simp), Below.refl _ _⟩
set_option maxHeartbeats 1000000 in
theorem zhz (a : Option Addr) (c : Nat) (ks : List Int) (B : Nat) (w : World) (hI : IR B w (.slice a ks.length c) ks) (hn : ks.length <= 1048576) :
 Calls Tryd.prog 86 #[.int .i64 5, .slice a ks.length c] w fun e w' => e = .returned (.bool (zi 5 ks)) /\ Below w.heap.size w w' := by
 have hn' : (ks.length : Int) <= 1048576 := by omega
 rw [zdi _ ks (by decide), <- zx ks 0]
 clear hI
 go_enter Tryd.func86, Tryd.ntmps86
 go_wp2
 go_ret
 exact ⟨by first | rfl | (simp; done) | (simp; rw [Bool.eq_iff_iff]; simp), Below.refl _ _⟩
set_option maxHeartbeats 1000000 in
theorem zgu (a : Option Addr) (c : Nat) (ks : List Int) (B : Nat) (w : World) (hI : IR B w (.slice a ks.length c) ks) (hn : ks.length <= 1048576) :
 Calls Tryd.prog 86 #[.int .i64 22, .slice a ks.length c] w fun e w' => e = .returned (.bool (zi 22 ks)) /\ Below w.heap.size w w' := by
 have hn' : (ks.length : Int) <= 1048576 := by omega
 rw [zdi _ ks (by decide), <- zx ks 0]
 clear hI
 go_enter Tryd.func86, Tryd.ntmps86
 go_wp2
 go_ret
 exact ⟨by first | rfl | (simp; done) | (simp; rw [Bool.eq_iff_iff]; simp), Below.refl _ _⟩
set_option maxHeartbeats 1000000 in
theorem zgv (a : Option Addr) (c : Nat) (ks : List Int) (B : Nat) (w : World) (hI : IR B w (.slice a ks.length c) ks) (hn : ks.length <= 1048576) :
 Calls Tryd.prog 86 #[.int .i64 11, .slice a ks.length c] w fun e w' => e = .returned (.bool (zi 11 ks)) /\ Below w.heap.size w w' := by
 have hn' : (ks.length : Int) <= 1048576 := by omega
 rw [zeg _ ks (by decide), <- zx ks 1]
 have HA : Hid (Calls _ _ _ _ _) := zae a c ks 1 _ w hI.sl hn
 clear hI
 go_enter Tryd.func86, Tryd.ntmps86
 go_wp2_with (go_at_call 127; refine HA.out.mono ?_; rintro e w3 ⟨rfl, hw3⟩; rw [hw3]; clear hw3 w3)
 go_ret
 exact ⟨rfl, Below.refl _ _⟩
set_option maxHeartbeats 1000000 in
theorem zgw (a : Option Addr) (c : Nat) (ks : List Int) (B : Nat) (w : World) (hI : IR B w (.slice a ks.length c) ks) (hn : ks.length <= 1048576) :
 Calls Tryd.prog 86 #[.int .i64 14, .slice a ks.length c] w fun e w' => e = .returned (.bool (zi 14 ks)) /\ Below w.heap.size w w' := by
 have hn' : (ks.length : Int) <= 1048576 := by omega
 rw [zeg _ ks (by decide), <- zx ks 1]
 have HA : Hid (Calls _ _ _ _ _) := zae a c ks 1 _ w hI.sl hn
 clear hI
 go_enter Tryd.func86, Tryd.ntmps86
 go_wp2_with (go_at_call 127; refine HA.out.mono ?_; rintro e w3 ⟨rfl, hw3⟩; rw [hw3]; clear hw3 w3)
 go_ret
 exact ⟨rfl, Below.refl _ _⟩
set_option maxHeartbeats 1000000 in
theorem zgx (a : Option Addr) (c : Nat) (ks : List Int) (B : Nat) (w : World) (hI : IR B w (.slice a ks.length c) ks) (hn : ks.length <= 1048576) :
 Calls Tryd.prog 86 #[.int .i64 15, .slice a ks.length c] w fun e w' => e = .returned (.bool (zi 15 ks)) /\ Below w.heap.size w w' := by
 have hn' : (ks.length : Int) <= 1048576 := by omega
 rw [zeg _ ks (by decide), <- zx ks 1]
 have HA : Hid (Calls _ _ _ _ _) := zae a c ks 1 _ w hI.sl hn
 clear hI
 go_enter Tryd.func86, Tryd.ntmps86
 go_wp2_with (go_at_call 127; refine HA.out.mono ?_; rintro e w3 ⟨rfl, hw3⟩; rw [hw3]; clear hw3 w3)
 go_ret
 exact ⟨rfl, Below.refl _ _⟩
set_option maxHeartbeats 1000000 in
theorem zgy (a : Option Addr) (c : Nat) (ks : List Int) (B : Nat) (w : World) (hI : IR B w (.slice a ks.length c) ks) (hn : ks.length <= 1048576) :
 Calls Tryd.prog 86 #[.int .i64 19, .slice a ks.length c] w fun e w' => e = .returned (.bool (zi 19 ks)) /\ Below w.heap.size w w' := by
 have hn' : (ks.length : Int) <= 1048576 := by omega
 rw [zeg _ ks (by decide), <- zx ks 1]
 have HA : Hid (Calls _ _ _ _ _) := zae a c ks 1 _ w hI.sl hn
 clear hI
 go_enter Tryd.func86, Tryd.ntmps86
 go_wp2_with (go_at_call 127; refine HA.out.mono ?_; rintro e w3 ⟨rfl, hw3⟩; rw [hw3]; clear hw3 w3)
 go_ret
 exact ⟨rfl, Below.refl _ _⟩
set_option maxHeartbeats 1000000 in
theorem zgz (a : Option Addr) (c : Nat) (ks : List Int) (B : Nat) (w : World) (hI : IR B w (.slice a ks.length c) ks) (hn : ks.length <= 1048576) :
 Calls Tryd.prog 86 #[.int .i64 23, .slice a ks.length c] w fun e w' => e = .returned (.bool (zi 23 ks)) /\ Below w.heap.size w w' := by
 have hn' : (ks.length : Int) <= 1048576 := by omega
 rw [zeg _ ks (by decide), <- zx ks 1]
 have HA : Hid (Calls _ _ _ _ _) := zae a c ks 1 _ w hI.sl hn
 clear hI
 go_enter Tryd.func86, Tryd.ntmps86
 go_wp2_with (go_at_call 127; refine HA.out.mono ?_; rintro e w3 ⟨rfl, hw3⟩; rw [hw3]; clear hw3 w3)
 go_ret
 exact ⟨rfl, Below.refl _ _⟩
set_option maxHeartbeats 1000000 in
theorem zh0 (a : Option Addr) (c : Nat) (ks : List Int) (B : Nat) (w : World) (hI : IR B w (.slice a ks.length c) ks) (hn : ks.length <= 1048576) :
 Calls Tryd.prog 86 #[.int .i64 8, .slice a ks.length c] w fun e w' => e = .returned (.bool (zi 8 ks)) /\ Below w.heap.size w w' := by
 have hn' : (ks.length : Int) <= 1048576 := by omega
 rw [zeh _ ks (by decide), <- zx ks 2]
 have HA : Hid (Calls _ _ _ _ _) := zae a c ks 2 _ w hI.sl hn
 clear hI
 go_enter Tryd.func86, Tryd.ntmps86
 go_wp2_with (go_at_call 127; refine HA.out.mono ?_; rintro e w3 ⟨rfl, hw3⟩; rw [hw3]; clear hw3 w3)
 go_ret
 exact ⟨rfl, Below.refl _ _⟩
set_option maxHeartbeats 1000000 in
theorem zg0 (a : Option Addr) (c : Nat) (ks : List Int) (B : Nat) (w : World) (hI : IR B w (.slice a ks.length c) ks) (hn : ks.length <= 1048576) :
 Calls Tryd.prog 86 #[.int .i64 10, .slice a ks.length c] w fun e w' => e = .returned (.bool (zi 10 ks)) /\ Below w.heap.size w w' := by
 have hn' : (ks.length : Int) <= 1048576 := by omega
 rw [zeh _ ks (by decide), <- zx ks 2]
 have HA : Hid (Calls _ _ _ _ _) := zae a c ks 2 _ w hI.sl hn
 clear hI
 go_enter Tryd.func86, Tryd.ntmps86
 go_wp2_with (go_at_call 127; refine HA.out.mono ?_; rintro e w3 ⟨rfl, hw3⟩; rw [hw3]; clear hw3 w3)
 go_ret
 exact ⟨rfl, Below.refl _ _⟩
set_option maxHeartbeats 1000000 in
theorem zg1 (a : Option Addr) (c : Nat) (ks : List Int) (B : Nat) (w : World) (hI : IR B w (.slice a ks.length c) ks) (hn : ks.length <= 1048576) :
 Calls Tryd.prog 86 #[.int .i64 12, .slice a ks.length c] w fun e w' => e = .returned (.bool (zi 12 ks)) /\ Below w.heap.size w w' := by
 have hn' : (ks.length : Int) <= 1048576 := by omega
 rw [zeh _ ks (by decide), <- zx ks 2]
 have HA : Hid (Calls _ _ _ _ _) := zae a c ks 2 _ w hI.sl hn
 clear hI
 go_enter Tryd.func86, Tryd.ntmps86
 go_wp2_with (go_at_call 127; refine HA.out.mono ?_; rintro e w3 ⟨rfl, hw3⟩; rw [hw3]; clear hw3 w3)
 go_ret
 exact ⟨rfl, Below.refl _ _⟩
set_option maxHeartbeats 1000000 in
theorem zg2 (a : Option Addr) (c : Nat) (ks : List Int) (B : Nat) (w : World) (hI : IR B w (.slice a ks.length c) ks) (hn : ks.length <= 1048576) :
 Calls Tryd.prog 86 #[.int .i64 13, .slice a ks.length c] w fun e w' => e = .returned (.bool (zi 13 ks)) /\ Below w.heap.size w w' := by
 have hn' : (ks.length : Int) <= 1048576 := by omega
 rw [zeh _ ks (by decide), <- zx ks 2]
 have HA : Hid (Calls _ _ _ _ _) := zae a c ks 2 _ w hI.sl hn
 clear hI
 go_enter Tryd.func86, Tryd.ntmps86
 go_wp2_with (go_at_call 127; refine HA.out.mono ?_; rintro e w3 ⟨rfl, hw3⟩; rw [hw3]; clear hw3 w3)
 go_ret
 exact ⟨rfl, Below.refl _ _⟩
set_option maxHeartbeats 1000000 in
theorem zg3 (a : Option Addr) (c : Nat) (ks : List Int) (B : Nat) (w : World) (hI : IR B w (.slice a ks.length c) ks) (hn : ks.length <= 1048576) :
 Calls Tryd.prog 86 #[.int .i64 24, .slice a ks.length c] w fun e w' => e = .returned (.bool (zi 24 ks)) /\ Below w.heap.size w w' := by
 have hn' : (ks.length : Int) <= 1048576 := by omega
 rw [zeh _ ks (by decide), <- zx ks 2]
 have HA : Hid (Calls _ _ _ _ _) := zae a c ks 2 _ w hI.sl hn
 clear hI
 go_enter Tryd.func86, Tryd.ntmps86
 go_wp2_with (go_at_call 127; refine HA.out.mono ?_; rintro e w3 ⟨rfl, hw3⟩; rw [hw3]; clear hw3 w3)
 go_ret
 exact ⟨rfl, Below.refl _ _⟩
set_option maxHeartbeats 1000000 in
theorem zg4 (a : Option Addr) (c : Nat) (ks : List Int) (B : Nat) (w : World) (hI : IR B w (.slice a ks.length c) ks) (hn : ks.length <= 1048576) :
 Calls Tryd.prog 86 #[.int .i64 16, .slice a ks.length c] w fun e w' => e = .returned (.bool (zi 16 ks)) /\ Below w.heap.size w w' := by
 have hn' : (ks.length : Int) <= 1048576 := by omega
 rw [zj8 ks, <- zx ks 3]
 have HA : Hid (Calls _ _ _ _ _) := zae a c ks 3 _ w hI.sl hn
 clear hI
 go_enter Tryd.func86, Tryd.ntmps86
 go_wp2_with (go_at_call 127; refine HA.out.mono ?_; rintro e w3 ⟨rfl, hw3⟩; rw [hw3]; clear hw3 w3)
 go_ret
 exact ⟨rfl, Below.refl _ _⟩
set_option maxHeartbeats 1000000 in
theorem zh1 (a : Option Addr) (c : Nat) (ks : List Int) (B : Nat) (w : World) (hI : IR B w (.slice a ks.length c) ks) (hn : ks.length <= 1048576) :
 Calls Tryd.prog 86 #[.int .i64 7, .slice a ks.length c] w fun e w' => e = .returned (.bool (zi 7 ks)) /\ Below w.heap.size w w' := by
 have hn' : (ks.length : Int) <= 1048576 := by omega
 rw [zko ks]
 have HA : Hid (Calls _ _ _ _ _) := zex a c ks _ w hI.sl hn
 clear hI
 go_enter Tryd.func86, Tryd.ntmps86
 go_wp2_with (go_at_call 123; refine HA.out.mono ?_; rintro e w3 ⟨rfl, hw3⟩; rw [hw3]; clear hw3 w3)
 go_ret
 exact ⟨rfl, Below.refl _ _⟩
set_option maxHeartbeats 1000000 in
theorem zg5 (a : Option Addr) (c : Nat) (ks : List Int) (B : Nat) (w : World) (hI : IR B w (.slice a ks.length c) ks) (hn : ks.length <= 1048576) :
 Calls Tryd.prog 86 #[.int .i64 21, .slice a ks.length c] w fun e w' => e = .returned (.bool (zi 21 ks)) /\ Below w.heap.size w w' := by
 have hn' : (ks.length : Int) <= 1048576 := by omega
 rw [zj9 ks]
 have HA : Hid (Calls _ _ _ _ _) := zcu a c ks _ w hI.sl hn
 clear hI
 go_enter Tryd.func86, Tryd.ntmps86
 go_wp2_with (go_at_call 123; refine HA.out.mono ?_; rintro e w3 ⟨rfl, hw3⟩; rw [hw3]; clear hw3 w3)
 go_ret
 exact ⟨rfl, Below.refl _ _⟩
set_option maxHeartbeats 1000000 in
theorem zh2 (a : Option Addr) (c : Nat) (ks : List Int) (B : Nat) (w : World) (hI : IR B w (.slice a ks.length c) ks) (hn : ks.length <= 1048576) :
 Calls Tryd.prog 86 #[.int .i64 9, .slice a ks.length c] w fun e w' => e = .returned (.bool (zi 9 ks)) /\ Below w.heap.size w w' := by
 have hn' : (ks.length : Int) <= 1048576 := by omega
 rw [zkp ks]
 have HA : Hid (Calls _ _ _ _ _) := zbf a c ks _ w hI.sl hn
 clear hI
 by_cases h0 : 0 < ks.length
 · have h0' : (0 : Int) < (ks.length : Int) := by omega
   rw [decide_eq_true h0, Bool.true_and]
   go_enter Tryd.func86, Tryd.ntmps86
   go_wp2_with (go_at_call 123; refine HA.out.mono ?_; rintro e w3 ⟨rfl, hw3⟩; rw [hw3]; clear hw3 w3)
   go_ret
   exact ⟨rfl, Below.refl _ _⟩
 · have h0' : ¬ (0 : Int) < (ks.length : Int) := by omega
   rw [decide_eq_false h0, Bool.false_and]
   go_enter Tryd.func86, Tryd.ntmps86
   go_wp2
   go_ret
   exact ⟨rfl, Below.refl _ _⟩
set_option maxHeartbeats 1000000 in
theorem zg6 (a : Option Addr) (c : Nat) (ks : List Int) (B : Nat) (w : World) (hI : IR B w (.slice a ks.length c) ks) (hn : ks.length <= 1048576) :
 Calls Tryd.prog 86 #[.int .i64 18, .slice a ks.length c] w fun e w' => e = .returned (.bool (zi 18 ks)) /\ Below w.heap.size w w' := by
 have hn' : (ks.length : Int) <= 1048576 := by omega
 rw [zkb ks, <- zx ks 2]
 have HA : Hid (Calls _ _ _ _ _) := zcf a c ks 2 B w hI hn (by decide)
 clear hI
 go_enter Tryd.func86, Tryd.ntmps86
 go_wp2_with (go_at_call 128; refine HA.out.mono ?_; rintro e w3 ⟨rfl, hw3⟩; rw [hw3]; clear hw3 w3)
 go_ret
 exact ⟨rfl, Below.refl _ _⟩
set_option maxHeartbeats 1000000 in
theorem zg7 (a : Option Addr) (c : Nat) (ks : List Int) (B : Nat) (w : World) (hI : IR B w (.slice a ks.length c) ks) (hn : ks.length <= 1048576) :
 Calls Tryd.prog 86 #[.int .i64 17, .slice a ks.length c] w fun e w' => e = .returned (.bool (zi 17 ks)) /\ Below w.heap.size w w' := by
 have hn' : (ks.length : Int) <= 1048576 := by omega
 rw [zkc ks, <- zx ks 2, <- zx ks 3]
 show Calls _ _ _ _ fun e w' => e = .returned (.bool ((decide ((ks.length : Int) = 2) && zbg ks) || (decide ((ks.length : Int) = 3) && zbg ks))) /\ Below w.heap.size w w'
 have HAB : Hid (∀ m : Int, 2 <= m -> _) := fun m hm => zcf a c ks m B w hI hn hm
 clear hI
 cases h2 : (decide ((ks.length : Int) = 2) && zbg ks) with
 | true =>
   go_enter Tryd.func86, Tryd.ntmps86
   go_wp2_with (go_at_call 128; refine (HAB.out _ (by decide)).mono ?_; rintro e w3 ⟨rfl, hw3⟩; rw [hw3]; clear hw3 w3; try rw [h2])
   go_ret
   exact ⟨by first | rfl | simp, Below.refl _ _⟩
 | false =>
   go_enter Tryd.func86, Tryd.ntmps86
   go_wp2_with (go_at_call 128; refine (HAB.out _ (by decide)).mono ?_; rintro e w3 ⟨rfl, hw3⟩; rw [hw3]; clear hw3 w3; try rw [h2])
   go_ret
   exact ⟨by first | rfl | simp, Below.refl _ _⟩
set_option maxHeartbeats 1000000 in
theorem zg8 (a : Option Addr) (c : Nat) (ks : List Int) (B : Nat) (w : World) (hI : IR B w (.slice a ks.length c) ks) (hn : ks.length <= 1048576) :
 Calls Tryd.prog 86 #[.int .i64 20, .slice a ks.length c] w fun e w' => e = .returned (.bool (zi 20 ks)) /\ Below w.heap.size w w' := by
 have hn' : (ks.length : Int) <= 1048576 := by omega
 rw [zkd ks]
 have HA : Hid (∀ W, Below w.heap.size w W -> ∀ (b2 : Nat), SlF W.heap.size W (.slice (some ⟨b2, 0, none⟩) 1 1) 1 1 (fun i => .int .i64 (([9] : List Int).getD i 0)) -> _) := fun W hW b2 h2 => za9 a (some ⟨b2, 0, none⟩) ks.length c 1 1 (fun i => ks.getD i 0) (fun i => ([9] : List Int).getD i 0) w.heap.size W.heap.size W (hI.sl.below hW (Nat.le_refl _)) h2 hn (by omega)
 have hq : IEq ks.length 1 (fun i => ks.getD i 0) (fun i => ([9] : List Int).getD i 0) ↔ ks = [9] := by
  constructor
  · rintro ⟨h1, h2⟩
    match ks, h1 with
    | [x], _ =>
      have h3 := h2 0 Nat.one_pos
      have h4 : x = 9 := h3
      rw [h4]
  · rintro rfl
    exact ⟨rfl, fun i _ => rfl⟩
 clear hI
 go_enter Tryd.func86, Tryd.ntmps86
 go_wp2_with fail
 refine (HA.out _ ((Below.refl _ _).alloc (Nat.le_refl _) _) _ ⟨_, _, rfl, .inr ⟨w.heap.size, 0, rfl, by simp, by simp, fun i hi => by obtain rfl : i = 0 := (by omega); simp [go_sem]⟩⟩).mono ?_
 rintro e w3 ⟨q, rfl, hq2, b3⟩
 rw [hq] at hq2
 have e2 : decide (ks = [9]) = q := by rw [Bool.eq_iff_iff, decide_eq_true_iff]; exact hq2.symm
 go_wp2
 go_ret
 exact ⟨by rw [e2]; rfl, zf b3⟩
set_option maxHeartbeats 1000000 in
theorem zh3 (a : Option Addr) (c : Nat) (ks : List Int) (B : Nat) (w : World) (hI : IR B w (.slice a ks.length c) ks) (hn : ks.length <= 1048576) :
 Calls Tryd.prog 86 #[.int .i64 6, .slice a ks.length c] w fun e w' => e = .returned (.bool (zi 6 ks)) /\ Below w.heap.size w w' := by
 have hn' : (ks.length : Int) <= 1048576 := by omega
 by_cases h0 : ks = []
 · subst h0
   rw [zka]
   clear hI
   go_enter Tryd.func86, Tryd.ntmps86
   go_wp2
   go_ret
   exact ⟨rfl, Below.refl _ _⟩
 obtain ⟨init, k, rfl⟩ : ∃ init k, ks = init ++ [k] := ⟨ks.dropLast, ks.getLast h0, (List.dropLast_concat_getLast _).symm⟩
 rw [zkq]
 have hl1 : (init ++ [k]).length = init.length + 1 := by simp
 obtain ⟨g, rfl, hc1, hc2⟩ := hI.cap (by rw [hl1]; omega)
 have hs := hI.sl
 obtain ⟨hs2, y0⟩ := hs.init hl1
 rw [Nat.zero_add] at y0
 have HA : Hid (Calls _ _ _ _ _) := zew _ c init _ w hs2 (by omega)
 rw [hl1] at hn' hc1 ⊢
 have hc3 : ((init.length + 1 : Nat) : Int) <= (c : Int) := by omega
 have hc4 : (c : Int) <= 9223372036854775807 := by simp [maxLen] at hc2; omega
 have hq1 : (init.length : Int) <= (c : Int) := by omega
 clear hI hs hs2 h0
 cases hk : blB k with
 | false =>
   go_enter Tryd.func86, Tryd.ntmps86
   go_wp2_with (go_at_call 83; refine (zar _ _).mono ?_; rw [hk]; rintro e w3 ⟨rfl, hw3⟩; rw [hw3]; clear hw3 w3)
   go_ret
   exact ⟨rfl, Below.refl _ _⟩
 | true =>
   go_enter Tryd.func86, Tryd.ntmps86
   go_wp2_with (first | (go_at_call 83; refine (zar _ _).mono ?_; rw [hk]; rintro e w3 ⟨rfl, hw3⟩; rw [hw3]; clear hw3 w3) | (go_at_call 123; refine HA.out.mono ?_; rintro e w3 ⟨rfl, hw3⟩; rw [hw3]; clear hw3 w3))
   go_ret
   exact ⟨rfl, Below.refl _ _⟩
set_option maxHeartbeats 1000000 in
theorem zh4 (k : Int) (a : Option Addr) (c : Nat) (ks : List Int) (w : World) (hk : ¬ (1 <= k /\ k <= 24)) :
 Calls Tryd.prog 86 #[.int .i64 k, .slice a ks.length c] w fun e w' => e = .returned (.bool (zi k ks)) /\ Below w.heap.size w w' := by
 rw [zkr k ks hk]
 have q1 : (k == 1) = false := beq_eq_false_iff_ne.2 (by omega)
 have q2 : (k == 2) = false := beq_eq_false_iff_ne.2 (by omega)
 have q3 : (k == 3) = false := beq_eq_false_iff_ne.2 (by omega)
 have q4 : (k == 4) = false := beq_eq_false_iff_ne.2 (by omega)
 have q5 : (k == 5) = false := beq_eq_false_iff_ne.2 (by omega)
 have q6 : (k == 6) = false := beq_eq_false_iff_ne.2 (by omega)
 have q7 : (k == 7) = false := beq_eq_false_iff_ne.2 (by omega)
 have q8 : (k == 8) = false := beq_eq_false_iff_ne.2 (by omega)
 have q9 : (k == 9) = false := beq_eq_false_iff_ne.2 (by omega)
 have q10 : (k == 10) = false := beq_eq_false_iff_ne.2 (by omega)
 have q11 : (k == 11) = false := beq_eq_false_iff_ne.2 (by omega)
 have q12 : (k == 12) = false := beq_eq_false_iff_ne.2 (by omega)
 have q13 : (k == 13) = false := beq_eq_false_iff_ne.2 (by omega)
 have q14 : (k == 14) = false := beq_eq_false_iff_ne.2 (by omega)
 have q15 : (k == 15) = false := beq_eq_false_iff_ne.2 (by omega)
 have q16 : (k == 16) = false := beq_eq_false_iff_ne.2 (by omega)
 have q17 : (k == 17) = false := beq_eq_false_iff_ne.2 (by omega)
 have q18 : (k == 18) = false := beq_eq_false_iff_ne.2 (by omega)
 have q19 : (k == 19) = false := beq_eq_false_iff_ne.2 (by omega)
 have q20 : (k == 20) = false := beq_eq_false_iff_ne.2 (by omega)
 have q21 : (k == 21) = false := beq_eq_false_iff_ne.2 (by omega)
 have q22 : (k == 22) = false := beq_eq_false_iff_ne.2 (by omega)
 have q23 : (k == 23) = false := beq_eq_false_iff_ne.2 (by omega)
 have q24 : (k == 24) = false := beq_eq_false_iff_ne.2 (by omega)
 clear hk
 go_enter Tryd.func86, Tryd.ntmps86
 go_wp2
 go_ret
 exact ⟨rfl, Below.refl _ _⟩
theorem zf9 (k : Int) (a : Option Addr) (c : Nat) (ks : List Int) (B : Nat) (w : World) (hI : IR B w (.slice a ks.length c) ks) (hn : ks.length <= 1048576) :
 Calls Tryd.prog 86 #[.int .i64 k, .slice a ks.length c] w fun e w' => e = .returned (.bool (zi k ks)) /\ Below w.heap.size w w' := by
 by_cases hk : 1 <= k /\ k <= 24
 · obtain ⟨n, rfl⟩ : ∃ n : Nat, k = n := ⟨k.toNat, by omega⟩
   have h1 : n < 25 := by omega
   have h2 : 0 < n := by omega
   match n, h1, h2 with
   | 1, _, _ => exact zhv a c ks B w hI hn
   | 2, _, _ => exact zhw a c ks B w hI hn
   | 3, _, _ => exact zhx a c ks B w hI hn
   | 4, _, _ => exact zhy a c ks B w hI hn
   | 5, _, _ => exact zhz a c ks B w hI hn
   | 6, _, _ => exact zh3 a c ks B w hI hn
   | 7, _, _ => exact zh1 a c ks B w hI hn
   | 8, _, _ => exact zh0 a c ks B w hI hn
   | 9, _, _ => exact zh2 a c ks B w hI hn
   | 10, _, _ => exact zg0 a c ks B w hI hn
   | 11, _, _ => exact zgv a c ks B w hI hn
   | 12, _, _ => exact zg1 a c ks B w hI hn
   | 13, _, _ => exact zg2 a c ks B w hI hn
   | 14, _, _ => exact zgw a c ks B w hI hn
   | 15, _, _ => exact zgx a c ks B w hI hn
   | 16, _, _ => exact zg4 a c ks B w hI hn
   | 17, _, _ => exact zg7 a c ks B w hI hn
   | 18, _, _ => exact zg6 a c ks B w hI hn
   | 19, _, _ => exact zgy a c ks B w hI hn
   | 20, _, _ => exact zg8 a c ks B w hI hn
   | 21, _, _ => exact zg5 a c ks B w hI hn
   | 22, _, _ => exact zgu a c ks B w hI hn
   | 23, _, _ => exact zgz a c ks B w hI hn
   | 24, _, _ => exact zg3 a c ks B w hI hn
 · exact zh4 k a c ks w hk
end Go.Proofs.YtiglkhkfbgjjoaaDoor
