/- - -/
import Derived.Test.YtiglkhkfbgjjoaaGreatDoorPLxJ
namespace Go.Proofs.YtiglkhkfbgjjoaaGreatDoor
set_option maxRecDepth 20000
open Go.RowKit Go.PlainAid
set_option linter.unusedSimpArgs false
set_option linter.unusedVariables false
theorem zks (s : ByteArray) (w : World) (hs : s.size <= 3000) :
 Calls Tryz.prog 95 #[.string s] w fun e w' => e = .returned (.string s) /\ Below w.heap.size w w' := by
 go_enter Tryz.func95, Tryz.ntmps95
 go_wp2_with (go_at_call 109; refine (Tryz.stringslite_Clone _ _ (by omega)).mono ?_; rintro e w1 ⟨rfl, b1⟩)
 go_ret
 exact ⟨rfl, b1⟩
def zir (t : ByteArray) (i j : Nat) : Bool := decide (15 < j - i \/ (1 < j - i /\ bt t i = 48) \/ (j < t.size /\ ltB (bt t j) = true))
theorem zsw (t : ByteArray) (i j : Nat) : zir t i j = (decide (15 < j - i) || ((decide (1 < j - i) && (bt t i == 48)) || (decide (j < t.size) && ltB (bt t j)))) := by
 unfold zir
 rw [Bool.eq_iff_iff]
 simp
set_option maxHeartbeats 1000000 in
theorem zl1 (sb : Nat) (t : ByteArray) (fr at_ : Nat) (v : Value) (w : World) (ht : t.size <= 3000) (h : Scn w sb t fr at_ v) (hf : fr < at_) (ha : at_ <= t.size) :
 Calls Tryz.prog 64 #[.pointer (some ⟨sb, 0, none⟩)] w fun e w' => e = .returned (.bool (!zir t fr at_)) /\ Below w.heap.size w w' := by
 rw [zsw]
 have hsz : (t.extract fr at_).size = at_ - fr := by rw [ByteArray.size_extract]; omega
 have hz : ((t.extract fr at_).size : Int) = (at_ : Int) - fr := by omega
 have hb := get_bt (t.extract fr at_)
 have h0 : bt (t.extract fr at_) 0 = bt t fr := by rw [zbb t fr at_ 0 ha (by omega), Nat.add_zero]
 have HN := fun W (hW : Scn W sb t fr at_ v) => zeb sb t fr at_ v W ht hW ha
 have HP := fun W (hW : Scn W sb t fr at_ v) => zbd sb t fr at_ v W ht hW (by omega) ha
 have HH : Hid (Scn w sb t fr at_ v) := h
 clear h
 generalize t.extract fr at_ = s at hb h0 hz hsz HP
 generalize (decide (at_ < t.size) && ltB (bt t at_)) = q at HN ⊢
 have HNN : Hid (∀ W, Scn W sb t fr at_ v -> _) := HN
 have HPP : Hid (∀ W, Scn W sb t fr at_ v -> _) := HP
 clear HN HP
 have hl : 0 < (s.size : Int) := by omega
 have hs3 : (s.size : Int) <= 3000 := by omega
 by_cases g1 : 1 < at_ - fr
 · have g1' : 1 < (s.size : Int) := by omega
   rw [show decide (1 < at_ - fr) = true from decide_eq_true g1, Bool.true_and]
   cases g2 : (bt t fr == 48) with
   | true =>
     rw [Bool.true_or, Bool.or_true]
     rw [<- h0] at g2
     go_enter Tryz.func64, Tryz.ntmps64
     go_wp2_with (go_at_call 62; refine (HPP.out _ HH.out).mono ?_; rintro e w1 ⟨rfl, b1⟩)
     go_ret
     exact ⟨rfl, b1⟩
   | false =>
     rw [Bool.false_or]
     rw [<- h0] at g2
     by_cases g3 : 15 < at_ - fr
     · have g3' : ¬ (s.size : Int) <= 15 := by omega
       rw [show decide (15 < at_ - fr) = true from decide_eq_true g3, Bool.true_or]
       go_enter Tryz.func64, Tryz.ntmps64
       go_wp2_with (go_at_call 62; refine (HPP.out _ HH.out).mono ?_; rintro e w1 ⟨rfl, b1⟩)
       go_ret
       exact ⟨rfl, b1⟩
     · have g3' : (s.size : Int) <= 15 := by omega
       rw [show decide (15 < at_ - fr) = false from decide_eq_false g3, Bool.false_or]
       go_enter Tryz.func64, Tryz.ntmps64
       go_wp2_with (first | (go_at_call 62; refine (HPP.out _ HH.out).mono ?_; rintro e w1 ⟨rfl, b1⟩; have S1 : Hid (Scn w1 sb t fr at_ v) := HH.out.below b1 HH.out.lt) | (go_at_call 57; refine (HNN.out _ S1.out).mono ?_; rintro e w2 ⟨rfl, b2⟩))
       go_ret
       exact ⟨rfl, zg b1 b2⟩
 · have g1' : ¬ 1 < (s.size : Int) := by omega
   have g3' : (s.size : Int) <= 15 := by omega
   rw [show decide (1 < at_ - fr) = false from decide_eq_false g1, Bool.false_and, Bool.false_or, show decide (15 < at_ - fr) = false from decide_eq_false (by omega), Bool.false_or]
   go_enter Tryz.func64, Tryz.ntmps64
   go_wp2_with (first | (go_at_call 62; refine (HPP.out _ HH.out).mono ?_; rintro e w1 ⟨rfl, b1⟩; have S1 : Hid (Scn w1 sb t fr at_ v) := HH.out.below b1 HH.out.lt) | (go_at_call 57; refine (HNN.out _ S1.out).mono ?_; rintro e w2 ⟨rfl, b2⟩))
   go_ret
   exact ⟨rfl, zg b1 b2⟩
def zel (t : ByteArray) (i j : Nat) : Bool := decide (j < t.size) && ((bt t j == 34) && decide ((j : Int) - i - 1 <= 160))
set_option maxHeartbeats 1000000 in
theorem zl2 (sb : Nat) (t : ByteArray) (fr at_ : Nat) (v : Value) (w : World) (ht : t.size <= 3000) (h : Scn w sb t fr at_ v) (hf : fr < at_) (ha : at_ <= t.size) :
 Calls Tryz.prog 67 #[.pointer (some ⟨sb, 0, none⟩)] w fun e w' => e = .returned (.bool (zel t fr at_)) /\ Below w.heap.size w w' := by
 have hb := get_bt t
 have ht' : (t.size : Int) <= 3000 := by omega
 have hl := h.lt
 obtain ⟨c0, c1, c2, c3⟩ := h.cells
 clear h
 have f' : (fr : Int) < at_ := by omega
 have a' : (at_ : Int) <= t.size := by omega
 unfold zel
 by_cases hlt : at_ < t.size
 · have hlt' : (at_ : Int) < t.size := by omega
   rw [show decide (at_ < t.size) = true from decide_eq_true hlt, Bool.true_and]
   cases hq : (bt t at_ == 34) with
   | true =>
     rw [Bool.true_and]
     go_enter Tryz.func67, Tryz.ntmps67
     go_wp2_with fail
     refine wp_region_held_drew (S := fun V => V = w.drew) (by kernel_rfl) (rfl) (fun hHeld => ?_)
     refine zd 0 3 (.pointer (some ⟨sb, 0, none⟩)) hHeld rfl ?_
     try simp only [Act.put, zv2, zv3, zv4]
     refine zd 1 4 (.pointer (some ⟨sb, 0, none⟩)) hHeld rfl ?_
     try simp only [Act.put, zv2, zv3, zv4]
     refine zd 2 5 (.pointer (some ⟨sb, 2, none⟩)) hHeld rfl ?_
     try simp only [Act.put, zv2, zv3, zv4]
     refine zd 3 6 (.int .i64 (at_ : Int)) hHeld rfl ?_
     try simp only [Act.put, zv2, zv3, zv4]
     refine zd 4 7 (.pointer (some ⟨sb, 0, none⟩)) hHeld rfl ?_
     try simp only [Act.put, zv2, zv3, zv4]
     refine zd 5 8 (.pointer (some ⟨sb, 0, none⟩)) hHeld rfl ?_
     try simp only [Act.put, zv2, zv3, zv4]
     refine zd 6 9 (.pointer (some ⟨sb, 0, none⟩)) hHeld rfl ?_
     try simp only [Act.put, zv2, zv3, zv4]
     refine zd 7 10 (.string t) hHeld rfl ?_
     try simp only [Act.put, zv2, zv3, zv4]
     refine zd 8 11 (.int .i64 (t.size : Int)) hHeld rfl ?_
     try simp only [Act.put, zv2, zv3, zv4]
     refine zd 9 12 (.bool true) hHeld rfl ?_
     try simp only [Act.put, zv2, zv3, zv4]
     refine zd 10 13 (.bool true) hHeld rfl ?_
     try simp only [Act.put, zv2, zv3, zv4]
     refine zd 11 14 (.pointer (some ⟨sb, 0, none⟩)) hHeld rfl ?_
     try simp only [Act.put, zv2, zv3, zv4]
     refine zd 12 15 (.pointer (some ⟨sb, 0, none⟩)) hHeld rfl ?_
     try simp only [Act.put, zv2, zv3, zv4]
     refine zd 13 16 (.pointer (some ⟨sb, 0, none⟩)) hHeld rfl ?_
     try simp only [Act.put, zv2, zv3, zv4]
     refine zd 14 17 (.string t) hHeld rfl ?_
     try simp only [Act.put, zv2, zv3, zv4]
     refine zd 15 18 (.pointer (some ⟨sb, 0, none⟩)) hHeld rfl ?_
     try simp only [Act.put, zv2, zv3, zv4]
     refine zd 16 19 (.pointer (some ⟨sb, 0, none⟩)) hHeld rfl ?_
     try simp only [Act.put, zv2, zv3, zv4]
     refine zd 17 20 (.pointer (some ⟨sb, 2, none⟩)) hHeld rfl ?_
     try simp only [Act.put, zv2, zv3, zv4]
     refine zd 18 21 (.int .i64 (at_ : Int)) hHeld rfl ?_
     try simp only [Act.put, zv2, zv3, zv4]
     refine zd 19 22 (.int .u8 (bt t at_)) hHeld rfl ?_
     try simp only [Act.put, zv2, zv3, zv4]
     refine zd 20 23 (.bool true) hHeld rfl ?_
     try simp only [Act.put, zv2, zv3, zv4]
     refine zd 21 24 (.bool true) hHeld rfl ?_
     try simp only [Act.put, zv2, zv3, zv4]
     refine zd 22 25 (.bool true) hHeld rfl ?_
     try simp only [Act.put, zv2, zv3, zv4]
     refine zd 23 26 (.pointer (some ⟨sb, 0, none⟩)) hHeld rfl ?_
     try simp only [Act.put, zv2, zv3, zv4]
     refine zd 24 27 (.pointer (some ⟨sb, 0, none⟩)) hHeld rfl ?_
     try simp only [Act.put, zv2, zv3, zv4]
     refine zd 25 28 (.pointer (some ⟨sb, 2, none⟩)) hHeld rfl ?_
     try simp only [Act.put, zv2, zv3, zv4]
     refine zd 26 29 (.int .i64 (at_ : Int)) hHeld rfl ?_
     try simp only [Act.put, zv2, zv3, zv4]
     refine zd 27 30 (.pointer (some ⟨sb, 0, none⟩)) hHeld rfl ?_
     try simp only [Act.put, zv2, zv3, zv4]
     refine zd 28 31 (.pointer (some ⟨sb, 0, none⟩)) hHeld rfl ?_
     try simp only [Act.put, zv2, zv3, zv4]
     refine zd 29 32 (.pointer (some ⟨sb, 1, none⟩)) hHeld rfl ?_
     try simp only [Act.put, zv2, zv3, zv4]
     refine zd 30 33 (.int .i64 (fr : Int)) hHeld rfl ?_
     try simp only [Act.put, zv2, zv3, zv4]
     refine wpAnyH_take (i := 31) (oi := { dst := some 34, op := _, type := _, pos := _, after := _, guard := _ }) (v := .int .i64 ((at_ : Int) - fr)) rfl (by kernel_rfl) (by kernel_rfl) (by kernel_rfl) (fun _ _ _ h => h) (Or.inl ⟨by kernel_rfl, ?_⟩) hHeld ?_
     · intro w hSw
       (try dsimp only at hSw)
       go_simp
       exact IntWalk.i64_in _ ⟨by omega, by omega⟩
     try simp only [Act.put, zv2, zv3, zv4]
     refine wpAnyH_take (i := 32) (oi := { dst := some 35, op := _, type := _, pos := _, after := _, guard := _ }) (v := .int .i64 ((at_ : Int) - fr - 1)) rfl (by kernel_rfl) (by kernel_rfl) (by kernel_rfl) (fun _ _ _ h => h) (Or.inl ⟨by kernel_rfl, ?_⟩) hHeld ?_
     · intro w hSw
       (try dsimp only at hSw)
       go_simp
       exact IntWalk.i64_in _ ⟨by omega, by omega⟩
     try simp only [Act.put, zv2, zv3, zv4]
     refine zd 33 36 (.bool (decide ((at_ : Int) - fr - 1 <= 160))) hHeld rfl ?_
     try simp only [Act.put, zv2, zv3, zv4]
     refine zd 34 37 (.bool (decide ((at_ : Int) - fr - 1 <= 160))) hHeld rfl ?_
     try simp only [Act.put, zv2, zv3, zv4]
     refine zd 35 2 (.bool (decide ((at_ : Int) - fr - 1 <= 160))) hHeld rfl ?_
     try simp only [Act.put, zv2, zv3, zv4]
     refine wpAnyH_done (by kernel_rfl) ?_ _
     go_wp2
     go_ret
     exact ⟨rfl, (Below.refl _ _).drew⟩
   | false =>
     rw [Bool.false_and]
     go_enter Tryz.func67, Tryz.ntmps67
     go_wp2_with fail
     refine wp_region_held_drew (S := fun V => V = w.drew) (by kernel_rfl) (rfl) (fun hHeld => ?_)
     refine zd 0 3 (.pointer (some ⟨sb, 0, none⟩)) hHeld rfl ?_
     try simp only [Act.put, zv2, zv3, zv4]
     refine zd 1 4 (.pointer (some ⟨sb, 0, none⟩)) hHeld rfl ?_
     try simp only [Act.put, zv2, zv3, zv4]
     refine zd 2 5 (.pointer (some ⟨sb, 2, none⟩)) hHeld rfl ?_
     try simp only [Act.put, zv2, zv3, zv4]
     refine zd 3 6 (.int .i64 (at_ : Int)) hHeld rfl ?_
     try simp only [Act.put, zv2, zv3, zv4]
     refine zd 4 7 (.pointer (some ⟨sb, 0, none⟩)) hHeld rfl ?_
     try simp only [Act.put, zv2, zv3, zv4]
     refine zd 5 8 (.pointer (some ⟨sb, 0, none⟩)) hHeld rfl ?_
     try simp only [Act.put, zv2, zv3, zv4]
     refine zd 6 9 (.pointer (some ⟨sb, 0, none⟩)) hHeld rfl ?_
     try simp only [Act.put, zv2, zv3, zv4]
     refine zd 7 10 (.string t) hHeld rfl ?_
     try simp only [Act.put, zv2, zv3, zv4]
     refine zd 8 11 (.int .i64 (t.size : Int)) hHeld rfl ?_
     try simp only [Act.put, zv2, zv3, zv4]
     refine zd 9 12 (.bool true) hHeld rfl ?_
     try simp only [Act.put, zv2, zv3, zv4]
     refine zd 10 13 (.bool true) hHeld rfl ?_
     try simp only [Act.put, zv2, zv3, zv4]
     refine zd 11 14 (.pointer (some ⟨sb, 0, none⟩)) hHeld rfl ?_
     try simp only [Act.put, zv2, zv3, zv4]
     refine zd 12 15 (.pointer (some ⟨sb, 0, none⟩)) hHeld rfl ?_
     try simp only [Act.put, zv2, zv3, zv4]
     refine zd 13 16 (.pointer (some ⟨sb, 0, none⟩)) hHeld rfl ?_
     try simp only [Act.put, zv2, zv3, zv4]
     refine zd 14 17 (.string t) hHeld rfl ?_
     try simp only [Act.put, zv2, zv3, zv4]
     refine zd 15 18 (.pointer (some ⟨sb, 0, none⟩)) hHeld rfl ?_
     try simp only [Act.put, zv2, zv3, zv4]
     refine zd 16 19 (.pointer (some ⟨sb, 0, none⟩)) hHeld rfl ?_
     try simp only [Act.put, zv2, zv3, zv4]
     refine zd 17 20 (.pointer (some ⟨sb, 2, none⟩)) hHeld rfl ?_
     try simp only [Act.put, zv2, zv3, zv4]
     refine zd 18 21 (.int .i64 (at_ : Int)) hHeld rfl ?_
     try simp only [Act.put, zv2, zv3, zv4]
     refine zd 19 22 (.int .u8 (bt t at_)) hHeld rfl ?_
     try simp only [Act.put, zv2, zv3, zv4]
     refine zd 20 23 (.bool false) hHeld rfl ?_
     try simp only [Act.put, zv2, zv3, zv4]
     refine zd 21 24 (.bool false) hHeld rfl ?_
     try simp only [Act.put, zv2, zv3, zv4]
     refine zd 22 25 (.bool false) hHeld rfl ?_
     try simp only [Act.put, zv2, zv3, zv4]
     refine zj 23 26 hHeld rfl ?_
     try simp only [Act.put, zv2, zv3, zv4]
     refine zj 24 27 hHeld rfl ?_
     try simp only [Act.put, zv2, zv3, zv4]
     refine zj 25 28 hHeld rfl ?_
     try simp only [Act.put, zv2, zv3, zv4]
     refine zj 26 29 hHeld rfl ?_
     try simp only [Act.put, zv2, zv3, zv4]
     refine zj 27 30 hHeld rfl ?_
     try simp only [Act.put, zv2, zv3, zv4]
     refine zj 28 31 hHeld rfl ?_
     try simp only [Act.put, zv2, zv3, zv4]
     refine zj 29 32 hHeld rfl ?_
     try simp only [Act.put, zv2, zv3, zv4]
     refine zj 30 33 hHeld rfl ?_
     try simp only [Act.put, zv2, zv3, zv4]
     refine zj 31 34 hHeld rfl ?_
     try simp only [Act.put, zv2, zv3, zv4]
     refine zj 32 35 hHeld rfl ?_
     try simp only [Act.put, zv2, zv3, zv4]
     refine zj 33 36 hHeld rfl ?_
     try simp only [Act.put, zv2, zv3, zv4]
     refine zd 34 37 (.bool false) hHeld rfl ?_
     try simp only [Act.put, zv2, zv3, zv4]
     refine zd 35 2 (.bool false) hHeld rfl ?_
     try simp only [Act.put, zv2, zv3, zv4]
     refine wpAnyH_done (by kernel_rfl) ?_ _
     go_wp2
     go_ret
     exact ⟨rfl, (Below.refl _ _).drew⟩
 · have hlt' : ¬ (at_ : Int) < t.size := by omega
   rw [show decide (at_ < t.size) = false from decide_eq_false hlt, Bool.false_and]
   go_enter Tryz.func67, Tryz.ntmps67
   go_wp2_with fail
   refine wp_region_held_drew (S := fun V => V = w.drew) (by kernel_rfl) (rfl) (fun hHeld => ?_)
   refine zd 0 3 (.pointer (some ⟨sb, 0, none⟩)) hHeld rfl ?_
   try simp only [Act.put, zv2, zv3, zv4]
   refine zd 1 4 (.pointer (some ⟨sb, 0, none⟩)) hHeld rfl ?_
   try simp only [Act.put, zv2, zv3, zv4]
   refine zd 2 5 (.pointer (some ⟨sb, 2, none⟩)) hHeld rfl ?_
   try simp only [Act.put, zv2, zv3, zv4]
   refine zd 3 6 (.int .i64 (at_ : Int)) hHeld rfl ?_
   try simp only [Act.put, zv2, zv3, zv4]
   refine zd 4 7 (.pointer (some ⟨sb, 0, none⟩)) hHeld rfl ?_
   try simp only [Act.put, zv2, zv3, zv4]
   refine zd 5 8 (.pointer (some ⟨sb, 0, none⟩)) hHeld rfl ?_
   try simp only [Act.put, zv2, zv3, zv4]
   refine zd 6 9 (.pointer (some ⟨sb, 0, none⟩)) hHeld rfl ?_
   try simp only [Act.put, zv2, zv3, zv4]
   refine zd 7 10 (.string t) hHeld rfl ?_
   try simp only [Act.put, zv2, zv3, zv4]
   refine zd 8 11 (.int .i64 (t.size : Int)) hHeld rfl ?_
   try simp only [Act.put, zv2, zv3, zv4]
   refine zd 9 12 (.bool false) hHeld rfl ?_
   try simp only [Act.put, zv2, zv3, zv4]
   refine zd 10 13 (.bool false) hHeld rfl ?_
   try simp only [Act.put, zv2, zv3, zv4]
   refine zj 11 14 hHeld rfl ?_
   try simp only [Act.put, zv2, zv3, zv4]
   refine zj 12 15 hHeld rfl ?_
   try simp only [Act.put, zv2, zv3, zv4]
   refine zj 13 16 hHeld rfl ?_
   try simp only [Act.put, zv2, zv3, zv4]
   refine zj 14 17 hHeld rfl ?_
   try simp only [Act.put, zv2, zv3, zv4]
   refine zj 15 18 hHeld rfl ?_
   try simp only [Act.put, zv2, zv3, zv4]
   refine zj 16 19 hHeld rfl ?_
   try simp only [Act.put, zv2, zv3, zv4]
   refine zj 17 20 hHeld rfl ?_
   try simp only [Act.put, zv2, zv3, zv4]
   refine zj 18 21 hHeld rfl ?_
   try simp only [Act.put, zv2, zv3, zv4]
   refine zj 19 22 hHeld rfl ?_
   try simp only [Act.put, zv2, zv3, zv4]
   refine zj 20 23 hHeld rfl ?_
   try simp only [Act.put, zv2, zv3, zv4]
   refine zd 21 24 (.bool false) hHeld rfl ?_
   try simp only [Act.put, zv2, zv3, zv4]
   refine zd 22 25 (.bool false) hHeld rfl ?_
   try simp only [Act.put, zv2, zv3, zv4]
   refine zj 23 26 hHeld rfl ?_
   try simp only [Act.put, zv2, zv3, zv4]
   refine zj 24 27 hHeld rfl ?_
   try simp only [Act.put, zv2, zv3, zv4]
   refine zj 25 28 hHeld rfl ?_
   try simp only [Act.put, zv2, zv3, zv4]
   refine zj 26 29 hHeld rfl ?_
   try simp only [Act.put, zv2, zv3, zv4]
   refine zj 27 30 hHeld rfl ?_
   try simp only [Act.put, zv2, zv3, zv4]
   refine zj 28 31 hHeld rfl ?_
   try simp only [Act.put, zv2, zv3, zv4]
   refine zj 29 32 hHeld rfl ?_
   try simp only [Act.put, zv2, zv3, zv4]
   refine zj 30 33 hHeld rfl ?_
   try simp only [Act.put, zv2, zv3, zv4]
   refine zj 31 34 hHeld rfl ?_
   try simp only [Act.put, zv2, zv3, zv4]
   refine zj 32 35 hHeld rfl ?_
   try simp only [Act.put, zv2, zv3, zv4]
   refine zj 33 36 hHeld rfl ?_
   try simp only [Act.put, zv2, zv3, zv4]
   refine zd 34 37 (.bool false) hHeld rfl ?_
   try simp only [Act.put, zv2, zv3, zv4]
   refine zd 35 2 (.bool false) hHeld rfl ?_
   try simp only [Act.put, zv2, zv3, zv4]
   refine wpAnyH_done (by kernel_rfl) ?_ _
   go_wp2
   go_ret
   exact ⟨rfl, (Below.refl _ _).drew⟩
theorem zf6 {B : Nat} {e : TypeId} {w : World} {v : Value} {n : Nat} {xs : List Value} (h : w.ownsRow B e 4 v n xs) : ∃ a c, v = .slice a n c := by
 obtain ⟨_, ⟨rfl, rfl⟩ | ⟨g, cap, cur, rfl, _⟩⟩ := h
 · exact ⟨_, _, rfl⟩
 · exact ⟨_, _, rfl⟩
set_option maxHeartbeats 4000000 in
theorem zek (sb : Nat) (t : ByteArray) (fr at_ : Nat) (va : Option Addr) (vc : Nat) (acc : List za) (k : Int) (s : ByteArray) (n : Int) (w : World) (hs : s.size <= 3000) (hacc : acc.length <= 3000) (h : Scn w sb t fr at_ (.slice va acc.length vc)) (hT : zaa (sb + 1) w (.slice va acc.length vc) acc) :
 Calls Tryz.prog 63 #[.pointer (some ⟨sb, 0, none⟩), .int .i64 k, .string s, .int .i64 n] w fun e w' => e = .returned (.tuple #[]) /\ ∃ v', Scn w' sb t fr at_ v' /\ zaa (sb + 1) w' v' (acc ++ [⟨k, fr, s, n⟩]) /\ Below sb w w' := by
 obtain ⟨i0, hi, hz0, hz1, hz2⟩ := zke
 have HS : Hid (Scn w.drew sb t fr at_ (.slice va acc.length vc)) := h.drew
 have HT : Hid (zaa (sb + 1) w.drew (.slice va acc.length vc) acc) := hT
 have HB : Hid (Below sb w w.drew) := (Below.refl _ _).drew
 have c3 : w.drew.cell? ⟨sb, 3, none⟩ = some (.slice va acc.length vc) := h.cells.2.2.2
 clear h hT
 go_enter Tryz.func63, Tryz.ntmps63
 go_wp2_with fail
 refine wp_region_held_drew (S := fun V => Below sb w V /\ V.cell? ⟨sb, 1, none⟩ = some (.int .i64 (fr : Int))) (by kernel_rfl) (⟨HB.out, HS.out.cells.2.1⟩) (fun hHeld => ?_)
 generalize w.drew = w0 at *
 refine zd 0 8 (.pointer (some ⟨sb, 0, none⟩)) hHeld rfl ?_
 try simp only [Act.put, zv2, zv3, zv4]
 refine zd 1 9 (.pointer (some ⟨sb, 0, none⟩)) hHeld rfl ?_
 try simp only [Act.put, zv2, zv3, zv4]
 refine zd 2 10 (.pointer (some ⟨sb, 0, none⟩)) hHeld rfl ?_
 try simp only [Act.put, zv2, zv3, zv4]
 refine zd 3 11 (.pointer (some ⟨sb, 3, none⟩)) hHeld rfl ?_
 try simp only [Act.put, zv2, zv3, zv4]
 refine zd 5 13 (.int .i64 k) hHeld rfl ?_
 try simp only [Act.put, zv2, zv3, zv4]
 refine zd 6 14 (.pointer (some ⟨sb, 0, none⟩)) hHeld rfl ?_
 try simp only [Act.put, zv2, zv3, zv4]
 refine zd 7 15 (.pointer (some ⟨sb, 0, none⟩)) hHeld rfl ?_
 try simp only [Act.put, zv2, zv3, zv4]
 refine zd 8 16 (.pointer (some ⟨sb, 1, none⟩)) hHeld rfl ?_
 try simp only [Act.put, zv2, zv3, zv4]
 refine zd 9 17 (.int .i64 (fr : Int)) hHeld rfl ?_
 try simp only [Act.put, zv2, zv3, zv4]
 refine zd 10 18 (.string s) hHeld rfl ?_
 try simp only [Act.put, zv2, zv3, zv4]
 refine zd 12 20 (.int .i64 n) hHeld rfl ?_
 try simp only [Act.put, zv2, zv3, zv4]
 refine wpAnyH_ready (rs := [4, 11]) (by kernel_rfl) (by simp) ?_
 refine AllReadyH.cons (o := { dst := some 12, op := _, type := _, pos := _, after := _, guard := _ }) rfl (fun K hK => ?_) (AllReadyH.cons (o := { dst := some 19, op := _, type := _, pos := _, after := _, guard := _ }) rfl (fun K hK => ?_) AllReadyH.nil)
 · go_simp
   clear hHeld
   refine hK.out _ _ (⟨HB.out, HS.out.cells.2.1⟩) (fun hHeld => ?_)
   clear hK K
   try simp only [Act.put, zv2, zv3, zv4]
   refine wpAnyH_ready (rs := [11]) (by kernel_rfl) (by simp) ?_
   refine AllReadyH.cons (o := { dst := some 19, op := _, type := _, pos := _, after := _, guard := _ }) rfl (fun K hK => ?_) AllReadyH.nil
   go_simp
   go_at_call 95
   refine (zks _ _ hs).mono ?_
   rintro e w1 ⟨rfl, b1⟩
   replace HT : Hid (zaa (sb + 1) w1 (.slice va acc.length vc) acc) := HT.out.below b1
   replace HB : Hid (Below sb w w1) := HB.out.trans (b1.mono (Nat.le_of_lt HS.out.lt))
   replace HS : Hid (Scn w1 sb t fr at_ (.slice va acc.length vc)) := HS.out.below b1 HS.out.lt
   replace c3 : w1.cell? ⟨sb, 3, none⟩ = some (.slice va acc.length vc) := HS.out.cells.2.2.2
   clear b1
   clear hHeld
   refine hK.out _ _ (⟨HB.out, HS.out.cells.2.1⟩) (fun hHeld => ?_)
   clear hK K
   try simp only [Act.put, zv2, zv3, zv4]
   refine zd 13 21 (.agg #[.int .i64 k, .int .i64 (fr : Int), .string s, .int .i64 n]) hHeld rfl ?_
   try simp only [Act.put, zv2, zv3, zv4]
   refine wpAnyH_ready (rs := [14]) (by kernel_rfl) (by simp) ?_
   refine AllReadyH.cons (o := { dst := some 22, op := _, type := _, pos := _, after := _, guard := _ }) rfl (fun K hK => ?_) AllReadyH.nil
   go_simp
   have hl1 : sb < w1.heap.size := HS.out.lt
   have bA : Below w1.heap.size w1 (w1.alloc (.cells #[.int .i64 k, .int .i64 (fr : Int), .string s, .int .i64 n] 68)) := (Below.refl _ _).alloc (Nat.le_refl _) _
   replace HS : Hid (Scn (w1.alloc (.cells #[.int .i64 k, .int .i64 (fr : Int), .string s, .int .i64 n] 68)) sb t fr at_ (.slice va acc.length vc)) := HS.out.below bA hl1
   replace HT : Hid (zaa (sb + 1) (w1.alloc (.cells #[.int .i64 k, .int .i64 (fr : Int), .string s, .int .i64 n] 68)) (.slice va acc.length vc) acc) := HT.out.alloc _
   replace HB : Hid (Below sb w (w1.alloc (.cells #[.int .i64 k, .int .i64 (fr : Int), .string s, .int .i64 n] 68))) := HB.out.alloc (by omega) _
   have HN : Hid (∀ j u, (zb9 ⟨k, fr, s, n⟩)[j]? = some u -> (w1.alloc (.cells #[.int .i64 k, .int .i64 (fr : Int), .string s, .int .i64 n] 68)).cell? ((⟨w1.heap.size, 0, none⟩ : Addr).add j) = some u) := zda rfl ⟨k, fr, s, n⟩ _
   replace c3 : (w1.alloc (.cells #[.int .i64 k, .int .i64 (fr : Int), .string s, .int .i64 n] 68)).cell? ⟨sb, 3, none⟩ = some (.slice va acc.length vc) := HS.out.cells.2.2.2
   have hz : sb + 1 <= (w1.alloc (.cells #[.int .i64 k, .int .i64 (fr : Int), .string s, .int .i64 n] 68)).heap.size := by simp; omega
   clear bA
   clear hHeld
   refine hK.out _ _ (⟨HB.out, HS.out.cells.2.1⟩) (fun hHeld => ?_)
   clear hK K
   try simp only [Act.put, zv2, zv3, zv4]
   generalize (w1.alloc (.cells #[.int .i64 k, .int .i64 (fr : Int), .string s, .int .i64 n] 68)) = w2 at *
   refine wpAnyH_ready (rs := [15]) (by kernel_rfl) (by simp) ?_
   refine AllReadyH.cons (o := { dst := some 23, op := _, type := _, pos := _, after := _, guard := _ }) rfl (fun K hK => ?_) AllReadyH.nil
   rw [if_pos (by kernel_rfl)]
   refine wp_append_own _ _ _ 38 rfl (sb + 1) 68 i0 (.agg #[.int .i64 0, .int .i64 0, .string ⟨#[]⟩, .int .i64 0]) 4 40 Tryz.underlying38 hi hz0 hz1 hz2 rfl (by decide) (.slice va acc.length vc) acc.length (zw acc) rfl HT.out ⟨w1.heap.size, 0, none⟩ 1 1 (zb9 ⟨k, fr, s, n⟩) rfl rfl HN.out (zcd (X := [⟨k, fr, s, n⟩])) (by unfold maxLen; omega) (by omega) hz ?_
   intro v' w3 hown' hgrow hnil
   clear hnil
   obtain ⟨va', vc', rfl⟩ := zf6 hown'
   have hne : some sb ≠ (.slice va acc.length vc : Value).ownBlock := fun e => by have := (World.ownsRow.lt HT.out sb e.symm).1; omega
   have hb3 : w3.heap[sb]? = w2.heap[sb]? := hgrow.block sb HS.out.lt hne
   have HS3 : Hid (Scn w3 sb t fr at_ (.slice va acc.length vc)) := ⟨Nat.lt_of_lt_of_le HS.out.lt hgrow.size, fun i => by rw [World.cell?_of_block (w := w2) (a := ⟨sb, i, none⟩) hb3]; exact HS.out.c i, fun i => by rw [World.frozen?_of_block (w := w2) (a := ⟨sb, i, none⟩) hb3]; exact HS.out.f i⟩
   have HT3 : Hid (zaa (sb + 1) w3 (.slice va' (acc.length + 1) vc') (acc ++ [⟨k, fr, s, n⟩])) := zaa.grow hown'
   have HB3 : Hid (Below sb w w3) := Below.grown HB.out hgrow (by omega) (fun j hj => by have := (World.ownsRow.lt HT.out j hj).1; omega)
   clear HS HT HB HN hown' hgrow hne hb3 hz c3
   have HS := HS3
   have HT := HT3
   have HB := HB3
   clear HS3 HT3 HB3
   clear hHeld
   refine hK.out _ _ (⟨HB.out, HS.out.cells.2.1⟩) (fun hHeld => ?_)
   clear hK K
   try simp only [Act.put, zv2, zv3, zv4]
   refine zd 16 24 (.pointer (some ⟨sb, 0, none⟩)) hHeld rfl ?_
   try simp only [Act.put, zv2, zv3, zv4]
   refine zd 17 25 (.pointer (some ⟨sb, 3, none⟩)) hHeld rfl ?_
   try simp only [Act.put, zv2, zv3, zv4]
   refine wpAnyH_ready (rs := [18]) (by kernel_rfl) (by simp) ?_
   refine AllReadyH.cons (o := { dst := none, op := _, type := _, pos := _, after := _, guard := _ }) rfl (fun K hK => ?_) AllReadyH.nil
   have hl3 := HS.out.lt
   have c3 := HS.out.cells.2.2.2
   have f3 := HS.out.f 3
   go_simp
   clear hHeld
   refine hK.out _ _ (⟨HB.out.setCell (Nat.le_refl _) _, (HS.out.setToks (.slice va' (acc.length + 1) vc')).cells.2.1⟩) (fun hHeld => ?_)
   clear hK K
   try simp only [Act.put, zv2, zv3, zv4]
   refine wpAnyH_done (by kernel_rfl) ?_ _
   go_wp2
   go_end0
   exact ⟨rfl, _, HS.out.setToks _, HT.out.grown (zbt _ _ _ _) (Nat.lt_succ_self _), HB.out.setCell (Nat.le_refl _) _⟩
 · go_simp
   go_at_call 95
   refine (zks _ _ hs).mono ?_
   rintro e w1 ⟨rfl, b1⟩
   replace HT : Hid (zaa (sb + 1) w1 (.slice va acc.length vc) acc) := HT.out.below b1
   replace HB : Hid (Below sb w w1) := HB.out.trans (b1.mono (Nat.le_of_lt HS.out.lt))
   replace HS : Hid (Scn w1 sb t fr at_ (.slice va acc.length vc)) := HS.out.below b1 HS.out.lt
   replace c3 : w1.cell? ⟨sb, 3, none⟩ = some (.slice va acc.length vc) := HS.out.cells.2.2.2
   clear b1
   clear hHeld
   refine hK.out _ _ (⟨HB.out, HS.out.cells.2.1⟩) (fun hHeld => ?_)
   clear hK K
   try simp only [Act.put, zv2, zv3, zv4]
   refine zd 13 21 (.agg #[.int .i64 k, .int .i64 (fr : Int), .string s, .int .i64 n]) hHeld rfl ?_
   try simp only [Act.put, zv2, zv3, zv4]
   refine wpAnyH_ready (rs := [4, 14]) (by kernel_rfl) (by simp) ?_
   refine AllReadyH.cons (o := { dst := some 12, op := _, type := _, pos := _, after := _, guard := _ }) rfl (fun K hK => ?_) (AllReadyH.cons (o := { dst := some 22, op := _, type := _, pos := _, after := _, guard := _ }) rfl (fun K hK => ?_) AllReadyH.nil)
   · go_simp
     clear hHeld
     refine hK.out _ _ (⟨HB.out, HS.out.cells.2.1⟩) (fun hHeld => ?_)
     clear hK K
     try simp only [Act.put, zv2, zv3, zv4]
     refine wpAnyH_ready (rs := [14]) (by kernel_rfl) (by simp) ?_
     refine AllReadyH.cons (o := { dst := some 22, op := _, type := _, pos := _, after := _, guard := _ }) rfl (fun K hK => ?_) AllReadyH.nil
     go_simp
     have hl1 : sb < w1.heap.size := HS.out.lt
     have bA : Below w1.heap.size w1 (w1.alloc (.cells #[.int .i64 k, .int .i64 (fr : Int), .string s, .int .i64 n] 68)) := (Below.refl _ _).alloc (Nat.le_refl _) _
     replace HS : Hid (Scn (w1.alloc (.cells #[.int .i64 k, .int .i64 (fr : Int), .string s, .int .i64 n] 68)) sb t fr at_ (.slice va acc.length vc)) := HS.out.below bA hl1
     replace HT : Hid (zaa (sb + 1) (w1.alloc (.cells #[.int .i64 k, .int .i64 (fr : Int), .string s, .int .i64 n] 68)) (.slice va acc.length vc) acc) := HT.out.alloc _
     replace HB : Hid (Below sb w (w1.alloc (.cells #[.int .i64 k, .int .i64 (fr : Int), .string s, .int .i64 n] 68))) := HB.out.alloc (by omega) _
     have HN : Hid (∀ j u, (zb9 ⟨k, fr, s, n⟩)[j]? = some u -> (w1.alloc (.cells #[.int .i64 k, .int .i64 (fr : Int), .string s, .int .i64 n] 68)).cell? ((⟨w1.heap.size, 0, none⟩ : Addr).add j) = some u) := zda rfl ⟨k, fr, s, n⟩ _
     replace c3 : (w1.alloc (.cells #[.int .i64 k, .int .i64 (fr : Int), .string s, .int .i64 n] 68)).cell? ⟨sb, 3, none⟩ = some (.slice va acc.length vc) := HS.out.cells.2.2.2
     have hz : sb + 1 <= (w1.alloc (.cells #[.int .i64 k, .int .i64 (fr : Int), .string s, .int .i64 n] 68)).heap.size := by simp; omega
     clear bA
     clear hHeld
     refine hK.out _ _ (⟨HB.out, HS.out.cells.2.1⟩) (fun hHeld => ?_)
     clear hK K
     try simp only [Act.put, zv2, zv3, zv4]
     generalize (w1.alloc (.cells #[.int .i64 k, .int .i64 (fr : Int), .string s, .int .i64 n] 68)) = w2 at *
     refine wpAnyH_ready (rs := [15]) (by kernel_rfl) (by simp) ?_
     refine AllReadyH.cons (o := { dst := some 23, op := _, type := _, pos := _, after := _, guard := _ }) rfl (fun K hK => ?_) AllReadyH.nil
     rw [if_pos (by kernel_rfl)]
     refine wp_append_own _ _ _ 38 rfl (sb + 1) 68 i0 (.agg #[.int .i64 0, .int .i64 0, .string ⟨#[]⟩, .int .i64 0]) 4 40 Tryz.underlying38 hi hz0 hz1 hz2 rfl (by decide) (.slice va acc.length vc) acc.length (zw acc) rfl HT.out ⟨w1.heap.size, 0, none⟩ 1 1 (zb9 ⟨k, fr, s, n⟩) rfl rfl HN.out (zcd (X := [⟨k, fr, s, n⟩])) (by unfold maxLen; omega) (by omega) hz ?_
     intro v' w3 hown' hgrow hnil
     clear hnil
     obtain ⟨va', vc', rfl⟩ := zf6 hown'
     have hne : some sb ≠ (.slice va acc.length vc : Value).ownBlock := fun e => by have := (World.ownsRow.lt HT.out sb e.symm).1; omega
     have hb3 : w3.heap[sb]? = w2.heap[sb]? := hgrow.block sb HS.out.lt hne
     have HS3 : Hid (Scn w3 sb t fr at_ (.slice va acc.length vc)) := ⟨Nat.lt_of_lt_of_le HS.out.lt hgrow.size, fun i => by rw [World.cell?_of_block (w := w2) (a := ⟨sb, i, none⟩) hb3]; exact HS.out.c i, fun i => by rw [World.frozen?_of_block (w := w2) (a := ⟨sb, i, none⟩) hb3]; exact HS.out.f i⟩
     have HT3 : Hid (zaa (sb + 1) w3 (.slice va' (acc.length + 1) vc') (acc ++ [⟨k, fr, s, n⟩])) := zaa.grow hown'
     have HB3 : Hid (Below sb w w3) := Below.grown HB.out hgrow (by omega) (fun j hj => by have := (World.ownsRow.lt HT.out j hj).1; omega)
     clear HS HT HB HN hown' hgrow hne hb3 hz c3
     have HS := HS3
     have HT := HT3
     have HB := HB3
     clear HS3 HT3 HB3
     clear hHeld
     refine hK.out _ _ (⟨HB.out, HS.out.cells.2.1⟩) (fun hHeld => ?_)
     clear hK K
     try simp only [Act.put, zv2, zv3, zv4]
     refine zd 16 24 (.pointer (some ⟨sb, 0, none⟩)) hHeld rfl ?_
     try simp only [Act.put, zv2, zv3, zv4]
     refine zd 17 25 (.pointer (some ⟨sb, 3, none⟩)) hHeld rfl ?_
     try simp only [Act.put, zv2, zv3, zv4]
     refine wpAnyH_ready (rs := [18]) (by kernel_rfl) (by simp) ?_
     refine AllReadyH.cons (o := { dst := none, op := _, type := _, pos := _, after := _, guard := _ }) rfl (fun K hK => ?_) AllReadyH.nil
     have hl3 := HS.out.lt
     have c3 := HS.out.cells.2.2.2
     have f3 := HS.out.f 3
     go_simp
     clear hHeld
     refine hK.out _ _ (⟨HB.out.setCell (Nat.le_refl _) _, (HS.out.setToks (.slice va' (acc.length + 1) vc')).cells.2.1⟩) (fun hHeld => ?_)
     clear hK K
     try simp only [Act.put, zv2, zv3, zv4]
     refine wpAnyH_done (by kernel_rfl) ?_ _
     go_wp2
     go_end0
     exact ⟨rfl, _, HS.out.setToks _, HT.out.grown (zbt _ _ _ _) (Nat.lt_succ_self _), HB.out.setCell (Nat.le_refl _) _⟩
   · go_simp
     have hl1 : sb < w1.heap.size := HS.out.lt
     have bA : Below w1.heap.size w1 (w1.alloc (.cells #[.int .i64 k, .int .i64 (fr : Int), .string s, .int .i64 n] 68)) := (Below.refl _ _).alloc (Nat.le_refl _) _
     replace HS : Hid (Scn (w1.alloc (.cells #[.int .i64 k, .int .i64 (fr : Int), .string s, .int .i64 n] 68)) sb t fr at_ (.slice va acc.length vc)) := HS.out.below bA hl1
     replace HT : Hid (zaa (sb + 1) (w1.alloc (.cells #[.int .i64 k, .int .i64 (fr : Int), .string s, .int .i64 n] 68)) (.slice va acc.length vc) acc) := HT.out.alloc _
     replace HB : Hid (Below sb w (w1.alloc (.cells #[.int .i64 k, .int .i64 (fr : Int), .string s, .int .i64 n] 68))) := HB.out.alloc (by omega) _
     have HN : Hid (∀ j u, (zb9 ⟨k, fr, s, n⟩)[j]? = some u -> (w1.alloc (.cells #[.int .i64 k, .int .i64 (fr : Int), .string s, .int .i64 n] 68)).cell? ((⟨w1.heap.size, 0, none⟩ : Addr).add j) = some u) := zda rfl ⟨k, fr, s, n⟩ _
     replace c3 : (w1.alloc (.cells #[.int .i64 k, .int .i64 (fr : Int), .string s, .int .i64 n] 68)).cell? ⟨sb, 3, none⟩ = some (.slice va acc.length vc) := HS.out.cells.2.2.2
     have hz : sb + 1 <= (w1.alloc (.cells #[.int .i64 k, .int .i64 (fr : Int), .string s, .int .i64 n] 68)).heap.size := by simp; omega
     clear bA
     clear hHeld
     refine hK.out _ _ (⟨HB.out, HS.out.cells.2.1⟩) (fun hHeld => ?_)
     clear hK K
     try simp only [Act.put, zv2, zv3, zv4]
     generalize (w1.alloc (.cells #[.int .i64 k, .int .i64 (fr : Int), .string s, .int .i64 n] 68)) = w2 at *
     refine wpAnyH_ready (rs := [4]) (by kernel_rfl) (by simp) ?_
     refine AllReadyH.cons (o := { dst := some 12, op := _, type := _, pos := _, after := _, guard := _ }) rfl (fun K hK => ?_) AllReadyH.nil
     go_simp
     clear hHeld
     refine hK.out _ _ (⟨HB.out, HS.out.cells.2.1⟩) (fun hHeld => ?_)
     clear hK K
     try simp only [Act.put, zv2, zv3, zv4]
     refine wpAnyH_ready (rs := [15]) (by kernel_rfl) (by simp) ?_
     refine AllReadyH.cons (o := { dst := some 23, op := _, type := _, pos := _, after := _, guard := _ }) rfl (fun K hK => ?_) AllReadyH.nil
     rw [if_pos (by kernel_rfl)]
     refine wp_append_own _ _ _ 38 rfl (sb + 1) 68 i0 (.agg #[.int .i64 0, .int .i64 0, .string ⟨#[]⟩, .int .i64 0]) 4 40 Tryz.underlying38 hi hz0 hz1 hz2 rfl (by decide) (.slice va acc.length vc) acc.length (zw acc) rfl HT.out ⟨w1.heap.size, 0, none⟩ 1 1 (zb9 ⟨k, fr, s, n⟩) rfl rfl HN.out (zcd (X := [⟨k, fr, s, n⟩])) (by unfold maxLen; omega) (by omega) hz ?_
     intro v' w3 hown' hgrow hnil
     clear hnil
     obtain ⟨va', vc', rfl⟩ := zf6 hown'
     have hne : some sb ≠ (.slice va acc.length vc : Value).ownBlock := fun e => by have := (World.ownsRow.lt HT.out sb e.symm).1; omega
     have hb3 : w3.heap[sb]? = w2.heap[sb]? := hgrow.block sb HS.out.lt hne
     have HS3 : Hid (Scn w3 sb t fr at_ (.slice va acc.length vc)) := ⟨Nat.lt_of_lt_of_le HS.out.lt hgrow.size, fun i => by rw [World.cell?_of_block (w := w2) (a := ⟨sb, i, none⟩) hb3]; exact HS.out.c i, fun i => by rw [World.frozen?_of_block (w := w2) (a := ⟨sb, i, none⟩) hb3]; exact HS.out.f i⟩
     have HT3 : Hid (zaa (sb + 1) w3 (.slice va' (acc.length + 1) vc') (acc ++ [⟨k, fr, s, n⟩])) := zaa.grow hown'
     have HB3 : Hid (Below sb w w3) := Below.grown HB.out hgrow (by omega) (fun j hj => by have := (World.ownsRow.lt HT.out j hj).1; omega)
     clear HS HT HB HN hown' hgrow hne hb3 hz c3
     have HS := HS3
     have HT := HT3
     have HB := HB3
     clear HS3 HT3 HB3
     clear hHeld
     refine hK.out _ _ (⟨HB.out, HS.out.cells.2.1⟩) (fun hHeld => ?_)
     clear hK K
     try simp only [Act.put, zv2, zv3, zv4]
     refine zd 16 24 (.pointer (some ⟨sb, 0, none⟩)) hHeld rfl ?_
     try simp only [Act.put, zv2, zv3, zv4]
     refine zd 17 25 (.pointer (some ⟨sb, 3, none⟩)) hHeld rfl ?_
     try simp only [Act.put, zv2, zv3, zv4]
     refine wpAnyH_ready (rs := [18]) (by kernel_rfl) (by simp) ?_
     refine AllReadyH.cons (o := { dst := none, op := _, type := _, pos := _, after := _, guard := _ }) rfl (fun K hK => ?_) AllReadyH.nil
     have hl3 := HS.out.lt
     have c3 := HS.out.cells.2.2.2
     have f3 := HS.out.f 3
     go_simp
     clear hHeld
     refine hK.out _ _ (⟨HB.out.setCell (Nat.le_refl _) _, (HS.out.setToks (.slice va' (acc.length + 1) vc')).cells.2.1⟩) (fun hHeld => ?_)
     clear hK K
     try simp only [Act.put, zv2, zv3, zv4]
     refine wpAnyH_done (by kernel_rfl) ?_ _
     go_wp2
     go_end0
     exact ⟨rfl, _, HS.out.setToks _, HT.out.grown (zbt _ _ _ _) (Nat.lt_succ_self _), HB.out.setCell (Nat.le_refl _) _⟩
end Go.Proofs.YtiglkhkfbgjjoaaGreatDoor
