/- - -/
import Derived.Test.YtiglkhkfbgjjoaaDoorQTkT
import Derived.Test.YtiglkhkfbgjjoaaDoorQIsA
namespace Go.Proofs.YtiglkhkfbgjjoaaDoor
set_option maxRecDepth 20000
open Go.RowKit Go.PlainAid Go.Maps
set_option linter.unusedSimpArgs false
set_option linter.unusedVariables false
theorem zb3 (k : Int) (w : World) : Calls Tryd.prog 77 #[.int .i64 k] w fun e w' => e = .returned (.int .i64 (zt k)) /\ w' = w := by
 unfold zt
 split
 · rename_i h
   obtain ⟨h1, h2⟩ := h
   go_enter Tryd.func77, Tryd.ntmps77
   go_wp2
   go_ret
   exact ⟨rfl, rfl⟩
 rename_i h
 split
 · rename_i h2
   obtain ⟨h3, h4⟩ := h2
   have h5 : ¬ k <= 13 := by omega
   have h6 : 1 <= k := by omega
   clear h
   go_enter Tryd.func77, Tryd.ntmps77
   go_wp2
   go_ret
   exact ⟨rfl, rfl⟩
 rename_i h2
 split
 · rename_i h3
   subst h3
   clear h h2
   go_enter Tryd.func77, Tryd.ntmps77
   go_wp2
   go_ret
   exact ⟨rfl, rfl⟩
 rename_i h3
 split
 · rename_i h4
   subst h4
   clear h h2 h3
   go_enter Tryd.func77, Tryd.ntmps77
   go_wp2
   go_ret
   exact ⟨rfl, rfl⟩
 rename_i h4
 split
 · rename_i h5
   clear h h2 h3 h4
   rcases h5 with rfl | rfl
   all_goals
    go_enter Tryd.func77, Tryd.ntmps77
    go_wp2
    go_ret
    exact ⟨rfl, rfl⟩
 rename_i h5
 have h6 : k ≠ 23 := fun h => h5 (.inl h)
 have h7 : k ≠ 24 := fun h => h5 (.inr h)
 clear h5
 have h6' : (k == 23) = false := by simp [h6]
 have h7' : (k == 24) = false := by simp [h7]
 by_cases g1 : 1 <= k
 · have g2 : ¬ k <= 13 := by omega
   have g3 : 14 <= k := by omega
   have g4 : ¬ k <= 20 := by omega
   clear h h2
   go_enter Tryd.func77, Tryd.ntmps77
   go_wp2
   go_ret
   exact ⟨rfl, rfl⟩
 · have g3 : ¬ 14 <= k := by omega
   clear h h2
   go_enter Tryd.func77, Tryd.ntmps77
   go_wp2
   go_ret
   exact ⟨rfl, rfl⟩
def zw (w : World) (B : Nat) (l : Nat) (xs : List Int) (e : Ending) (w' : World) : Prop := ∃ v, e = .returned (.tuple #[v, .bool (decide (xs.length = l))]) /\ IR B w' v xs /\ Below B w w'
theorem IR.new3 {w : World} (xs : List Int) (hl : xs.length <= 1048576) (o1 o2 : Obj) (A : Array Value) (hA : A = (icl xs).toArray) : IR w.heap.size (((w.alloc o1).alloc o2).alloc (.cells A 3)) (.slice (some ⟨w.heap.size + 1 + 1, 0, none⟩) xs.length xs.length) xs := by
 subst hA
 have := IR.new (B := w.heap.size) (w := (w.alloc o1).alloc o2) xs (by simp; omega) hl
 simpa using this
theorem IR.new4 {w : World} (xs : List Int) (hl : xs.length <= 1048576) (o1 o2 o3 : Obj) (A : Array Value) (hA : A = (icl xs).toArray) : IR w.heap.size ((((w.alloc o1).alloc o2).alloc o3).alloc (.cells A 3)) (.slice (some ⟨w.heap.size + 1 + 1 + 1, 0, none⟩) xs.length xs.length) xs := by
 subst hA
 have := IR.new (B := w.heap.size) (w := ((w.alloc o1).alloc o2).alloc o3) xs (by simp; omega) hl
 simpa using this
theorem zz {n l : Nat} : ((n : Int) == (l : Int)) = decide (n = l) := by
 rw [Bool.eq_iff_iff]
 simp
 omega
set_option maxHeartbeats 1000000 in
theorem zjo (t : ByteArray) (i : Int) (a : Option Addr) (l c : Nat) (w : World) (hl : l <= 1048576) :
 Calls Tryd.prog 115 #[.agg #[.int .i64 8, .string t, .int .i64 i, .slice a l c]] w (zw w w.heap.size l [1, 1]) := by
 have hl' : (l : Int) <= 1048576 := by omega
 go_enter Tryd.func115, Tryd.ntmps115
 go_wp2
 go_loopw [5, 7] (fun v q wr => q = .int .i64 0 /\ ∃ a' c', v = .slice a' 2 c' /\ Hid (IR w.heap.size wr (.slice a' 2 c') [1, 1]) /\ Hid (Below w.heap.size w wr)) (fun _ _ _ => 0)
 case atStart => exact ⟨rfl, _, _, rfl, by first | exact IR.new3 [1, 1] (by simp) _ _ _ rfl | exact IR.new4 [1, 1] (by simp) _ _ _ _ rfl, by first | exact (((Below.refl _ _).alloc (Nat.le_refl _) _).alloc (by simp) _).alloc (by simp; omega) _ | exact ((((Below.refl _ _).alloc (Nat.le_refl _) _).alloc (by simp) _).alloc (by simp; omega) _).alloc (by simp; omega) _⟩
 case round =>
  obtain ⟨rfl, a', c', rfl, hI, hB⟩ := hrel
  go_wp2
  all_goals
   refine bodyPost_ret (by simp [results, Tryd.results115, go_sem]; rfl) rfl ⟨_, by first | rfl | (simp [zz]; done) | (simp; omega) | (simp; rw [Bool.eq_iff_iff]; simp; omega), hI.out, hB.out⟩
set_option maxHeartbeats 1000000 in
theorem zh5 (t : ByteArray) (i : Int) (a : Option Addr) (l c : Nat) (w : World) (hl : l <= 1048576) :
 Calls Tryd.prog 115 #[.agg #[.int .i64 10, .string t, .int .i64 i, .slice a l c]] w (zw w w.heap.size l [1, 1]) := by
 have hl' : (l : Int) <= 1048576 := by omega
 go_enter Tryd.func115, Tryd.ntmps115
 go_wp2
 go_loopw [5, 7] (fun v q wr => q = .int .i64 0 /\ ∃ a' c', v = .slice a' 2 c' /\ Hid (IR w.heap.size wr (.slice a' 2 c') [1, 1]) /\ Hid (Below w.heap.size w wr)) (fun _ _ _ => 0)
 case atStart => exact ⟨rfl, _, _, rfl, by first | exact IR.new3 [1, 1] (by simp) _ _ _ rfl | exact IR.new4 [1, 1] (by simp) _ _ _ _ rfl, by first | exact (((Below.refl _ _).alloc (Nat.le_refl _) _).alloc (by simp) _).alloc (by simp; omega) _ | exact ((((Below.refl _ _).alloc (Nat.le_refl _) _).alloc (by simp) _).alloc (by simp; omega) _).alloc (by simp; omega) _⟩
 case round =>
  obtain ⟨rfl, a', c', rfl, hI, hB⟩ := hrel
  go_wp2
  all_goals
   refine bodyPost_ret (by simp [results, Tryd.results115, go_sem]; rfl) rfl ⟨_, by first | rfl | (simp [zz]; done) | (simp; omega) | (simp; rw [Bool.eq_iff_iff]; simp; omega), hI.out, hB.out⟩
set_option maxHeartbeats 1000000 in
theorem zh6 (t : ByteArray) (i : Int) (a : Option Addr) (l c : Nat) (w : World) (hl : l <= 1048576) :
 Calls Tryd.prog 115 #[.agg #[.int .i64 12, .string t, .int .i64 i, .slice a l c]] w (zw w w.heap.size l [1, 1]) := by
 have hl' : (l : Int) <= 1048576 := by omega
 go_enter Tryd.func115, Tryd.ntmps115
 go_wp2
 go_loopw [5, 7] (fun v q wr => q = .int .i64 0 /\ ∃ a' c', v = .slice a' 2 c' /\ Hid (IR w.heap.size wr (.slice a' 2 c') [1, 1]) /\ Hid (Below w.heap.size w wr)) (fun _ _ _ => 0)
 case atStart => exact ⟨rfl, _, _, rfl, by first | exact IR.new3 [1, 1] (by simp) _ _ _ rfl | exact IR.new4 [1, 1] (by simp) _ _ _ _ rfl, by first | exact (((Below.refl _ _).alloc (Nat.le_refl _) _).alloc (by simp) _).alloc (by simp; omega) _ | exact ((((Below.refl _ _).alloc (Nat.le_refl _) _).alloc (by simp) _).alloc (by simp; omega) _).alloc (by simp; omega) _⟩
 case round =>
  obtain ⟨rfl, a', c', rfl, hI, hB⟩ := hrel
  go_wp2
  all_goals
   refine bodyPost_ret (by simp [results, Tryd.results115, go_sem]; rfl) rfl ⟨_, by first | rfl | (simp [zz]; done) | (simp; omega) | (simp; rw [Bool.eq_iff_iff]; simp; omega), hI.out, hB.out⟩
set_option maxHeartbeats 1000000 in
theorem zh7 (t : ByteArray) (i : Int) (a : Option Addr) (l c : Nat) (w : World) (hl : l <= 1048576) :
 Calls Tryd.prog 115 #[.agg #[.int .i64 13, .string t, .int .i64 i, .slice a l c]] w (zw w w.heap.size l [1, 1]) := by
 have hl' : (l : Int) <= 1048576 := by omega
 go_enter Tryd.func115, Tryd.ntmps115
 go_wp2
 go_loopw [5, 7] (fun v q wr => q = .int .i64 0 /\ ∃ a' c', v = .slice a' 2 c' /\ Hid (IR w.heap.size wr (.slice a' 2 c') [1, 1]) /\ Hid (Below w.heap.size w wr)) (fun _ _ _ => 0)
 case atStart => exact ⟨rfl, _, _, rfl, by first | exact IR.new3 [1, 1] (by simp) _ _ _ rfl | exact IR.new4 [1, 1] (by simp) _ _ _ _ rfl, by first | exact (((Below.refl _ _).alloc (Nat.le_refl _) _).alloc (by simp) _).alloc (by simp; omega) _ | exact ((((Below.refl _ _).alloc (Nat.le_refl _) _).alloc (by simp) _).alloc (by simp; omega) _).alloc (by simp; omega) _⟩
 case round =>
  obtain ⟨rfl, a', c', rfl, hI, hB⟩ := hrel
  go_wp2
  all_goals
   refine bodyPost_ret (by simp [results, Tryd.results115, go_sem]; rfl) rfl ⟨_, by first | rfl | (simp [zz]; done) | (simp; omega) | (simp; rw [Bool.eq_iff_iff]; simp; omega), hI.out, hB.out⟩
set_option maxHeartbeats 1000000 in
theorem zh8 (t : ByteArray) (i : Int) (a : Option Addr) (l c : Nat) (w : World) (hl : l <= 1048576) :
 Calls Tryd.prog 115 #[.agg #[.int .i64 24, .string t, .int .i64 i, .slice a l c]] w (zw w w.heap.size l [1, 1]) := by
 have hl' : (l : Int) <= 1048576 := by omega
 go_enter Tryd.func115, Tryd.ntmps115
 go_wp2
 go_loopw [5, 7] (fun v q wr => q = .int .i64 0 /\ ∃ a' c', v = .slice a' 2 c' /\ Hid (IR w.heap.size wr (.slice a' 2 c') [1, 1]) /\ Hid (Below w.heap.size w wr)) (fun _ _ _ => 0)
 case atStart => exact ⟨rfl, _, _, rfl, by first | exact IR.new3 [1, 1] (by simp) _ _ _ rfl | exact IR.new4 [1, 1] (by simp) _ _ _ _ rfl, by first | exact (((Below.refl _ _).alloc (Nat.le_refl _) _).alloc (by simp) _).alloc (by simp; omega) _ | exact ((((Below.refl _ _).alloc (Nat.le_refl _) _).alloc (by simp) _).alloc (by simp; omega) _).alloc (by simp; omega) _⟩
 case round =>
  obtain ⟨rfl, a', c', rfl, hI, hB⟩ := hrel
  go_wp2
  all_goals
   refine bodyPost_ret (by simp [results, Tryd.results115, go_sem]; rfl) rfl ⟨_, by first | rfl | (simp [zz]; done) | (simp; omega) | (simp; rw [Bool.eq_iff_iff]; simp; omega), hI.out, hB.out⟩
set_option maxHeartbeats 1000000 in
theorem zh9 (t : ByteArray) (i : Int) (a : Option Addr) (l c : Nat) (w : World) (hl : l <= 1048576) :
 Calls Tryd.prog 115 #[.agg #[.int .i64 11, .string t, .int .i64 i, .slice a l c]] w (zw w w.heap.size l [1]) := by
 have hl' : (l : Int) <= 1048576 := by omega
 go_enter Tryd.func115, Tryd.ntmps115
 go_wp2
 go_loopw [5, 7] (fun v q wr => q = .int .i64 0 /\ ∃ a' c', v = .slice a' 1 c' /\ Hid (IR w.heap.size wr (.slice a' 1 c') [1]) /\ Hid (Below w.heap.size w wr)) (fun _ _ _ => 0)
 case atStart => exact ⟨rfl, _, _, rfl, by first | exact IR.new3 [1] (by simp) _ _ _ rfl | exact IR.new4 [1] (by simp) _ _ _ _ rfl, by first | exact (((Below.refl _ _).alloc (Nat.le_refl _) _).alloc (by simp) _).alloc (by simp; omega) _ | exact ((((Below.refl _ _).alloc (Nat.le_refl _) _).alloc (by simp) _).alloc (by simp; omega) _).alloc (by simp; omega) _⟩
 case round =>
  obtain ⟨rfl, a', c', rfl, hI, hB⟩ := hrel
  go_wp2
  all_goals
   refine bodyPost_ret (by simp [results, Tryd.results115, go_sem]; rfl) rfl ⟨_, by first | rfl | (simp [zz]; done) | (simp; omega) | (simp; rw [Bool.eq_iff_iff]; simp; omega), hI.out, hB.out⟩
set_option maxHeartbeats 1000000 in
theorem zia (t : ByteArray) (i : Int) (a : Option Addr) (l c : Nat) (w : World) (hl : l <= 1048576) :
 Calls Tryd.prog 115 #[.agg #[.int .i64 14, .string t, .int .i64 i, .slice a l c]] w (zw w w.heap.size l [1]) := by
 have hl' : (l : Int) <= 1048576 := by omega
 go_enter Tryd.func115, Tryd.ntmps115
 go_wp2
 go_loopw [5, 7] (fun v q wr => q = .int .i64 0 /\ ∃ a' c', v = .slice a' 1 c' /\ Hid (IR w.heap.size wr (.slice a' 1 c') [1]) /\ Hid (Below w.heap.size w wr)) (fun _ _ _ => 0)
 case atStart => exact ⟨rfl, _, _, rfl, by first | exact IR.new3 [1] (by simp) _ _ _ rfl | exact IR.new4 [1] (by simp) _ _ _ _ rfl, by first | exact (((Below.refl _ _).alloc (Nat.le_refl _) _).alloc (by simp) _).alloc (by simp; omega) _ | exact ((((Below.refl _ _).alloc (Nat.le_refl _) _).alloc (by simp) _).alloc (by simp; omega) _).alloc (by simp; omega) _⟩
 case round =>
  obtain ⟨rfl, a', c', rfl, hI, hB⟩ := hrel
  go_wp2
  all_goals
   refine bodyPost_ret (by simp [results, Tryd.results115, go_sem]; rfl) rfl ⟨_, by first | rfl | (simp [zz]; done) | (simp; omega) | (simp; rw [Bool.eq_iff_iff]; simp; omega), hI.out, hB.out⟩
set_option maxHeartbeats 1000000 in
theorem zib (t : ByteArray) (i : Int) (a : Option Addr) (l c : Nat) (w : World) (hl : l <= 1048576) :
 Calls Tryd.prog 115 #[.agg #[.int .i64 15, .string t, .int .i64 i, .slice a l c]] w (zw w w.heap.size l [1]) := by
 have hl' : (l : Int) <= 1048576 := by omega
 go_enter Tryd.func115, Tryd.ntmps115
 go_wp2
 go_loopw [5, 7] (fun v q wr => q = .int .i64 0 /\ ∃ a' c', v = .slice a' 1 c' /\ Hid (IR w.heap.size wr (.slice a' 1 c') [1]) /\ Hid (Below w.heap.size w wr)) (fun _ _ _ => 0)
 case atStart => exact ⟨rfl, _, _, rfl, by first | exact IR.new3 [1] (by simp) _ _ _ rfl | exact IR.new4 [1] (by simp) _ _ _ _ rfl, by first | exact (((Below.refl _ _).alloc (Nat.le_refl _) _).alloc (by simp) _).alloc (by simp; omega) _ | exact ((((Below.refl _ _).alloc (Nat.le_refl _) _).alloc (by simp) _).alloc (by simp; omega) _).alloc (by simp; omega) _⟩
 case round =>
  obtain ⟨rfl, a', c', rfl, hI, hB⟩ := hrel
  go_wp2
  all_goals
   refine bodyPost_ret (by simp [results, Tryd.results115, go_sem]; rfl) rfl ⟨_, by first | rfl | (simp [zz]; done) | (simp; omega) | (simp; rw [Bool.eq_iff_iff]; simp; omega), hI.out, hB.out⟩
set_option maxHeartbeats 1000000 in
theorem zic (t : ByteArray) (i : Int) (a : Option Addr) (l c : Nat) (w : World) (hl : l <= 1048576) :
 Calls Tryd.prog 115 #[.agg #[.int .i64 19, .string t, .int .i64 i, .slice a l c]] w (zw w w.heap.size l [1]) := by
 have hl' : (l : Int) <= 1048576 := by omega
 go_enter Tryd.func115, Tryd.ntmps115
 go_wp2
 go_loopw [5, 7] (fun v q wr => q = .int .i64 0 /\ ∃ a' c', v = .slice a' 1 c' /\ Hid (IR w.heap.size wr (.slice a' 1 c') [1]) /\ Hid (Below w.heap.size w wr)) (fun _ _ _ => 0)
 case atStart => exact ⟨rfl, _, _, rfl, by first | exact IR.new3 [1] (by simp) _ _ _ rfl | exact IR.new4 [1] (by simp) _ _ _ _ rfl, by first | exact (((Below.refl _ _).alloc (Nat.le_refl _) _).alloc (by simp) _).alloc (by simp; omega) _ | exact ((((Below.refl _ _).alloc (Nat.le_refl _) _).alloc (by simp) _).alloc (by simp; omega) _).alloc (by simp; omega) _⟩
 case round =>
  obtain ⟨rfl, a', c', rfl, hI, hB⟩ := hrel
  go_wp2
  all_goals
   refine bodyPost_ret (by simp [results, Tryd.results115, go_sem]; rfl) rfl ⟨_, by first | rfl | (simp [zz]; done) | (simp; omega) | (simp; rw [Bool.eq_iff_iff]; simp; omega), hI.out, hB.out⟩
set_option maxHeartbeats 1000000 in
theorem zid (t : ByteArray) (i : Int) (a : Option Addr) (l c : Nat) (w : World) (hl : l <= 1048576) :
 Calls Tryd.prog 115 #[.agg #[.int .i64 23, .string t, .int .i64 i, .slice a l c]] w (zw w w.heap.size l [1]) := by
 have hl' : (l : Int) <= 1048576 := by omega
 go_enter Tryd.func115, Tryd.ntmps115
 go_wp2
 go_loopw [5, 7] (fun v q wr => q = .int .i64 0 /\ ∃ a' c', v = .slice a' 1 c' /\ Hid (IR w.heap.size wr (.slice a' 1 c') [1]) /\ Hid (Below w.heap.size w wr)) (fun _ _ _ => 0)
 case atStart => exact ⟨rfl, _, _, rfl, by first | exact IR.new3 [1] (by simp) _ _ _ rfl | exact IR.new4 [1] (by simp) _ _ _ _ rfl, by first | exact (((Below.refl _ _).alloc (Nat.le_refl _) _).alloc (by simp) _).alloc (by simp; omega) _ | exact ((((Below.refl _ _).alloc (Nat.le_refl _) _).alloc (by simp) _).alloc (by simp; omega) _).alloc (by simp; omega) _⟩
 case round =>
  obtain ⟨rfl, a', c', rfl, hI, hB⟩ := hrel
  go_wp2
  all_goals
   refine bodyPost_ret (by simp [results, Tryd.results115, go_sem]; rfl) rfl ⟨_, by first | rfl | (simp [zz]; done) | (simp; omega) | (simp; rw [Bool.eq_iff_iff]; simp; omega), hI.out, hB.out⟩
set_option maxHeartbeats 1000000 in
theorem zie (t : ByteArray) (i : Int) (a : Option Addr) (l c : Nat) (w : World) (hl : l <= 1048576) :
 Calls Tryd.prog 115 #[.agg #[.int .i64 16, .string t, .int .i64 i, .slice a l c]] w (zw w w.heap.size l [1, 1, 1]) := by
 have hl' : (l : Int) <= 1048576 := by omega
 go_enter Tryd.func115, Tryd.ntmps115
 go_wp2
 go_loopw [5, 7] (fun v q wr => q = .int .i64 0 /\ ∃ a' c', v = .slice a' 3 c' /\ Hid (IR w.heap.size wr (.slice a' 3 c') [1, 1, 1]) /\ Hid (Below w.heap.size w wr)) (fun _ _ _ => 0)
 case atStart => exact ⟨rfl, _, _, rfl, by first | exact IR.new3 [1, 1, 1] (by simp) _ _ _ rfl | exact IR.new4 [1, 1, 1] (by simp) _ _ _ _ rfl, by first | exact (((Below.refl _ _).alloc (Nat.le_refl _) _).alloc (by simp) _).alloc (by simp; omega) _ | exact ((((Below.refl _ _).alloc (Nat.le_refl _) _).alloc (by simp) _).alloc (by simp; omega) _).alloc (by simp; omega) _⟩
 case round =>
  obtain ⟨rfl, a', c', rfl, hI, hB⟩ := hrel
  go_wp2
  all_goals
   refine bodyPost_ret (by simp [results, Tryd.results115, go_sem]; rfl) rfl ⟨_, by first | rfl | (simp [zz]; done) | (simp; omega) | (simp; rw [Bool.eq_iff_iff]; simp; omega), hI.out, hB.out⟩
set_option maxHeartbeats 1000000 in
theorem zif (t : ByteArray) (i : Int) (a : Option Addr) (l c : Nat) (w : World) (hl : l <= 1048576) :
 Calls Tryd.prog 115 #[.agg #[.int .i64 18, .string t, .int .i64 i, .slice a l c]] w (zw w w.heap.size l [1, 3]) := by
 have hl' : (l : Int) <= 1048576 := by omega
 go_enter Tryd.func115, Tryd.ntmps115
 go_wp2
 go_loopw [5, 7] (fun v q wr => q = .int .i64 0 /\ ∃ a' c', v = .slice a' 2 c' /\ Hid (IR w.heap.size wr (.slice a' 2 c') [1, 3]) /\ Hid (Below w.heap.size w wr)) (fun _ _ _ => 0)
 case atStart => exact ⟨rfl, _, _, rfl, by first | exact IR.new3 [1, 3] (by simp) _ _ _ rfl | exact IR.new4 [1, 3] (by simp) _ _ _ _ rfl, by first | exact (((Below.refl _ _).alloc (Nat.le_refl _) _).alloc (by simp) _).alloc (by simp; omega) _ | exact ((((Below.refl _ _).alloc (Nat.le_refl _) _).alloc (by simp) _).alloc (by simp; omega) _).alloc (by simp; omega) _⟩
 case round =>
  obtain ⟨rfl, a', c', rfl, hI, hB⟩ := hrel
  go_wp2
  all_goals
   refine bodyPost_ret (by simp [results, Tryd.results115, go_sem]; rfl) rfl ⟨_, by first | rfl | (simp [zz]; done) | (simp; omega) | (simp; rw [Bool.eq_iff_iff]; simp; omega), hI.out, hB.out⟩
set_option maxHeartbeats 1000000 in
theorem zig (t : ByteArray) (i : Int) (a : Option Addr) (l c : Nat) (w : World) (hl : l <= 1048576) :
 Calls Tryd.prog 115 #[.agg #[.int .i64 20, .string t, .int .i64 i, .slice a l c]] w (zw w w.heap.size l [6]) := by
 have hl' : (l : Int) <= 1048576 := by omega
 go_enter Tryd.func115, Tryd.ntmps115
 go_wp2
 go_loopw [5, 7] (fun v q wr => q = .int .i64 0 /\ ∃ a' c', v = .slice a' 1 c' /\ Hid (IR w.heap.size wr (.slice a' 1 c') [6]) /\ Hid (Below w.heap.size w wr)) (fun _ _ _ => 0)
 case atStart => exact ⟨rfl, _, _, rfl, by first | exact IR.new3 [6] (by simp) _ _ _ rfl | exact IR.new4 [6] (by simp) _ _ _ _ rfl, by first | exact (((Below.refl _ _).alloc (Nat.le_refl _) _).alloc (by simp) _).alloc (by simp; omega) _ | exact ((((Below.refl _ _).alloc (Nat.le_refl _) _).alloc (by simp) _).alloc (by simp; omega) _).alloc (by simp; omega) _⟩
 case round =>
  obtain ⟨rfl, a', c', rfl, hI, hB⟩ := hrel
  go_wp2
  all_goals
   refine bodyPost_ret (by simp [results, Tryd.results115, go_sem]; rfl) rfl ⟨_, by first | rfl | (simp [zz]; done) | (simp; omega) | (simp; rw [Bool.eq_iff_iff]; simp; omega), hI.out, hB.out⟩
set_option maxHeartbeats 1000000 in
theorem zha (t : ByteArray) (i : Int) (a : Option Addr) (l c : Nat) (w : World) (hl : l <= 1048576) (h3 : l = 3) :
 Calls Tryd.prog 115 #[.agg #[.int .i64 17, .string t, .int .i64 i, .slice a l c]] w (zw w w.heap.size l [1, 3, 3]) := by
 have hl' : (l : Int) <= 1048576 := by omega
 have h3' : (l : Int) = 3 := by omega
 go_enter Tryd.func115, Tryd.ntmps115
 go_wp2
 go_loopw [5, 7] (fun v q wr => q = .int .i64 0 /\ ∃ a' c', v = .slice a' 3 c' /\ Hid (IR w.heap.size wr (.slice a' 3 c') [1, 3, 3]) /\ Hid (Below w.heap.size w wr)) (fun _ _ _ => 0)
 case atStart => exact ⟨rfl, _, _, rfl, by first | exact IR.new3 [1, 3, 3] (by simp) _ _ _ rfl | exact IR.new4 [1, 3, 3] (by simp) _ _ _ _ rfl, by first | exact (((Below.refl _ _).alloc (Nat.le_refl _) _).alloc (by simp) _).alloc (by simp; omega) _ | exact ((((Below.refl _ _).alloc (Nat.le_refl _) _).alloc (by simp) _).alloc (by simp; omega) _).alloc (by simp; omega) _⟩
 case round =>
  obtain ⟨rfl, a', c', rfl, hI, hB⟩ := hrel
  go_wp2
  all_goals
   refine bodyPost_ret (by simp [results, Tryd.results115, go_sem]; rfl) rfl ⟨_, by first | rfl | (simp [zz]; done) | (simp; omega) | (simp; rw [Bool.eq_iff_iff]; simp; omega), hI.out, hB.out⟩
set_option maxHeartbeats 1000000 in
theorem zhb (t : ByteArray) (i : Int) (a : Option Addr) (l c : Nat) (w : World) (hl : l <= 1048576) (h3 : l ≠ 3) :
 Calls Tryd.prog 115 #[.agg #[.int .i64 17, .string t, .int .i64 i, .slice a l c]] w (zw w w.heap.size l [1, 3]) := by
 have hl' : (l : Int) <= 1048576 := by omega
 have h3' : ¬ (l : Int) = 3 := by omega
 go_enter Tryd.func115, Tryd.ntmps115
 go_wp2
 go_loopw [5, 7] (fun v q wr => q = .int .i64 0 /\ ∃ a' c', v = .slice a' 2 c' /\ Hid (IR w.heap.size wr (.slice a' 2 c') [1, 3]) /\ Hid (Below w.heap.size w wr)) (fun _ _ _ => 0)
 case atStart => exact ⟨rfl, _, _, rfl, by first | exact IR.new3 [1, 3] (by simp) _ _ _ rfl | exact IR.new4 [1, 3] (by simp) _ _ _ _ rfl, by first | exact (((Below.refl _ _).alloc (Nat.le_refl _) _).alloc (by simp) _).alloc (by simp; omega) _ | exact ((((Below.refl _ _).alloc (Nat.le_refl _) _).alloc (by simp) _).alloc (by simp; omega) _).alloc (by simp; omega) _⟩
 case round =>
  obtain ⟨rfl, a', c', rfl, hI, hB⟩ := hrel
  go_wp2
  all_goals
   refine bodyPost_ret (by simp [results, Tryd.results115, go_sem]; rfl) rfl ⟨_, by first | rfl | (simp [zz]; done) | (simp; omega) | (simp; rw [Bool.eq_iff_iff]; simp; omega), hI.out, hB.out⟩
def zdw (v : Value) : Nat := match v with | .slice _ n _ => n | _ => 0
theorem IR.new2 {w : World} (o1 : Obj) : IR w.heap.size ((w.alloc o1).alloc (.cells #[] 3)) (.slice (some ⟨w.heap.size + 1, 0, none⟩) 0 0) [] := by
 have := IR.new (B := w.heap.size) (w := w.alloc o1) [] (by simp) (by simp)
 simpa [icl] using this
theorem zb4 {w : World} (o1 o2 : Obj) : Below w.heap.size w ((w.alloc o1).alloc o2) := ((Below.refl _ _).alloc (Nat.le_refl _) _).alloc (by simp) _
theorem zjp {w : World} (o1 o2 o3 : Obj) : Below w.heap.size w (((w.alloc o1).alloc o2).alloc o3) := (zb4 o1 o2).alloc (by simp; omega) _
set_option maxHeartbeats 1000000 in
theorem zjq (t : ByteArray) (i : Int) (a : Option Addr) (l c : Nat) (w : World) (hl : l <= 1048576) :
 Calls Tryd.prog 115 #[.agg #[.int .i64 7, .string t, .int .i64 i, .slice a l c]] w (zw w w.heap.size l (List.replicate l 5)) := by
 have hl' : (l : Int) <= 1048576 := by omega
 obtain ⟨i0, hi, hz0, hz1, hz2⟩ := info_parts zbb
 go_enter Tryd.func115, Tryd.ntmps115
 go_wp2
 go_loopw [5, 7] (fun v q wr => ∃ (m : Nat) (a' : Option Addr) (c' : Nat), m <= l /\ q = .int .i64 m /\ v = .slice a' m c' /\ Hid (IR w.heap.size wr (.slice a' m c') (List.replicate m 5)) /\ Hid (Below w.heap.size w wr)) (fun _ q _ => l - (intOf q).toNat)
 case atStart => exact ⟨0, _, _, Nat.zero_le _, rfl, rfl, IR.new2 _, zb4 _ _⟩
 case round =>
  obtain ⟨m, a', c', hm, rfl, rfl, hI, hB⟩ := hrel
  have hlen : (List.replicate m (5 : Int)).length = m := by simp
  by_cases hlt : m < l
  · have hlt' : (m : Int) < l := by omega
    go_wp2_with (at_builtin; refine wpList_append_own _ rfl _ _ 69 rfl w.heap.size 3 i0 (.int .i64 0) 1 8 Tryd.underlying69 hi hz0 hz1 hz2 rfl (by decide) _ m (icl (List.replicate m 5)) rfl (by have h9 := hI.out.alloc (.cells #[.int .i64 5] 3); unfold IR at h9; rw [hlen] at h9; exact h9) ⟨_, 0, none⟩ 1 1 [.int .i64 5] rfl rfl (cell_one_new _ _ _) (ints_oneCell .i64 [5]) (by unfold maxLen; omega) (by omega) (by have := hB.out.size; simp; omega) ?_)
    intro v' w2 hown' hgrow _
    have R := IR.step (x := 5) (by have := hB.out.size; omega) hI.out hB.out (by rw [hlen]; exact hown') hgrow
    rw [<- List.replicate_succ'] at R
    have R1 : Hid (IR w.heap.size w2 v' (List.replicate (m + 1) 5)) := R.1
    have R2 : Hid (Below w.heap.size w w2) := R.2
    obtain ⟨a2, c2, hv⟩ := R1.out.form
    rw [List.length_replicate] at hv
    subst hv
    clear hown' hgrow hI hB R
    go_wp2
    go_roundw
    case rel => exact ⟨m + 1, a2, c2, by omega, by go_num, rfl, R1, R2⟩
    case measure => simp [intOf]; omega
  · have hge : ¬ (m : Int) < l := by omega
    obtain rfl : m = l := by omega
    go_wp2
    refine bodyPost_ret (by simp [results, Tryd.results115, go_sem]; rfl) rfl ⟨_, by simp, hI.out, hB.out⟩
set_option maxHeartbeats 1000000 in
theorem zih (t : ByteArray) (i : Int) (a : Option Addr) (l c : Nat) (w : World) (hl : l <= 1048576) :
 Calls Tryd.prog 115 #[.agg #[.int .i64 21, .string t, .int .i64 i, .slice a l c]] w (zw w w.heap.size l (List.replicate l 2)) := by
 have hl' : (l : Int) <= 1048576 := by omega
 obtain ⟨i0, hi, hz0, hz1, hz2⟩ := info_parts zbb
 go_enter Tryd.func115, Tryd.ntmps115
 go_wp2
 go_loopw [5, 7] (fun v q wr => ∃ (m : Nat) (a' : Option Addr) (c' : Nat), m <= l /\ q = .int .i64 m /\ v = .slice a' m c' /\ Hid (IR w.heap.size wr (.slice a' m c') (List.replicate m 2)) /\ Hid (Below w.heap.size w wr)) (fun _ q _ => l - (intOf q).toNat)
 case atStart => exact ⟨0, _, _, Nat.zero_le _, rfl, rfl, IR.new2 _, zb4 _ _⟩
 case round =>
  obtain ⟨m, a', c', hm, rfl, rfl, hI, hB⟩ := hrel
  have hlen : (List.replicate m (2 : Int)).length = m := by simp
  by_cases hlt : m < l
  · have hlt' : (m : Int) < l := by omega
    go_wp2_with (at_builtin; refine wpList_append_own _ rfl _ _ 69 rfl w.heap.size 3 i0 (.int .i64 0) 1 8 Tryd.underlying69 hi hz0 hz1 hz2 rfl (by decide) _ m (icl (List.replicate m 2)) rfl (by have h9 := hI.out.alloc (.cells #[.int .i64 2] 3); unfold IR at h9; rw [hlen] at h9; exact h9) ⟨_, 0, none⟩ 1 1 [.int .i64 2] rfl rfl (cell_one_new _ _ _) (ints_oneCell .i64 [2]) (by unfold maxLen; omega) (by omega) (by have := hB.out.size; simp; omega) ?_)
    intro v' w2 hown' hgrow _
    have R := IR.step (x := 2) (by have := hB.out.size; omega) hI.out hB.out (by rw [hlen]; exact hown') hgrow
    rw [<- List.replicate_succ'] at R
    have R1 : Hid (IR w.heap.size w2 v' (List.replicate (m + 1) 2)) := R.1
    have R2 : Hid (Below w.heap.size w w2) := R.2
    obtain ⟨a2, c2, hv⟩ := R1.out.form
    rw [List.length_replicate] at hv
    subst hv
    clear hown' hgrow hI hB R
    go_wp2
    go_roundw
    case rel => exact ⟨m + 1, a2, c2, by omega, by go_num, rfl, R1, R2⟩
    case measure => simp [intOf]; omega
  · have hge : ¬ (m : Int) < l := by omega
    obtain rfl : m = l := by omega
    go_wp2
    refine bodyPost_ret (by simp [results, Tryd.results115, go_sem]; rfl) rfl ⟨_, by simp, hI.out, hB.out⟩
set_option maxHeartbeats 1000000 in
theorem zjr (t : ByteArray) (i : Int) (a : Option Addr) (l c : Nat) (w : World) (hl : l <= 1048576) :
 Calls Tryd.prog 115 #[.agg #[.int .i64 9, .string t, .int .i64 i, .slice a l c]] w (zw w w.heap.size l (List.replicate (l - 1 + 1) 1)) := by
 have hl' : (l : Int) <= 1048576 := by omega
 obtain ⟨i0, hi, hz0, hz1, hz2⟩ := info_parts zbb
 go_enter Tryd.func115, Tryd.ntmps115
 go_wp2
 go_loopw [5] (fun v wr => ∃ (m : Nat) (a' : Option Addr) (c' : Nat), m <= l - 1 /\ v = .slice a' (m + 1) c' /\ Hid (IR w.heap.size wr (.slice a' (m + 1) c') (List.replicate (m + 1) 1)) /\ Hid (Below w.heap.size w wr)) (fun v _ => l + 1 - zdw v)
 case atStart => exact ⟨0, _, _, Nat.zero_le _, rfl, IR.new3 [1] (by simp) _ _ _ rfl, zjp _ _ _⟩
 case round =>
  obtain ⟨m, a', c', hm, rfl, hI, hB⟩ := hrel
  have hlen : (List.replicate (m + 1) (1 : Int)).length = m + 1 := by simp
  by_cases hlt : m + 1 < l
  · have hlt' : ((m + 1 : Nat) : Int) < l := by omega
    go_wp2_with (at_builtin; refine wpList_append_own _ rfl _ _ 69 rfl w.heap.size 3 i0 (.int .i64 0) 1 8 Tryd.underlying69 hi hz0 hz1 hz2 rfl (by decide) _ (m + 1) (icl (List.replicate (m + 1) 1)) rfl (by have h9 := hI.out.alloc (.cells #[.int .i64 1] 3); unfold IR at h9; rw [hlen] at h9; exact h9) ⟨_, 0, none⟩ 1 1 [.int .i64 1] rfl rfl (cell_one_new _ _ _) (ints_oneCell .i64 [1]) (by unfold maxLen; omega) (by omega) (by have := hB.out.size; simp; omega) ?_)
    intro v' w2 hown' hgrow _
    have R := IR.step (x := 1) (by have := hB.out.size; omega) hI.out hB.out (by rw [hlen]; exact hown') hgrow
    rw [<- List.replicate_succ'] at R
    have R1 : Hid (IR w.heap.size w2 v' (List.replicate (m + 1 + 1) 1)) := R.1
    have R2 : Hid (Below w.heap.size w w2) := R.2
    obtain ⟨a2, c2, hv⟩ := R1.out.form
    rw [List.length_replicate] at hv
    subst hv
    clear hown' hgrow hI hB R
    go_wp2
    go_roundw
    case rel => exact ⟨m + 1, a2, c2, by omega, rfl, R1, R2⟩
    case measure => simp [zdw]; omega
  · have hge : ¬ ((m + 1 : Nat) : Int) < l := by omega
    obtain rfl : m = l - 1 := by omega
    go_wp2
    go_loopw [5, 7] (fun v q wr => q = .int .i64 0 /\ v = .slice a' (l - 1 + 1) c' /\ Hid (IR w.heap.size wr (.slice a' (l - 1 + 1) c') (List.replicate (l - 1 + 1) 1)) /\ Hid (Below w.heap.size w wr)) (fun _ _ _ => 0)
    case atStart => exact ⟨rfl, rfl, hI, hB⟩
    case round =>
     clear hI hB
     obtain ⟨rfl, rfl, hI, hB⟩ := hrel
     go_wp2
     all_goals
      refine bodyPost_ret (by simp [results, Tryd.results115, go_sem]; rfl) rfl ⟨_, ?_, hI.out, hB.out⟩
      rw [hlen, <- zz]
      rfl
set_option maxHeartbeats 1000000 in
theorem zjs (t : ByteArray) (i : Int) (a : Option Addr) (l c : Nat) (w : World) (hl : l <= 1048576) :
 Calls Tryd.prog 115 #[.agg #[.int .i64 6, .string t, .int .i64 i, .slice a l c]] w (zw w w.heap.size l (List.replicate (l - 1) 4 ++ [3])) := by
 have hl' : (l : Int) <= 1048576 := by omega
 obtain ⟨i0, hi, hz0, hz1, hz2⟩ := info_parts zbb
 go_enter Tryd.func115, Tryd.ntmps115
 go_wp2
 go_loopw [5] (fun v wr => ∃ (m : Nat) (a' : Option Addr) (c' : Nat), m <= l - 1 /\ v = .slice a' m c' /\ Hid (IR w.heap.size wr (.slice a' m c') (List.replicate m 4)) /\ Hid (Below w.heap.size w wr)) (fun v _ => l + 1 - zdw v)
 case atStart => exact ⟨0, _, _, Nat.zero_le _, rfl, IR.new2 _, zb4 _ _⟩
 case round =>
  obtain ⟨m, a', c', hm, rfl, hI, hB⟩ := hrel
  have hlen : (List.replicate m (4 : Int)).length = m := by simp
  by_cases hlt : m + 1 < l
  · have hlt' : (m : Int) + 1 < l := by omega
    go_wp2_with (at_builtin; refine wpList_append_own _ rfl _ _ 69 rfl w.heap.size 3 i0 (.int .i64 0) 1 8 Tryd.underlying69 hi hz0 hz1 hz2 rfl (by decide) _ m (icl (List.replicate m 4)) rfl (by have h9 := hI.out.alloc (.cells #[.int .i64 4] 3); unfold IR at h9; rw [hlen] at h9; exact h9) ⟨_, 0, none⟩ 1 1 [.int .i64 4] rfl rfl (cell_one_new _ _ _) (ints_oneCell .i64 [4]) (by unfold maxLen; omega) (by omega) (by have := hB.out.size; simp; omega) ?_)
    intro v' w2 hown' hgrow _
    have R := IR.step (x := 4) (by have := hB.out.size; omega) hI.out hB.out (by rw [hlen]; exact hown') hgrow
    rw [<- List.replicate_succ'] at R
    have R1 : Hid (IR w.heap.size w2 v' (List.replicate (m + 1) 4)) := R.1
    have R2 : Hid (Below w.heap.size w w2) := R.2
    obtain ⟨a2, c2, hv⟩ := R1.out.form
    rw [List.length_replicate] at hv
    subst hv
    clear hown' hgrow hI hB R
    go_wp2
    go_roundw
    case rel => exact ⟨m + 1, a2, c2, by omega, rfl, R1, R2⟩
    case measure => simp [zdw]; omega
  · have hge : ¬ (m : Int) + 1 < l := by omega
    obtain rfl : m = l - 1 := by omega
    have hm9 : ((l - 1 : Nat) : Int) <= 1048576 := by omega
    go_wp2_with (at_builtin; refine wpList_append_own _ rfl _ _ 69 rfl w.heap.size 3 i0 (.int .i64 0) 1 8 Tryd.underlying69 hi hz0 hz1 hz2 rfl (by decide) _ (l - 1) (icl (List.replicate (l - 1) 4)) rfl (by have h9 := hI.out.alloc (.cells #[.int .i64 3] 3); unfold IR at h9; rw [hlen] at h9; exact h9) ⟨_, 0, none⟩ 1 1 [.int .i64 3] rfl rfl (cell_one_new _ _ _) (ints_oneCell .i64 [3]) (by unfold maxLen; omega) (by omega) (by have := hB.out.size; simp; omega) ?_)
    intro v' w2 hown' hgrow _
    have R := IR.step (x := 3) (by have := hB.out.size; omega) hI.out hB.out (by rw [hlen]; exact hown') hgrow
    have R1 : Hid (IR w.heap.size w2 v' (List.replicate (l - 1) 4 ++ [3])) := R.1
    have R2 : Hid (Below w.heap.size w w2) := R.2
    have hl2 : (List.replicate (l - 1) (4 : Int) ++ [3]).length = l - 1 + 1 := by simp
    obtain ⟨a2, c2, hv⟩ := R1.out.form
    rw [hl2] at hv
    subst hv
    clear hown' hgrow hI hB R
    go_wp2
    go_loopw [5, 7] (fun v q wr => q = .int .i64 0 /\ v = .slice a2 (l - 1 + 1) c2 /\ Hid (IR w.heap.size wr (.slice a2 (l - 1 + 1) c2) (List.replicate (l - 1) 4 ++ [3])) /\ Hid (Below w.heap.size w wr)) (fun _ _ _ => 0)
    case atStart => exact ⟨rfl, rfl, R1, R2⟩
    case round =>
     clear R1 R2
     obtain ⟨rfl, rfl, hI, hB⟩ := hrel
     go_wp2
     all_goals
      refine bodyPost_ret (by simp [results, Tryd.results115, go_sem]; rfl) rfl ⟨_, ?_, hI.out, hB.out⟩
      rw [hl2, <- zz]
      rfl
set_option maxHeartbeats 1000000 in
theorem zjt (k : Int) (t : ByteArray) (i : Int) (a : Option Addr) (l c : Nat) (w : World) (hl : l <= 1048576) (h6 : k ≠ 6) (h7 : k ≠ 7) (h8 : k ≠ 8) (h10 : k ≠ 10) (h12 : k ≠ 12) (h13 : k ≠ 13) (h24 : k ≠ 24) (h9 : k ≠ 9) (h11 : k ≠ 11) (h14 : k ≠ 14) (h15 : k ≠ 15) (h19 : k ≠ 19) (h23 : k ≠ 23) (h16 : k ≠ 16) (h17 : k ≠ 17) (h18 : k ≠ 18) (h20 : k ≠ 20) (h21 : k ≠ 21) :
 Calls Tryd.prog 115 #[.agg #[.int .i64 k, .string t, .int .i64 i, .slice a l c]] w (zw w w.heap.size l []) := by
 have hl' : (l : Int) <= 1048576 := by omega
 go_enter Tryd.func115, Tryd.ntmps115
 go_wp2
 go_loopw [5, 7] (fun v q wr => q = .int .i64 0 /\ v = .slice (some ⟨w.heap.size + 1, 0, none⟩) 0 0 /\ Hid (IR w.heap.size wr (.slice (some ⟨w.heap.size + 1, 0, none⟩) 0 0) []) /\ Hid (Below w.heap.size w wr)) (fun _ _ _ => 0)
 case atStart => exact ⟨rfl, rfl, IR.new2 _, zb4 _ _⟩
 case round =>
  obtain ⟨rfl, rfl, hI, hB⟩ := hrel
  go_wp2
  all_goals
   refine bodyPost_ret (by simp [results, Tryd.results115, go_sem]; rfl) rfl ⟨_, by first | rfl | (simp [zz]; done) | (simp; omega) | (simp; rw [Bool.eq_iff_iff]; simp; omega), hI.out, hB.out⟩
theorem zap (k : Int) (t : ByteArray) (i : Int) (a : Option Addr) (l c : Nat) (w : World) (hl : l <= 1048576) :
 Calls Tryd.prog 115 #[.agg #[.int .i64 k, .string t, .int .i64 i, .slice a l c]] w (zw w w.heap.size l (shp k l)) := by
 unfold shp
 by_cases h6 : k = 6
 · subst h6; rw [if_pos rfl]; exact zjs t i a l c w hl
 rw [if_neg h6]
 by_cases h7 : k = 7
 · subst h7; rw [if_pos rfl]; exact zjq t i a l c w hl
 rw [if_neg h7]
 by_cases h8 : k = 8 \/ k = 10 \/ k = 12 \/ k = 13 \/ k = 24
 · rw [if_pos h8]
   rcases h8 with rfl | rfl | rfl | rfl | rfl
   · exact zjo t i a l c w hl
   · exact zh5 t i a l c w hl
   · exact zh6 t i a l c w hl
   · exact zh7 t i a l c w hl
   · exact zh8 t i a l c w hl
 rw [if_neg h8]
 by_cases h9 : k = 9
 · subst h9; rw [if_pos rfl]; exact zjr t i a l c w hl
 rw [if_neg h9]
 by_cases h11 : k = 11 \/ k = 14 \/ k = 15 \/ k = 19 \/ k = 23
 · rw [if_pos h11]
   rcases h11 with rfl | rfl | rfl | rfl | rfl
   · exact zh9 t i a l c w hl
   · exact zia t i a l c w hl
   · exact zib t i a l c w hl
   · exact zic t i a l c w hl
   · exact zid t i a l c w hl
 rw [if_neg h11]
 by_cases h16 : k = 16
 · subst h16; rw [if_pos rfl]; exact zie t i a l c w hl
 rw [if_neg h16]
 by_cases h17 : k = 17
 · subst h17
   rw [if_pos rfl]
   by_cases h3 : l = 3
   · rw [if_pos h3]; exact zha t i a l c w hl h3
   · rw [if_neg h3]; exact zhb t i a l c w hl h3
 rw [if_neg h17]
 by_cases h18 : k = 18
 · subst h18; rw [if_pos rfl]; exact zif t i a l c w hl
 rw [if_neg h18]
 by_cases h20 : k = 20
 · subst h20; rw [if_pos rfl]; exact zig t i a l c w hl
 rw [if_neg h20]
 by_cases h21 : k = 21
 · subst h21; rw [if_pos rfl]; exact zih t i a l c w hl
 rw [if_neg h21]
 simp only [not_or] at h8 h11
 exact zjt k t i a l c w hl h6 h7 h8.1 h8.2.1 h8.2.2.1 h8.2.2.2.1 h8.2.2.2.2 h9 h11.1 h11.2.1 h11.2.2.1 h11.2.2.2.1 h11.2.2.2.2 h16 h17 h18 h20 h21
set_option maxHeartbeats 1000000 in
theorem zc0 (k : Int) (t : ByteArray) (i : Int) (a : Option Addr) (l c : Nat) (w : World) (ht : t.size <= 1048576) :
 Calls Tryd.prog 116 #[.agg #[.int .i64 k, .string t, .int .i64 i, .slice a l c]] w fun e w' => e = .returned (.bool (zl k t && zm k i)) /\ Below w.heap.size w w' := by
 have ht' : (t.size : Int) <= 1048576 := by omega
 have hbt := get_bt t
 by_cases h5 : k = 5 \/ k = 22 \/ k = 14 \/ k = 15
 · have e : zl k t = zaa t := by unfold zl; rw [if_neg (by omega), if_pos h5]
   have e2 : zm k i = (i == 0) := by unfold zm; rw [if_neg (by omega), if_neg (by omega), if_neg (by omega), if_neg (by omega), Bool.eq_iff_iff]; simp
   rw [e, e2]
   cases hn : zaa t with
   | true =>
     rcases h5 with rfl | rfl | rfl | rfl
     all_goals
      go_enter Tryd.func116, Tryd.ntmps116
      go_wp2_with (go_at_call 160; refine (zby t _ ht).mono ?_; rw [hn]; rintro e w1 ⟨rfl, b1⟩; obtain ⟨k1, f1⟩ := zab b1)
      go_ret
      exact ⟨by first | rfl | simp, zf b1⟩
   | false =>
     rcases h5 with rfl | rfl | rfl | rfl
     all_goals
      go_enter Tryd.func116, Tryd.ntmps116
      go_wp2_with (go_at_call 160; refine (zby t _ ht).mono ?_; rw [hn]; rintro e w1 ⟨rfl, b1⟩; obtain ⟨k1, f1⟩ := zab b1)
      go_ret
      exact ⟨by first | rfl | simp, zf b1⟩
 · have h5' := h5
   simp only [not_or] at h5
   obtain ⟨g1, g2, g3, g4⟩ := h5
   by_cases h4 : k = 4
   · subst h4
     have e : zl 4 t = zac t := rfl
     have e2 : zm 4 i = (i == 0) := by unfold zm; rw [if_neg (by omega), if_neg (by omega), if_neg (by omega), if_neg (by omega), Bool.eq_iff_iff]; simp
     rw [e, e2]
     clear e e2 h5'
     go_enter Tryd.func116, Tryd.ntmps116
     go_wp2
     go_loopw [3] (fun q wr => ∃ j : Nat, j <= t.size /\ q = .int .i64 j /\ (∀ i, i < j -> plB (bt t i) = true) /\ Below w.heap.size w wr /\ w.heap.size < wr.heap.size /\ ∀ z, wr.cell? ⟨w.heap.size, z, none⟩ = (#[.int .i64 4, .string t, .int .i64 i, .slice a l c] : Array Value)[z]?) (fun q _ => t.size - (intOf q).toNat)
     case atStart => exact ⟨0, Nat.zero_le _, rfl, fun i hi => absurd hi (Nat.not_lt_zero _), (Below.refl _ _).alloc (Nat.le_refl _) _, by simp, fun z => by simp [go_sem]⟩
     case round =>
      obtain ⟨j, hj, rfl, hp, hF, lz, hc⟩ := hrel
      have HP : Hid (∀ i, i < j -> plB (bt t i) = true) := hp
      have HC : Hid (∀ z, wr.cell? ⟨w.heap.size, z, none⟩ = (#[.int .i64 4, .string t, .int .i64 i, .slice a l c] : Array Value)[z]?) := hc
      have c1 := hc 1
      have c2 := hc 2
      simp at c1 c2
      clear hp hc
      by_cases hlt : j < t.size
      · have hlt' : (j : Int) < (t.size : Int) := by omega
        cases hq : plB (bt t j) with
        | true =>
          have HV : Hid (∀ i, i < j + 1 -> plB (bt t i) = true) := zcy HP.out hq
          go_wp2_with (go_at_call 53; refine (zei _ _).mono ?_; rw [hq]; rintro e w3 ⟨rfl, rfl⟩)
          go_roundw
          case rel => exact ⟨j + 1, by omega, by go_num, HV.out, hF, lz, HC.out⟩
          case measure => simp [intOf]; omega
        | false =>
          have en : zac t = false := by unfold zac; rw [zcx hlt hq]; rfl
          go_wp2_with (go_at_call 53; refine (zei _ _).mono ?_; rw [hq]; rintro e w3 ⟨rfl, rfl⟩)
          go_ret
          exact ⟨by first | rfl | (rw [en]; rfl), hF⟩
      · have hge : (t.size : Int) <= (j : Int) := by omega
        have en : zac t = decide ((t.size : Int) <= 160) := by unfold zac; rw [zca (fun i hi => HP.out i (by omega)), Bool.true_and]; exact decide_eq_decide.2 (by omega)
        by_cases h160 : (t.size : Int) <= 160
        · rw [decide_eq_true h160] at en
          go_wp2
          go_ret
          exact ⟨by first | rfl | (rw [en]; rfl), hF⟩
        · rw [decide_eq_false h160] at en
          go_wp2
          go_ret
          exact ⟨by first | rfl | (rw [en]; rfl), hF⟩
   · have e : zl k t = t.toList.isEmpty := by
      unfold zl
      rw [if_neg h4, if_neg h5', Bool.eq_iff_iff, decide_eq_true_iff, List.isEmpty_iff, <- List.length_eq_zero_iff, zb2]
     rw [e]
     clear e h5' hbt
     cases he : t.toList.isEmpty with
     | false =>
       go_enter Tryd.func116, Tryd.ntmps116
       go_wp2
       go_ret
       exact ⟨by first | rfl | simp, zf (Below.refl _ _)⟩
     | true =>
       rw [Bool.true_and]
       unfold zm
       by_cases h2 : k = 2
       · subst h2
         rw [if_pos rfl]
         go_enter Tryd.func116, Tryd.ntmps116
         go_wp2
         all_goals
          go_ret
          exact ⟨by first | rfl | (simp; done) | (simp; rw [Bool.eq_iff_iff]; simp) | (simp; omega), zf (Below.refl _ _)⟩
       rw [if_neg h2]
       by_cases h3 : k = 3
       · subst h3
         rw [if_pos rfl]
         go_enter Tryd.func116, Tryd.ntmps116
         go_wp2_with (go_at_call 114; refine (zah _ _ _ _).mono ?_; rintro e w1 ⟨rfl, hw1⟩; rw [hw1]; clear hw1 w1)
         go_ret
         exact ⟨by simp [inB], zf (Below.refl _ _)⟩
       rw [if_neg h3]
       by_cases h10 : k = 10
       · subst h10
         rw [if_pos rfl]
         go_enter Tryd.func116, Tryd.ntmps116
         go_wp2_with (go_at_call 114; refine (zah _ _ _ _).mono ?_; rintro e w1 ⟨rfl, hw1⟩; rw [hw1]; clear hw1 w1)
         go_ret
         exact ⟨by simp [inB], zf (Below.refl _ _)⟩
       rw [if_neg h10]
       by_cases h11 : k = 11
       · subst h11
         rw [if_pos rfl]
         go_enter Tryd.func116, Tryd.ntmps116
         go_wp2_with (go_at_call 114; refine (zah _ _ _ _).mono ?_; rintro e w1 ⟨rfl, hw1⟩; rw [hw1]; clear hw1 w1)
         go_ret
         exact ⟨by simp [inB], zf (Below.refl _ _)⟩
       rw [if_neg h11]
       go_enter Tryd.func116, Tryd.ntmps116
       go_wp2
       go_ret
       exact ⟨by first | rfl | (simp; done) | (simp; rw [Bool.eq_iff_iff]; simp) | (simp; omega), zf (Below.refl _ _)⟩
end Go.Proofs.YtiglkhkfbgjjoaaDoor
