/- - -/
import Derived.WalkKit
import Derived.Test.YtglolopfeambfaaGreatProg
import Derived.WalkSpells
import Derived.WalkLawsBesides
import Derived.Below
import Derived.Outline
import Derived.Deep.Light
namespace Go.Proofs.YtglolopfeambfaaGreat
set_option maxRecDepth 20000
theorem zwr {α : Type _} {l : List α} {i : Nat} {a : α} : l.toArray.setIfInBounds i a = (l.set i a).toArray := List.setIfInBounds_toArray ..
theorem zws {α : Type _} {x a : α} {l : List α} : (x :: l).set 0 a = a :: l := List.set_cons_zero
theorem zwt {α : Type _} {x a : α} {l : List α} {i : Nat} : (x :: l).set (i + 1) a = x :: l.set i a := List.set_cons_succ
def HOk (k s n : Int) : Prop :=
 (k = 1 /\ 1 <= s /\ s <= 21 /\ n = 0) \/ (k = 2 /\ s = 3 /\ 1 <= n /\ n <= 1000000000) \/
 (k = 3 /\ (s = 16 \/ s = 32 \/ s = 64 \/ s = 128 \/ s = 256) /\ n = 0) \/
 (k = 4 /\ 1 <= s /\ s <= 25 /\ s % 2 = 1 /\ 1 <= n /\ n <= 1000000000) \/ (k = 5 /\ s = 2 /\ n = 0) \/
 (k = 6 /\ s = 126 /\ 1 <= n /\ n <= 1000000000)
def hOk (k s n : Int) : Bool := decide (
 (k = 1 /\ 1 <= s /\ s <= 21 /\ n = 0) \/ (k = 2 /\ s = 3 /\ 1 <= n /\ n <= 1000000000) \/
 (k = 3 /\ (s = 16 \/ s = 32 \/ s = 64 \/ s = 128 \/ s = 256) /\ n = 0) \/
 (k = 4 /\ 1 <= s /\ s <= 25 /\ s % 2 = 1 /\ 1 <= n /\ n <= 1000000000) \/ (k = 5 /\ s = 2 /\ n = 0) \/
 (k = 6 /\ s = 126 /\ 1 <= n /\ n <= 1000000000))
theorem zej (k s n : Int) : hOk k s n = true ↔ HOk k s n := by unfold hOk HOk; exact decide_eq_true_iff
def inB (x a b : Int) : Bool := decide (a <= x /\ x <= b)
def SOk (k s : Int) : Prop :=
 (k = 1 /\ 1 <= s /\ s <= 21) \/ (k = 2 /\ s = 3) \/ (k = 3 /\ (s = 16 \/ s = 32 \/ s = 64 \/ s = 128 \/ s = 256)) \/
 (k = 4 /\ 1 <= s /\ s <= 25 /\ s % 2 = 1) \/ (k = 5 /\ s = 2) \/ (k = 6 /\ s = 126)
def sOk (k s : Int) : Bool := decide (
 (k = 1 /\ 1 <= s /\ s <= 21) \/ (k = 2 /\ s = 3) \/ (k = 3 /\ (s = 16 \/ s = 32 \/ s = 64 \/ s = 128 \/ s = 256)) \/
 (k = 4 /\ 1 <= s /\ s <= 25 /\ s % 2 = 1) \/ (k = 5 /\ s = 2) \/ (k = 6 /\ s = 126))
def zhj (k : Int) : Bool := decide (k = 2 \/ k = 4 \/ k = 6)
theorem zfn (k s : Int) : sOk k s = true ↔ SOk k s := by unfold sOk SOk; exact decide_eq_true_iff
theorem zl7 {k s : Int} (n : Int) (h : sOk k s = false) : hOk k s n = false := by
 rw [<- Bool.not_eq_true, zej]
 rw [<- Bool.not_eq_true, zfn] at h
 refine fun g => h ?_
 unfold HOk at g; unfold SOk
 rcases g with ⟨rfl, g⟩ | ⟨rfl, g⟩ | ⟨rfl, g⟩ | ⟨rfl, g⟩ | ⟨rfl, g⟩ | ⟨rfl, g⟩ <;> simp <;> omega
theorem zi0 {k s : Int} (n : Int) (h : sOk k s = true) (h' : zhj k = true) : hOk k s n = decide (1 <= n /\ n <= 1000000000) := by
 rw [Bool.eq_iff_iff, zej, decide_eq_true_eq]
 rw [zfn] at h
 simp only [zhj, decide_eq_true_eq] at h'
 unfold SOk at h; unfold HOk
 rcases h with ⟨rfl, g⟩ | ⟨rfl, g⟩ | ⟨rfl, g⟩ | ⟨rfl, g⟩ | ⟨rfl, g⟩ | ⟨rfl, g⟩ <;> simp at h' ⊢ <;> omega
theorem zkw {k s : Int} (n : Int) (h : sOk k s = true) (h' : zhj k = false) : hOk k s n = decide (n = 0) := by
 rw [Bool.eq_iff_iff, zej, decide_eq_true_eq]
 rw [zfn] at h
 simp only [zhj, decide_eq_false_iff_not] at h'
 unfold SOk at h; unfold HOk
 rcases h with ⟨rfl, g⟩ | ⟨rfl, g⟩ | ⟨rfl, g⟩ | ⟨rfl, g⟩ | ⟨rfl, g⟩ | ⟨rfl, g⟩ <;> simp at h' ⊢ <;> omega
theorem zbd {a b : Bool} (h : a = b) : Ending.returned (.bool a) = .returned (.bool b) := by rw [h]
theorem zbs {k : IntKind} {a b : Int} (h : a = b) : Ending.returned (.int k a) = .returned (.int k b) := by rw [h]
theorem ztv : ∀ n : Fin 26, bits .and .i64 (n.val : Int) 1 = (n.val : Int) % 2 := by decide +kernel
theorem zwp (s : Int) (h : 0 <= s) (h' : s <= 25) : bits .and .i64 s 1 = s % 2 := by
 obtain ⟨n, rfl⟩ := Int.eq_ofNat_of_zero_le h
 exact ztv ⟨n, by omega⟩
theorem ztw : ∀ n : Fin 257, 16 <= n.val -> (bits .and .i64 (n.val : Int) ((n.val : Int) - 1) = 0 ↔ (n.val = 16 \/ n.val = 32 \/ n.val = 64 \/ n.val = 128 \/ n.val = 256)) := by decide +kernel
theorem zwq (s : Int) (h : 16 <= s) (h' : s <= 256) : bits .and .i64 s (s - 1) = 0 ↔ (s = 16 \/ s = 32 \/ s = 64 \/ s = 128 \/ s = 256) := by
 obtain ⟨n, rfl⟩ := Int.eq_ofNat_of_zero_le (a := s) (by omega)
 have := ztw ⟨n, by omega⟩ (by simp only; omega)
 simp only at this
 rw [this]; omega
open Go.RowKit
set_option linter.unusedSimpArgs false
theorem zu (x a b : Int) (w : World) :
 Calls Tryz.prog 31 #[.int .i64 x, .int .i64 a, .int .i64 b] w fun e w' => e = .returned (.bool (inB x a b)) /\ w' = w := by
 go_enter Tryz.func31, Tryz.ntmps31
 go_wp2
 all_goals
  go_ret
  refine ⟨zbd ?_, rfl⟩
  go_light
  rw [Bool.eq_iff_iff]
  simp [inB] at * <;> omega
theorem zat (k s n : Int) (w : World) :
 Calls Tryz.prog 59 #[.agg #[.int .i64 k, .int .i64 s, .int .i64 n]] w fun e w' => e = .returned (.bool (hOk k s n)) /\ Below w.heap.size w w' := by
 go_enter Tryz.func59, Tryz.ntmps59
 go_wp2_with (go_at_call 31; refine (zu _ _ _ _).mono ?_; rintro e w' ⟨rfl, rfl⟩)
 all_goals
  go_ret
  refine ⟨zbd ?_, (Below.refl _ _).alloc (Nat.le_refl _) _⟩
  go_light
  rw [Bool.eq_iff_iff]
  simp [hOk, inB] at *
  all_goals (try have ht := Int.tmod_eq_emod_of_nonneg (a := s) (b := 2) (by omega))
  all_goals omega
theorem zjf (s : Int) (w : World) :
 Calls Tryz.prog 140 #[.int .i64 s] w fun e w' => e = .returned (.bool (decide (s = 16 \/ s = 32 \/ s = 64 \/ s = 128 \/ s = 256))) /\ w' = w := by
 go_enter Tryz.func140, Tryz.ntmps140
 go_wp2
 all_goals
  go_ret
  refine ⟨zbd ?_, rfl⟩
  try have ht := zwq s (by omega) (by omega)
  go_light
  rw [Bool.eq_iff_iff]
  simp at * <;> omega
theorem zlb (k : Int) (w : World) :
 Calls Tryz.prog 136 #[.int .i64 k] w fun e w' => e = .returned (.bool (zhj k)) /\ w' = w := by
 go_enter Tryz.func136, Tryz.ntmps136
 go_wp2
 all_goals
  go_ret
  refine ⟨zbd ?_, rfl⟩
  go_light
  rw [Bool.eq_iff_iff]
  simp [zhj] at * <;> omega
theorem zr6 (w : World) : Calls Tryz.prog 139 #[.int .i64 0] w fun e w' => e = .returned (.int .i64 1) /\ w' = w := by
 go_enter Tryz.func139, Tryz.ntmps139
 go_wp2
 go_ret
 exact ⟨rfl, rfl⟩
theorem zn3 (w : World) : Calls Tryz.prog 139 #[.int .i64 160] w fun e w' => e = .returned (.int .i64 21) /\ w' = w := by
 go_enter Tryz.func139, Tryz.ntmps139
 go_wp2
 go_ret
 exact ⟨rfl, rfl⟩
theorem zp1 (k s : Int) (w : World) :
 Calls Tryz.prog 135 #[.int .i64 k, .int .i64 s] w fun e w' => e = .returned (.bool (sOk k s)) /\ w' = w := by
 go_enter Tryz.func135, Tryz.ntmps135
 go_wp2_with (first | (go_at_call 140; refine (zjf _ _).mono ?_; rintro e w' ⟨rfl, rfl⟩) | (go_at_call 139; refine (zr6 _).mono ?_; rintro e w' ⟨rfl, rfl⟩) | (go_at_call 139; refine (zn3 _).mono ?_; rintro e w' ⟨rfl, rfl⟩))
 all_goals
  go_ret
  refine ⟨zbd ?_, rfl⟩
  go_light
  rw [Bool.eq_iff_iff]
  simp [sOk] at *
  all_goals have ht := zwp s
  all_goals omega
theorem zgs (k s n : Int) (w : World) :
 Calls Tryz.prog 121 #[.agg #[.int .i64 k, .int .i64 s, .int .i64 n]] w fun e w' => e = .returned (.bool (hOk k s n)) /\ Below w.heap.size w w' := by
 go_enter Tryz.func121, Tryz.ntmps121
 go_wp2_with (first | (go_at_call 135; refine (zp1 _ _ _).mono ?_; rintro e w' ⟨rfl, rfl⟩) | (go_at_call 136; refine (zlb _ _).mono ?_; rintro e w' ⟨rfl, rfl⟩))
 all_goals
  go_ret
  refine ⟨zbd ?_, (Below.refl _ _).alloc (Nat.le_refl _) _⟩
  go_light
 · rw [zl7 n (by simpa using ‹(!sOk k s) = true›)]
 · rw [zi0 n (by simpa using ‹(!sOk k s) = false›) ‹_›, decide_eq_decide]; omega
 · rw [zi0 n (by simpa using ‹(!sOk k s) = false›) ‹_›]; symm; apply decide_eq_false; omega
 · rw [zkw n (by simpa using ‹(!sOk k s) = false›) ‹_›]; rfl
theorem zn {W w1 : World} {B : Nat} (hb : Below B W w1) : (∀ b o, b < B -> w1.cell? ⟨b, o, none⟩ = W.cell? ⟨b, o, none⟩) /\ (∀ b o, b < B -> w1.frozen? ⟨b, o, none⟩ = W.frozen? ⟨b, o, none⟩) :=
 ⟨fun b o h => hb.cell (p := ⟨b, o, none⟩) h, fun b o h => hb.frozen (p := ⟨b, o, none⟩) h⟩
theorem zp {w w' : World} {o : Obj} (hb : Below (w.alloc o).heap.size (w.alloc o) w') : w.heap.size < w'.heap.size := by
 have h := hb.size
 simp at h
 omega
theorem zc {w w' : World} {o : Obj} (hb : Below (w.alloc o).heap.size (w.alloc o) w') : Below w.heap.size w w' :=
 ((Below.refl _ _).alloc (Nat.le_refl _) _).trans (hb.mono (by simp))
theorem zb {w w1 w2 : World} (hB : Below w.heap.size w w1) (hb : Below w1.heap.size w1 w2) : Below w.heap.size w w2 :=
 hB.trans (hb.mono hB.size)
end Go.Proofs.YtglolopfeambfaaGreat
