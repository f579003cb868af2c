/- - -/
import Derived.WalkKit
import Derived.Test.YtmckcnmlhgpnhaaGreatProg
import Derived.WalkSpells
import Derived.WalkLawsBesides
import Derived.Below
import Derived.Outline
import Derived.Deep.Light
namespace Go.Proofs.YtmckcnmlhgpnhaaGreat
set_option maxRecDepth 20000
theorem zut {α : Type _} {l : List α} {i : Nat} {a : α} : l.toArray.setIfInBounds i a = (l.set i a).toArray := List.setIfInBounds_toArray ..
theorem zuu {α : Type _} {x a : α} {l : List α} : (x :: l).set 0 a = a :: l := List.set_cons_zero
theorem zuv {α : Type _} {x a : α} {l : List α} {i : Nat} : (x :: l).set (i + 1) a = x :: l.set i a := List.set_cons_succ
def HOk (k s n : Int) : Prop :=
 (k = 1 /\ 1 <= s /\ s <= 21 /\ n = 0) \/ (k = 2 /\ s = 3 /\ 1 <= n /\ n <= 1000000000) \/
 (k = 3 /\ (s = 16 \/ s = 32 \/ s = 64 \/ s = 128 \/ s = 256) /\ n = 0) \/
 (k = 4 /\ 1 <= s /\ s <= 25 /\ s % 2 = 1 /\ 1 <= n /\ n <= 1000000000) \/ (k = 5 /\ s = 2 /\ n = 0) \/
 (k = 6 /\ s = 126 /\ 1 <= n /\ n <= 1000000000)
def hOk (k s n : Int) : Bool := decide (
 (k = 1 /\ 1 <= s /\ s <= 21 /\ n = 0) \/ (k = 2 /\ s = 3 /\ 1 <= n /\ n <= 1000000000) \/
 (k = 3 /\ (s = 16 \/ s = 32 \/ s = 64 \/ s = 128 \/ s = 256) /\ n = 0) \/
 (k = 4 /\ 1 <= s /\ s <= 25 /\ s % 2 = 1 /\ 1 <= n /\ n <= 1000000000) \/ (k = 5 /\ s = 2 /\ n = 0) \/
 (k = 6 /\ s = 126 /\ 1 <= n /\ n <= 1000000000))
theorem zeb (k s n : Int) : hOk k s n = true ↔ HOk k s n := by unfold hOk HOk; exact decide_eq_true_iff
def inB (x a b : Int) : Bool := decide (a <= x /\ x <= b)
def SOk (k s : Int) : Prop :=
 (k = 1 /\ 1 <= s /\ s <= 21) \/ (k = 2 /\ s = 3) \/ (k = 3 /\ (s = 16 \/ s = 32 \/ s = 64 \/ s = 128 \/ s = 256)) \/
 (k = 4 /\ 1 <= s /\ s <= 25 /\ s % 2 = 1) \/ (k = 5 /\ s = 2) \/ (k = 6 /\ s = 126)
def sOk (k s : Int) : Bool := decide (
 (k = 1 /\ 1 <= s /\ s <= 21) \/ (k = 2 /\ s = 3) \/ (k = 3 /\ (s = 16 \/ s = 32 \/ s = 64 \/ s = 128 \/ s = 256)) \/
 (k = 4 /\ 1 <= s /\ s <= 25 /\ s % 2 = 1) \/ (k = 5 /\ s = 2) \/ (k = 6 /\ s = 126))
def zg3 (k : Int) : Bool := decide (k = 2 \/ k = 4 \/ k = 6)
theorem zfb (k s : Int) : sOk k s = true ↔ SOk k s := by unfold sOk SOk; exact decide_eq_true_iff
theorem zk2 {k s : Int} (n : Int) (h : sOk k s = false) : hOk k s n = false := by
 rw [<- Bool.not_eq_true, zeb]
 rw [<- Bool.not_eq_true, zfb] at h
 refine fun g => h ?_
 unfold HOk at g; unfold SOk
 rcases g with ⟨rfl, g⟩ | ⟨rfl, g⟩ | ⟨rfl, g⟩ | ⟨rfl, g⟩ | ⟨rfl, g⟩ | ⟨rfl, g⟩ <;> simp <;> omega
theorem zia {k s : Int} (n : Int) (h : sOk k s = true) (h' : zg3 k = true) : hOk k s n = decide (1 <= n /\ n <= 1000000000) := by
 rw [Bool.eq_iff_iff, zeb, decide_eq_true_eq]
 rw [zfb] at h
 simp only [zg3, decide_eq_true_eq] at h'
 unfold SOk at h; unfold HOk
 rcases h with ⟨rfl, g⟩ | ⟨rfl, g⟩ | ⟨rfl, g⟩ | ⟨rfl, g⟩ | ⟨rfl, g⟩ | ⟨rfl, g⟩ <;> simp at h' ⊢ <;> omega
theorem zjy {k s : Int} (n : Int) (h : sOk k s = true) (h' : zg3 k = false) : hOk k s n = decide (n = 0) := by
 rw [Bool.eq_iff_iff, zeb, decide_eq_true_eq]
 rw [zfb] at h
 simp only [zg3, decide_eq_false_iff_not] at h'
 unfold SOk at h; unfold HOk
 rcases h with ⟨rfl, g⟩ | ⟨rfl, g⟩ | ⟨rfl, g⟩ | ⟨rfl, g⟩ | ⟨rfl, g⟩ | ⟨rfl, g⟩ <;> simp at h' ⊢ <;> omega
theorem za7 {a b : Bool} (h : a = b) : Ending.returned (.bool a) = .returned (.bool b) := by rw [h]
theorem zbu {k : IntKind} {a b : Int} (h : a = b) : Ending.returned (.int k a) = .returned (.int k b) := by rw [h]
theorem zr6 : ∀ n : Fin 26, bits .and .i64 (n.val : Int) 1 = (n.val : Int) % 2 := by decide +kernel
theorem zuq (s : Int) (h : 0 <= s) (h' : s <= 25) : bits .and .i64 s 1 = s % 2 := by
 obtain ⟨n, rfl⟩ := Int.eq_ofNat_of_zero_le h
 exact zr6 ⟨n, by omega⟩
theorem zr7 : ∀ n : Fin 257, 16 <= n.val -> (bits .and .i64 (n.val : Int) ((n.val : Int) - 1) = 0 ↔ (n.val = 16 \/ n.val = 32 \/ n.val = 64 \/ n.val = 128 \/ n.val = 256)) := by decide +kernel
theorem zur (s : Int) (h : 16 <= s) (h' : s <= 256) : bits .and .i64 s (s - 1) = 0 ↔ (s = 16 \/ s = 32 \/ s = 64 \/ s = 128 \/ s = 256) := by
 obtain ⟨n, rfl⟩ := Int.eq_ofNat_of_zero_le (a := s) (by omega)
 have := zr7 ⟨n, by omega⟩ (by simp only; omega)
 simp only at this
 rw [this]; omega
open Go.RowKit
set_option linter.unusedSimpArgs false
theorem zag (x a b : Int) (w : World) :
 Calls Tryz.prog 104 #[.int .i64 x, .int .i64 a, .int .i64 b] w fun e w' => e = .returned (.bool (inB x a b)) /\ w' = w := by
 go_enter Tryz.func104, Tryz.ntmps104
 go_wp2
 all_goals
  go_ret
  refine ⟨za7 ?_, rfl⟩
  go_light
  rw [Bool.eq_iff_iff]
  simp [inB] at * <;> omega
theorem zap (k s n : Int) (w : World) :
 Calls Tryz.prog 99 #[.agg #[.int .i64 k, .int .i64 s, .int .i64 n]] w fun e w' => e = .returned (.bool (hOk k s n)) /\ Below w.heap.size w w' := by
 go_enter Tryz.func99, Tryz.ntmps99
 go_wp2_with (go_at_call 104; refine (zag _ _ _ _).mono ?_; rintro e w' ⟨rfl, rfl⟩)
 all_goals
  go_ret
  refine ⟨za7 ?_, (Below.refl _ _).alloc (Nat.le_refl _) _⟩
  go_light
  rw [Bool.eq_iff_iff]
  simp [hOk, inB] at *
  all_goals (try have ht := Int.tmod_eq_emod_of_nonneg (a := s) (b := 2) (by omega))
  all_goals omega
theorem ziq (s : Int) (w : World) :
 Calls Tryz.prog 209 #[.int .i64 s] w fun e w' => e = .returned (.bool (decide (s = 16 \/ s = 32 \/ s = 64 \/ s = 128 \/ s = 256))) /\ w' = w := by
 go_enter Tryz.func209, Tryz.ntmps209
 go_wp2
 all_goals
  go_ret
  refine ⟨za7 ?_, rfl⟩
  try have ht := zur s (by omega) (by omega)
  go_light
  rw [Bool.eq_iff_iff]
  simp at * <;> omega
theorem zka (k : Int) (w : World) :
 Calls Tryz.prog 187 #[.int .i64 k] w fun e w' => e = .returned (.bool (zg3 k)) /\ w' = w := by
 go_enter Tryz.func187, Tryz.ntmps187
 go_wp2
 all_goals
  go_ret
  refine ⟨za7 ?_, rfl⟩
  go_light
  rw [Bool.eq_iff_iff]
  simp [zg3] at * <;> omega
theorem zqn (w : World) : Calls Tryz.prog 208 #[.int .i64 0] w fun e w' => e = .returned (.int .i64 1) /\ w' = w := by
 go_enter Tryz.func208, Tryz.ntmps208
 go_wp2
 go_ret
 exact ⟨rfl, rfl⟩
theorem zmo (w : World) : Calls Tryz.prog 208 #[.int .i64 160] w fun e w' => e = .returned (.int .i64 21) /\ w' = w := by
 go_enter Tryz.func208, Tryz.ntmps208
 go_wp2
 go_ret
 exact ⟨rfl, rfl⟩
theorem zok (k s : Int) (w : World) :
 Calls Tryz.prog 186 #[.int .i64 k, .int .i64 s] w fun e w' => e = .returned (.bool (sOk k s)) /\ w' = w := by
 go_enter Tryz.func186, Tryz.ntmps186
 go_wp2_with (first | (go_at_call 209; refine (ziq _ _).mono ?_; rintro e w' ⟨rfl, rfl⟩) | (go_at_call 208; refine (zqn _).mono ?_; rintro e w' ⟨rfl, rfl⟩) | (go_at_call 208; refine (zmo _).mono ?_; rintro e w' ⟨rfl, rfl⟩))
 all_goals
  go_ret
  refine ⟨za7 ?_, rfl⟩
  go_light
  rw [Bool.eq_iff_iff]
  simp [sOk] at *
  all_goals have ht := zuq s
  all_goals omega
theorem zgb (k s n : Int) (w : World) :
 Calls Tryz.prog 146 #[.agg #[.int .i64 k, .int .i64 s, .int .i64 n]] w fun e w' => e = .returned (.bool (hOk k s n)) /\ Below w.heap.size w w' := by
 go_enter Tryz.func146, Tryz.ntmps146
 go_wp2_with (first | (go_at_call 186; refine (zok _ _ _).mono ?_; rintro e w' ⟨rfl, rfl⟩) | (go_at_call 187; refine (zka _ _).mono ?_; rintro e w' ⟨rfl, rfl⟩))
 all_goals
  go_ret
  refine ⟨za7 ?_, (Below.refl _ _).alloc (Nat.le_refl _) _⟩
  go_light
 · rw [zk2 n (by simpa using ‹(!sOk k s) = true›)]
 · rw [zia n (by simpa using ‹(!sOk k s) = false›) ‹_›, decide_eq_decide]; omega
 · rw [zia n (by simpa using ‹(!sOk k s) = false›) ‹_›]; symm; apply decide_eq_false; omega
 · rw [zjy n (by simpa using ‹(!sOk k s) = false›) ‹_›]; rfl
theorem zz {W w1 : World} {B : Nat} (hb : Below B W w1) : (∀ b o, b < B -> w1.cell? ⟨b, o, none⟩ = W.cell? ⟨b, o, none⟩) /\ (∀ b o, b < B -> w1.frozen? ⟨b, o, none⟩ = W.frozen? ⟨b, o, none⟩) :=
 ⟨fun b o h => hb.cell (p := ⟨b, o, none⟩) h, fun b o h => hb.frozen (p := ⟨b, o, none⟩) h⟩
theorem zp {w w' : World} {o : Obj} (hb : Below (w.alloc o).heap.size (w.alloc o) w') : w.heap.size < w'.heap.size := by
 have h := hb.size
 simp at h
 omega
theorem zd {w w' : World} {o : Obj} (hb : Below (w.alloc o).heap.size (w.alloc o) w') : Below w.heap.size w w' :=
 ((Below.refl _ _).alloc (Nat.le_refl _) _).trans (hb.mono (by simp))
theorem zc {w w1 w2 : World} (hB : Below w.heap.size w w1) (hb : Below w1.heap.size w1 w2) : Below w.heap.size w w2 :=
 hB.trans (hb.mono hB.size)
end Go.Proofs.YtmckcnmlhgpnhaaGreat
