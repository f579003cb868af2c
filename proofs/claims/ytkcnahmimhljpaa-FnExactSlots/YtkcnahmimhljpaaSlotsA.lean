/- Slots of both packages. -/
import Derived.Test.YtkcnahmimhljpaaProg
import Derived.Test.YtkcnahmimhljpaaIntsA
import Derived.WalkKit
import Derived.WalkSpells
import Derived.WalkLawsBesides
import Derived.Below
import Derived.Outline
import Derived.Deep.Light
import Derived.Deep.CutRange
import Derived.Deep.CutBlock
import Derived.Maps.AppendAt
namespace Go.Proofs.Ytkcnahmimhljpaa
open Go.RowKit Go.Maps
set_option linter.unusedSimpArgs false
set_option linter.unusedVariables false

def bodyT (k : Int) : TypeId := if k = 1 then 49 else if k = 2 then 50 else if k = 3 then 51 else if k = 4 then 52 else if k = 5 then 53 else 54

theorem bodyOf_any (k : Int) (v : Value) (w : World) :
    Calls Try.prog 17 #[.int .i64 k, v] w fun e w' => e = .returned (.iface (bodyT k) v) ∧ w' = w := by
  go_enter Try.func17, Try.ntmps17
  go_wp2
  all_goals
    go_ret
    refine ⟨?_, rfl⟩
    go_light
    simp [bodyT]
    simp at *
    simp [*]

/-- The first slot of a kind, as the program counts. -/
def fs (k : Int) : Int := if k = 1 then 65536 else if k = 2 ∨ k = 4 then 2 else if k = 3 ∨ k = 5 then 1 else 5

theorem firstSlot1 (v : Value) (w : World) : Calls Try.prog 45 #[v] w fun e w' => e = .returned (.int .i64 65536) ∧ w' = w := by
  go_enter Try.func45, Try.ntmps45
  go_wp2
  go_ret
  exact ⟨rfl, rfl⟩
theorem methFirst1 (v : Value) (w : World) : Sem.run Try.prog (method 178 49 v "loop.example/g00101/impl.firstSlot") w = .ok (45, v) w := by kernel_rfl
theorem firstSlot2 (v : Value) (w : World) : Calls Try.prog 48 #[v] w fun e w' => e = .returned (.int .i64 2) ∧ w' = w := by
  go_enter Try.func48, Try.ntmps48
  go_wp2
  go_ret
  exact ⟨rfl, rfl⟩
theorem methFirst2 (v : Value) (w : World) : Sem.run Try.prog (method 178 50 v "loop.example/g00101/impl.firstSlot") w = .ok (48, v) w := by kernel_rfl
theorem firstSlot3 (v : Value) (w : World) : Calls Try.prog 51 #[v] w fun e w' => e = .returned (.int .i64 1) ∧ w' = w := by
  go_enter Try.func51, Try.ntmps51
  go_wp2
  go_ret
  exact ⟨rfl, rfl⟩
theorem methFirst3 (v : Value) (w : World) : Sem.run Try.prog (method 178 51 v "loop.example/g00101/impl.firstSlot") w = .ok (51, v) w := by kernel_rfl
theorem firstSlot4 (v : Value) (w : World) : Calls Try.prog 54 #[v] w fun e w' => e = .returned (.int .i64 2) ∧ w' = w := by
  go_enter Try.func54, Try.ntmps54
  go_wp2
  go_ret
  exact ⟨rfl, rfl⟩
theorem methFirst4 (v : Value) (w : World) : Sem.run Try.prog (method 178 52 v "loop.example/g00101/impl.firstSlot") w = .ok (54, v) w := by kernel_rfl
theorem firstSlot5 (v : Value) (w : World) : Calls Try.prog 57 #[v] w fun e w' => e = .returned (.int .i64 1) ∧ w' = w := by
  go_enter Try.func57, Try.ntmps57
  go_wp2
  go_ret
  exact ⟨rfl, rfl⟩
theorem methFirst5 (v : Value) (w : World) : Sem.run Try.prog (method 178 53 v "loop.example/g00101/impl.firstSlot") w = .ok (57, v) w := by kernel_rfl
theorem firstSlot6 (v : Value) (w : World) : Calls Try.prog 60 #[v] w fun e w' => e = .returned (.int .i64 5) ∧ w' = w := by
  go_enter Try.func60, Try.ntmps60
  go_wp2
  go_ret
  exact ⟨rfl, rfl⟩
theorem methFirst6 (v : Value) (w : World) : Sem.run Try.prog (method 178 54 v "loop.example/g00101/impl.firstSlot") w = .ok (60, v) w := by kernel_rfl
theorem info3 : (Try.prog.info? 3).map (fun i => (i.zero, i.size, i.bytes)) = some (some (.int .i64 0), 1, 8) := by kernel_rfl

/-- The first m slots from F on, as cells. -/
def gat (F : Int) (m : Nat) : List Value := (List.range m).map fun (j : Nat) => .int .i64 (F + 2 * j)
theorem gat_length (F : Int) (m : Nat) : (gat F m).length = m := by simp [gat]
theorem gat_succ (F : Int) (m : Nat) : gat F (m + 1) = gat F m ++ [.int .i64 (F + 2 * m)] := by simp [gat, List.range_succ]
theorem gat_get (F : Int) (m i : Nat) (h : i < m) : (gat F m)[i]? = some (.int .i64 (F + 2 * i)) := by simp [gat, h]
theorem own_gat {B : Nat} {w : World} {v : Value} {m : Nat} {F : Int} (h : w.ownsRow B 3 1 v m (gat F m)) : OwnF B w.heap.size 3 w v m m (fun i => .int .i64 (F + 2 * i)) := by
  obtain ⟨_, ⟨rfl, h0⟩ | ⟨g, cap, cur, rfl, hB, hg, hn, hm, hs, ht⟩⟩ := h
  · subst h0; exact ⟨none, 0, rfl, .inl rfl⟩
  · refine ⟨_, cap, rfl, .inr ⟨g, cur.size, fun i => cur.getD i (.int .i64 0), rfl, hB, ?_, by omega, ?_, fun i hi => ?_⟩⟩
    · exact (Array.getElem?_eq_some_iff.1 hg).1
    · exact ⟨cur, hg, rfl, fun i hi => by simp [hi]⟩
    · have h1 : (cur.toList.take (m * 1))[i]? = some (.int .i64 (F + 2 * i)) := by rw [ht]; exact gat_get F m i hi
      rw [List.getElem?_take_of_lt (by omega)] at h1
      have h2 : cur[i]? = some (.int .i64 (F + 2 * i)) := by simpa using h1
      simp [Array.getD_eq_getD_getElem?, h2]
theorem gat_step {B m : Nat} {F : Int} {w wr w1 : World} {u v' : Value} {o : Obj} (hB : B ≤ wr.heap.size)
    (hown : wr.ownsRow B 3 1 u m (gat F m)) (hnx : Below B w wr)
    (hown' : w1.ownsRow B 3 1 v' (m + 1) (gat F m ++ [.int .i64 (F + 2 * m)])) (hgrow : (wr.alloc o).grownBy w1 u.ownBlock) :
    w1.ownsRow B 3 1 v' (m + 1) (gat F (m + 1)) ∧ Below B w w1 :=
  ⟨by rw [gat_succ]; exact hown', (hnx.alloc (by omega) o).grown hgrow (by simp; omega) (fun j hj => by have := (hown.lt j hj).1; omega)⟩

theorem implSlots1 (s : Int) (N : Nat) (w : World) (hs : sOk 1 s = true) (hN : ∀ m : Nat, (65536 : Int) + 2 * m < s ↔ m < N) (s0 : 1 ≤ s) (s1 : s ≤ 256) (hN1 : N ≤ 128) :
    Calls Try.prog 6 #[.int .i64 1, .int .i64 s] w fun e w' => ∃ v', e = .returned v' ∧ OwnF w.heap.size w'.heap.size 3 w' v' N N (fun i => .int .i64 (65536 + 2 * i)) ∧ Below w.heap.size w w' := by
  have hm := methFirst1
  have hT : bodyT 1 = 49 := rfl
  obtain ⟨i0, hi, hz0, hz1, hz2⟩ := info_parts info3
  go_enter Try.func6, Try.ntmps6
  go_wp2_with (first | (go_at_call 16; refine (sizeOk_any _ _ _).mono ?_; rintro e w' ⟨rfl, rfl⟩) | (go_at_call 17; refine (bodyOf_any _ _ _).mono ?_; rintro e w' ⟨rfl, rfl⟩) | (go_at_call 45; refine (firstSlot1 _ _).mono ?_; rintro e w' ⟨rfl, rfl⟩))
  clear hm hT
  go_loopw [5, 6] (fun v i wr => ∃ m : Nat, m ≤ N ∧ i = .int .i64 (65536 + 2 * m) ∧ wr.ownsRow w'.heap.size 3 1 v m (gat 65536 m) ∧ Below w'.heap.size w' wr) (fun _ i _ => 2 * N + 65536 - (intOf i).toNat)
  case atStart => exact ⟨0, Nat.zero_le _, rfl, World.ownsRow_nil _ _ _ _, Below.refl _ _⟩
  case round =>
    obtain ⟨m, hm, rfl, hown, hF⟩ := hrel
    by_cases hlt : m < N
    · have h1 : (65536 : Int) + 2 * m < s := (hN m).2 hlt
      omega
    · have h1 : ¬ (65536 : Int) + 2 * m < s := fun h => hlt ((hN m).1 h)
      obtain rfl : m = N := by omega
      go_wp2
      go_ret
      exact ⟨_, rfl, own_gat hown, hF⟩
theorem implSlots2 (s : Int) (N : Nat) (w : World) (hs : sOk 2 s = true) (hN : ∀ m : Nat, (2 : Int) + 2 * m < s ↔ m < N) (s0 : 1 ≤ s) (s1 : s ≤ 256) (hN1 : N ≤ 128) :
    Calls Try.prog 6 #[.int .i64 2, .int .i64 s] w fun e w' => ∃ v', e = .returned v' ∧ OwnF w.heap.size w'.heap.size 3 w' v' N N (fun i => .int .i64 (2 + 2 * i)) ∧ Below w.heap.size w w' := by
  have hm := methFirst2
  have hT : bodyT 2 = 50 := rfl
  obtain ⟨i0, hi, hz0, hz1, hz2⟩ := info_parts info3
  go_enter Try.func6, Try.ntmps6
  go_wp2_with (first | (go_at_call 16; refine (sizeOk_any _ _ _).mono ?_; rintro e w' ⟨rfl, rfl⟩) | (go_at_call 17; refine (bodyOf_any _ _ _).mono ?_; rintro e w' ⟨rfl, rfl⟩) | (go_at_call 48; refine (firstSlot2 _ _).mono ?_; rintro e w' ⟨rfl, rfl⟩))
  clear hm hT
  go_loopw [5, 6] (fun v i wr => ∃ m : Nat, m ≤ N ∧ i = .int .i64 (2 + 2 * m) ∧ wr.ownsRow w'.heap.size 3 1 v m (gat 2 m) ∧ Below w'.heap.size w' wr) (fun _ i _ => 2 * N + 2 - (intOf i).toNat)
  case atStart => exact ⟨0, Nat.zero_le _, rfl, World.ownsRow_nil _ _ _ _, Below.refl _ _⟩
  case round =>
    obtain ⟨m, hm, rfl, hown, hF⟩ := hrel
    by_cases hlt : m < N
    · have h1 : (2 : Int) + 2 * m < s := (hN m).2 hlt
      go_wp2_with (at_builtin; refine wpList_append_own _ rfl _ _ 22 rfl w'.heap.size 3 i0 (.int .i64 0) 1 8 Try.underlying22 hi hz0 hz1 hz2 rfl (by decide) _ m (gat 2 m) rfl (hown.alloc _) ⟨wr.heap.size, 0, none⟩ 1 1 [.int .i64 (2 + 2 * m)] rfl rfl (cell_one_new _ _ _) (ints_oneCell .i64 [2 + 2 * m]) (by unfold maxLen; omega) (by omega) (by have := hF.size; simp; omega) ?_)
      intro v' w1 hown' hgrow _
      have R := gat_step (by have := hF.size; omega) hown hF hown' hgrow
      clear hown' hgrow hown hF
      go_wp2
      go_roundw
      case rel => exact ⟨m + 1, by omega, by go_num, R.1, R.2⟩
      case measure => simp [intOf]; omega
    · have h1 : ¬ (2 : Int) + 2 * m < s := fun h => hlt ((hN m).1 h)
      obtain rfl : m = N := by omega
      go_wp2
      go_ret
      exact ⟨_, rfl, own_gat hown, hF⟩
theorem implSlots3 (s : Int) (N : Nat) (w : World) (hs : sOk 3 s = true) (hN : ∀ m : Nat, (1 : Int) + 2 * m < s ↔ m < N) (s0 : 1 ≤ s) (s1 : s ≤ 256) (hN1 : N ≤ 128) :
    Calls Try.prog 6 #[.int .i64 3, .int .i64 s] w fun e w' => ∃ v', e = .returned v' ∧ OwnF w.heap.size w'.heap.size 3 w' v' N N (fun i => .int .i64 (1 + 2 * i)) ∧ Below w.heap.size w w' := by
  have hm := methFirst3
  have hT : bodyT 3 = 51 := rfl
  obtain ⟨i0, hi, hz0, hz1, hz2⟩ := info_parts info3
  go_enter Try.func6, Try.ntmps6
  go_wp2_with (first | (go_at_call 16; refine (sizeOk_any _ _ _).mono ?_; rintro e w' ⟨rfl, rfl⟩) | (go_at_call 17; refine (bodyOf_any _ _ _).mono ?_; rintro e w' ⟨rfl, rfl⟩) | (go_at_call 51; refine (firstSlot3 _ _).mono ?_; rintro e w' ⟨rfl, rfl⟩))
  clear hm hT
  go_loopw [5, 6] (fun v i wr => ∃ m : Nat, m ≤ N ∧ i = .int .i64 (1 + 2 * m) ∧ wr.ownsRow w'.heap.size 3 1 v m (gat 1 m) ∧ Below w'.heap.size w' wr) (fun _ i _ => 2 * N + 1 - (intOf i).toNat)
  case atStart => exact ⟨0, Nat.zero_le _, rfl, World.ownsRow_nil _ _ _ _, Below.refl _ _⟩
  case round =>
    obtain ⟨m, hm, rfl, hown, hF⟩ := hrel
    by_cases hlt : m < N
    · have h1 : (1 : Int) + 2 * m < s := (hN m).2 hlt
      go_wp2_with (at_builtin; refine wpList_append_own _ rfl _ _ 22 rfl w'.heap.size 3 i0 (.int .i64 0) 1 8 Try.underlying22 hi hz0 hz1 hz2 rfl (by decide) _ m (gat 1 m) rfl (hown.alloc _) ⟨wr.heap.size, 0, none⟩ 1 1 [.int .i64 (1 + 2 * m)] rfl rfl (cell_one_new _ _ _) (ints_oneCell .i64 [1 + 2 * m]) (by unfold maxLen; omega) (by omega) (by have := hF.size; simp; omega) ?_)
      intro v' w1 hown' hgrow _
      have R := gat_step (by have := hF.size; omega) hown hF hown' hgrow
      clear hown' hgrow hown hF
      go_wp2
      go_roundw
      case rel => exact ⟨m + 1, by omega, by go_num, R.1, R.2⟩
      case measure => simp [intOf]; omega
    · have h1 : ¬ (1 : Int) + 2 * m < s := fun h => hlt ((hN m).1 h)
      obtain rfl : m = N := by omega
      go_wp2
      go_ret
      exact ⟨_, rfl, own_gat hown, hF⟩
theorem implSlots4 (s : Int) (N : Nat) (w : World) (hs : sOk 4 s = true) (hN : ∀ m : Nat, (2 : Int) + 2 * m < s ↔ m < N) (s0 : 1 ≤ s) (s1 : s ≤ 256) (hN1 : N ≤ 128) :
    Calls Try.prog 6 #[.int .i64 4, .int .i64 s] w fun e w' => ∃ v', e = .returned v' ∧ OwnF w.heap.size w'.heap.size 3 w' v' N N (fun i => .int .i64 (2 + 2 * i)) ∧ Below w.heap.size w w' := by
  have hm := methFirst4
  have hT : bodyT 4 = 52 := rfl
  obtain ⟨i0, hi, hz0, hz1, hz2⟩ := info_parts info3
  go_enter Try.func6, Try.ntmps6
  go_wp2_with (first | (go_at_call 16; refine (sizeOk_any _ _ _).mono ?_; rintro e w' ⟨rfl, rfl⟩) | (go_at_call 17; refine (bodyOf_any _ _ _).mono ?_; rintro e w' ⟨rfl, rfl⟩) | (go_at_call 54; refine (firstSlot4 _ _).mono ?_; rintro e w' ⟨rfl, rfl⟩))
  clear hm hT
  go_loopw [5, 6] (fun v i wr => ∃ m : Nat, m ≤ N ∧ i = .int .i64 (2 + 2 * m) ∧ wr.ownsRow w'.heap.size 3 1 v m (gat 2 m) ∧ Below w'.heap.size w' wr) (fun _ i _ => 2 * N + 2 - (intOf i).toNat)
  case atStart => exact ⟨0, Nat.zero_le _, rfl, World.ownsRow_nil _ _ _ _, Below.refl _ _⟩
  case round =>
    obtain ⟨m, hm, rfl, hown, hF⟩ := hrel
    by_cases hlt : m < N
    · have h1 : (2 : Int) + 2 * m < s := (hN m).2 hlt
      go_wp2_with (at_builtin; refine wpList_append_own _ rfl _ _ 22 rfl w'.heap.size 3 i0 (.int .i64 0) 1 8 Try.underlying22 hi hz0 hz1 hz2 rfl (by decide) _ m (gat 2 m) rfl (hown.alloc _) ⟨wr.heap.size, 0, none⟩ 1 1 [.int .i64 (2 + 2 * m)] rfl rfl (cell_one_new _ _ _) (ints_oneCell .i64 [2 + 2 * m]) (by unfold maxLen; omega) (by omega) (by have := hF.size; simp; omega) ?_)
      intro v' w1 hown' hgrow _
      have R := gat_step (by have := hF.size; omega) hown hF hown' hgrow
      clear hown' hgrow hown hF
      go_wp2
      go_roundw
      case rel => exact ⟨m + 1, by omega, by go_num, R.1, R.2⟩
      case measure => simp [intOf]; omega
    · have h1 : ¬ (2 : Int) + 2 * m < s := fun h => hlt ((hN m).1 h)
      obtain rfl : m = N := by omega
      go_wp2
      go_ret
      exact ⟨_, rfl, own_gat hown, hF⟩
theorem implSlots5 (s : Int) (N : Nat) (w : World) (hs : sOk 5 s = true) (hN : ∀ m : Nat, (1 : Int) + 2 * m < s ↔ m < N) (s0 : 1 ≤ s) (s1 : s ≤ 256) (hN1 : N ≤ 128) :
    Calls Try.prog 6 #[.int .i64 5, .int .i64 s] w fun e w' => ∃ v', e = .returned v' ∧ OwnF w.heap.size w'.heap.size 3 w' v' N N (fun i => .int .i64 (1 + 2 * i)) ∧ Below w.heap.size w w' := by
  have hm := methFirst5
  have hT : bodyT 5 = 53 := rfl
  obtain ⟨i0, hi, hz0, hz1, hz2⟩ := info_parts info3
  go_enter Try.func6, Try.ntmps6
  go_wp2_with (first | (go_at_call 16; refine (sizeOk_any _ _ _).mono ?_; rintro e w' ⟨rfl, rfl⟩) | (go_at_call 17; refine (bodyOf_any _ _ _).mono ?_; rintro e w' ⟨rfl, rfl⟩) | (go_at_call 57; refine (firstSlot5 _ _).mono ?_; rintro e w' ⟨rfl, rfl⟩))
  clear hm hT
  go_loopw [5, 6] (fun v i wr => ∃ m : Nat, m ≤ N ∧ i = .int .i64 (1 + 2 * m) ∧ wr.ownsRow w'.heap.size 3 1 v m (gat 1 m) ∧ Below w'.heap.size w' wr) (fun _ i _ => 2 * N + 1 - (intOf i).toNat)
  case atStart => exact ⟨0, Nat.zero_le _, rfl, World.ownsRow_nil _ _ _ _, Below.refl _ _⟩
  case round =>
    obtain ⟨m, hm, rfl, hown, hF⟩ := hrel
    by_cases hlt : m < N
    · have h1 : (1 : Int) + 2 * m < s := (hN m).2 hlt
      go_wp2_with (at_builtin; refine wpList_append_own _ rfl _ _ 22 rfl w'.heap.size 3 i0 (.int .i64 0) 1 8 Try.underlying22 hi hz0 hz1 hz2 rfl (by decide) _ m (gat 1 m) rfl (hown.alloc _) ⟨wr.heap.size, 0, none⟩ 1 1 [.int .i64 (1 + 2 * m)] rfl rfl (cell_one_new _ _ _) (ints_oneCell .i64 [1 + 2 * m]) (by unfold maxLen; omega) (by omega) (by have := hF.size; simp; omega) ?_)
      intro v' w1 hown' hgrow _
      have R := gat_step (by have := hF.size; omega) hown hF hown' hgrow
      clear hown' hgrow hown hF
      go_wp2
      go_roundw
      case rel => exact ⟨m + 1, by omega, by go_num, R.1, R.2⟩
      case measure => simp [intOf]; omega
    · have h1 : ¬ (1 : Int) + 2 * m < s := fun h => hlt ((hN m).1 h)
      obtain rfl : m = N := by omega
      go_wp2
      go_ret
      exact ⟨_, rfl, own_gat hown, hF⟩
theorem implSlots6 (s : Int) (N : Nat) (w : World) (hs : sOk 6 s = true) (hN : ∀ m : Nat, (5 : Int) + 2 * m < s ↔ m < N) (s0 : 1 ≤ s) (s1 : s ≤ 256) (hN1 : N ≤ 128) :
    Calls Try.prog 6 #[.int .i64 6, .int .i64 s] w fun e w' => ∃ v', e = .returned v' ∧ OwnF w.heap.size w'.heap.size 3 w' v' N N (fun i => .int .i64 (5 + 2 * i)) ∧ Below w.heap.size w w' := by
  have hm := methFirst6
  have hT : bodyT 6 = 54 := rfl
  obtain ⟨i0, hi, hz0, hz1, hz2⟩ := info_parts info3
  go_enter Try.func6, Try.ntmps6
  go_wp2_with (first | (go_at_call 16; refine (sizeOk_any _ _ _).mono ?_; rintro e w' ⟨rfl, rfl⟩) | (go_at_call 17; refine (bodyOf_any _ _ _).mono ?_; rintro e w' ⟨rfl, rfl⟩) | (go_at_call 60; refine (firstSlot6 _ _).mono ?_; rintro e w' ⟨rfl, rfl⟩))
  clear hm hT
  go_loopw [5, 6] (fun v i wr => ∃ m : Nat, m ≤ N ∧ i = .int .i64 (5 + 2 * m) ∧ wr.ownsRow w'.heap.size 3 1 v m (gat 5 m) ∧ Below w'.heap.size w' wr) (fun _ i _ => 2 * N + 5 - (intOf i).toNat)
  case atStart => exact ⟨0, Nat.zero_le _, rfl, World.ownsRow_nil _ _ _ _, Below.refl _ _⟩
  case round =>
    obtain ⟨m, hm, rfl, hown, hF⟩ := hrel
    by_cases hlt : m < N
    · have h1 : (5 : Int) + 2 * m < s := (hN m).2 hlt
      go_wp2_with (at_builtin; refine wpList_append_own _ rfl _ _ 22 rfl w'.heap.size 3 i0 (.int .i64 0) 1 8 Try.underlying22 hi hz0 hz1 hz2 rfl (by decide) _ m (gat 5 m) rfl (hown.alloc _) ⟨wr.heap.size, 0, none⟩ 1 1 [.int .i64 (5 + 2 * m)] rfl rfl (cell_one_new _ _ _) (ints_oneCell .i64 [5 + 2 * m]) (by unfold maxLen; omega) (by omega) (by have := hF.size; simp; omega) ?_)
      intro v' w1 hown' hgrow _
      have R := gat_step (by have := hF.size; omega) hown hF hown' hgrow
      clear hown' hgrow hown hF
      go_wp2
      go_roundw
      case rel => exact ⟨m + 1, by omega, by go_num, R.1, R.2⟩
      case measure => simp [intOf]; omega
    · have h1 : ¬ (5 : Int) + 2 * m < s := fun h => hlt ((hN m).1 h)
      obtain rfl : m = N := by omega
      go_wp2
      go_ret
      exact ⟨_, rfl, own_gat hown, hF⟩

def slN (k s : Int) : Nat := if sOk k s = true then (s - fs k + 1).toNat / 2 else 0
theorem sOk_kinds {k s : Int} (h : sOk k s = true) : k = 1 ∧ 1 ≤ s ∧ s ≤ 21 ∨ k = 2 ∧ s = 3 ∨ k = 3 ∧ 16 ≤ s ∧ s ≤ 256 ∨ k = 4 ∧ 1 ≤ s ∧ s ≤ 25 ∨ k = 5 ∧ s = 2 ∨ k = 6 ∧ s = 126 := by
  rw [sOk_iff] at h
  unfold SOk at h
  omega
theorem slN_lt {k s : Int} (h : sOk k s = true) (m : Nat) : fs k + 2 * m < s ↔ m < slN k s := by
  simp only [slN, h, if_true]
  rcases sOk_kinds h with ⟨rfl, _⟩ | ⟨rfl, _⟩ | ⟨rfl, _⟩ | ⟨rfl, _⟩ | ⟨rfl, _⟩ | ⟨rfl, _⟩ <;> simp [fs] <;> omega
theorem slN_le (k s : Int) : slN k s ≤ 128 := by
  unfold slN
  split
  · rename_i h
    rcases sOk_kinds h with ⟨rfl, _⟩ | ⟨rfl, _⟩ | ⟨rfl, _⟩ | ⟨rfl, _⟩ | ⟨rfl, _⟩ | ⟨rfl, _⟩ <;> simp [fs] <;> omega
  · omega
theorem implSlots_any (k s : Int) (w : World) :
    Calls Try.prog 6 #[.int .i64 k, .int .i64 s] w fun e w' => ∃ v', e = .returned v' ∧ OwnF w.heap.size w'.heap.size 3 w' v' (slN k s) (slN k s) (fun i => .int .i64 (fs k + 2 * i)) ∧ Below w.heap.size w w' := by
  by_cases hs : sOk k s = true
  · have h1 := slN_lt hs
    have h2 := slN_le k s
    rcases sOk_kinds hs with ⟨rfl, _⟩ | ⟨rfl, _⟩ | ⟨rfl, _⟩ | ⟨rfl, _⟩ | ⟨rfl, _⟩ | ⟨rfl, _⟩
    · exact implSlots1 s _ w hs h1 (by omega) (by omega) h2
    · exact implSlots2 s _ w hs h1 (by omega) (by omega) h2
    · exact implSlots3 s _ w hs h1 (by omega) (by omega) h2
    · exact implSlots4 s _ w hs h1 (by omega) (by omega) h2
    · exact implSlots5 s _ w hs h1 (by omega) (by omega) h2
    · exact implSlots6 s _ w hs h1 (by omega) (by omega) h2
  · have h0 : slN k s = 0 := by simp [slN, hs]
    rw [Bool.not_eq_true] at hs
    rw [h0]
    go_enter Try.func6, Try.ntmps6
    go_wp2_with (go_at_call 16; refine (sizeOk_any _ _ _).mono ?_; rintro e w' ⟨rfl, rfl⟩)
    go_ret
    exact ⟨_, rfl, ⟨none, 0, rfl, .inl rfl⟩, Below.refl _ _⟩
end Go.Proofs.Ytkcnahmimhljpaa
