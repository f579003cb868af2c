/- The model's Slots. -/
import Derived.Test.YtkcnahmimhljpaaProg
import Derived.Test.YtkcnahmimhljpaaSlotsA
namespace Go.Proofs.Ytkcnahmimhljpaa
open Go.RowKit Go.Maps
set_option linter.unusedSimpArgs false
set_option linter.unusedVariables false

theorem own_empty {w w1 : World} {o : Obj} (F : Int) (hb : Below ((w.alloc (.cells #[] 3)).alloc o).heap.size ((w.alloc (.cells #[] 3)).alloc o) w1) :
    w1.ownsRow w.heap.size 3 1 (.slice (some ⟨w.heap.size, 0, none⟩) 0 0) 0 (gat F 0) ∧ Below w.heap.size w w1 := by
  refine ⟨⟨by simp [gat], .inr ⟨w.heap.size, 0, #[], rfl, Nat.le_refl _, ?_, Nat.le_refl _, Nat.zero_le _, rfl, by simp [gat]⟩⟩, ?_⟩
  · rw [hb.block w.heap.size (by simp; omega)]
    rw [Go.Deep.blk_alloc_lt _ _ _ (by simp)]
    exact Go.Deep.blk_alloc_new _ _
  · exact (((Below.refl _ _).alloc (Nat.le_refl _) _).alloc (by simp) _).trans (hb.mono (by simp; omega))
theorem hOk_sOk {k s : Int} (h : sOk k s = true) : hOk k s (if hasS k = true then 1 else 0) = true := by
  by_cases h1 : hasS k = true
  · rw [if_pos h1, hOk_born _ h h1]; decide
  · rw [if_neg h1, hOk_plain _ h (by simpa using h1)]; decide

theorem specSlots1 (s : Int) (N : Nat) (w : World) (hs : sOk 1 s = true) (hN : ∀ m : Nat, (65536 : Int) + 2 * m < s ↔ m < N) (s0 : 1 ≤ s) (s1 : s ≤ 256) (hN1 : N ≤ 128) (hh : hOk 1 s 0 = true) :
    Calls Try.prog 5 #[.int .i64 1, .int .i64 s] w fun e w' => ∃ v', e = .returned v' ∧ OwnF w.heap.size w'.heap.size 3 w' v' N N (fun i => .int .i64 (65536 + 2 * i)) ∧ Below w.heap.size w w' := by
  obtain ⟨i0, hi, hz0, hz1, hz2⟩ := info_parts info3
  go_enter Try.func5, Try.ntmps5
  go_wp2_with (go_at_call 15; refine (specHeadOk_any _ _ _ _).mono ?_; rintro e w1 ⟨rfl, hb⟩)
  obtain ⟨hE, hB⟩ := own_empty 65536 hb
  clear hb
  go_loopw [5, 8] (fun v i wr => i = .int .i64 (s + 1) ∧ v = .slice (some ⟨w.heap.size, 0, none⟩) 0 0 ∧ wr = w1) (fun _ i _ => 0)
  case atStart => exact ⟨rfl, rfl, rfl⟩
  case round =>
    obtain ⟨rfl, rfl, rfl⟩ := hrel
    have hN0 : N = 0 := by
      by_cases h : N = 0
      · exact h
      · have := (hN 0).2 (by omega); omega
    go_wp2
    go_ret
    subst hN0
    exact ⟨_, rfl, own_gat hE, hB⟩
theorem specSlots2 (s : Int) (N : Nat) (w : World) (hs : sOk 2 s = true) (hN : ∀ m : Nat, (2 : Int) + 2 * m < s ↔ m < N) (s0 : 1 ≤ s) (s1 : s ≤ 256) (hN1 : N ≤ 128) (hh : hOk 2 s 1 = true) :
    Calls Try.prog 5 #[.int .i64 2, .int .i64 s] w fun e w' => ∃ v', e = .returned v' ∧ OwnF w.heap.size w'.heap.size 3 w' v' N N (fun i => .int .i64 (2 + 2 * i)) ∧ Below w.heap.size w w' := by
  obtain ⟨i0, hi, hz0, hz1, hz2⟩ := info_parts info3
  go_enter Try.func5, Try.ntmps5
  go_wp2_with (go_at_call 15; refine (specHeadOk_any _ _ _ _).mono ?_; rintro e w1 ⟨rfl, hb⟩)
  obtain ⟨hE, hB⟩ := own_empty 2 hb
  clear hb
  go_loopw [5, 8] (fun v i wr => ∃ m : Nat, m ≤ N ∧ i = .int .i64 (2 + 2 * m) ∧ wr.ownsRow w.heap.size 3 1 v m (gat 2 m) ∧ Below w.heap.size w wr) (fun _ i _ => 2 * N + 2 - (intOf i).toNat)
  case atStart => exact ⟨0, Nat.zero_le _, rfl, hE, hB⟩
  case round =>
    clear hE hB
    obtain ⟨m, hm, rfl, hown, hF⟩ := hrel
    by_cases hlt : m < N
    · have h1 : (2 : Int) + 2 * m < s := (hN m).2 hlt
      go_wp2_with (at_builtin; refine wpList_append_own _ rfl _ _ 22 rfl w.heap.size 3 i0 (.int .i64 0) 1 8 Try.underlying22 hi hz0 hz1 hz2 rfl (by decide) _ m (gat 2 m) rfl (hown.alloc _) ⟨wr.heap.size, 0, none⟩ 1 1 [.int .i64 (2 + 2 * m)] rfl rfl (cell_one_new _ _ _) (ints_oneCell .i64 [2 + 2 * m]) (by unfold maxLen; omega) (by omega) (by have := hF.size; simp; omega) ?_)
      intro v' w2 hown' hgrow _
      have R := gat_step (by have := hF.size; omega) hown hF hown' hgrow
      clear hown' hgrow hown hF
      go_wp2
      go_roundw
      case rel => exact ⟨m + 1, by omega, by go_num, R.1, R.2⟩
      case measure => simp [intOf]; omega
    · have h1 : ¬ (2 : Int) + 2 * m < s := fun h => hlt ((hN m).1 h)
      obtain rfl : m = N := by omega
      go_wp2
      go_ret
      exact ⟨_, rfl, own_gat hown, hF⟩
theorem specSlots3 (s : Int) (N : Nat) (w : World) (hs : sOk 3 s = true) (hN : ∀ m : Nat, (1 : Int) + 2 * m < s ↔ m < N) (s0 : 1 ≤ s) (s1 : s ≤ 256) (hN1 : N ≤ 128) (hh : hOk 3 s 0 = true) :
    Calls Try.prog 5 #[.int .i64 3, .int .i64 s] w fun e w' => ∃ v', e = .returned v' ∧ OwnF w.heap.size w'.heap.size 3 w' v' N N (fun i => .int .i64 (1 + 2 * i)) ∧ Below w.heap.size w w' := by
  obtain ⟨i0, hi, hz0, hz1, hz2⟩ := info_parts info3
  go_enter Try.func5, Try.ntmps5
  go_wp2_with (go_at_call 15; refine (specHeadOk_any _ _ _ _).mono ?_; rintro e w1 ⟨rfl, hb⟩)
  obtain ⟨hE, hB⟩ := own_empty 1 hb
  clear hb
  go_loopw [5, 8] (fun v i wr => ∃ m : Nat, m ≤ N ∧ i = .int .i64 (1 + 2 * m) ∧ wr.ownsRow w.heap.size 3 1 v m (gat 1 m) ∧ Below w.heap.size w wr) (fun _ i _ => 2 * N + 1 - (intOf i).toNat)
  case atStart => exact ⟨0, Nat.zero_le _, rfl, hE, hB⟩
  case round =>
    clear hE hB
    obtain ⟨m, hm, rfl, hown, hF⟩ := hrel
    by_cases hlt : m < N
    · have h1 : (1 : Int) + 2 * m < s := (hN m).2 hlt
      go_wp2_with (at_builtin; refine wpList_append_own _ rfl _ _ 22 rfl w.heap.size 3 i0 (.int .i64 0) 1 8 Try.underlying22 hi hz0 hz1 hz2 rfl (by decide) _ m (gat 1 m) rfl (hown.alloc _) ⟨wr.heap.size, 0, none⟩ 1 1 [.int .i64 (1 + 2 * m)] rfl rfl (cell_one_new _ _ _) (ints_oneCell .i64 [1 + 2 * m]) (by unfold maxLen; omega) (by omega) (by have := hF.size; simp; omega) ?_)
      intro v' w2 hown' hgrow _
      have R := gat_step (by have := hF.size; omega) hown hF hown' hgrow
      clear hown' hgrow hown hF
      go_wp2
      go_roundw
      case rel => exact ⟨m + 1, by omega, by go_num, R.1, R.2⟩
      case measure => simp [intOf]; omega
    · have h1 : ¬ (1 : Int) + 2 * m < s := fun h => hlt ((hN m).1 h)
      obtain rfl : m = N := by omega
      go_wp2
      go_ret
      exact ⟨_, rfl, own_gat hown, hF⟩
theorem specSlots4 (s : Int) (N : Nat) (w : World) (hs : sOk 4 s = true) (hN : ∀ m : Nat, (2 : Int) + 2 * m < s ↔ m < N) (s0 : 1 ≤ s) (s1 : s ≤ 256) (hN1 : N ≤ 128) (hh : hOk 4 s 1 = true) :
    Calls Try.prog 5 #[.int .i64 4, .int .i64 s] w fun e w' => ∃ v', e = .returned v' ∧ OwnF w.heap.size w'.heap.size 3 w' v' N N (fun i => .int .i64 (2 + 2 * i)) ∧ Below w.heap.size w w' := by
  obtain ⟨i0, hi, hz0, hz1, hz2⟩ := info_parts info3
  go_enter Try.func5, Try.ntmps5
  go_wp2_with (go_at_call 15; refine (specHeadOk_any _ _ _ _).mono ?_; rintro e w1 ⟨rfl, hb⟩)
  obtain ⟨hE, hB⟩ := own_empty 2 hb
  clear hb
  go_loopw [5, 8] (fun v i wr => ∃ m : Nat, m ≤ N ∧ i = .int .i64 (2 + 2 * m) ∧ wr.ownsRow w.heap.size 3 1 v m (gat 2 m) ∧ Below w.heap.size w wr) (fun _ i _ => 2 * N + 2 - (intOf i).toNat)
  case atStart => exact ⟨0, Nat.zero_le _, rfl, hE, hB⟩
  case round =>
    clear hE hB
    obtain ⟨m, hm, rfl, hown, hF⟩ := hrel
    by_cases hlt : m < N
    · have h1 : (2 : Int) + 2 * m < s := (hN m).2 hlt
      go_wp2_with (at_builtin; refine wpList_append_own _ rfl _ _ 22 rfl w.heap.size 3 i0 (.int .i64 0) 1 8 Try.underlying22 hi hz0 hz1 hz2 rfl (by decide) _ m (gat 2 m) rfl (hown.alloc _) ⟨wr.heap.size, 0, none⟩ 1 1 [.int .i64 (2 + 2 * m)] rfl rfl (cell_one_new _ _ _) (ints_oneCell .i64 [2 + 2 * m]) (by unfold maxLen; omega) (by omega) (by have := hF.size; simp; omega) ?_)
      intro v' w2 hown' hgrow _
      have R := gat_step (by have := hF.size; omega) hown hF hown' hgrow
      clear hown' hgrow hown hF
      go_wp2
      go_roundw
      case rel => exact ⟨m + 1, by omega, by go_num, R.1, R.2⟩
      case measure => simp [intOf]; omega
    · have h1 : ¬ (2 : Int) + 2 * m < s := fun h => hlt ((hN m).1 h)
      obtain rfl : m = N := by omega
      go_wp2
      go_ret
      exact ⟨_, rfl, own_gat hown, hF⟩
theorem specSlots5 (s : Int) (N : Nat) (w : World) (hs : sOk 5 s = true) (hN : ∀ m : Nat, (1 : Int) + 2 * m < s ↔ m < N) (s0 : 1 ≤ s) (s1 : s ≤ 256) (hN1 : N ≤ 128) (hh : hOk 5 s 0 = true) :
    Calls Try.prog 5 #[.int .i64 5, .int .i64 s] w fun e w' => ∃ v', e = .returned v' ∧ OwnF w.heap.size w'.heap.size 3 w' v' N N (fun i => .int .i64 (1 + 2 * i)) ∧ Below w.heap.size w w' := by
  obtain ⟨i0, hi, hz0, hz1, hz2⟩ := info_parts info3
  go_enter Try.func5, Try.ntmps5
  go_wp2_with (go_at_call 15; refine (specHeadOk_any _ _ _ _).mono ?_; rintro e w1 ⟨rfl, hb⟩)
  obtain ⟨hE, hB⟩ := own_empty 1 hb
  clear hb
  go_loopw [5, 8] (fun v i wr => ∃ m : Nat, m ≤ N ∧ i = .int .i64 (1 + 2 * m) ∧ wr.ownsRow w.heap.size 3 1 v m (gat 1 m) ∧ Below w.heap.size w wr) (fun _ i _ => 2 * N + 1 - (intOf i).toNat)
  case atStart => exact ⟨0, Nat.zero_le _, rfl, hE, hB⟩
  case round =>
    clear hE hB
    obtain ⟨m, hm, rfl, hown, hF⟩ := hrel
    by_cases hlt : m < N
    · have h1 : (1 : Int) + 2 * m < s := (hN m).2 hlt
      go_wp2_with (at_builtin; refine wpList_append_own _ rfl _ _ 22 rfl w.heap.size 3 i0 (.int .i64 0) 1 8 Try.underlying22 hi hz0 hz1 hz2 rfl (by decide) _ m (gat 1 m) rfl (hown.alloc _) ⟨wr.heap.size, 0, none⟩ 1 1 [.int .i64 (1 + 2 * m)] rfl rfl (cell_one_new _ _ _) (ints_oneCell .i64 [1 + 2 * m]) (by unfold maxLen; omega) (by omega) (by have := hF.size; simp; omega) ?_)
      intro v' w2 hown' hgrow _
      have R := gat_step (by have := hF.size; omega) hown hF hown' hgrow
      clear hown' hgrow hown hF
      go_wp2
      go_roundw
      case rel => exact ⟨m + 1, by omega, by go_num, R.1, R.2⟩
      case measure => simp [intOf]; omega
    · have h1 : ¬ (1 : Int) + 2 * m < s := fun h => hlt ((hN m).1 h)
      obtain rfl : m = N := by omega
      go_wp2
      go_ret
      exact ⟨_, rfl, own_gat hown, hF⟩
theorem specSlots6 (s : Int) (N : Nat) (w : World) (hs : sOk 6 s = true) (hN : ∀ m : Nat, (5 : Int) + 2 * m < s ↔ m < N) (s0 : 1 ≤ s) (s1 : s ≤ 256) (hN1 : N ≤ 128) (hh : hOk 6 s 1 = true) :
    Calls Try.prog 5 #[.int .i64 6, .int .i64 s] w fun e w' => ∃ v', e = .returned v' ∧ OwnF w.heap.size w'.heap.size 3 w' v' N N (fun i => .int .i64 (5 + 2 * i)) ∧ Below w.heap.size w w' := by
  obtain ⟨i0, hi, hz0, hz1, hz2⟩ := info_parts info3
  go_enter Try.func5, Try.ntmps5
  go_wp2_with (go_at_call 15; refine (specHeadOk_any _ _ _ _).mono ?_; rintro e w1 ⟨rfl, hb⟩)
  obtain ⟨hE, hB⟩ := own_empty 5 hb
  clear hb
  go_loopw [5, 8] (fun v i wr => ∃ m : Nat, m ≤ N ∧ i = .int .i64 (5 + 2 * m) ∧ wr.ownsRow w.heap.size 3 1 v m (gat 5 m) ∧ Below w.heap.size w wr) (fun _ i _ => 2 * N + 5 - (intOf i).toNat)
  case atStart => exact ⟨0, Nat.zero_le _, rfl, hE, hB⟩
  case round =>
    clear hE hB
    obtain ⟨m, hm, rfl, hown, hF⟩ := hrel
    by_cases hlt : m < N
    · have h1 : (5 : Int) + 2 * m < s := (hN m).2 hlt
      go_wp2_with (at_builtin; refine wpList_append_own _ rfl _ _ 22 rfl w.heap.size 3 i0 (.int .i64 0) 1 8 Try.underlying22 hi hz0 hz1 hz2 rfl (by decide) _ m (gat 5 m) rfl (hown.alloc _) ⟨wr.heap.size, 0, none⟩ 1 1 [.int .i64 (5 + 2 * m)] rfl rfl (cell_one_new _ _ _) (ints_oneCell .i64 [5 + 2 * m]) (by unfold maxLen; omega) (by omega) (by have := hF.size; simp; omega) ?_)
      intro v' w2 hown' hgrow _
      have R := gat_step (by have := hF.size; omega) hown hF hown' hgrow
      clear hown' hgrow hown hF
      go_wp2
      go_roundw
      case rel => exact ⟨m + 1, by omega, by go_num, R.1, R.2⟩
      case measure => simp [intOf]; omega
    · have h1 : ¬ (5 : Int) + 2 * m < s := fun h => hlt ((hN m).1 h)
      obtain rfl : m = N := by omega
      go_wp2
      go_ret
      exact ⟨_, rfl, own_gat hown, hF⟩

theorem hOk_not {k s : Int} (h : sOk k s = false) (n : Int) : hOk k s n = false := hOk_no n h
theorem specSlots_any (k s : Int) (w : World) :
    Calls Try.prog 5 #[.int .i64 k, .int .i64 s] w fun e w' => ∃ v', e = .returned v' ∧ OwnF w.heap.size w'.heap.size 3 w' v' (slN k s) (slN k s) (fun i => .int .i64 (fs k + 2 * i)) ∧ Below w.heap.size w w' := by
  by_cases hs : sOk k s = true
  · have h1 := slN_lt hs
    have h2 := slN_le k s
    have h3 := hOk_sOk hs
    rcases sOk_kinds hs with ⟨rfl, _⟩ | ⟨rfl, _⟩ | ⟨rfl, _⟩ | ⟨rfl, _⟩ | ⟨rfl, _⟩ | ⟨rfl, _⟩
    · exact specSlots1 s _ w hs h1 (by omega) (by omega) h2 h3
    · exact specSlots2 s _ w hs h1 (by omega) (by omega) h2 h3
    · exact specSlots3 s _ w hs h1 (by omega) (by omega) h2 h3
    · exact specSlots4 s _ w hs h1 (by omega) (by omega) h2 h3
    · exact specSlots5 s _ w hs h1 (by omega) (by omega) h2 h3
    · exact specSlots6 s _ w hs h1 (by omega) (by omega) h2 h3
  · have h0 : slN k s = 0 := by simp [slN, hs]
    rw [Bool.not_eq_true] at hs
    rw [h0]
    have hh := hOk_not hs
    by_cases e2 : k = 2
    · subst e2
      go_enter Try.func5, Try.ntmps5
      go_wp2_with (go_at_call 15; refine (specHeadOk_any _ _ _ _).mono ?_; rintro e w1 ⟨rfl, hb⟩; obtain ⟨hE, hB⟩ := own_empty 0 hb; clear hb)
      go_ret
      exact ⟨_, rfl, ⟨_, _, rfl, .inl rfl⟩, hB⟩
    by_cases e4 : k = 4
    · subst e4
      go_enter Try.func5, Try.ntmps5
      go_wp2_with (go_at_call 15; refine (specHeadOk_any _ _ _ _).mono ?_; rintro e w1 ⟨rfl, hb⟩; obtain ⟨hE, hB⟩ := own_empty 0 hb; clear hb)
      go_ret
      exact ⟨_, rfl, ⟨_, _, rfl, .inl rfl⟩, hB⟩
    by_cases e6 : k = 6
    · subst e6
      go_enter Try.func5, Try.ntmps5
      go_wp2_with (go_at_call 15; refine (specHeadOk_any _ _ _ _).mono ?_; rintro e w1 ⟨rfl, hb⟩; obtain ⟨hE, hB⟩ := own_empty 0 hb; clear hb)
      go_ret
      exact ⟨_, rfl, ⟨_, _, rfl, .inl rfl⟩, hB⟩
    have f2 : (k == 2) = false := by simpa using e2
    have f4 : (k == 4) = false := by simpa using e4
    have f6 : (k == 6) = false := by simpa using e6
    go_enter Try.func5, Try.ntmps5
    go_wp2_with (go_at_call 15; refine (specHeadOk_any _ _ _ _).mono ?_; rintro e w1 ⟨rfl, hb⟩; obtain ⟨hE, hB⟩ := own_empty 0 hb; clear hb)
    go_ret
    exact ⟨_, rfl, ⟨_, _, rfl, .inl rfl⟩, hB⟩
end Go.Proofs.Ytkcnahmimhljpaa
