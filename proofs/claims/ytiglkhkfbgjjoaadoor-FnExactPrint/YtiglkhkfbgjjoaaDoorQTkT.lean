/- - -/
import Derived.Test.YtiglkhkfbgjjoaaDoorQTkP
import Derived.Laws.RangeString
import Derived.Laws.RangeAny
namespace Go.Proofs.YtiglkhkfbgjjoaaDoor
set_option maxRecDepth 20000
open Go.RowKit Go.PlainAid
set_option linter.unusedSimpArgs false
set_option linter.unusedVariables false
theorem zdn (r : Int) (w : World) : Calls Tryd.prog 59 #[.int .i32 r] w fun e w' => e = .returned (.bool (ltB r)) /\ w = w' := by
 by_cases h1 : 97 <= r <;> by_cases h2 : r <= 122 <;> by_cases h3 : 65 <= r <;> by_cases h4 : r <= 90
 all_goals
  have e1 : ltB r = decide ((97 <= r /\ r <= 122) \/ (65 <= r /\ r <= 90)) := rfl
  simp only [h1, h2, h3, h4] at e1
  simp at e1
  rw [e1]
  clear e1
  go_enter Tryd.func59, Tryd.ntmps59
  go_wp2
  go_ret
  exact ⟨rfl, rfl⟩
theorem zg9 (r : Int) (w : World) : Calls Tryd.prog 108 #[.int .i32 r] w fun e w' => e = .returned (.bool (decide (32 <= r) && decide (r <= 126))) /\ w = w' := by
 by_cases h1 : 32 <= r <;> by_cases h2 : r <= 126
 all_goals
  simp only [h1, h2, decide_true, decide_false, Bool.true_and, Bool.and_true, Bool.and_false, Bool.false_and]
  go_enter Tryd.func108, Tryd.ntmps108
  go_wp2
  go_ret
  exact ⟨rfl, rfl⟩
theorem zcg (r : Int) (w : World) : Calls Tryd.prog 67 #[.int .i32 r] w fun e w' => e = .returned (.bool (plB r)) /\ w = w' := by
 have e1 : plB r = (decide (32 <= r) && decide (r <= 126) && (r != 34)) := by
  unfold plB
  rw [Bool.eq_iff_iff]
  simp [and_assoc]
 rw [e1]
 cases h0 : (decide (32 <= r) && decide (r <= 126)) <;> cases h3 : (r != 34)
 all_goals
  go_enter Tryd.func67, Tryd.ntmps67
  go_wp2_with (go_at_call 108; refine (zg9 r _).mono ?_; rw [h0]; rintro e w1 ⟨rfl, rfl⟩)
  go_ret
  exact ⟨rfl, rfl⟩
theorem zdo (r : Int) (w : World) : Calls Tryd.prog 50 #[.int .u8 r] w fun e w' => e = .returned (.bool (ltB r)) /\ w = w' := by
 by_cases h1 : 97 <= r <;> by_cases h2 : r <= 122 <;> by_cases h3 : 65 <= r <;> by_cases h4 : r <= 90
 all_goals
  have e1 : ltB r = decide ((97 <= r /\ r <= 122) \/ (65 <= r /\ r <= 90)) := rfl
  simp only [h1, h2, h3, h4] at e1
  simp at e1
  rw [e1]
  clear e1
  go_enter Tryd.func50, Tryd.ntmps50
  go_wp2
  go_ret
  exact ⟨rfl, rfl⟩
theorem zei (r : Int) (w : World) : Calls Tryd.prog 53 #[.int .u8 r] w fun e w' => e = .returned (.bool (plB r)) /\ w = w' := by
 by_cases h3 : r = 34
 · subst h3
   have e1 : plB 34 = false := rfl
   rw [e1]
   clear e1
   go_enter Tryd.func53, Tryd.ntmps53
   go_wp2
   go_ret
   exact ⟨rfl, rfl⟩
 · have e2 : (r != 34) = true := by simp [h3]
   by_cases h1 : 32 <= r <;> by_cases h2 : r <= 126
   all_goals
    have e1 : plB r = decide (32 <= r /\ r <= 126 /\ r ≠ 34) := rfl
    simp only [h1, h2, h3, ne_eq] at e1
    simp at e1
    rw [e1]
    clear e1 h3
    go_enter Tryd.func53, Tryd.ntmps53
    go_wp2
    go_ret
    exact ⟨rfl, rfl⟩
theorem zb2 (t : ByteArray) : t.toList.length = t.size := by rw [ByteArray.toList_eq, zfs]
theorem zcx {p : Int -> Bool} {t : ByteArray} {j : Nat} (hj : j < t.size) (h : p (bt t j) = false) : decide (∀ i, i < t.size -> p (bt t i) = true) = false := by
 rw [decide_eq_false_iff_not]
 intro h2
 rw [h2 j hj] at h
 cases h
theorem zca {p : Int -> Bool} {t : ByteArray} (h : ∀ i, i < t.size -> p (bt t i) = true) : decide (∀ i, i < t.size -> p (bt t i) = true) = true := decide_eq_true h
theorem zcy {p : Int -> Bool} {t : ByteArray} {j : Nat} (hp : ∀ i, i < j -> p (bt t i) = true) (h : p (bt t j) = true) : ∀ i, i < j + 1 -> p (bt t i) = true := fun i hi => if e : i = j then e ▸ h else hp i (by omega)
set_option maxHeartbeats 1000000 in
theorem zby (t : ByteArray) (w : World) (ht : t.size <= 1048576) :
 Calls Tryd.prog 160 #[.string t] w fun e w' => e = .returned (.bool (zaa t)) /\ Below w.heap.size w w' := by
 have ht' : (t.size : Int) <= 1048576 := by omega
 have hbt := get_bt t
 by_cases h1 : 1 <= t.size /\ t.size <= 12
 · have h1a : inB (t.size : Int) 1 12 = true := by simp [inB]; omega
   cases h2 : isW t with
   | true =>
     have e : zaa t = false := by simp [zaa, h2]
     rw [e]
     go_enter Tryd.func160, Tryd.ntmps160
     go_wp2_with (first | (go_at_call 114; refine (zah _ _ _ _).mono ?_; rw [h1a]; rintro e w1 ⟨rfl, hw1⟩; rw [hw1]; clear hw1 w1) | (go_at_call 51; refine (zbp t _).mono ?_; rw [h2]; rintro e w2 ⟨rfl, b2⟩))
     go_ret
     exact ⟨rfl, b2⟩
   | false =>
     have e : zaa t = decide (∀ i, i < t.size -> ltB (bt t i) = true) := by simp [zaa, h2, h1]
     rw [e]
     go_enter Tryd.func160, Tryd.ntmps160
     go_wp2_with (first | (go_at_call 114; refine (zah _ _ _ _).mono ?_; rw [h1a]; rintro e w1 ⟨rfl, hw1⟩; rw [hw1]; clear hw1 w1) | (go_at_call 51; refine (zbp t _).mono ?_; rw [h2]; rintro e w2 ⟨rfl, b2⟩))
     go_loopw [3] (fun q wr => ∃ j : Nat, j <= t.size /\ q = .int .i64 j /\ (∀ i, i < j -> ltB (bt t i) = true) /\ Below w.heap.size w wr) (fun q _ => t.size - (intOf q).toNat)
     case atStart => exact ⟨0, Nat.zero_le _, rfl, fun i hi => absurd hi (Nat.not_lt_zero _), b2⟩
     case round =>
      obtain ⟨j, hj, rfl, hp, hF⟩ := hrel
      have HP : Hid (∀ i, i < j -> ltB (bt t i) = true) := hp
      clear hp
      by_cases hlt : j < t.size
      · have hlt' : (j : Int) < (t.size : Int) := by omega
        cases hq : ltB (bt t j) with
        | true =>
          have HV : Hid (∀ i, i < j + 1 -> ltB (bt t i) = true) := zcy HP.out hq
          go_wp2_with (go_at_call 50; refine (zdo _ _).mono ?_; rw [hq]; rintro e w3 ⟨rfl, rfl⟩)
          go_roundw
          case rel => exact ⟨j + 1, by omega, by go_num, HV.out, hF⟩
          case measure => simp [intOf]; omega
        | false =>
          have en := zcx hlt hq
          go_wp2_with (go_at_call 50; refine (zdo _ _).mono ?_; rw [hq]; rintro e w3 ⟨rfl, rfl⟩)
          go_ret
          exact ⟨by rw [en]; rfl, hF⟩
      · have hge : (t.size : Int) <= (j : Int) := by omega
        have en := zca (p := ltB) (fun i hi => HP.out i (by omega))
        go_wp2
        go_ret
        exact ⟨by rw [en]; rfl, hF⟩
 · have h1a : inB (t.size : Int) 1 12 = false := by simp [inB]; omega
   have e : zaa t = false := by simp [zaa, h1]
   rw [e]
   go_enter Tryd.func160, Tryd.ntmps160
   go_wp2_with (go_at_call 114; refine (zah _ _ _ _).mono ?_; rw [h1a]; rintro e w1 ⟨rfl, hw1⟩; rw [hw1]; clear hw1 w1)
   go_ret
   exact ⟨rfl, Below.refl _ _⟩
theorem zbz (s : ByteArray) (pos : Nat) (h : pos < s.size) : ltB ((Utf8.decode s pos).1 : Int) = ltB (bt s pos) /\ plB ((Utf8.decode s pos).1 : Int) = plB (bt s pos) /\ (plB (bt s pos) = true \/ ltB (bt s pos) = true -> (Utf8.decode s pos).2 = 1) := by
 have hb : bt s pos = ((s[pos]'h).toNat : Int) := (get_bt s pos h).symm
 by_cases ha : (s[pos]'h).toNat < 128
 · rw [decode_ascii s pos h ha, hb]
   exact ⟨rfl, rfl, fun _ => rfl⟩
 · have h1 := (decode_high s pos h (by omega)).1
   have l1 : ∀ x : Int, 128 <= x -> ltB x = false := fun x hx => by unfold ltB; rw [decide_eq_false_iff_not]; omega
   have l2 : ∀ x : Int, 128 <= x -> plB x = false := fun x hx => by unfold plB; rw [decide_eq_false_iff_not]; omega
   rw [hb, l1 _ (by omega), l1 _ (by omega), l2 _ (by omega), l2 _ (by omega)]
   exact ⟨rfl, rfl, fun h => by rcases h with h | h <;> cases h⟩
set_option maxHeartbeats 1000000 in
theorem zds (t : ByteArray) (w : World) (ht : t.size <= 1048576) :
 Calls Tryd.prog 122 #[.string t] w fun e w' => e = .returned (.bool (zaa t)) /\ Below w.heap.size w w' := by
 have ht' : (t.size : Int) <= 1048576 := by omega
 by_cases h0 : t.size = 0
 · have e : zaa t = false := by simp [zaa, h0]
   have h0' : (t.size : Int) = 0 := by omega
   rw [e]
   go_enter Tryd.func122, Tryd.ntmps122
   go_wp2
   go_ret
   exact ⟨rfl, Below.refl _ _⟩
 have h0' : ¬ (t.size : Int) = 0 := by omega
 by_cases h1 : 12 < t.size
 · have e : zaa t = false := by unfold zaa; rw [decide_eq_false (by omega)]; rfl
   have h1' : (12 : Int) < t.size := by omega
   rw [e]
   go_enter Tryd.func122, Tryd.ntmps122
   go_wp2
   go_ret
   exact ⟨rfl, Below.refl _ _⟩
 have h1' : ¬ (12 : Int) < t.size := by omega
 cases h2 : isW t with
 | true =>
   have e : zaa t = false := by simp [zaa, h2]
   rw [e]
   go_enter Tryd.func122, Tryd.ntmps122
   go_wp2_with (go_at_call 62; refine (zbo t _).mono ?_; rw [h2]; rintro e w2 ⟨rfl, hw2⟩; rw [<- hw2]; clear hw2 w2)
   go_ret
   exact ⟨rfl, Below.refl _ _⟩
 | false =>
   have hz0 : ((t.size : Int) == 0) = false := beq_eq_false_iff_ne.2 (by omega)
   have e : zaa t = decide (∀ i, i < t.size -> ltB (bt t i) = true) := by unfold zaa; rw [decide_eq_true (show 1 <= t.size /\ t.size <= 12 by omega), h2]; rfl
   rw [e]
   go_enter Tryd.func122, Tryd.ntmps122
   go_wp2_with (go_at_call 62; refine (zbo t _).mono ?_; rw [h2]; rintro e w2 ⟨rfl, hw2⟩; rw [<- hw2]; clear hw2 w2)
   try simp only [hz0]
   go_loopw [] (fun wr => ∃ pos, wr = w.iter t pos /\ pos <= t.size /\ ∀ i, i < pos -> ltB (bt t i) = true) (fun wr => t.size - wr.iterPos w.heap.size)
   case atStart => exact ⟨0, rfl, Nat.zero_le _, fun i hi => absurd hi (Nat.not_lt_zero _)⟩
   case round =>
    obtain ⟨pos, rfl, hle, hp⟩ := hrel
    have HP : Hid (∀ i, i < pos -> ltB (bt t i) = true) := hp
    clear hp
    by_cases hlt : pos < t.size
    · have hnx : ∀ ty, (Instr.next (.pointer (some ⟨w.heap.size, 0, none⟩)) true ty).run Tryd.prog (w.iter t pos) = _ := fun ty => run_next_any w t pos ty hlt
      obtain ⟨d1, _, d3⟩ := zbz t pos hlt
      cases hq : ltB (bt t pos) with
      | true =>
        have HV : Hid (∀ i, i < pos + 1 -> ltB (bt t i) = true) := zcy HP.out hq
        rw [d3 (.inr hq)] at hnx
        rw [hq] at d1
        clear d3
        go_wp2_with (go_at_call 59; refine (zdn _ _).mono ?_; rw [d1]; rintro e w3 ⟨rfl, hw3⟩; rw [<- hw3]; clear hw3 w3)
        go_roundw
        case rel => exact ⟨pos + 1, rfl, hlt, HV.out⟩
        case measure => simp; omega
      | false =>
        have en := zcx hlt hq
        rw [hq] at d1
        clear d3
        go_wp2_with (go_at_call 59; refine (zdn _ _).mono ?_; rw [d1]; rintro e w3 ⟨rfl, hw3⟩; rw [<- hw3]; clear hw3 w3)
        go_ret
        exact ⟨by rw [en]; rfl, (Below.refl _ _).alloc (Nat.le_refl _) _⟩
    · have hnx : ∀ ty, (Instr.next (.pointer (some ⟨w.heap.size, 0, none⟩)) true ty).run Tryd.prog (w.iter t pos) = _ := fun ty => run_next_end w t pos ty hlt
      have en := zca (p := ltB) (fun i hi => HP.out i (by omega))
      go_wp2
      go_ret
      exact ⟨by rw [en]; rfl, (Below.refl _ _).alloc (Nat.le_refl _) _⟩
set_option maxHeartbeats 1000000 in
theorem zcz (t : ByteArray) (w : World) (ht : t.size <= 1048576) :
 Calls Tryd.prog 121 #[.string t] w fun e w' => e = .returned (.bool (zac t)) /\ Below w.heap.size w w' := by
 have ht' : (t.size : Int) <= 1048576 := by omega
 go_enter Tryd.func121, Tryd.ntmps121
 go_wp2
 go_loopw [] (fun wr => ∃ pos, wr = w.iter t pos /\ pos <= t.size /\ ∀ i, i < pos -> plB (bt t i) = true) (fun wr => t.size - wr.iterPos w.heap.size)
 case atStart => exact ⟨0, rfl, Nat.zero_le _, fun i hi => absurd hi (Nat.not_lt_zero _)⟩
 case round =>
  obtain ⟨pos, rfl, hle, hp⟩ := hrel
  have HP : Hid (∀ i, i < pos -> plB (bt t i) = true) := hp
  clear hp
  by_cases hlt : pos < t.size
  · have hnx : ∀ ty, (Instr.next (.pointer (some ⟨w.heap.size, 0, none⟩)) true ty).run Tryd.prog (w.iter t pos) = _ := fun ty => run_next_any w t pos ty hlt
    obtain ⟨_, d1, d3⟩ := zbz t pos hlt
    cases hq : plB (bt t pos) with
    | true =>
      have HV : Hid (∀ i, i < pos + 1 -> plB (bt t i) = true) := zcy HP.out hq
      rw [d3 (.inl hq)] at hnx
      rw [hq] at d1
      clear d3
      go_wp2_with (go_at_call 67; refine (zcg _ _).mono ?_; rw [d1]; rintro e w3 ⟨rfl, hw3⟩; rw [<- hw3]; clear hw3 w3)
      go_roundw
      case rel => exact ⟨pos + 1, rfl, hlt, HV.out⟩
      case measure => simp; omega
    | false =>
      have e : zac t = false := by unfold zac; rw [zcx hlt hq]; rfl
      rw [hq] at d1
      clear d3
      go_wp2_with (go_at_call 67; refine (zcg _ _).mono ?_; rw [d1]; rintro e w3 ⟨rfl, hw3⟩; rw [<- hw3]; clear hw3 w3)
      go_ret
      exact ⟨by rw [e]; rfl, (Below.refl _ _).alloc (Nat.le_refl _) _⟩
  · have hnx : ∀ ty, (Instr.next (.pointer (some ⟨w.heap.size, 0, none⟩)) true ty).run Tryd.prog (w.iter t pos) = _ := fun ty => run_next_end w t pos ty hlt
    have e : zac t = decide ((t.size : Int) <= 160) := by unfold zac; rw [zca (fun i hi => HP.out i (by omega)), Bool.true_and]; exact decide_eq_decide.2 (by omega)
    go_wp2
    go_ret
    exact ⟨by rw [e]; rfl, (Below.refl _ _).alloc (Nat.le_refl _) _⟩
set_option maxHeartbeats 1000000 in
theorem zau (k : Int) (t : ByteArray) (i : Int) (a : Option Addr) (l c : Nat) (w : World) (ht : t.size <= 1048576) :
 Calls Tryd.prog 84 #[.agg #[.int .i64 k, .string t, .int .i64 i, .slice a l c]] w fun e w' => e = .returned (.bool (zl k t)) /\ Below w.heap.size w w' := by
 have ht' : (t.size : Int) <= 1048576 := by omega
 by_cases h4 : k = 4
 · subst h4
   have e : zl 4 t = zac t := rfl
   rw [e]
   go_enter Tryd.func84, Tryd.ntmps84
   go_wp2_with (go_at_call 121; refine (zcz t _ ht).mono ?_; rintro e w3 ⟨rfl, b3⟩)
   go_ret
   exact ⟨rfl, zf b3⟩
 by_cases h5 : k = 5 \/ k = 22 \/ k = 14 \/ k = 15
 · have e : zl k t = zaa t := by unfold zl; rw [if_neg h4, if_pos h5]
   rw [e]
   rcases h5 with rfl | rfl | rfl | rfl
   all_goals
    go_enter Tryd.func84, Tryd.ntmps84
    go_wp2_with (go_at_call 122; refine (zds t _ ht).mono ?_; rintro e w3 ⟨rfl, b3⟩)
    go_ret
    exact ⟨rfl, zf b3⟩
 · have e : zl k t = decide (t.size = 0) := by unfold zl; rw [if_neg h4, if_neg h5]
   have e2 : decide (t.size = 0) = t.toList.isEmpty := by
    rw [Bool.eq_iff_iff, decide_eq_true_iff, List.isEmpty_iff, <- List.length_eq_zero_iff, zb2]
   rw [e, e2]
   simp only [not_or] at h5
   obtain ⟨g1, g2, g3, g4⟩ := h5
   go_enter Tryd.func84, Tryd.ntmps84
   go_wp2
   go_ret
   exact ⟨rfl, zf (Below.refl _ _)⟩
set_option maxHeartbeats 1000000 in
theorem zbh (k : Int) (t : ByteArray) (i : Int) (a : Option Addr) (l c : Nat) (w : World) :
 Calls Tryd.prog 85 #[.agg #[.int .i64 k, .string t, .int .i64 i, .slice a l c]] w fun e w' => e = .returned (.bool (zm k i)) /\ Below w.heap.size w w' := by
 by_cases h2 : k = 2
 · subst h2
   have e : zm 2 i = decide (i = 0 \/ i = 1) := rfl
   rw [e]
   go_enter Tryd.func85, Tryd.ntmps85
   go_wp2
   all_goals
    go_ret
    exact ⟨by first | rfl | (simp; done) | (simp; rw [Bool.eq_iff_iff]; simp) | (simp; omega), zf (Below.refl _ _)⟩
 by_cases h3 : k = 3
 · subst h3
   have e : zm 3 i = decide (0 <= i /\ i <= 999999999999999) := rfl
   rw [e]
   go_enter Tryd.func85, Tryd.ntmps85
   go_wp2
   all_goals
    go_ret
    exact ⟨by first | rfl | (simp; done) | (simp; rw [Bool.eq_iff_iff]; simp) | (simp; omega), zf (Below.refl _ _)⟩
 by_cases h10 : k = 10
 · subst h10
   have e : zm 10 i = decide (1 <= i /\ i <= 10) := rfl
   rw [e]
   go_enter Tryd.func85, Tryd.ntmps85
   go_wp2
   all_goals
    go_ret
    exact ⟨by first | rfl | (simp; done) | (simp; rw [Bool.eq_iff_iff]; simp) | (simp; omega), zf (Below.refl _ _)⟩
 by_cases h11 : k = 11
 · subst h11
   have e : zm 11 i = decide (1 <= i /\ i <= 3) := rfl
   rw [e]
   go_enter Tryd.func85, Tryd.ntmps85
   go_wp2
   all_goals
    go_ret
    exact ⟨by first | rfl | (simp; done) | (simp; rw [Bool.eq_iff_iff]; simp) | (simp; omega), zf (Below.refl _ _)⟩
 have e : zm k i = decide (i = 0) := by unfold zm; rw [if_neg h2, if_neg h3, if_neg h10, if_neg h11]
 rw [e]
 go_enter Tryd.func85, Tryd.ntmps85
 go_wp2
 all_goals
  go_ret
  exact ⟨by first | rfl | (simp; done) | (simp; rw [Bool.eq_iff_iff]; simp) | (simp; omega), zf (Below.refl _ _)⟩
end Go.Proofs.YtiglkhkfbgjjoaaDoor
