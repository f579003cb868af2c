/- - -/
import Derived.Test.YtiglkhkfbgjjoaaGreatDoorPTkT
namespace Go.Proofs.YtiglkhkfbgjjoaaGreatDoor
set_option maxRecDepth 20000
open Go.RowKit Go.PlainAid Go.Maps
set_option linter.unusedSimpArgs false
set_option linter.unusedVariables false
def exB (k : Int) : Bool := decide (1 <= k /\ k <= 13)
def stB (k : Int) : Bool := decide (14 <= k /\ k <= 20)
def blB (k : Int) : Bool := decide (k = 21)
def paB (k : Int) : Bool := decide (k = 22)
def flB (k : Int) : Bool := decide (k = 23 \/ k = 24)
theorem zit (k : Int) : zae 1 k = exB k := by
 unfold zae exB zb0
 rw [if_neg (by decide)]
 refine decide_eq_decide.2 ?_
 repeat (first | omega | split)
theorem ztd (k : Int) : zae 2 k = stB k := by
 unfold zae stB zb0
 rw [if_neg (by decide)]
 refine decide_eq_decide.2 ?_
 repeat (first | omega | split)
theorem ziu (k : Int) : zae 3 k = blB k := by
 unfold zae blB zb0
 rw [if_neg (by decide)]
 refine decide_eq_decide.2 ?_
 repeat (first | omega | split)
theorem zte (k : Int) : zae 4 k = paB k := by
 unfold zae paB zb0
 rw [if_neg (by decide)]
 refine decide_eq_decide.2 ?_
 repeat (first | omega | split)
theorem ztf (k : Int) : zae 5 k = flB k := by
 unfold zae flB zb0
 rw [if_neg (by decide)]
 refine decide_eq_decide.2 ?_
 repeat (first | omega | split)
theorem ztg (k : Int) : zae 6 k = decide (k = 9) := by unfold zae; rw [if_pos rfl]
theorem zeo (c : Int) : ∀ (ks : List Int), zan (List.replicate ks.length c) ks = ks.all (zae c)
 | [] => rfl
 | k :: ks => by
   show zan (c :: List.replicate ks.length c) (k :: ks) = _
   simp only [zan, zeo c ks, List.all_cons]
theorem zi8 (d : Int) : ∀ (cs ks : List Int) (k : Int), cs.length = ks.length -> zan (cs ++ [d]) (ks ++ [k]) = (zan cs ks && zae d k)
 | [], [], k, _ => by simp [zan]
 | c :: cs, x :: ks, k, h => by
   simp only [List.cons_append, zan]
   rw [zi8 d cs ks k (by simpa using h), Bool.and_assoc]
 | [], _ :: _, k, h => by simp at h
 | _ :: _, [], k, h => by simp at h
theorem zg5 {cs ks : List Int} (h : cs.length ≠ ks.length) : zan cs ks = false := by
 cases hf : zan cs ks with
 | false => rfl
 | true => exact absurd (zg2 hf) h
theorem zuw (ks : List Int) : ks.all (zae 1) = ks.all exB := by congr 1; funext k; exact zit k
theorem zcp (k : Int) (w : World) : Calls Tryz.prog 45 #[.int .i64 k] w fun e w' => e = .returned (.bool (exB k)) /\ w' = w := by
 unfold exB
 go_enter Tryz.func45, Tryz.ntmps45
 go_wp2
 all_goals
  go_ret
  exact ⟨by first | rfl | (simp; done) | (simp; rw [Bool.eq_iff_iff]; simp) | (simp; omega), rfl⟩
theorem zep (a : Option Addr) (c : Nat) (ks : List Int) (T : Nat) (w : World) (hs : SlF T w (.slice a ks.length c) ks.length ks.length (fun i => .int .i64 (ks.getD i 0))) (hn : ks.length <= 1048576) :
 Calls Tryz.prog 42 #[.slice a ks.length c, .func (.func 45) #[] #[]] w fun e w' => e = .returned (.bool (ks.all exB)) /\ w' = w := by
 have hn' : (ks.length : Int) <= 1048576 := by omega
 have HS : Hid (SlF T w (.slice a ks.length c) ks.length ks.length (fun i => .int .i64 (ks.getD i 0))) := hs
 clear hs
 go_enter Tryz.func42, Tryz.ntmps42
 go_wp2
 go_loopw [9] (fun q wr => ∃ j : Nat, j <= ks.length /\ q = .int .i64 j /\ Hid (∀ i, i < j -> exB (ks.getD i 0) = true) /\ wr = w) (fun q _ => ks.length - (intOf q).toNat)
 case atStart => exact ⟨0, Nat.zero_le _, rfl, (fun i hi => absurd hi (Nat.not_lt_zero _)), rfl⟩
 case round =>
  obtain ⟨j, hj, rfl, hp, hw⟩ := hrel
  rw [hw]
  clear hw
  by_cases hlt : j < ks.length
  · have hlt' : (j : Int) < (ks.length : Int) := by omega
    obtain ⟨bk, ok, ck, hv, tk1, lk, hkk⟩ := HS.out.parts (k := 0) (by omega)
    simp only [Value.slice.injEq] at hv
    obtain ⟨rfl, _, rfl⟩ := hv
    have yk := hkk j hlt
    clear hkk HS
    cases hq : exB (ks.getD j 0) with
    | true =>
      have HV : Hid (∀ i, i < j + 1 -> exB (ks.getD i 0) = true) := fun i hi => if e : i = j then e ▸ hq else hp.out i (by omega)
      generalize ks.getD j 0 = kk at yk hq
      go_wp2_with (go_at_call 45; refine (zcp _ _).mono ?_; rw [hq]; rintro e w3 ⟨rfl, hw3⟩; rw [hw3]; clear hw3 w3)
      go_roundw
      case rel => exact ⟨j + 1, by omega, by go_num, HV, by first | rfl | trivial⟩
      case measure => simp [intOf]; omega
    | false =>
      have en : ks.all exB = false := by
       rw [List.all_eq_false]
       refine ⟨ks.getD j 0, ?_, by rw [hq]; simp⟩
       rw [List.getD_eq_getElem?_getD, List.getElem?_eq_getElem hlt]
       exact List.getElem_mem hlt
      generalize ks.getD j 0 = kk at yk hq
      go_wp2_with (go_at_call 45; refine (zcp _ _).mono ?_; rw [hq]; rintro e w3 ⟨rfl, hw3⟩; rw [hw3]; clear hw3 w3)
      go_ret
      exact ⟨by first | rfl | (rw [en]; rfl), rfl⟩
  · have hge : ¬ (j : Int) < (ks.length : Int) := by omega
    have en : ks.all exB = true := by
     rw [List.all_eq_true]
     intro x hx
     obtain ⟨i, hi, rfl⟩ := List.getElem_of_mem hx
     have := hp.out i (by omega)
     rw [List.getD_eq_getElem?_getD, List.getElem?_eq_getElem hi] at this
     exact this
    go_wp2
    go_ret
    exact ⟨by first | rfl | (rw [en]; rfl), rfl⟩
theorem zfg (k : Int) (w : World) : Calls Tryz.prog 48 #[.int .i64 k] w fun e w' => e = .returned (.bool (stB k)) /\ w' = w := by
 unfold stB
 go_enter Tryz.func48, Tryz.ntmps48
 go_wp2
 all_goals
  go_ret
  exact ⟨by first | rfl | (simp; done) | (simp; rw [Bool.eq_iff_iff]; simp) | (simp; omega), rfl⟩
theorem zh0 (a : Option Addr) (c : Nat) (ks : List Int) (T : Nat) (w : World) (hs : SlF T w (.slice a ks.length c) ks.length ks.length (fun i => .int .i64 (ks.getD i 0))) (hn : ks.length <= 1048576) :
 Calls Tryz.prog 42 #[.slice a ks.length c, .func (.func 48) #[] #[]] w fun e w' => e = .returned (.bool (ks.all stB)) /\ w' = w := by
 have hn' : (ks.length : Int) <= 1048576 := by omega
 have HS : Hid (SlF T w (.slice a ks.length c) ks.length ks.length (fun i => .int .i64 (ks.getD i 0))) := hs
 clear hs
 go_enter Tryz.func42, Tryz.ntmps42
 go_wp2
 go_loopw [9] (fun q wr => ∃ j : Nat, j <= ks.length /\ q = .int .i64 j /\ Hid (∀ i, i < j -> stB (ks.getD i 0) = true) /\ wr = w) (fun q _ => ks.length - (intOf q).toNat)
 case atStart => exact ⟨0, Nat.zero_le _, rfl, (fun i hi => absurd hi (Nat.not_lt_zero _)), rfl⟩
 case round =>
  obtain ⟨j, hj, rfl, hp, hw⟩ := hrel
  rw [hw]
  clear hw
  by_cases hlt : j < ks.length
  · have hlt' : (j : Int) < (ks.length : Int) := by omega
    obtain ⟨bk, ok, ck, hv, tk1, lk, hkk⟩ := HS.out.parts (k := 0) (by omega)
    simp only [Value.slice.injEq] at hv
    obtain ⟨rfl, _, rfl⟩ := hv
    have yk := hkk j hlt
    clear hkk HS
    cases hq : stB (ks.getD j 0) with
    | true =>
      have HV : Hid (∀ i, i < j + 1 -> stB (ks.getD i 0) = true) := fun i hi => if e : i = j then e ▸ hq else hp.out i (by omega)
      generalize ks.getD j 0 = kk at yk hq
      go_wp2_with (go_at_call 48; refine (zfg _ _).mono ?_; rw [hq]; rintro e w3 ⟨rfl, hw3⟩; rw [hw3]; clear hw3 w3)
      go_roundw
      case rel => exact ⟨j + 1, by omega, by go_num, HV, by first | rfl | trivial⟩
      case measure => simp [intOf]; omega
    | false =>
      have en : ks.all stB = false := by
       rw [List.all_eq_false]
       refine ⟨ks.getD j 0, ?_, by rw [hq]; simp⟩
       rw [List.getD_eq_getElem?_getD, List.getElem?_eq_getElem hlt]
       exact List.getElem_mem hlt
      generalize ks.getD j 0 = kk at yk hq
      go_wp2_with (go_at_call 48; refine (zfg _ _).mono ?_; rw [hq]; rintro e w3 ⟨rfl, hw3⟩; rw [hw3]; clear hw3 w3)
      go_ret
      exact ⟨by first | rfl | (rw [en]; rfl), rfl⟩
  · have hge : ¬ (j : Int) < (ks.length : Int) := by omega
    have en : ks.all stB = true := by
     rw [List.all_eq_true]
     intro x hx
     obtain ⟨i, hi, rfl⟩ := List.getElem_of_mem hx
     have := hp.out i (by omega)
     rw [List.getD_eq_getElem?_getD, List.getElem?_eq_getElem hi] at this
     exact this
    go_wp2
    go_ret
    exact ⟨by first | rfl | (rw [en]; rfl), rfl⟩
theorem zcx (k : Int) (w : World) : Calls Tryz.prog 19 #[.int .i64 k] w fun e w' => e = .returned (.bool (blB k)) /\ w' = w := by
 unfold blB
 go_enter Tryz.func19, Tryz.ntmps19
 go_wp2
 all_goals
  go_ret
  exact ⟨by first | rfl | (simp; done) | (simp; rw [Bool.eq_iff_iff]; simp) | (simp; omega), rfl⟩
theorem zmb (a : Option Addr) (c : Nat) (ks : List Int) (T : Nat) (w : World) (hs : SlF T w (.slice a ks.length c) ks.length ks.length (fun i => .int .i64 (ks.getD i 0))) (hn : ks.length <= 1048576) :
 Calls Tryz.prog 42 #[.slice a ks.length c, .func (.func 19) #[] #[]] w fun e w' => e = .returned (.bool (ks.all blB)) /\ w' = w := by
 have hn' : (ks.length : Int) <= 1048576 := by omega
 have HS : Hid (SlF T w (.slice a ks.length c) ks.length ks.length (fun i => .int .i64 (ks.getD i 0))) := hs
 clear hs
 go_enter Tryz.func42, Tryz.ntmps42
 go_wp2
 go_loopw [9] (fun q wr => ∃ j : Nat, j <= ks.length /\ q = .int .i64 j /\ Hid (∀ i, i < j -> blB (ks.getD i 0) = true) /\ wr = w) (fun q _ => ks.length - (intOf q).toNat)
 case atStart => exact ⟨0, Nat.zero_le _, rfl, (fun i hi => absurd hi (Nat.not_lt_zero _)), rfl⟩
 case round =>
  obtain ⟨j, hj, rfl, hp, hw⟩ := hrel
  rw [hw]
  clear hw
  by_cases hlt : j < ks.length
  · have hlt' : (j : Int) < (ks.length : Int) := by omega
    obtain ⟨bk, ok, ck, hv, tk1, lk, hkk⟩ := HS.out.parts (k := 0) (by omega)
    simp only [Value.slice.injEq] at hv
    obtain ⟨rfl, _, rfl⟩ := hv
    have yk := hkk j hlt
    clear hkk HS
    cases hq : blB (ks.getD j 0) with
    | true =>
      have HV : Hid (∀ i, i < j + 1 -> blB (ks.getD i 0) = true) := fun i hi => if e : i = j then e ▸ hq else hp.out i (by omega)
      generalize ks.getD j 0 = kk at yk hq
      go_wp2_with (go_at_call 19; refine (zcx _ _).mono ?_; rw [hq]; rintro e w3 ⟨rfl, hw3⟩; rw [hw3]; clear hw3 w3)
      go_roundw
      case rel => exact ⟨j + 1, by omega, by go_num, HV, by first | rfl | trivial⟩
      case measure => simp [intOf]; omega
    | false =>
      have en : ks.all blB = false := by
       rw [List.all_eq_false]
       refine ⟨ks.getD j 0, ?_, by rw [hq]; simp⟩
       rw [List.getD_eq_getElem?_getD, List.getElem?_eq_getElem hlt]
       exact List.getElem_mem hlt
      generalize ks.getD j 0 = kk at yk hq
      go_wp2_with (go_at_call 19; refine (zcx _ _).mono ?_; rw [hq]; rintro e w3 ⟨rfl, hw3⟩; rw [hw3]; clear hw3 w3)
      go_ret
      exact ⟨by first | rfl | (rw [en]; rfl), rfl⟩
  · have hge : ¬ (j : Int) < (ks.length : Int) := by omega
    have en : ks.all blB = true := by
     rw [List.all_eq_true]
     intro x hx
     obtain ⟨i, hi, rfl⟩ := List.getElem_of_mem hx
     have := hp.out i (by omega)
     rw [List.getD_eq_getElem?_getD, List.getElem?_eq_getElem hi] at this
     exact this
    go_wp2
    go_ret
    exact ⟨by first | rfl | (rw [en]; rfl), rfl⟩
theorem zh1 (k : Int) (w : World) : Calls Tryz.prog 43 #[.int .i64 k] w fun e w' => e = .returned (.bool (paB k)) /\ w' = w := by
 unfold paB
 go_enter Tryz.func43, Tryz.ntmps43
 go_wp2
 all_goals
  go_ret
  exact ⟨by first | rfl | (simp; done) | (simp; rw [Bool.eq_iff_iff]; simp) | (simp; omega), rfl⟩
theorem zmc (a : Option Addr) (c : Nat) (ks : List Int) (T : Nat) (w : World) (hs : SlF T w (.slice a ks.length c) ks.length ks.length (fun i => .int .i64 (ks.getD i 0))) (hn : ks.length <= 1048576) :
 Calls Tryz.prog 42 #[.slice a ks.length c, .func (.func 43) #[] #[]] w fun e w' => e = .returned (.bool (ks.all paB)) /\ w' = w := by
 have hn' : (ks.length : Int) <= 1048576 := by omega
 have HS : Hid (SlF T w (.slice a ks.length c) ks.length ks.length (fun i => .int .i64 (ks.getD i 0))) := hs
 clear hs
 go_enter Tryz.func42, Tryz.ntmps42
 go_wp2
 go_loopw [9] (fun q wr => ∃ j : Nat, j <= ks.length /\ q = .int .i64 j /\ Hid (∀ i, i < j -> paB (ks.getD i 0) = true) /\ wr = w) (fun q _ => ks.length - (intOf q).toNat)
 case atStart => exact ⟨0, Nat.zero_le _, rfl, (fun i hi => absurd hi (Nat.not_lt_zero _)), rfl⟩
 case round =>
  obtain ⟨j, hj, rfl, hp, hw⟩ := hrel
  rw [hw]
  clear hw
  by_cases hlt : j < ks.length
  · have hlt' : (j : Int) < (ks.length : Int) := by omega
    obtain ⟨bk, ok, ck, hv, tk1, lk, hkk⟩ := HS.out.parts (k := 0) (by omega)
    simp only [Value.slice.injEq] at hv
    obtain ⟨rfl, _, rfl⟩ := hv
    have yk := hkk j hlt
    clear hkk HS
    cases hq : paB (ks.getD j 0) with
    | true =>
      have HV : Hid (∀ i, i < j + 1 -> paB (ks.getD i 0) = true) := fun i hi => if e : i = j then e ▸ hq else hp.out i (by omega)
      generalize ks.getD j 0 = kk at yk hq
      go_wp2_with (go_at_call 43; refine (zh1 _ _).mono ?_; rw [hq]; rintro e w3 ⟨rfl, hw3⟩; rw [hw3]; clear hw3 w3)
      go_roundw
      case rel => exact ⟨j + 1, by omega, by go_num, HV, by first | rfl | trivial⟩
      case measure => simp [intOf]; omega
    | false =>
      have en : ks.all paB = false := by
       rw [List.all_eq_false]
       refine ⟨ks.getD j 0, ?_, by rw [hq]; simp⟩
       rw [List.getD_eq_getElem?_getD, List.getElem?_eq_getElem hlt]
       exact List.getElem_mem hlt
      generalize ks.getD j 0 = kk at yk hq
      go_wp2_with (go_at_call 43; refine (zh1 _ _).mono ?_; rw [hq]; rintro e w3 ⟨rfl, hw3⟩; rw [hw3]; clear hw3 w3)
      go_ret
      exact ⟨by first | rfl | (rw [en]; rfl), rfl⟩
  · have hge : ¬ (j : Int) < (ks.length : Int) := by omega
    have en : ks.all paB = true := by
     rw [List.all_eq_true]
     intro x hx
     obtain ⟨i, hi, rfl⟩ := List.getElem_of_mem hx
     have := hp.out i (by omega)
     rw [List.getD_eq_getElem?_getD, List.getElem?_eq_getElem hi] at this
     exact this
    go_wp2
    go_ret
    exact ⟨by first | rfl | (rw [en]; rfl), rfl⟩
theorem zh2 (k : Int) (w : World) : Calls Tryz.prog 44 #[.int .i64 k] w fun e w' => e = .returned (.bool (flB k)) /\ w' = w := by
 unfold flB
 go_enter Tryz.func44, Tryz.ntmps44
 go_wp2
 all_goals
  go_ret
  exact ⟨by first | rfl | (simp; done) | (simp; rw [Bool.eq_iff_iff]; simp) | (simp; omega), rfl⟩
theorem zmd (a : Option Addr) (c : Nat) (ks : List Int) (T : Nat) (w : World) (hs : SlF T w (.slice a ks.length c) ks.length ks.length (fun i => .int .i64 (ks.getD i 0))) (hn : ks.length <= 1048576) :
 Calls Tryz.prog 42 #[.slice a ks.length c, .func (.func 44) #[] #[]] w fun e w' => e = .returned (.bool (ks.all flB)) /\ w' = w := by
 have hn' : (ks.length : Int) <= 1048576 := by omega
 have HS : Hid (SlF T w (.slice a ks.length c) ks.length ks.length (fun i => .int .i64 (ks.getD i 0))) := hs
 clear hs
 go_enter Tryz.func42, Tryz.ntmps42
 go_wp2
 go_loopw [9] (fun q wr => ∃ j : Nat, j <= ks.length /\ q = .int .i64 j /\ Hid (∀ i, i < j -> flB (ks.getD i 0) = true) /\ wr = w) (fun q _ => ks.length - (intOf q).toNat)
 case atStart => exact ⟨0, Nat.zero_le _, rfl, (fun i hi => absurd hi (Nat.not_lt_zero _)), rfl⟩
 case round =>
  obtain ⟨j, hj, rfl, hp, hw⟩ := hrel
  rw [hw]
  clear hw
  by_cases hlt : j < ks.length
  · have hlt' : (j : Int) < (ks.length : Int) := by omega
    obtain ⟨bk, ok, ck, hv, tk1, lk, hkk⟩ := HS.out.parts (k := 0) (by omega)
    simp only [Value.slice.injEq] at hv
    obtain ⟨rfl, _, rfl⟩ := hv
    have yk := hkk j hlt
    clear hkk HS
    cases hq : flB (ks.getD j 0) with
    | true =>
      have HV : Hid (∀ i, i < j + 1 -> flB (ks.getD i 0) = true) := fun i hi => if e : i = j then e ▸ hq else hp.out i (by omega)
      generalize ks.getD j 0 = kk at yk hq
      go_wp2_with (go_at_call 44; refine (zh2 _ _).mono ?_; rw [hq]; rintro e w3 ⟨rfl, hw3⟩; rw [hw3]; clear hw3 w3)
      go_roundw
      case rel => exact ⟨j + 1, by omega, by go_num, HV, by first | rfl | trivial⟩
      case measure => simp [intOf]; omega
    | false =>
      have en : ks.all flB = false := by
       rw [List.all_eq_false]
       refine ⟨ks.getD j 0, ?_, by rw [hq]; simp⟩
       rw [List.getD_eq_getElem?_getD, List.getElem?_eq_getElem hlt]
       exact List.getElem_mem hlt
      generalize ks.getD j 0 = kk at yk hq
      go_wp2_with (go_at_call 44; refine (zh2 _ _).mono ?_; rw [hq]; rintro e w3 ⟨rfl, hw3⟩; rw [hw3]; clear hw3 w3)
      go_ret
      exact ⟨by first | rfl | (rw [en]; rfl), rfl⟩
  · have hge : ¬ (j : Int) < (ks.length : Int) := by omega
    have en : ks.all flB = true := by
     rw [List.all_eq_true]
     intro x hx
     obtain ⟨i, hi, rfl⟩ := List.getElem_of_mem hx
     have := hp.out i (by omega)
     rw [List.getD_eq_getElem?_getD, List.getElem?_eq_getElem hi] at this
     exact this
    go_wp2
    go_ret
    exact ⟨by first | rfl | (rw [en]; rfl), rfl⟩
theorem SlF.drop1 {T : Nat} {w : World} {b off c n : Nat} {ks : List Int} {k : Int} (h : SlF T w (.slice (some ⟨b, off, none⟩) n c) n n (fun i => .int .i64 ((k :: ks).getD i 0))) (hn : n = ks.length + 1) : SlF T w (.slice (some ⟨b, off + 1, none⟩) ks.length (c - 1)) ks.length ks.length (fun i => .int .i64 (ks.getD i 0)) := by
 obtain ⟨b', off', c', hv, h1, h2, h3⟩ := h.parts (k := 0) (by omega)
 simp only [Value.slice.injEq, Option.some.injEq, Addr.mk.injEq] at hv
 obtain ⟨⟨rfl, rfl, _⟩, _, rfl⟩ := hv
 refine ⟨_, _, rfl, .inr ⟨b, off + 1, rfl, h1, h2, fun i hi => ?_⟩⟩
 have := h3 (i + 1) (by omega)
 rw [show off + 1 + i = off + (i + 1) by omega, this]
 rfl
theorem SlF.init {T : Nat} {w : World} {b off c n : Nat} {ks : List Int} {k : Int} (h : SlF T w (.slice (some ⟨b, off, none⟩) n c) n n (fun i => .int .i64 ((ks ++ [k]).getD i 0))) (hn : n = ks.length + 1) : SlF T w (.slice (some ⟨b, off, none⟩) ks.length c) ks.length ks.length (fun i => .int .i64 (ks.getD i 0)) /\ w.cell? ⟨b, off + ks.length, none⟩ = some (.int .i64 k) := by
 obtain ⟨b', off', c', hv, h1, h2, h3⟩ := h.parts (k := 0) (by omega)
 simp only [Value.slice.injEq, Option.some.injEq, Addr.mk.injEq] at hv
 obtain ⟨⟨rfl, rfl, _⟩, _, rfl⟩ := hv
 refine ⟨⟨_, _, rfl, .inr ⟨b, off, rfl, h1, h2, fun i hi => ?_⟩⟩, ?_⟩
 · rw [h3 i (by omega)]
   simp [List.getD_eq_getElem?_getD, List.getElem?_append_left hi]
 · rw [h3 ks.length (by omega)]
   simp [List.getD_eq_getElem?_getD]
set_option maxHeartbeats 1000000 in
theorem zb2 (a : Option Addr) (c : Nat) (ks : List Int) (m : Int) (T : Nat) (w : World) (hs : SlF T w (.slice a ks.length c) ks.length ks.length (fun i => .int .i64 (ks.getD i 0))) (hn : ks.length <= 1048576) :
 Calls Tryz.prog 46 #[.slice a ks.length c, .int .i64 m] w fun e w' => e = .returned (.bool (decide ((ks.length : Int) = m) && ks.all exB)) /\ w' = w := by
 have hn' : (ks.length : Int) <= 1048576 := by omega
 by_cases hm : (ks.length : Int) = m
 · rw [decide_eq_true hm, Bool.true_and]
   go_enter Tryz.func46, Tryz.ntmps46
   go_wp2_with (go_at_call 42; refine (zep _ _ ks T _ hs hn).mono ?_; rintro e w3 ⟨rfl, hw3⟩; rw [hw3]; clear hw3 w3)
   go_ret
   exact ⟨rfl, rfl⟩
 · rw [decide_eq_false hm, Bool.false_and]
   have hm' : ((ks.length : Int) == m) = false := by simp [hm]
   go_enter Tryz.func46, Tryz.ntmps46
   go_wp2
   go_ret
   exact ⟨rfl, rfl⟩
def zeq (ks : List Int) : Bool := match ks with | [] => false | k :: ks => exB k && ks.all blB
theorem IR.cap {B : Nat} {w : World} {a : Option Addr} {n c : Nat} {xs : List Int} (h : IR B w (.slice a n c) xs) (h0 : 0 < xs.length) : ∃ g, a = some ⟨g, 0, none⟩ /\ xs.length <= c /\ c <= maxLen := by
 obtain ⟨h1, ⟨hv, h2⟩ | ⟨g, cap, cur, hv, hg, hc, hn, hcap, r⟩⟩ := h
 · omega
 · simp only [Value.slice.injEq] at hv
   obtain ⟨rfl, _, rfl⟩ := hv
   exact ⟨g, rfl, hn, hcap⟩
set_option maxHeartbeats 1000000 in
theorem zgp (a : Option Addr) (c : Nat) (ks : List Int) (m : Int) (B : Nat) (w : World) (hI : IR B w (.slice a ks.length c) ks) (hn : ks.length <= 1048576) (hm2 : 2 <= m) :
 Calls Tryz.prog 47 #[.slice a ks.length c, .int .i64 m] w fun e w' => e = .returned (.bool (decide ((ks.length : Int) = m) && zeq ks)) /\ w' = w := by
 have hn' : (ks.length : Int) <= 1048576 := by omega
 by_cases hm : (ks.length : Int) = m
 rotate_left
 · rw [decide_eq_false hm, Bool.false_and]
   have hm' : ((ks.length : Int) == m) = false := by simp [hm]
   clear hI
   go_enter Tryz.func47, Tryz.ntmps47
   go_wp2
   go_ret
   exact ⟨rfl, rfl⟩
 subst hm
 rw [decide_eq_true rfl, Bool.true_and]
 obtain ⟨g, rfl, hc1, hc2⟩ := hI.cap (by omega)
 cases ks with
 | nil => simp at hm2
 | cons k ks =>
   have hs := hI.sl
   obtain ⟨b', off', c', hv, h1, h2, h3⟩ := hs.parts (k := 0) (by simp)
   simp only [Value.slice.injEq, Option.some.injEq, Addr.mk.injEq] at hv
   obtain ⟨⟨rfl, rfl, _⟩, _, rfl⟩ := hv
   have y0 := h3 0 (by simp)
   simp at y0
   have hd := hs.drop1 (by simp)
   have hl1 : (k :: ks).length = ks.length + 1 := by simp
   have hc3 : ((ks.length + 1 : Nat) : Int) <= (c : Int) := by rw [hl1] at hc1; omega
   have hc4 : (c : Int) <= 9223372036854775807 := by simp [maxLen] at hc2; omega
   have hz : (0 : Int) < ((ks.length + 1 : Nat) : Int) := by omega
   have hq1 : (1 : Int) <= ((ks.length + 1 : Nat) : Int) := by omega
   rw [hl1] at hn' hc1 hm2 ⊢
   have hc9 : ¬ c = 1 := by omega
   clear hI hs h3 hm2
   show Calls _ _ _ _ fun e w' => e = .returned (.bool (exB k && ks.all blB)) /\ w' = w
   cases hk : exB k with
   | false =>
     go_enter Tryz.func47, Tryz.ntmps47
     go_wp2_with (go_at_call 45; refine (zcp _ _).mono ?_; rw [hk]; rintro e w3 ⟨rfl, hw3⟩; rw [hw3]; clear hw3 w3)
     go_ret
     exact ⟨rfl, rfl⟩
   | true =>
     go_enter Tryz.func47, Tryz.ntmps47
     go_wp2_with (first | (go_at_call 45; refine (zcp _ _).mono ?_; rw [hk]; rintro e w3 ⟨rfl, hw3⟩; rw [hw3]; clear hw3 w3) | (go_at_call 42; refine (zmb _ _ ks _ _ hd (by simp at hn; omega)).mono ?_; rintro e w3 ⟨rfl, hw3⟩; rw [hw3]; clear hw3 w3))
     go_ret
     exact ⟨rfl, rfl⟩
theorem ze0 (n : Nat) (ks : List Int) : zan (List.replicate n 1) ks = (decide (ks.length = n) && ks.all exB) := by
 by_cases h : ks.length = n
 · subst h
   rw [zeo, zuw]
   simp
 · rw [decide_eq_false h, Bool.false_and]
   exact zg5 (by simp; omega)
theorem zi9 (ks : List Int) : zan [1, 3] ks = (decide (ks.length = 2) && zeq ks) := by
 match ks with
 | [] => rfl
 | [x] => simp [zan]
 | [x, y] => simp [zan, zeq, zit, ziu]
 | x :: y :: z :: ks => rw [zg5 (by simp)]; simp
theorem zps (ks : List Int) (h : ks.length = 3) : zan [1, 3, 3] ks = zeq ks := by
 match ks, h with
 | [x, y, z], _ => simp [zan, zeq, zit, ziu]
theorem ziv (k : Int) (ks : List Int) (h : k = 1 \/ k = 2 \/ k = 3 \/ k = 4 \/ k = 5 \/ k = 22) : zx k ks = decide (ks.length = 0) := by
 have e : shp k ks.length = [] := by rcases h with rfl | rfl | rfl | rfl | rfl | rfl <;> rfl
 have e2 : zb0 k ≠ 0 := by rcases h with rfl | rfl | rfl | rfl | rfl | rfl <;> decide
 unfold zx
 rw [e, decide_eq_true e2, Bool.true_and]
 cases ks with
 | nil => rfl
 | cons x xs => simp [zan]
theorem zle (k : Int) (ks : List Int) (h : k = 11 \/ k = 14 \/ k = 15 \/ k = 19 \/ k = 23) : zx k ks = (decide (ks.length = 1) && ks.all exB) := by
 have e : shp k ks.length = List.replicate 1 1 := by rcases h with rfl | rfl | rfl | rfl | rfl <;> rfl
 have e2 : zb0 k ≠ 0 := by rcases h with rfl | rfl | rfl | rfl | rfl <;> decide
 unfold zx
 rw [e, decide_eq_true e2, Bool.true_and, ze0]
theorem zlf (k : Int) (ks : List Int) (h : k = 8 \/ k = 10 \/ k = 12 \/ k = 13 \/ k = 24) : zx k ks = (decide (ks.length = 2) && ks.all exB) := by
 have e : shp k ks.length = List.replicate 2 1 := by rcases h with rfl | rfl | rfl | rfl | rfl <;> rfl
 have e2 : zb0 k ≠ 0 := by rcases h with rfl | rfl | rfl | rfl | rfl <;> decide
 unfold zx
 rw [e, decide_eq_true e2, Bool.true_and, ze0]
theorem zvk (ks : List Int) : zx 16 ks = (decide (ks.length = 3) && ks.all exB) := by
 show (true && zan (List.replicate 3 1) ks) = _
 rw [Bool.true_and, ze0]
theorem zvv (ks : List Int) : zx 7 ks = ks.all flB := by
 show (true && zan (List.replicate ks.length 5) ks) = _
 rw [Bool.true_and, zeo]
 congr 1
 funext k
 exact ztf k
theorem zvl (ks : List Int) : zx 21 ks = ks.all stB := by
 show (true && zan (List.replicate ks.length 2) ks) = _
 rw [Bool.true_and, zeo]
 congr 1
 funext k
 exact ztd k
theorem zvw (ks : List Int) : zx 9 ks = (decide (0 < ks.length) && ks.all exB) := by
 show (true && zan (List.replicate (ks.length - 1 + 1) 1) ks) = _
 rw [Bool.true_and, ze0]
 congr 1
 exact decide_eq_decide.2 (by omega)
theorem zvm : zx 6 [] = false := rfl
theorem zvx (ks : List Int) (k : Int) : zx 6 (ks ++ [k]) = (blB k && ks.all paB) := by
 have e : shp 6 (ks ++ [k]).length = List.replicate ks.length 4 ++ [3] := by
  show List.replicate ((ks ++ [k]).length - 1) 4 ++ [3] = _
  simp
 unfold zx
 rw [e, decide_eq_true (by decide : zb0 6 ≠ 0), Bool.true_and, zi8 _ _ _ _ (by simp), zeo, ziu, Bool.and_comm]
 congr 2
 funext k
 exact zte k
theorem zvn (ks : List Int) : zx 18 ks = (decide (ks.length = 2) && zeq ks) := by
 show (true && zan [1, 3] ks) = _
 rw [Bool.true_and, zi9]
theorem zvo (ks : List Int) : zx 17 ks = ((decide (ks.length = 2) && zeq ks) || (decide (ks.length = 3) && zeq ks)) := by
 show (true && zan (if ks.length = 3 then [1, 3, 3] else [1, 3]) ks) = _
 rw [Bool.true_and]
 by_cases h : ks.length = 3
 · rw [if_pos h, zps ks h, decide_eq_true h, decide_eq_false (by omega), Bool.false_and, Bool.true_and, Bool.false_or]
 · rw [if_neg h, zi9, decide_eq_false h, Bool.false_and, Bool.or_false]
theorem zvp (ks : List Int) : zx 20 ks = decide (ks = [9]) := by
 show (true && zan [6] ks) = _
 rw [Bool.true_and]
 match ks with
 | [] => rfl
 | [x] => simp [zan, ztg]
 | x :: y :: ks => rw [zg5 (by simp)]; simp
theorem zvy (k : Int) (ks : List Int) (h : ¬ (1 <= k /\ k <= 24)) : zx k ks = false := by
 have e : zb0 k = 0 := by
  unfold zb0
  repeat (first | omega | split)
 unfold zx
 rw [decide_eq_false (fun h => h e), Bool.false_and]
theorem za5 (ks : List Int) (n : Nat) : decide ((ks.length : Int) = (n : Int)) = decide (ks.length = n) := decide_eq_decide.2 (by omega)
set_option maxHeartbeats 1000000 in
theorem zth (a : Option Addr) (c : Nat) (ks : List Int) (B : Nat) (w : World) (hI : IR B w (.slice a ks.length c) ks) (hn : ks.length <= 1048576) :
 Calls Tryz.prog 22 #[.int .i64 1, .slice a ks.length c] w fun e w' => e = .returned (.bool (zx 1 ks)) /\ Below w.heap.size w w' := by
 have hn' : (ks.length : Int) <= 1048576 := by omega
 rw [ziv _ ks (by decide), <- za5 ks 0]
 clear hI
 go_enter Tryz.func22, Tryz.ntmps22
 go_wp2
 go_ret
 exact ⟨by first | rfl | (simp; done) | (simp; rw [Bool.eq_iff_iff]; simp), Below.refl _ _⟩
set_option maxHeartbeats 1000000 in
theorem zti (a : Option Addr) (c : Nat) (ks : List Int) (B : Nat) (w : World) (hI : IR B w (.slice a ks.length c) ks) (hn : ks.length <= 1048576) :
 Calls Tryz.prog 22 #[.int .i64 2, .slice a ks.length c] w fun e w' => e = .returned (.bool (zx 2 ks)) /\ Below w.heap.size w w' := by
 have hn' : (ks.length : Int) <= 1048576 := by omega
 rw [ziv _ ks (by decide), <- za5 ks 0]
 clear hI
 go_enter Tryz.func22, Tryz.ntmps22
 go_wp2
 go_ret
 exact ⟨by first | rfl | (simp; done) | (simp; rw [Bool.eq_iff_iff]; simp), Below.refl _ _⟩
set_option maxHeartbeats 1000000 in
theorem ztj (a : Option Addr) (c : Nat) (ks : List Int) (B : Nat) (w : World) (hI : IR B w (.slice a ks.length c) ks) (hn : ks.length <= 1048576) :
 Calls Tryz.prog 22 #[.int .i64 3, .slice a ks.length c] w fun e w' => e = .returned (.bool (zx 3 ks)) /\ Below w.heap.size w w' := by
 have hn' : (ks.length : Int) <= 1048576 := by omega
 rw [ziv _ ks (by decide), <- za5 ks 0]
 clear hI
 go_enter Tryz.func22, Tryz.ntmps22
 go_wp2
 go_ret
 exact ⟨by first | rfl | (simp; done) | (simp; rw [Bool.eq_iff_iff]; simp), Below.refl _ _⟩
set_option maxHeartbeats 1000000 in
theorem ztk (a : Option Addr) (c : Nat) (ks : List Int) (B : Nat) (w : World) (hI : IR B w (.slice a ks.length c) ks) (hn : ks.length <= 1048576) :
 Calls Tryz.prog 22 #[.int .i64 4, .slice a ks.length c] w fun e w' => e = .returned (.bool (zx 4 ks)) /\ Below w.heap.size w w' := by
 have hn' : (ks.length : Int) <= 1048576 := by omega
 rw [ziv _ ks (by decide), <- za5 ks 0]
 clear hI
 go_enter Tryz.func22, Tryz.ntmps22
 go_wp2
 go_ret
 exact ⟨by first | rfl | (simp; done) | (simp; rw [Bool.eq_iff_iff]; simp), Below.refl _ _⟩
set_option maxHeartbeats 1000000 in
theorem ztl (a : Option Addr) (c : Nat) (ks : List Int) (B : Nat) (w : World) (hI : IR B w (.slice a ks.length c) ks) (hn : ks.length <= 1048576) :
 Calls Tryz.prog 22 #[.int .i64 5, .slice a ks.length c] w fun e w' => e = .returned (.bool (zx 5 ks)) /\ Below w.heap.size w w' := by
 have hn' : (ks.length : Int) <= 1048576 := by omega
 rw [ziv _ ks (by decide), <- za5 ks 0]
 clear hI
 go_enter Tryz.func22, Tryz.ntmps22
 go_wp2
 go_ret
 exact ⟨by first | rfl | (simp; done) | (simp; rw [Bool.eq_iff_iff]; simp), Below.refl _ _⟩
set_option maxHeartbeats 1000000 in
theorem zqy (a : Option Addr) (c : Nat) (ks : List Int) (B : Nat) (w : World) (hI : IR B w (.slice a ks.length c) ks) (hn : ks.length <= 1048576) :
 Calls Tryz.prog 22 #[.int .i64 22, .slice a ks.length c] w fun e w' => e = .returned (.bool (zx 22 ks)) /\ Below w.heap.size w w' := by
 have hn' : (ks.length : Int) <= 1048576 := by omega
 rw [ziv _ ks (by decide), <- za5 ks 0]
 clear hI
 go_enter Tryz.func22, Tryz.ntmps22
 go_wp2
 go_ret
 exact ⟨by first | rfl | (simp; done) | (simp; rw [Bool.eq_iff_iff]; simp), Below.refl _ _⟩
set_option maxHeartbeats 1000000 in
theorem zqz (a : Option Addr) (c : Nat) (ks : List Int) (B : Nat) (w : World) (hI : IR B w (.slice a ks.length c) ks) (hn : ks.length <= 1048576) :
 Calls Tryz.prog 22 #[.int .i64 11, .slice a ks.length c] w fun e w' => e = .returned (.bool (zx 11 ks)) /\ Below w.heap.size w w' := by
 have hn' : (ks.length : Int) <= 1048576 := by omega
 rw [zle _ ks (by decide), <- za5 ks 1]
 have HA : Hid (Calls _ _ _ _ _) := zb2 a c ks 1 _ w hI.sl hn
 clear hI
 go_enter Tryz.func22, Tryz.ntmps22
 go_wp2_with (go_at_call 46; refine HA.out.mono ?_; rintro e w3 ⟨rfl, hw3⟩; rw [hw3]; clear hw3 w3)
 go_ret
 exact ⟨rfl, Below.refl _ _⟩
set_option maxHeartbeats 1000000 in
theorem zq0 (a : Option Addr) (c : Nat) (ks : List Int) (B : Nat) (w : World) (hI : IR B w (.slice a ks.length c) ks) (hn : ks.length <= 1048576) :
 Calls Tryz.prog 22 #[.int .i64 14, .slice a ks.length c] w fun e w' => e = .returned (.bool (zx 14 ks)) /\ Below w.heap.size w w' := by
 have hn' : (ks.length : Int) <= 1048576 := by omega
 rw [zle _ ks (by decide), <- za5 ks 1]
 have HA : Hid (Calls _ _ _ _ _) := zb2 a c ks 1 _ w hI.sl hn
 clear hI
 go_enter Tryz.func22, Tryz.ntmps22
 go_wp2_with (go_at_call 46; refine HA.out.mono ?_; rintro e w3 ⟨rfl, hw3⟩; rw [hw3]; clear hw3 w3)
 go_ret
 exact ⟨rfl, Below.refl _ _⟩
set_option maxHeartbeats 1000000 in
theorem zq1 (a : Option Addr) (c : Nat) (ks : List Int) (B : Nat) (w : World) (hI : IR B w (.slice a ks.length c) ks) (hn : ks.length <= 1048576) :
 Calls Tryz.prog 22 #[.int .i64 15, .slice a ks.length c] w fun e w' => e = .returned (.bool (zx 15 ks)) /\ Below w.heap.size w w' := by
 have hn' : (ks.length : Int) <= 1048576 := by omega
 rw [zle _ ks (by decide), <- za5 ks 1]
 have HA : Hid (Calls _ _ _ _ _) := zb2 a c ks 1 _ w hI.sl hn
 clear hI
 go_enter Tryz.func22, Tryz.ntmps22
 go_wp2_with (go_at_call 46; refine HA.out.mono ?_; rintro e w3 ⟨rfl, hw3⟩; rw [hw3]; clear hw3 w3)
 go_ret
 exact ⟨rfl, Below.refl _ _⟩
set_option maxHeartbeats 1000000 in
theorem zq2 (a : Option Addr) (c : Nat) (ks : List Int) (B : Nat) (w : World) (hI : IR B w (.slice a ks.length c) ks) (hn : ks.length <= 1048576) :
 Calls Tryz.prog 22 #[.int .i64 19, .slice a ks.length c] w fun e w' => e = .returned (.bool (zx 19 ks)) /\ Below w.heap.size w w' := by
 have hn' : (ks.length : Int) <= 1048576 := by omega
 rw [zle _ ks (by decide), <- za5 ks 1]
 have HA : Hid (Calls _ _ _ _ _) := zb2 a c ks 1 _ w hI.sl hn
 clear hI
 go_enter Tryz.func22, Tryz.ntmps22
 go_wp2_with (go_at_call 46; refine HA.out.mono ?_; rintro e w3 ⟨rfl, hw3⟩; rw [hw3]; clear hw3 w3)
 go_ret
 exact ⟨rfl, Below.refl _ _⟩
set_option maxHeartbeats 1000000 in
theorem zq3 (a : Option Addr) (c : Nat) (ks : List Int) (B : Nat) (w : World) (hI : IR B w (.slice a ks.length c) ks) (hn : ks.length <= 1048576) :
 Calls Tryz.prog 22 #[.int .i64 23, .slice a ks.length c] w fun e w' => e = .returned (.bool (zx 23 ks)) /\ Below w.heap.size w w' := by
 have hn' : (ks.length : Int) <= 1048576 := by omega
 rw [zle _ ks (by decide), <- za5 ks 1]
 have HA : Hid (Calls _ _ _ _ _) := zb2 a c ks 1 _ w hI.sl hn
 clear hI
 go_enter Tryz.func22, Tryz.ntmps22
 go_wp2_with (go_at_call 46; refine HA.out.mono ?_; rintro e w3 ⟨rfl, hw3⟩; rw [hw3]; clear hw3 w3)
 go_ret
 exact ⟨rfl, Below.refl _ _⟩
set_option maxHeartbeats 1000000 in
theorem ztm (a : Option Addr) (c : Nat) (ks : List Int) (B : Nat) (w : World) (hI : IR B w (.slice a ks.length c) ks) (hn : ks.length <= 1048576) :
 Calls Tryz.prog 22 #[.int .i64 8, .slice a ks.length c] w fun e w' => e = .returned (.bool (zx 8 ks)) /\ Below w.heap.size w w' := by
 have hn' : (ks.length : Int) <= 1048576 := by omega
 rw [zlf _ ks (by decide), <- za5 ks 2]
 have HA : Hid (Calls _ _ _ _ _) := zb2 a c ks 2 _ w hI.sl hn
 clear hI
 go_enter Tryz.func22, Tryz.ntmps22
 go_wp2_with (go_at_call 46; refine HA.out.mono ?_; rintro e w3 ⟨rfl, hw3⟩; rw [hw3]; clear hw3 w3)
 go_ret
 exact ⟨rfl, Below.refl _ _⟩
set_option maxHeartbeats 1000000 in
theorem zq4 (a : Option Addr) (c : Nat) (ks : List Int) (B : Nat) (w : World) (hI : IR B w (.slice a ks.length c) ks) (hn : ks.length <= 1048576) :
 Calls Tryz.prog 22 #[.int .i64 10, .slice a ks.length c] w fun e w' => e = .returned (.bool (zx 10 ks)) /\ Below w.heap.size w w' := by
 have hn' : (ks.length : Int) <= 1048576 := by omega
 rw [zlf _ ks (by decide), <- za5 ks 2]
 have HA : Hid (Calls _ _ _ _ _) := zb2 a c ks 2 _ w hI.sl hn
 clear hI
 go_enter Tryz.func22, Tryz.ntmps22
 go_wp2_with (go_at_call 46; refine HA.out.mono ?_; rintro e w3 ⟨rfl, hw3⟩; rw [hw3]; clear hw3 w3)
 go_ret
 exact ⟨rfl, Below.refl _ _⟩
set_option maxHeartbeats 1000000 in
theorem zq5 (a : Option Addr) (c : Nat) (ks : List Int) (B : Nat) (w : World) (hI : IR B w (.slice a ks.length c) ks) (hn : ks.length <= 1048576) :
 Calls Tryz.prog 22 #[.int .i64 12, .slice a ks.length c] w fun e w' => e = .returned (.bool (zx 12 ks)) /\ Below w.heap.size w w' := by
 have hn' : (ks.length : Int) <= 1048576 := by omega
 rw [zlf _ ks (by decide), <- za5 ks 2]
 have HA : Hid (Calls _ _ _ _ _) := zb2 a c ks 2 _ w hI.sl hn
 clear hI
 go_enter Tryz.func22, Tryz.ntmps22
 go_wp2_with (go_at_call 46; refine HA.out.mono ?_; rintro e w3 ⟨rfl, hw3⟩; rw [hw3]; clear hw3 w3)
 go_ret
 exact ⟨rfl, Below.refl _ _⟩
set_option maxHeartbeats 1000000 in
theorem zq6 (a : Option Addr) (c : Nat) (ks : List Int) (B : Nat) (w : World) (hI : IR B w (.slice a ks.length c) ks) (hn : ks.length <= 1048576) :
 Calls Tryz.prog 22 #[.int .i64 13, .slice a ks.length c] w fun e w' => e = .returned (.bool (zx 13 ks)) /\ Below w.heap.size w w' := by
 have hn' : (ks.length : Int) <= 1048576 := by omega
 rw [zlf _ ks (by decide), <- za5 ks 2]
 have HA : Hid (Calls _ _ _ _ _) := zb2 a c ks 2 _ w hI.sl hn
 clear hI
 go_enter Tryz.func22, Tryz.ntmps22
 go_wp2_with (go_at_call 46; refine HA.out.mono ?_; rintro e w3 ⟨rfl, hw3⟩; rw [hw3]; clear hw3 w3)
 go_ret
 exact ⟨rfl, Below.refl _ _⟩
set_option maxHeartbeats 1000000 in
theorem zq7 (a : Option Addr) (c : Nat) (ks : List Int) (B : Nat) (w : World) (hI : IR B w (.slice a ks.length c) ks) (hn : ks.length <= 1048576) :
 Calls Tryz.prog 22 #[.int .i64 24, .slice a ks.length c] w fun e w' => e = .returned (.bool (zx 24 ks)) /\ Below w.heap.size w w' := by
 have hn' : (ks.length : Int) <= 1048576 := by omega
 rw [zlf _ ks (by decide), <- za5 ks 2]
 have HA : Hid (Calls _ _ _ _ _) := zb2 a c ks 2 _ w hI.sl hn
 clear hI
 go_enter Tryz.func22, Tryz.ntmps22
 go_wp2_with (go_at_call 46; refine HA.out.mono ?_; rintro e w3 ⟨rfl, hw3⟩; rw [hw3]; clear hw3 w3)
 go_ret
 exact ⟨rfl, Below.refl _ _⟩
set_option maxHeartbeats 1000000 in
theorem zq8 (a : Option Addr) (c : Nat) (ks : List Int) (B : Nat) (w : World) (hI : IR B w (.slice a ks.length c) ks) (hn : ks.length <= 1048576) :
 Calls Tryz.prog 22 #[.int .i64 16, .slice a ks.length c] w fun e w' => e = .returned (.bool (zx 16 ks)) /\ Below w.heap.size w w' := by
 have hn' : (ks.length : Int) <= 1048576 := by omega
 rw [zvk ks, <- za5 ks 3]
 have HA : Hid (Calls _ _ _ _ _) := zb2 a c ks 3 _ w hI.sl hn
 clear hI
 go_enter Tryz.func22, Tryz.ntmps22
 go_wp2_with (go_at_call 46; refine HA.out.mono ?_; rintro e w3 ⟨rfl, hw3⟩; rw [hw3]; clear hw3 w3)
 go_ret
 exact ⟨rfl, Below.refl _ _⟩
set_option maxHeartbeats 1000000 in
theorem ztn (a : Option Addr) (c : Nat) (ks : List Int) (B : Nat) (w : World) (hI : IR B w (.slice a ks.length c) ks) (hn : ks.length <= 1048576) :
 Calls Tryz.prog 22 #[.int .i64 7, .slice a ks.length c] w fun e w' => e = .returned (.bool (zx 7 ks)) /\ Below w.heap.size w w' := by
 have hn' : (ks.length : Int) <= 1048576 := by omega
 rw [zvv ks]
 have HA : Hid (Calls _ _ _ _ _) := zmd a c ks _ w hI.sl hn
 clear hI
 go_enter Tryz.func22, Tryz.ntmps22
 go_wp2_with (go_at_call 42; refine HA.out.mono ?_; rintro e w3 ⟨rfl, hw3⟩; rw [hw3]; clear hw3 w3)
 go_ret
 exact ⟨rfl, Below.refl _ _⟩
set_option maxHeartbeats 1000000 in
theorem zq9 (a : Option Addr) (c : Nat) (ks : List Int) (B : Nat) (w : World) (hI : IR B w (.slice a ks.length c) ks) (hn : ks.length <= 1048576) :
 Calls Tryz.prog 22 #[.int .i64 21, .slice a ks.length c] w fun e w' => e = .returned (.bool (zx 21 ks)) /\ Below w.heap.size w w' := by
 have hn' : (ks.length : Int) <= 1048576 := by omega
 rw [zvl ks]
 have HA : Hid (Calls _ _ _ _ _) := zh0 a c ks _ w hI.sl hn
 clear hI
 go_enter Tryz.func22, Tryz.ntmps22
 go_wp2_with (go_at_call 42; refine HA.out.mono ?_; rintro e w3 ⟨rfl, hw3⟩; rw [hw3]; clear hw3 w3)
 go_ret
 exact ⟨rfl, Below.refl _ _⟩
set_option maxHeartbeats 1000000 in
theorem zto (a : Option Addr) (c : Nat) (ks : List Int) (B : Nat) (w : World) (hI : IR B w (.slice a ks.length c) ks) (hn : ks.length <= 1048576) :
 Calls Tryz.prog 22 #[.int .i64 9, .slice a ks.length c] w fun e w' => e = .returned (.bool (zx 9 ks)) /\ Below w.heap.size w w' := by
 have hn' : (ks.length : Int) <= 1048576 := by omega
 rw [zvw ks]
 have HA : Hid (Calls _ _ _ _ _) := zep a c ks _ w hI.sl hn
 clear hI
 by_cases h0 : 0 < ks.length
 · have h0' : (0 : Int) < (ks.length : Int) := by omega
   rw [decide_eq_true h0, Bool.true_and]
   go_enter Tryz.func22, Tryz.ntmps22
   go_wp2_with (go_at_call 42; refine HA.out.mono ?_; rintro e w3 ⟨rfl, hw3⟩; rw [hw3]; clear hw3 w3)
   go_ret
   exact ⟨rfl, Below.refl _ _⟩
 · have h0' : ¬ (0 : Int) < (ks.length : Int) := by omega
   rw [decide_eq_false h0, Bool.false_and]
   go_enter Tryz.func22, Tryz.ntmps22
   go_wp2
   go_ret
   exact ⟨rfl, Below.refl _ _⟩
set_option maxHeartbeats 1000000 in
theorem zra (a : Option Addr) (c : Nat) (ks : List Int) (B : Nat) (w : World) (hI : IR B w (.slice a ks.length c) ks) (hn : ks.length <= 1048576) :
 Calls Tryz.prog 22 #[.int .i64 18, .slice a ks.length c] w fun e w' => e = .returned (.bool (zx 18 ks)) /\ Below w.heap.size w w' := by
 have hn' : (ks.length : Int) <= 1048576 := by omega
 rw [zvn ks, <- za5 ks 2]
 have HA : Hid (Calls _ _ _ _ _) := zgp a c ks 2 B w hI hn (by decide)
 clear hI
 go_enter Tryz.func22, Tryz.ntmps22
 go_wp2_with (go_at_call 47; refine HA.out.mono ?_; rintro e w3 ⟨rfl, hw3⟩; rw [hw3]; clear hw3 w3)
 go_ret
 exact ⟨rfl, Below.refl _ _⟩
set_option maxHeartbeats 1000000 in
theorem zrb (a : Option Addr) (c : Nat) (ks : List Int) (B : Nat) (w : World) (hI : IR B w (.slice a ks.length c) ks) (hn : ks.length <= 1048576) :
 Calls Tryz.prog 22 #[.int .i64 17, .slice a ks.length c] w fun e w' => e = .returned (.bool (zx 17 ks)) /\ Below w.heap.size w w' := by
 have hn' : (ks.length : Int) <= 1048576 := by omega
 rw [zvo ks, <- za5 ks 2, <- za5 ks 3]
 show Calls _ _ _ _ fun e w' => e = .returned (.bool ((decide ((ks.length : Int) = 2) && zeq ks) || (decide ((ks.length : Int) = 3) && zeq ks))) /\ Below w.heap.size w w'
 have HAB : Hid (∀ m : Int, 2 <= m -> _) := fun m hm => zgp a c ks m B w hI hn hm
 clear hI
 cases h2 : (decide ((ks.length : Int) = 2) && zeq ks) with
 | true =>
   go_enter Tryz.func22, Tryz.ntmps22
   go_wp2_with (go_at_call 47; refine (HAB.out _ (by decide)).mono ?_; rintro e w3 ⟨rfl, hw3⟩; rw [hw3]; clear hw3 w3; try rw [h2])
   go_ret
   exact ⟨by first | rfl | simp, Below.refl _ _⟩
 | false =>
   go_enter Tryz.func22, Tryz.ntmps22
   go_wp2_with (go_at_call 47; refine (HAB.out _ (by decide)).mono ?_; rintro e w3 ⟨rfl, hw3⟩; rw [hw3]; clear hw3 w3; try rw [h2])
   go_ret
   exact ⟨by first | rfl | simp, Below.refl _ _⟩
set_option maxHeartbeats 1000000 in
theorem zrc (a : Option Addr) (c : Nat) (ks : List Int) (B : Nat) (w : World) (hI : IR B w (.slice a ks.length c) ks) (hn : ks.length <= 1048576) :
 Calls Tryz.prog 22 #[.int .i64 20, .slice a ks.length c] w fun e w' => e = .returned (.bool (zx 20 ks)) /\ Below w.heap.size w w' := by
 have hn' : (ks.length : Int) <= 1048576 := by omega
 rw [zvp ks]
 have HA : Hid (∀ W, Below w.heap.size w W -> ∀ (b2 : Nat), SlF W.heap.size W (.slice (some ⟨b2, 0, none⟩) 1 1) 1 1 (fun i => .int .i64 (([9] : List Int).getD i 0)) -> _) := fun W hW b2 h2 => zec a (some ⟨b2, 0, none⟩) ks.length c 1 1 (fun i => ks.getD i 0) (fun i => ([9] : List Int).getD i 0) w.heap.size W.heap.size W (hI.sl.below hW (Nat.le_refl _)) h2 hn (by omega)
 have hq : IEq ks.length 1 (fun i => ks.getD i 0) (fun i => ([9] : List Int).getD i 0) ↔ ks = [9] := by
  constructor
  · rintro ⟨h1, h2⟩
    match ks, h1 with
    | [x], _ =>
      have h3 := h2 0 Nat.one_pos
      have h4 : x = 9 := h3
      rw [h4]
  · rintro rfl
    exact ⟨rfl, fun i _ => rfl⟩
 clear hI
 go_enter Tryz.func22, Tryz.ntmps22
 go_wp2_with fail
 refine (HA.out _ ((Below.refl _ _).alloc (Nat.le_refl _) _) _ ⟨_, _, rfl, .inr ⟨w.heap.size, 0, rfl, by simp, by simp, fun i hi => by obtain rfl : i = 0 := (by omega); simp [go_sem]⟩⟩).mono ?_
 rintro e w3 ⟨q, rfl, hq2, b3⟩
 rw [hq] at hq2
 have e2 : decide (ks = [9]) = q := by rw [Bool.eq_iff_iff, decide_eq_true_iff]; exact hq2.symm
 go_wp2
 go_ret
 exact ⟨by rw [e2]; rfl, zat b3⟩
set_option maxHeartbeats 1000000 in
theorem ztp (a : Option Addr) (c : Nat) (ks : List Int) (B : Nat) (w : World) (hI : IR B w (.slice a ks.length c) ks) (hn : ks.length <= 1048576) :
 Calls Tryz.prog 22 #[.int .i64 6, .slice a ks.length c] w fun e w' => e = .returned (.bool (zx 6 ks)) /\ Below w.heap.size w w' := by
 have hn' : (ks.length : Int) <= 1048576 := by omega
 by_cases h0 : ks = []
 · subst h0
   rw [zvm]
   clear hI
   go_enter Tryz.func22, Tryz.ntmps22
   go_wp2
   go_ret
   exact ⟨rfl, Below.refl _ _⟩
 obtain ⟨init, k, rfl⟩ : ∃ init k, ks = init ++ [k] := ⟨ks.dropLast, ks.getLast h0, (List.dropLast_concat_getLast _).symm⟩
 rw [zvx]
 have hl1 : (init ++ [k]).length = init.length + 1 := by simp
 obtain ⟨g, rfl, hc1, hc2⟩ := hI.cap (by rw [hl1]; omega)
 have hs := hI.sl
 obtain ⟨hs2, y0⟩ := hs.init hl1
 rw [Nat.zero_add] at y0
 have HA : Hid (Calls _ _ _ _ _) := zmc _ c init _ w hs2 (by omega)
 rw [hl1] at hn' hc1 ⊢
 have hc3 : ((init.length + 1 : Nat) : Int) <= (c : Int) := by omega
 have hc4 : (c : Int) <= 9223372036854775807 := by simp [maxLen] at hc2; omega
 have hq1 : (init.length : Int) <= (c : Int) := by omega
 clear hI hs hs2 h0
 cases hk : blB k with
 | false =>
   go_enter Tryz.func22, Tryz.ntmps22
   go_wp2_with (go_at_call 19; refine (zcx _ _).mono ?_; rw [hk]; rintro e w3 ⟨rfl, hw3⟩; rw [hw3]; clear hw3 w3)
   go_ret
   exact ⟨rfl, Below.refl _ _⟩
 | true =>
   go_enter Tryz.func22, Tryz.ntmps22
   go_wp2_with (first | (go_at_call 19; refine (zcx _ _).mono ?_; rw [hk]; rintro e w3 ⟨rfl, hw3⟩; rw [hw3]; clear hw3 w3) | (go_at_call 42; refine HA.out.mono ?_; rintro e w3 ⟨rfl, hw3⟩; rw [hw3]; clear hw3 w3))
   go_ret
   exact ⟨rfl, Below.refl _ _⟩
set_option maxHeartbeats 1000000 in
theorem ztq (k : Int) (a : Option Addr) (c : Nat) (ks : List Int) (w : World) (hk : ¬ (1 <= k /\ k <= 24)) :
 Calls Tryz.prog 22 #[.int .i64 k, .slice a ks.length c] w fun e w' => e = .returned (.bool (zx k ks)) /\ Below w.heap.size w w' := by
 rw [zvy k ks hk]
 have q1 : (k == 1) = false := beq_eq_false_iff_ne.2 (by omega)
 have q2 : (k == 2) = false := beq_eq_false_iff_ne.2 (by omega)
 have q3 : (k == 3) = false := beq_eq_false_iff_ne.2 (by omega)
 have q4 : (k == 4) = false := beq_eq_false_iff_ne.2 (by omega)
 have q5 : (k == 5) = false := beq_eq_false_iff_ne.2 (by omega)
 have q6 : (k == 6) = false := beq_eq_false_iff_ne.2 (by omega)
 have q7 : (k == 7) = false := beq_eq_false_iff_ne.2 (by omega)
 have q8 : (k == 8) = false := beq_eq_false_iff_ne.2 (by omega)
 have q9 : (k == 9) = false := beq_eq_false_iff_ne.2 (by omega)
 have q10 : (k == 10) = false := beq_eq_false_iff_ne.2 (by omega)
 have q11 : (k == 11) = false := beq_eq_false_iff_ne.2 (by omega)
 have q12 : (k == 12) = false := beq_eq_false_iff_ne.2 (by omega)
 have q13 : (k == 13) = false := beq_eq_false_iff_ne.2 (by omega)
 have q14 : (k == 14) = false := beq_eq_false_iff_ne.2 (by omega)
 have q15 : (k == 15) = false := beq_eq_false_iff_ne.2 (by omega)
 have q16 : (k == 16) = false := beq_eq_false_iff_ne.2 (by omega)
 have q17 : (k == 17) = false := beq_eq_false_iff_ne.2 (by omega)
 have q18 : (k == 18) = false := beq_eq_false_iff_ne.2 (by omega)
 have q19 : (k == 19) = false := beq_eq_false_iff_ne.2 (by omega)
 have q20 : (k == 20) = false := beq_eq_false_iff_ne.2 (by omega)
 have q21 : (k == 21) = false := beq_eq_false_iff_ne.2 (by omega)
 have q22 : (k == 22) = false := beq_eq_false_iff_ne.2 (by omega)
 have q23 : (k == 23) = false := beq_eq_false_iff_ne.2 (by omega)
 have q24 : (k == 24) = false := beq_eq_false_iff_ne.2 (by omega)
 clear hk
 go_enter Tryz.func22, Tryz.ntmps22
 go_wp2
 go_ret
 exact ⟨rfl, Below.refl _ _⟩
theorem zpt (k : Int) (a : Option Addr) (c : Nat) (ks : List Int) (B : Nat) (w : World) (hI : IR B w (.slice a ks.length c) ks) (hn : ks.length <= 1048576) :
 Calls Tryz.prog 22 #[.int .i64 k, .slice a ks.length c] w fun e w' => e = .returned (.bool (zx k ks)) /\ Below w.heap.size w w' := by
 by_cases hk : 1 <= k /\ k <= 24
 · obtain ⟨n, rfl⟩ : ∃ n : Nat, k = n := ⟨k.toNat, by omega⟩
   have h1 : n < 25 := by omega
   have h2 : 0 < n := by omega
   match n, h1, h2 with
   | 1, _, _ => exact zth a c ks B w hI hn
   | 2, _, _ => exact zti a c ks B w hI hn
   | 3, _, _ => exact ztj a c ks B w hI hn
   | 4, _, _ => exact ztk a c ks B w hI hn
   | 5, _, _ => exact ztl a c ks B w hI hn
   | 6, _, _ => exact ztp a c ks B w hI hn
   | 7, _, _ => exact ztn a c ks B w hI hn
   | 8, _, _ => exact ztm a c ks B w hI hn
   | 9, _, _ => exact zto a c ks B w hI hn
   | 10, _, _ => exact zq4 a c ks B w hI hn
   | 11, _, _ => exact zqz a c ks B w hI hn
   | 12, _, _ => exact zq5 a c ks B w hI hn
   | 13, _, _ => exact zq6 a c ks B w hI hn
   | 14, _, _ => exact zq0 a c ks B w hI hn
   | 15, _, _ => exact zq1 a c ks B w hI hn
   | 16, _, _ => exact zq8 a c ks B w hI hn
   | 17, _, _ => exact zrb a c ks B w hI hn
   | 18, _, _ => exact zra a c ks B w hI hn
   | 19, _, _ => exact zq2 a c ks B w hI hn
   | 20, _, _ => exact zrc a c ks B w hI hn
   | 21, _, _ => exact zq9 a c ks B w hI hn
   | 22, _, _ => exact zqy a c ks B w hI hn
   | 23, _, _ => exact zq3 a c ks B w hI hn
   | 24, _, _ => exact zq7 a c ks B w hI hn
 · exact ztq k a c ks w hk
section
variable {X : Nat -> KnD}
theorem zqx {left : List Int} {j : Nat} (h : chn X 0 left j) (hn : zch X j) : ∃ pre, left = pre ++ zay X j := by
 obtain ⟨pre, e, _⟩ := zg4 X _ rfl h hn (Nat.zero_le _)
 exact ⟨pre, e⟩
theorem zuu {pre : List Int} {j : Nat} (h : chn X 0 (pre ++ zay X j) j) : zch X j /\ chn X 0 (pre ++ [(j : Int)]) (j + 1) := by
 obtain ⟨p, h1, h2⟩ := (zdw X).1 h
 have hs := zhu X h2
 refine ⟨?_, (zdw X).2 ⟨p, h1, (zff X).2 ⟨by omega, by rw [Int.toNat_natCast]; exact hs, by rw [Int.toNat_natCast]⟩⟩⟩
 unfold zch
 rw [hs]
 exact h2
theorem ztb {left : List Int} {L : Nat} {top : Int} (h : chn X 0 left L) (hn : ∀ j, j < L -> zch X j) : NUM X L top ↔ left = [top] := by
 constructor
 · rintro ⟨_, h2⟩
   obtain ⟨pre, e, h3⟩ := zg4 X 1 rfl h h2 (Nat.le_refl _)
   cases pre with
   | nil => simpa using e
   | cons k ks =>
     have := zfe X h3.2.2
     omega
 · rintro rfl
   exact ⟨hn, h⟩
end
theorem ztc {left : List Int} {X : Nat -> KnD} {j f : Nat} (hl : left.length = f + (X j).len) : IEq (X j).len (X j).len (fun i => left.getD (f + i) 0) (X j).y ↔ left.drop f = zay X j := by
 constructor
 · rintro ⟨_, h⟩
   apply List.ext_getElem
   · rw [zde, List.length_drop]; omega
   · intro i h1 h2
     rw [zde] at h2
     have := h i h2
     simp only at this
     rw [zfs, List.getElem_drop, <- this, List.getD_eq_getElem?_getD, List.getElem?_eq_getElem (by omega)]
     rfl
 · intro h
   refine ⟨rfl, fun i hi => ?_⟩
   have h2 : i < (zay X j).length := by rw [zde]; exact hi
   have h3 := zfs X h2
   have h4 : f + i < left.length := by omega
   have h5 : i < (left.drop f).length := by rw [List.length_drop]; omega
   have h6 : (left.drop f)[i] = (zay X j)[i] := by simp only [h]
   rw [List.getElem_drop] at h6
   show left.getD (f + i) 0 = (X j).y i
   rw [List.getD_eq_getElem?_getD, List.getElem?_eq_getElem h4]
   show left[f + i] = _
   rw [h6, h3]
theorem zuv {left : List Int} {top : Int} : IEq left.length 1 (fun i => left.getD i 0) (fun i => ([top] : List Int).getD i 0) ↔ left = [top] := by
 constructor
 · rintro ⟨h1, h2⟩
   match left, h1 with
   | [x], _ =>
     have h3 := h2 0 Nat.one_pos
     have h4 : x = top := h3
     rw [h4]
 · rintro rfl
   exact ⟨rfl, fun i _ => rfl⟩
theorem SlF.suffix {T : Nat} {w : World} {b c n f l : Nat} {xs : List Int} (h : SlF T w (.slice (some ⟨b, 0, none⟩) n c) n n (fun i => .int .i64 (xs.getD i 0))) (hn : n = f + l) (c' : Nat) : SlF T w (.slice (some ⟨b, f, none⟩) l c') l l (fun i => .int .i64 (xs.getD (f + i) 0)) := by
 by_cases h0 : l = 0
 · exact ⟨_, _, rfl, .inl h0⟩
 obtain ⟨b', off', c', hv, h1, h2, h3⟩ := h.parts (k := 0) (by omega)
 simp only [Value.slice.injEq, Option.some.injEq, Addr.mk.injEq] at hv
 obtain ⟨⟨rfl, rfl, _⟩, _, rfl⟩ := hv
 refine ⟨_, _, rfl, .inr ⟨b, f, rfl, h1, h2, fun i hi => ?_⟩⟩
 have := h3 (f + i) (by omega)
 rw [Nat.zero_add] at this
 exact this
set_option maxHeartbeats 4000000 in
theorem zjq (a : Option Addr) (c L : Nat) (top : Int) (X : Nat -> KnD) (T : Nat) (w : World) (hs : KnF T w (.slice a L c) L X) (hT : T <= w.heap.size) (hL : L <= 3000) (hX : ∀ j, j < L -> (X j).len <= 1048576) :
 Calls Tryz.prog 18 #[.agg #[.slice a L c, .int .i64 top]] w fun e w' => ∃ q, e = .returned (.bool q) /\ (q = true ↔ NUM X L top) /\ Below w.heap.size w w' := by
 have hL1 : (L : Int) <= 3000 := by omega
 obtain ⟨i0, hi, hz0, hz1, hz2⟩ := info_parts zb6
 have HS : Hid (KnF T w (.slice a L c) L X) := hs
 have HX : Hid (∀ j, j < L -> (X j).len <= 1048576) := hX
 clear hs hX
 obtain ⟨W0, hW0⟩ : ∃ V, V = w.alloc (.cells #[.slice a L c, .int .i64 top] 27) := ⟨_, rfl⟩
 have z0 : W0.heap.size = w.heap.size + 1 := by rw [hW0]; simp
 have B0 : Hid (Below w.heap.size w W0) := by rw [hW0]; exact (Below.refl _ _).alloc (Nat.le_refl _) _
 have t0 : W0.cell? ⟨w.heap.size, 1, none⟩ = some (.int .i64 top) := by rw [hW0]; simp [go_sem]
 go_enter Tryz.func18, Tryz.ntmps18
 go_wp2
 rw [<- hW0]
 clear hW0
 go_loopw [3, 10] (fun v q wr => ∃ (j : Nat) (left : List Int) (a' : Option Addr) (c' : Nat), j <= L /\ q = .int .i64 j /\ v = .slice a' left.length c' /\ left.length <= j /\ Hid (IR (w.heap.size + 1) wr (.slice a' left.length c') left) /\ Hid (chn X 0 left j) /\ Hid (∀ i, i < j -> zch X i) /\ Hid (Below (w.heap.size + 1) W0 wr)) (fun _ q _ => L - (intOf q).toNat)
 case atStart => exact ⟨0, [], none, 0, Nat.zero_le _, rfl, rfl, Nat.le_refl _, IR.nil _ _, rfl, (fun i hi => absurd hi (Nat.not_lt_zero _)), Below.refl _ _⟩
 case round =>
  obtain ⟨j, left, a', c', hj, rfl, rfl, hlj, hI, hC, hN, hB1⟩ := hrel
  have hB : Hid (Below w.heap.size w wr) := B0.out.trans (hB1.out.mono (by omega))
  have hz : w.heap.size + 1 <= wr.heap.size := by have := hB1.out.size; omega
  have ht : wr.cell? ⟨w.heap.size, 1, none⟩ = some (.int .i64 top) := by rw [hB1.out.cell (p := ⟨w.heap.size, 1, none⟩) (by dsimp only; omega)]; exact t0
  have hlj' : (left.length : Int) <= 3000 := by omega
  by_cases hlt : j < L
  · have hlt' : (j : Int) < (L : Int) := by omega
    obtain ⟨b, off, rfl, lb, lz, hkc⟩ := HS.out.at_ hlt
    obtain ⟨ax, cx, c0, c1, c2, c3, sx⟩ := (hkc j hlt).below hB.out hT lb
    have hxl := HX.out j hlt
    have HNB : Hid (zch X j -> ∃ pre, left = pre ++ zay X j) := zqx hC.out
    have HKL := zde X j
    have HDE : Hid (∀ f, left.length = f + (X j).len -> (IEq (X j).len (X j).len (fun i => left.getD (f + i) 0) (X j).y ↔ left.drop f = zay X j)) := fun f hf => ztc hf
    obtain ⟨x, hx⟩ : ∃ x, X j = x := ⟨_, rfl⟩
    rw [hx] at c0 c1 c2 c3 sx hxl HKL HDE
    clear hx
    obtain ⟨k, t, ii, l, y⟩ := x
    simp only at c0 c1 c2 c3 sx hxl HKL HDE
    have SX : Hid (SlF T wr (.slice ax l cx) l l (fun i => .int .i64 (y i))) := sx
    have lb2 : b < wr.heap.size := by have := hB.out.size; omega
    have hxl' : (l : Int) <= 1048576 := by omega
    clear hkc sx
    by_cases hf : left.length < l
    · have hf' : (left.length : Int) - (l : Int) < 0 := by omega
      have HQ : Hid (¬ NUM X L top) := fun h => by
       obtain ⟨pre, e⟩ := HNB.out (h.1 j hlt)
       have := congrArg List.length e
       rw [List.length_append, HKL] at this
       omega
      go_wp2_with fail
      go_quiet (fail)
      go_wp2
      go_ret
      exact ⟨false, rfl, ⟨fun h => (by cases h), fun h => absurd h HQ.out⟩, below_drewN ((hB.out).alloc (by omega) _) _⟩
    · obtain ⟨f, hfl⟩ : ∃ f, left.length = f + l := ⟨left.length - l, by omega⟩
      have hf' : ¬ (left.length : Int) - (l : Int) < 0 := by omega
      have hfe : (left.length : Int) - (l : Int) = (f : Int) := by omega
      have HYES : Hid (left.drop f = zay X j -> zch X j /\ chn X 0 (left.take f ++ [(j : Int)]) (j + 1)) := fun e => zuu (by rw [<- e, List.take_append_drop]; exact hC.out)
      have HNO : Hid (left.drop f ≠ zay X j -> ¬ NUM X L top) := fun hne h => by
       obtain ⟨pre, e⟩ := HNB.out (h.1 j hlt)
       apply hne
       have h1 := congrArg List.length e
       rw [List.length_append, HKL] at h1
       have h2 : pre.length = f := by omega
       rw [e, <- h2, List.drop_left]
      have HD := HDE.out f hfl
      have HDD : Hid (IEq l l (fun i => left.getD (f + i) 0) y ↔ left.drop f = zay X j) := HD
      have hft : f <= left.length := by omega
      have hf0 : ¬ (f : Int) < 0 := by omega
      have hdec : Hid (decide ((f : Int) < 0) = false) := decide_eq_false hf0
      clear hf0
      have htl : (left.take f).length = f := by rw [List.length_take]; omega
      have BW : Below w.heap.size w (wr.alloc (.cells #[.int .i64 k, .string t, .int .i64 ii, .slice ax l cx] 34)) := hB.out.alloc (by omega) _
      have SX2 : Hid (SlF wr.heap.size wr (.slice ax l cx) l l (fun i => .int .i64 (y i))) := SX.out.here
      have ISL := hI.out.sl
      have hfl2 : left.length - f = l := by omega
      clear HD HDE HNB hC
      by_cases hcap : ∃ g, a' = some ⟨g, 0, none⟩
      · obtain ⟨g, rfl⟩ := hcap
        have hcc : left.length <= c' /\ c' <= maxLen /\ g < wr.heap.size := by
         obtain ⟨h1, ⟨hv, h2⟩ | ⟨g', cap, cur, hv, hg, hc, hn, hcap, r⟩⟩ := hI.out
         · simp at hv
         · simp only [Value.slice.injEq, Option.some.injEq, Addr.mk.injEq] at hv
           obtain ⟨⟨rfl, _⟩, _, rfl⟩ := hv
           exact ⟨hn, hcap, (Array.getElem?_eq_some_iff.1 hc).1⟩
        have hc3 : (left.length : Int) <= (c' : Int) := by omega
        have hc4 : (c' : Int) <= 9223372036854775807 := by have := hcc.2.1; simp [maxLen] at this; omega
        have hfc : (f : Int) <= (c' : Int) := by omega
        have hfl3 : (f : Int) <= (left.length : Int) := by omega
        have SF : Hid (∀ ad cc, (l ≠ 0 -> ad = some ⟨g, f, none⟩) -> SlF wr.heap.size wr (.slice ad l cc) l l (fun i => .int .i64 (left.getD (f + i) 0))) := fun ad cc had => by
         by_cases h0 : l = 0
         · exact ⟨_, _, rfl, .inl h0⟩
         · rw [had h0]
           exact ISL.suffix hfl cc
        have hne : l ≠ 0 -> ¬ c' = f := by have := hcc.1; omega
        clear ISL hcc
        have HEQ : Hid (∀ (V : World) (ad : Option Addr) (cc : Nat), Below wr.heap.size wr V -> (l ≠ 0 -> ad = some ⟨g, f, none⟩) -> _) := fun V ad cc hV had => zec ad ax l cc l cx (fun i => left.getD (f + i) 0) y wr.heap.size wr.heap.size V ((SF.out ad cc had).below hV (Nat.le_refl _)) (SX2.out.below hV (Nat.le_refl _)) hxl hxl
        have HBW : Hid (∀ A : Obj, Below wr.heap.size wr (wr.alloc A).drew) := fun A => ((Below.refl _ _).alloc (Nat.le_refl _) _).drew
        by_cases hcf : c' = f
        · skip
          go_wp2_with fail
          go_region_with (go_at_call 39; refine (HEQ.out _ _ _ (HBW.out _) (by first | (intro _; rfl) | (intro h; exact absurd hcf (hne h)))).mono ?_; rintro e w6 ⟨q, rfl, hq, b6'⟩; have b6 : Below wr.heap.size wr w6 := (HBW.out _).trans (b6'.mono (by first | (simp; done) | (simp; omega))); clear b6')
          all_goals
           have B6 : Below (w.heap.size + 1) W0 w6 := hB1.out.trans (b6.mono hz)
           have I6 : IR (w.heap.size + 1) w6 (.slice (some ⟨g, 0, none⟩) left.length c') left := hI.out.below b6
           cases q with
           | false =>
             have HQ : Hid (¬ NUM X L top) := HNO.out (fun h => by have := hq.2 (HDD.out.2 h); cases this)
             have BB : Hid (Below w.heap.size w w6) := B0.out.trans (B6.mono (by omega))
             clear hq b6 B6 I6
             try simp only [hdec.out, Bool.false_or, Bool.not_false, Bool.not_true]
             go_wp2
             go_ret
             exact ⟨false, rfl, ⟨fun h => (by cases h), fun h => absurd h HQ.out⟩, BB.out⟩
           | true =>
             obtain ⟨n1, n2⟩ := HYES.out (HDD.out.1 (hq.1 rfl))
             have IT : Hid (IR (w.heap.size + 1) w6 (.slice (some ⟨g, 0, none⟩) f f) (left.take f)) := (by have h8 := I6.take hft; rw [hcf] at h8; exact h8)
             have B7 : Hid (Below (w.heap.size + 1) W0 w6) := B6
             have z6 : w.heap.size + 1 <= w6.heap.size := Nat.le_trans hz b6.size
             have N1 : Hid (∀ i, i < j + 1 -> zch X i) := fun i hi => if e : i = j then e ▸ n1 else hN.out i (by omega)
             have N2 : Hid (chn X 0 (left.take f ++ [(j : Int)]) (j + 1)) := n2
             clear hq b6 B6 I6 n1 n2
             try simp only [hdec.out, Bool.false_or, Bool.not_false, Bool.not_true]
             go_wp2_with (at_builtin; refine wpList_append_own _ rfl _ _ 32 rfl (w.heap.size + 1) 3 i0 (.int .i64 0) 1 8 Tryz.underlying32 hi hz0 hz1 hz2 rfl (by decide) _ f (icl (left.take f)) rfl (by have h9 := IT.out.alloc (.cells #[.int .i64 (j : Int)] 3); unfold IR at h9; rw [htl] at h9; exact h9) ⟨_, 0, none⟩ 1 1 [.int .i64 (j : Int)] rfl rfl (cell_one_new _ _ _) (ints_oneCell .i64 [(j : Int)]) (by unfold maxLen; omega) (by omega) (by simp; omega) ?_)
             intro v' w8 hown' hgrow _
             have R := IR.step (x := (j : Int)) z6 IT.out B7.out (by rw [htl]; exact hown') hgrow
             have R1 : Hid (IR (w.heap.size + 1) w8 v' (left.take f ++ [(j : Int)])) := R.1
             have R2 : Hid (Below (w.heap.size + 1) W0 w8) := R.2
             have hl8 : (left.take f ++ [(j : Int)]).length = f + 1 := by rw [List.length_append, htl]; rfl
             obtain ⟨a8, c8, hv⟩ := R1.out.form
             subst hv
             clear hown' hgrow R IT B7
             go_wp2
             go_roundw
             case rel => exact ⟨j + 1, _, a8, c8, by omega, by go_num, rfl, by rw [hl8]; omega, R1, N2, N1, R2⟩
             case measure => simp [intOf]; omega
        · skip
          go_wp2_with fail
          go_region_with (go_at_call 39; refine (HEQ.out _ _ _ (HBW.out _) (by first | (intro _; rfl) | (intro h; exact absurd h (by omega)))).mono ?_; rintro e w6 ⟨q, rfl, hq, b6'⟩; have b6 : Below wr.heap.size wr w6 := (HBW.out _).trans (b6'.mono (by first | (simp; done) | (simp; omega))); clear b6')
          all_goals
           have B6 : Below (w.heap.size + 1) W0 w6 := hB1.out.trans (b6.mono hz)
           have I6 : IR (w.heap.size + 1) w6 (.slice (some ⟨g, 0, none⟩) left.length c') left := hI.out.below b6
           cases q with
           | false =>
             have HQ : Hid (¬ NUM X L top) := HNO.out (fun h => by have := hq.2 (HDD.out.2 h); cases this)
             have BB : Hid (Below w.heap.size w w6) := B0.out.trans (B6.mono (by omega))
             clear hq b6 B6 I6
             try simp only [hdec.out, Bool.false_or, Bool.not_false, Bool.not_true]
             go_wp2
             go_ret
             exact ⟨false, rfl, ⟨fun h => (by cases h), fun h => absurd h HQ.out⟩, BB.out⟩
           | true =>
             obtain ⟨n1, n2⟩ := HYES.out (HDD.out.1 (hq.1 rfl))
             have IT : Hid (IR (w.heap.size + 1) w6 (.slice (some ⟨g, 0, none⟩) f c') (left.take f)) := I6.take hft
             have B7 : Hid (Below (w.heap.size + 1) W0 w6) := B6
             have z6 : w.heap.size + 1 <= w6.heap.size := Nat.le_trans hz b6.size
             have N1 : Hid (∀ i, i < j + 1 -> zch X i) := fun i hi => if e : i = j then e ▸ n1 else hN.out i (by omega)
             have N2 : Hid (chn X 0 (left.take f ++ [(j : Int)]) (j + 1)) := n2
             clear hq b6 B6 I6 n1 n2
             try simp only [hdec.out, Bool.false_or, Bool.not_false, Bool.not_true]
             go_wp2_with (at_builtin; refine wpList_append_own _ rfl _ _ 32 rfl (w.heap.size + 1) 3 i0 (.int .i64 0) 1 8 Tryz.underlying32 hi hz0 hz1 hz2 rfl (by decide) _ f (icl (left.take f)) rfl (by have h9 := IT.out.alloc (.cells #[.int .i64 (j : Int)] 3); unfold IR at h9; rw [htl] at h9; exact h9) ⟨_, 0, none⟩ 1 1 [.int .i64 (j : Int)] rfl rfl (cell_one_new _ _ _) (ints_oneCell .i64 [(j : Int)]) (by unfold maxLen; omega) (by omega) (by simp; omega) ?_)
             intro v' w8 hown' hgrow _
             have R := IR.step (x := (j : Int)) z6 IT.out B7.out (by rw [htl]; exact hown') hgrow
             have R1 : Hid (IR (w.heap.size + 1) w8 v' (left.take f ++ [(j : Int)])) := R.1
             have R2 : Hid (Below (w.heap.size + 1) W0 w8) := R.2
             have hl8 : (left.take f ++ [(j : Int)]).length = f + 1 := by rw [List.length_append, htl]; rfl
             obtain ⟨a8, c8, hv⟩ := R1.out.form
             subst hv
             clear hown' hgrow R IT B7
             go_wp2
             go_roundw
             case rel => exact ⟨j + 1, _, a8, c8, by omega, by go_num, rfl, by rw [hl8]; omega, R1, N2, N1, R2⟩
             case measure => simp [intOf]; omega
      · have ha : a' = none /\ left = [] /\ c' = 0 := by
         obtain ⟨h1, ⟨hv, h2⟩ | ⟨g', cap, cur, hv, hg, hc, hn, hcap2, r⟩⟩ := hI.out
         · simp only [Value.slice.injEq] at hv
           exact ⟨hv.1, List.eq_nil_of_length_eq_zero h2, hv.2.2⟩
         · simp only [Value.slice.injEq] at hv
           exact absurd ⟨g', hv.1⟩ hcap
        obtain ⟨rfl, rfl, rfl⟩ := ha
        obtain rfl : f = 0 := by simp at hfl; omega
        obtain rfl : l = 0 := by simp at hfl; omega
        have HEQ : Hid (∀ (V : World) (ad : Option Addr) (cc : Nat), Below wr.heap.size wr V -> _) := fun V ad cc hV => zec ad ax 0 cc 0 cx (fun i => ([] : List Int).getD (0 + i) 0) y wr.heap.size wr.heap.size V ⟨_, _, rfl, .inl rfl⟩ (SX2.out.below hV (Nat.le_refl _)) (by omega) (by omega)
        have HBW : Hid (∀ A : Obj, Below wr.heap.size wr (wr.alloc A).drew) := fun A => ((Below.refl _ _).alloc (Nat.le_refl _) _).drew
        clear hcap ISL
        go_wp2_with fail
        go_region_with (go_at_call 39; refine (HEQ.out _ _ _ (HBW.out _)).mono ?_; rintro e w6 ⟨q, rfl, hq, b6'⟩; have b6 : Below wr.heap.size wr w6 := (HBW.out _).trans (b6'.mono (by first | (simp; done) | (simp; omega))); clear b6')
        all_goals
         have B6 : Below (w.heap.size + 1) W0 w6 := hB1.out.trans (b6.mono hz)
         have I6 : IR (w.heap.size + 1) w6 (.slice none 0 0) [] := hI.out.below b6
         cases q with
         | false =>
           have HQ : Hid (¬ NUM X L top) := HNO.out (fun h => by have := hq.2 (HDD.out.2 h); cases this)
           have BB : Hid (Below w.heap.size w w6) := B0.out.trans (B6.mono (by omega))
           clear hq b6 B6 I6
           try simp only [hdec.out, Bool.false_or, Bool.not_false, Bool.not_true]
           go_wp2
           go_ret
           exact ⟨false, rfl, ⟨fun h => (by cases h), fun h => absurd h HQ.out⟩, BB.out⟩
         | true =>
           obtain ⟨n1, n2⟩ := HYES.out (HDD.out.1 (hq.1 rfl))
           have IT : Hid (IR (w.heap.size + 1) w6 (.slice none 0 0) (([] : List Int))) := I6
           have B7 : Hid (Below (w.heap.size + 1) W0 w6) := B6
           have z6 : w.heap.size + 1 <= w6.heap.size := Nat.le_trans hz b6.size
           have N1 : Hid (∀ i, i < j + 1 -> zch X i) := fun i hi => if e : i = j then e ▸ n1 else hN.out i (by omega)
           have N2 : Hid (chn X 0 (([] : List Int) ++ [(j : Int)]) (j + 1)) := n2
           clear hq b6 B6 I6 n1 n2
           try simp only [hdec.out, Bool.false_or, Bool.not_false, Bool.not_true]
           go_wp2_with (at_builtin; refine wpList_append_own _ rfl _ _ 32 rfl (w.heap.size + 1) 3 i0 (.int .i64 0) 1 8 Tryz.underlying32 hi hz0 hz1 hz2 rfl (by decide) _ 0 (icl (([] : List Int))) rfl (by have h9 := IT.out.alloc (.cells #[.int .i64 (j : Int)] 3); exact h9) ⟨_, 0, none⟩ 1 1 [.int .i64 (j : Int)] rfl rfl (cell_one_new _ _ _) (ints_oneCell .i64 [(j : Int)]) (by unfold maxLen; omega) (by omega) (by simp; omega) ?_)
           intro v' w8 hown' hgrow _
           have R := IR.step (x := (j : Int)) z6 IT.out B7.out hown' hgrow
           have R1 : Hid (IR (w.heap.size + 1) w8 v' (([] : List Int) ++ [(j : Int)])) := R.1
           have R2 : Hid (Below (w.heap.size + 1) W0 w8) := R.2
           have hl8 : (([] : List Int) ++ [(j : Int)]).length = 0 + 1 := rfl
           obtain ⟨a8, c8, hv⟩ := R1.out.form
           subst hv
           clear hown' hgrow R IT B7
           go_wp2
           go_roundw
           case rel => exact ⟨j + 1, _, a8, c8, by omega, by go_num, rfl, by rw [hl8]; omega, R1, N2, N1, R2⟩
           case measure => simp [intOf]; omega
  · have hge : ¬ (j : Int) < (L : Int) := by omega
    obtain rfl : j = L := by omega
    have HE : Hid (NUM X j top ↔ left = [top]) := ztb hC.out hN.out
    clear hC hN
    go_wp2_with fail
    refine (zec a' (some ⟨wr.heap.size, 0, none⟩) left.length c' 1 1 (fun i => left.getD i 0) (fun i => ([top] : List Int).getD i 0) (wr.alloc (.cells #[.int .i64 top] 3)).heap.size (wr.alloc (.cells #[.int .i64 top] 3)).heap.size (wr.alloc (.cells #[.int .i64 top] 3)) ((hI.out.alloc _).sl) ⟨_, _, rfl, .inr ⟨wr.heap.size, 0, rfl, by simp, by simp, fun i hi => by obtain rfl : i = 0 := (by omega); simp [go_sem]⟩⟩ (by omega) (by omega)).mono ?_
    rintro e w3 ⟨q, rfl, hq, b3⟩
    rw [zuv] at hq
    have B3 : Hid (Below w.heap.size w w3) := hB.out.trans (zat b3 |>.mono (by omega))
    have HQ : Hid (q = true ↔ NUM X j top) := hq.trans HE.out.symm
    clear hq b3
    go_wp2
    go_ret
    exact ⟨_, rfl, HQ.out, B3.out⟩
def zut (X : Nat -> KnD) (L : Nat) (top : Int) (w : World) (e : Ending) (w' : World) : Prop := ∃ q, e = .returned (.bool q) /\ (q = true ↔ TOK X L top) /\ Below w.heap.size w w'
theorem zgo {X : Nat -> KnD} (i : Nat) : (zas X i).length = (X i).len := by simp [zas, zay]
theorem zn3 {X : Nat -> KnD} {i m : Nat} (hm : m < (X i).len) : (zas X i).take (m + 1) = (zas X i).take m ++ [(X ((X i).y m).toNat).k] := by
 have hl : m < (zas X i).length := by rw [zgo]; exact hm
 rw [List.take_succ_eq_append_getElem hl]
 simp [zas, zay]
set_option maxHeartbeats 4000000 in
theorem zjp (a : Option Addr) (c L : Nat) (top : Int) (X : Nat -> KnD) (T : Nat) (w : World) (hs : KnF T w (.slice a L c) L X) (hT : T <= w.heap.size) (hL : L <= 1048576) (hX : ∀ j, j < L -> (X j).len <= 1048576 /\ (X j).t.size <= 1048576) :
 Calls Tryz.prog 8 #[.agg #[.slice a L c, .int .i64 top]] w (zut X L top w) := by
 have hL1 : (L : Int) <= 1048576 := by omega
 by_cases h3 : 3000 < L
 · have h3' : (3000 : Int) < (L : Int) := by omega
   have HN : Hid (¬ TOK X L top) := fun h => by have := h.1; omega
   clear hs hX
   go_enter Tryz.func8, Tryz.ntmps8
   go_wp2
   go_ret
   exact ⟨false, rfl, ⟨fun h => (by cases h), fun h => absurd h HN.out⟩, (Below.refl _ _).alloc (Nat.le_refl _) _⟩
 have h3' : ¬ (3000 : Int) < (L : Int) := by omega
 have HT := zmx X L top
 have HNU : Hid (∀ W : World, Below w.heap.size w W -> _) := fun W (hW : Below w.heap.size w W) => zjq a c L top X T W (hs.below hW hT) (Nat.le_trans hT hW.size) (by omega) (fun j hj => (hX j hj).1)
 have BA : Below w.heap.size w (w.alloc (.cells #[.slice a L c, .int .i64 top] 27)) := (Below.refl _ _).alloc (Nat.le_refl _) _
 by_cases hnum : NUM X L top
 rotate_left
 · have HN : Hid (¬ TOK X L top) := fun h => hnum (HT.1 h).2.1
   have HNN : Hid (¬ NUM X L top) := hnum
   clear hs hX HT hnum
   go_enter Tryz.func8, Tryz.ntmps8
   go_wp2_with (go_at_call 18; refine (HNU.out _ BA).mono ?_; rintro e w1 ⟨q, rfl, hq, b1⟩; obtain rfl : q = false := (by cases q with | false => rfl | true => exact absurd (hq.1 rfl) HNN.out); clear hq)
   go_ret
   exact ⟨false, rfl, ⟨fun h => (by cases h), fun h => absurd h HN.out⟩, zat b1⟩
 obtain ⟨p, hp1, hp2⟩ : ∃ p : Nat, top = p /\ p + 1 = L := ⟨top.toNat, by have := hnum.2.1; omega, hnum.2.2.2⟩
 subst hp1
 have hpL : p < L := by omega
 have hpL' : (p : Int) < (L : Int) := by omega
 obtain ⟨b, off, rfl, lb, lz, hkc⟩ := hs.at_ hpL
 have HNN : Hid (NUM X L p) := hnum
 have HS : Hid (KnF T w (.slice (some ⟨b, off, none⟩) L c) L X) := hs
 have HX : Hid (∀ j, j < L -> (X j).len <= 1048576 /\ (X j).t.size <= 1048576) := hX
 have HTT : Hid (TOK X L p ↔ (X p).k = 21 /\ ∀ j, j < L -> za3 (X j).k (X j).t = true /\ zb1 (X j).k (X j).i = true /\ zx (X j).k (zas X j) = true) := by
  show _ ↔ _
  rw [HT]
  rw [Int.toNat_natCast]
  exact ⟨fun h => h.2.2, fun h => ⟨by omega, hnum, h⟩⟩
 obtain ⟨W0, hW0⟩ : ∃ V, V = w.alloc (.cells #[.slice (some ⟨b, off, none⟩) L c, .int .i64 (p : Int)] 27) := ⟨_, rfl⟩
 have z0 : W0.heap.size = w.heap.size + 1 := by rw [hW0]; simp
 have B0 : Hid (Below w.heap.size w W0) := by rw [hW0]; exact BA
 have T0 : ∀ z, W0.cell? ⟨w.heap.size, z, none⟩ = (#[.slice (some ⟨b, off, none⟩) L c, .int .i64 (p : Int)] : Array Value)[z]? := fun z => by rw [hW0]; simp [go_sem]
 rw [<- hW0] at BA
 clear hs hX HT hnum hkc
 go_enter Tryz.func8, Tryz.ntmps8
 go_wp2_with fail
 rw [<- hW0]
 refine (HNU.out _ BA).mono ?_
 rintro e w1 ⟨q, rfl, hq, b1⟩
 obtain rfl : q = true := hq.2 HNN.out
 have B1 : Below (w.heap.size + 1) W0 w1 := b1.mono (by omega)
 have t0 : w1.cell? ⟨w.heap.size, 0, none⟩ = some (.slice (some ⟨b, off, none⟩) L c) := by rw [B1.cell (p := ⟨w.heap.size, 0, none⟩) (by dsimp only; omega), T0]; rfl
 have t1 : w1.cell? ⟨w.heap.size, 1, none⟩ = some (.int .i64 (p : Int)) := by rw [B1.cell (p := ⟨w.heap.size, 1, none⟩) (by dsimp only; omega), T0]; rfl
 have BW1 : Hid (Below w.heap.size w w1) := B0.out.trans (B1.mono (by omega))
 obtain ⟨_, _, hab, _, _, hkt⟩ := (HS.out.below BW1.out hT).at_ hpL
 simp only [Option.some.injEq, Addr.mk.injEq] at hab
 obtain ⟨rfl, rfl, _⟩ := hab
 obtain ⟨ax, cx, c0, _⟩ := hkt p hpL
 have HK : Hid (∀ V, Below w.heap.size w V -> ∀ q : Nat, q < L -> V.cell? ⟨b, off + q * 4, none⟩ = some (.int .i64 (X q).k)) := fun V hV q hq => by
  obtain ⟨b', off', hab, _, _, hkt⟩ := (HS.out.below hV hT).at_ hq
  simp only [Option.some.injEq, Addr.mk.injEq] at hab
  obtain ⟨rfl, rfl, _⟩ := hab
  obtain ⟨_, _, c0, _⟩ := hkt q hq
  exact c0
 clear hkt hq b1 T0 hW0 BA
 cases hbk : blB (X p).k with
 | false =>
   have HN : Hid (¬ TOK X L p) := fun h => by have := (HTT.out.1 h).1; rw [this] at hbk; cases hbk
   go_wp2_with (go_at_call 19; refine (zcx _ _).mono ?_; rw [hbk]; rintro e w3 ⟨rfl, hw3⟩; rw [hw3]; clear hw3 w3)
   go_ret
   exact ⟨false, rfl, ⟨fun h => (by cases h), fun h => absurd h HN.out⟩, BW1.out⟩
 | true =>
   have HT2 : Hid (TOK X L p ↔ ∀ j, j < L -> za3 (X j).k (X j).t = true /\ zb1 (X j).k (X j).i = true /\ zx (X j).k (zas X j) = true) := by
    show _ ↔ _
    rw [HTT.out]
    exact ⟨fun h => h.2, fun h => ⟨of_decide_eq_true hbk, h⟩⟩
   have hB1 : Hid (Below (w.heap.size + 1) W0 w1) := B1
   clear HTT B1
   go_wp2_with (go_at_call 19; refine (zcx _ _).mono ?_; rw [hbk]; rintro e w3 ⟨rfl, hw3⟩; rw [hw3]; clear hw3 w3)
   clear c0 hbk
   go_loopw [31] (fun q wr => ∃ j : Nat, j <= L /\ q = .int .i64 j /\ Hid (∀ i, i < j -> za3 (X i).k (X i).t = true /\ zb1 (X i).k (X i).i = true /\ zx (X i).k (zas X i) = true) /\ Hid (Below (w.heap.size + 1) W0 wr) /\ wr.cell? ⟨w.heap.size, 0, none⟩ = some (.slice (some ⟨b, off, none⟩) L c)) (fun q _ => L - (intOf q).toNat)
   case atStart => exact ⟨0, Nat.zero_le _, rfl, (fun i hi => absurd hi (Nat.not_lt_zero _)), hB1, t0⟩
   case round =>
    clear t0 t1 hB1 BW1
    rename World => wo
    obtain ⟨j, hj, rfl, hP, hB1, t0⟩ := hrel
    have BW : Hid (Below w.heap.size w wo) := B0.out.trans (hB1.out.mono (by omega))
    have hz : w.heap.size + 1 <= wo.heap.size := by have := hB1.out.size; omega
    by_cases hlt : j < L
    · have hlt' : (j : Int) < (L : Int) := by omega
      obtain ⟨_, _, hab, lb0, _, hkt⟩ := (HS.out.below BW.out hT).at_ hlt
      simp only [Option.some.injEq, Addr.mk.injEq] at hab
      obtain ⟨rfl, rfl, _⟩ := hab
      obtain ⟨ax, cx, c0, c1, c2, c3, sx⟩ := hkt j hlt
      have hxx := HX.out j hlt
      have HKT : Hid (∀ m, m < (X j).len -> (zas X j).take (m + 1) = (zas X j).take m ++ [(X ((X j).y m).toNat).k]) := fun m hm => zn3 hm
      have HKL := zgo (X := X) j
      have HYR : Hid (∀ m, m < (X j).len -> 0 <= (X j).y m /\ ((X j).y m).toNat < L) := fun m hm => by
       have h1 := zk6 X (HNN.out.1 j hlt) ((X j).y m) (by
        have h2 := zfs X (i := j) (j := m) (by rw [zde]; exact hm)
        rw [<- h2]
        exact List.getElem_mem _)
       exact ⟨h1.1, by omega⟩
      have HPJ : Hid (za3 (X j).k (X j).t = true -> zb1 (X j).k (X j).i = true -> zx (X j).k (zas X j) = true -> ∀ i, i < j + 1 -> za3 (X i).k (X i).t = true /\ zb1 (X i).k (X i).i = true /\ zx (X i).k (zas X i) = true) := fun h1 h2 h3 i hi => if e : i = j then e ▸ ⟨h1, h2, h3⟩ else hP.out i (by omega)
      have HNJ : Hid (TOK X L p -> za3 (X j).k (X j).t = true /\ zb1 (X j).k (X j).i = true /\ zx (X j).k (zas X j) = true) := fun h => HT2.out.1 h j hlt
      generalize hkd : zas X j = KD at HKT HKL HPJ HNJ
      clear hkd hP
      obtain ⟨x, hx⟩ : ∃ x, X j = x := ⟨_, rfl⟩
      rw [hx] at c0 c1 c2 c3 sx hxx HKT HKL HYR HPJ HNJ
      clear hx hkt
      obtain ⟨k, t, ii, l, y⟩ := x
      simp only at c0 c1 c2 c3 sx hxx HKT HKL HYR HPJ HNJ
      obtain ⟨hxl, hxt⟩ := hxx
      have hxl' : (l : Int) <= 1048576 := by omega
      have SX : Hid (SlF T wo (.slice ax l cx) l l (fun i => .int .i64 (y i))) := sx
      have lb2 : b < wo.heap.size := by have := BW.out.size; omega
      obtain ⟨i0, hi, hz0, hz1, hz2⟩ := info_parts zb6
      obtain ⟨W1, hW1⟩ : ∃ V, V = wo.alloc (.cells #[.int .i64 k, .string t, .int .i64 ii, .slice ax l cx] 34) := ⟨_, rfl⟩
      have z1 : W1.heap.size = wo.heap.size + 1 := by rw [hW1]; simp
      have B1 : Hid (Below wo.heap.size wo W1) := by rw [hW1]; exact (Below.refl _ _).alloc (Nat.le_refl _) _
      have K1 : ∀ z, W1.cell? ⟨wo.heap.size, z, none⟩ = (#[.int .i64 k, .string t, .int .i64 ii, .slice ax l cx] : Array Value)[z]? := fun z => by rw [hW1]; simp [go_sem]
      clear sx
      go_wp2
      rw [<- hW1]
      clear hW1 c0 c1 c2 c3
      go_loopw [5, 38] (fun v q wr => ∃ (m : Nat) (a' : Option Addr) (c' : Nat), m <= l /\ q = .int .i64 m /\ v = .slice a' m c' /\ Hid (IR W1.heap.size wr (.slice a' m c') (KD.take m)) /\ Hid (Below W1.heap.size W1 wr)) (fun _ q _ => l - (intOf q).toNat)
      case atStart => exact ⟨0, none, 0, Nat.zero_le _, rfl, rfl, IR.nil _ _, Below.refl _ _⟩
      case round =>
       obtain ⟨m, a', c', hm, rfl, rfl, hI, hBB⟩ := hrel
       have BWR : Hid (Below w.heap.size w wr) := BW.out.trans ((B1.out.trans (hBB.out.mono (by omega))).mono (by omega))
       have tr : wr.cell? ⟨w.heap.size, 0, none⟩ = some (.slice (some ⟨b, off, none⟩) L c) := by
        rw [hBB.out.cell (p := ⟨w.heap.size, 0, none⟩) (by dsimp only; omega), B1.out.cell (p := ⟨w.heap.size, 0, none⟩) (by dsimp only; omega)]
        exact t0
       have hml : (KD.take m).length = m := by rw [List.length_take, HKL]; omega
       have zr : W1.heap.size <= wr.heap.size := hBB.out.size
       by_cases hmt : m < l
       · have hmt' : (m : Int) < (l : Int) := by omega
         obtain ⟨bk, ok, ck, hv, tk1, lk, hkk⟩ := SX.out.parts (k := 0) (by omega)
         simp only [Value.slice.injEq] at hv
         obtain ⟨rfl, _, rfl⟩ := hv
         have yk : wr.cell? ⟨bk, ok + m, none⟩ = some (.int .i64 (y m)) := by
          rw [hBB.out.cell (p := ⟨bk, ok + m, none⟩) (by dsimp only; omega), B1.out.cell (p := ⟨bk, ok + m, none⟩) lk]
          exact hkk m hmt
         obtain ⟨y0, y1⟩ := HYR.out m hmt
         have hkt := HKT.out m hmt
         have lbr : b < wr.heap.size := by omega
         obtain ⟨qn, hqn⟩ : ∃ qn : Nat, y m = qn := ⟨(y m).toNat, by omega⟩
         rw [hqn, Int.toNat_natCast] at y1 hkt
         rw [hqn] at yk
         have kc := HK.out _ BWR.out qn y1
         generalize (X qn).k = kq at kc hkt
         have y1' : (qn : Int) < (L : Int) := by omega
         have HKT2 : Hid (KD.take (m + 1) = KD.take m ++ [kq]) := hkt
         clear hkk hkt SX HKT HYR hqn y0
         go_wp2_with (at_builtin; refine wpList_append_own _ rfl _ _ 32 rfl W1.heap.size 3 i0 (.int .i64 0) 1 8 Tryz.underlying32 hi hz0 hz1 hz2 rfl (by decide) _ m (icl (KD.take m)) rfl (by have h9 := hI.out.alloc (.cells #[.int .i64 kq] 3); unfold IR at h9; rw [hml] at h9; exact h9) ⟨_, 0, none⟩ 1 1 [.int .i64 kq] rfl rfl (cell_one_new _ _ _) (ints_oneCell .i64 [kq]) (by unfold maxLen; omega) (by omega) (by simp; omega) ?_)
         intro v' w8 hown' hgrow _
         have hown2 : w8.ownsRow W1.heap.size 3 1 v' ((KD.take m).length + 1) (icl (KD.take m) ++ [.int .i64 kq]) := by rw [hml, z1]; first | exact hown' | (rw [<- z1]; exact hown')
         have R := IR.step (x := kq) zr hI.out hBB.out hown2 hgrow
         rw [<- HKT2.out] at R
         have R1 : Hid (IR W1.heap.size w8 v' (KD.take (m + 1))) := R.1
         have R2 : Hid (Below W1.heap.size W1 w8) := R.2
         have hl8 : (KD.take (m + 1)).length = m + 1 := by rw [List.length_take, HKL]; omega
         obtain ⟨a8, c8, hv⟩ := R1.out.form
         rw [hl8] at hv
         subst hv
         clear hown' hgrow R
         go_wp2
         go_roundw
         case rel => exact ⟨m + 1, a8, c8, by omega, by go_num, rfl, R1, R2⟩
         case measure => simp [intOf]; omega
       · have hge : ¬ (m : Int) < (l : Int) := by omega
         obtain rfl : m = l := by omega
         have hta : KD.take m = KD := List.take_of_length_le (by rw [HKL]; exact Nat.le_refl _)
         rw [hta] at hI
         have hIL : Hid (IR W1.heap.size wr (.slice a' KD.length c') KD) := by rw [HKL]; exact hI
         have HKO : Hid (∀ V, Below wr.heap.size wr V -> Calls Tryz.prog 22 #[.int .i64 k, .slice a' m c'] V fun e w' => e = .returned (.bool (zx k KD)) /\ Below V.heap.size V w') := fun V hV => by
          have := zpt k a' c' KD W1.heap.size V (hIL.out.below hV) (by rw [HKL]; exact hxl)
          rw [HKL] at this
          exact this
         have K2 : ∀ z, wr.cell? ⟨wo.heap.size, z, none⟩ = (#[.int .i64 k, .string t, .int .i64 ii, .slice ax m cx] : Array Value)[z]? := fun z => by rw [hBB.out.cell (p := ⟨wo.heap.size, z, none⟩) (by dsimp only; omega)]; exact K1 z
         have k20 := K2 0
         have k21 := K2 1
         have k22 := K2 2
         have k23 := K2 3
         simp at k20 k21 k22 k23
         have lwo : wo.heap.size < wr.heap.size := by omega
         clear hI hIL SX HKT HYR hta K1
         cases h1 : za3 k t with
         | false =>
           have HN : Hid (¬ TOK X L p) := fun h => by have := (HNJ.out h).1; rw [h1] at this; cases this
           go_wp2_with (go_at_call 20; refine (zc4 _ _ _ _ _ _ _ hxt).mono ?_; rw [h1]; rintro e w5 ⟨rfl, b5⟩)
           go_ret
           exact ⟨false, rfl, ⟨fun h => (by cases h), fun h => absurd h HN.out⟩, zg BWR.out b5⟩
         | true =>
           cases h2 : zb1 k ii with
           | false =>
             have HN : Hid (¬ TOK X L p) := fun h => by have := (HNJ.out h).2.1; rw [h2] at this; cases this
             go_wp2_with (first | (go_at_call 20; refine (zc4 _ _ _ _ _ _ _ hxt).mono ?_; rw [h1]; rintro e w5 ⟨rfl, b5⟩; obtain ⟨b5c, b5f⟩ := za7 b5; have l5 := Nat.lt_of_lt_of_le lwo b5.size) | (go_at_call 21; refine (zer _ _ _ _ _ _ _).mono ?_; rw [h2]; rintro e w6 ⟨rfl, b6⟩))
             go_ret
             exact ⟨false, rfl, ⟨fun h => (by cases h), fun h => absurd h HN.out⟩, zg (zg BWR.out b5) b6⟩
           | true =>
             cases h3 : zx k KD with
             | false =>
               have HN : Hid (¬ TOK X L p) := fun h => by have := (HNJ.out h).2.2; rw [h3] at this; cases this
               go_wp2_with (first | (go_at_call 20; refine (zc4 _ _ _ _ _ _ _ hxt).mono ?_; rw [h1]; rintro e w5 ⟨rfl, b5⟩; obtain ⟨b5c, b5f⟩ := za7 b5; have l5 := Nat.lt_of_lt_of_le lwo b5.size) | (go_at_call 21; refine (zer _ _ _ _ _ _ _).mono ?_; rw [h2]; rintro e w6 ⟨rfl, b6⟩; obtain ⟨b6c, b6f⟩ := za7 b6; have l6 := Nat.lt_of_lt_of_le l5 b6.size) | (go_at_call 22; refine (HKO.out _ (zg b5 b6)).mono ?_; rw [h3]; rintro e w7 ⟨rfl, b7⟩))
               go_ret
               exact ⟨false, rfl, ⟨fun h => (by cases h), fun h => absurd h HN.out⟩, zg (zg (zg BWR.out b5) b6) b7⟩
             | true =>
               have HPN := HPJ.out h1 h2 h3
               have HP2 : Hid (∀ i, i < j + 1 -> za3 (X i).k (X i).t = true /\ zb1 (X i).k (X i).i = true /\ zx (X i).k (zas X i) = true) := HPN
               clear HPN
               go_wp2_with (first | (go_at_call 20; refine (zc4 _ _ _ _ _ _ _ hxt).mono ?_; rw [h1]; rintro e w5 ⟨rfl, b5⟩; obtain ⟨b5c, b5f⟩ := za7 b5; have l5 := Nat.lt_of_lt_of_le lwo b5.size) | (go_at_call 21; refine (zer _ _ _ _ _ _ _).mono ?_; rw [h2]; rintro e w6 ⟨rfl, b6⟩; obtain ⟨b6c, b6f⟩ := za7 b6; have l6 := Nat.lt_of_lt_of_le l5 b6.size) | (go_at_call 22; refine (HKO.out _ (zg b5 b6)).mono ?_; rw [h3]; rintro e w7 ⟨rfl, b7⟩))
               have b57 := zg (zg b5 b6) b7
               have BE : Hid (Below (w.heap.size + 1) W0 w7) := hB1.out.trans ((B1.out.trans ((hBB.out.trans (b57.mono zr)).mono (by omega))).mono (by omega))
               have te : w7.cell? ⟨w.heap.size, 0, none⟩ = some (.slice (some ⟨b, off, none⟩) L c) := by rw [b57.cell (p := ⟨w.heap.size, 0, none⟩) (by dsimp only; omega)]; exact tr
               go_roundw
               case rel => exact ⟨j + 1, by omega, by go_num, HP2, BE, te⟩
               case measure => simp [intOf]; omega
    · have hge : ¬ (j : Int) < (L : Int) := by omega
      have HY : Hid (TOK X L p) := HT2.out.2 (fun i hi => hP.out i (by omega))
      go_wp2
      go_ret
      exact ⟨true, rfl, ⟨fun _ => HY.out, fun _ => rfl⟩, BW.out⟩
end Go.Proofs.YtiglkhkfbgjjoaaGreatDoor
