/- - -/
import Derived.Test.YtiglkhkfbgjjoaaDoorQTkP
import Derived.Test.YtiglkhkfbgjjoaaDoorQTrC
import Derived.Test.YtiglkhkfbgjjoaaDoorQIsA
namespace Go.Proofs.YtiglkhkfbgjjoaaDoor
set_option maxRecDepth 20000
open Go.RowKit Go.PlainAid Go.Maps
set_option linter.unusedSimpArgs false
set_option linter.unusedVariables false
def exB (k : Int) : Bool := decide (1 <= k /\ k <= 13)
def stB (k : Int) : Bool := decide (14 <= k /\ k <= 20)
def blB (k : Int) : Bool := decide (k = 21)
def paB (k : Int) : Bool := decide (k = 22)
def flB (k : Int) : Bool := decide (k = 23 \/ k = 24)
theorem zdg (k : Int) : zk 1 k = exB k := by
 unfold zk exB zt
 rw [if_neg (by decide)]
 refine decide_eq_decide.2 ?_
 repeat (first | omega | split)
theorem zhr (k : Int) : zk 2 k = stB k := by
 unfold zk stB zt
 rw [if_neg (by decide)]
 refine decide_eq_decide.2 ?_
 repeat (first | omega | split)
theorem zdh (k : Int) : zk 3 k = blB k := by
 unfold zk blB zt
 rw [if_neg (by decide)]
 refine decide_eq_decide.2 ?_
 repeat (first | omega | split)
theorem zhs (k : Int) : zk 4 k = paB k := by
 unfold zk paB zt
 rw [if_neg (by decide)]
 refine decide_eq_decide.2 ?_
 repeat (first | omega | split)
theorem zht (k : Int) : zk 5 k = flB k := by
 unfold zk flB zt
 rw [if_neg (by decide)]
 refine decide_eq_decide.2 ?_
 repeat (first | omega | split)
theorem zhu (k : Int) : zk 6 k = decide (k = 9) := by unfold zk; rw [if_pos rfl]
theorem zbe (c : Int) : ∀ (ks : List Int), zu (List.replicate ks.length c) ks = ks.all (zk c)
 | [] => rfl
 | k :: ks => by
   show zu (c :: List.replicate ks.length c) (k :: ks) = _
   simp only [zu, zbe c ks, List.all_cons]
theorem zdl (d : Int) : ∀ (cs ks : List Int) (k : Int), cs.length = ks.length -> zu (cs ++ [d]) (ks ++ [k]) = (zu cs ks && zk d k)
 | [], [], k, _ => by simp [zu]
 | c :: cs, x :: ks, k, h => by
   simp only [List.cons_append, zu]
   rw [zdl d cs ks k (by simpa using h), Bool.and_assoc]
 | [], _ :: _, k, h => by simp at h
 | _ :: _, [], k, h => by simp at h
theorem zco {cs ks : List Int} (h : cs.length ≠ ks.length) : zu cs ks = false := by
 cases hf : zu cs ks with
 | false => rfl
 | true => exact absurd (zaw hf) h
theorem zjk (ks : List Int) : ks.all (zk 1) = ks.all exB := by congr 1; funext k; exact zdg k
theorem zam (k : Int) (w : World) : Calls Tryd.prog 126 #[.int .i64 k] w fun e w' => e = .returned (.bool (exB k)) /\ w' = w := by
 unfold exB
 go_enter Tryd.func126, Tryd.ntmps126
 go_wp2
 all_goals
  go_ret
  exact ⟨by first | rfl | (simp; done) | (simp; rw [Bool.eq_iff_iff]; simp) | (simp; omega), rfl⟩
theorem zbf (a : Option Addr) (c : Nat) (ks : List Int) (T : Nat) (w : World) (hs : SlF T w (.slice a ks.length c) ks.length ks.length (fun i => .int .i64 (ks.getD i 0))) (hn : ks.length <= 1048576) :
 Calls Tryd.prog 123 #[.slice a ks.length c, .func (.func 126) #[] #[]] w fun e w' => e = .returned (.bool (ks.all exB)) /\ w' = w := by
 have hn' : (ks.length : Int) <= 1048576 := by omega
 have HS : Hid (SlF T w (.slice a ks.length c) ks.length ks.length (fun i => .int .i64 (ks.getD i 0))) := hs
 clear hs
 go_enter Tryd.func123, Tryd.ntmps123
 go_wp2
 go_loopw [9] (fun q wr => ∃ j : Nat, j <= ks.length /\ q = .int .i64 j /\ Hid (∀ i, i < j -> exB (ks.getD i 0) = true) /\ wr = w) (fun q _ => ks.length - (intOf q).toNat)
 case atStart => exact ⟨0, Nat.zero_le _, rfl, (fun i hi => absurd hi (Nat.not_lt_zero _)), rfl⟩
 case round =>
  obtain ⟨j, hj, rfl, hp, hw⟩ := hrel
  rw [hw]
  clear hw
  by_cases hlt : j < ks.length
  · have hlt' : (j : Int) < (ks.length : Int) := by omega
    obtain ⟨bk, ok, ck, hv, tk1, lk, hkk⟩ := HS.out.parts (k := 0) (by omega)
    simp only [Value.slice.injEq] at hv
    obtain ⟨rfl, _, rfl⟩ := hv
    have yk := hkk j hlt
    clear hkk HS
    cases hq : exB (ks.getD j 0) with
    | true =>
      have HV : Hid (∀ i, i < j + 1 -> exB (ks.getD i 0) = true) := fun i hi => if e : i = j then e ▸ hq else hp.out i (by omega)
      generalize ks.getD j 0 = kk at yk hq
      go_wp2_with (go_at_call 126; refine (zam _ _).mono ?_; rw [hq]; rintro e w3 ⟨rfl, hw3⟩; rw [hw3]; clear hw3 w3)
      go_roundw
      case rel => exact ⟨j + 1, by omega, by go_num, HV, by first | rfl | trivial⟩
      case measure => simp [intOf]; omega
    | false =>
      have en : ks.all exB = false := by
       rw [List.all_eq_false]
       refine ⟨ks.getD j 0, ?_, by rw [hq]; simp⟩
       rw [List.getD_eq_getElem?_getD, List.getElem?_eq_getElem hlt]
       exact List.getElem_mem hlt
      generalize ks.getD j 0 = kk at yk hq
      go_wp2_with (go_at_call 126; refine (zam _ _).mono ?_; rw [hq]; rintro e w3 ⟨rfl, hw3⟩; rw [hw3]; clear hw3 w3)
      go_ret
      exact ⟨by first | rfl | (rw [en]; rfl), rfl⟩
  · have hge : ¬ (j : Int) < (ks.length : Int) := by omega
    have en : ks.all exB = true := by
     rw [List.all_eq_true]
     intro x hx
     obtain ⟨i, hi, rfl⟩ := List.getElem_of_mem hx
     have := hp.out i (by omega)
     rw [List.getD_eq_getElem?_getD, List.getElem?_eq_getElem hi] at this
     exact this
    go_wp2
    go_ret
    exact ⟨by first | rfl | (rw [en]; rfl), rfl⟩
theorem zbr (k : Int) (w : World) : Calls Tryd.prog 129 #[.int .i64 k] w fun e w' => e = .returned (.bool (stB k)) /\ w' = w := by
 unfold stB
 go_enter Tryd.func129, Tryd.ntmps129
 go_wp2
 all_goals
  go_ret
  exact ⟨by first | rfl | (simp; done) | (simp; rw [Bool.eq_iff_iff]; simp) | (simp; omega), rfl⟩
theorem zcu (a : Option Addr) (c : Nat) (ks : List Int) (T : Nat) (w : World) (hs : SlF T w (.slice a ks.length c) ks.length ks.length (fun i => .int .i64 (ks.getD i 0))) (hn : ks.length <= 1048576) :
 Calls Tryd.prog 123 #[.slice a ks.length c, .func (.func 129) #[] #[]] w fun e w' => e = .returned (.bool (ks.all stB)) /\ w' = w := by
 have hn' : (ks.length : Int) <= 1048576 := by omega
 have HS : Hid (SlF T w (.slice a ks.length c) ks.length ks.length (fun i => .int .i64 (ks.getD i 0))) := hs
 clear hs
 go_enter Tryd.func123, Tryd.ntmps123
 go_wp2
 go_loopw [9] (fun q wr => ∃ j : Nat, j <= ks.length /\ q = .int .i64 j /\ Hid (∀ i, i < j -> stB (ks.getD i 0) = true) /\ wr = w) (fun q _ => ks.length - (intOf q).toNat)
 case atStart => exact ⟨0, Nat.zero_le _, rfl, (fun i hi => absurd hi (Nat.not_lt_zero _)), rfl⟩
 case round =>
  obtain ⟨j, hj, rfl, hp, hw⟩ := hrel
  rw [hw]
  clear hw
  by_cases hlt : j < ks.length
  · have hlt' : (j : Int) < (ks.length : Int) := by omega
    obtain ⟨bk, ok, ck, hv, tk1, lk, hkk⟩ := HS.out.parts (k := 0) (by omega)
    simp only [Value.slice.injEq] at hv
    obtain ⟨rfl, _, rfl⟩ := hv
    have yk := hkk j hlt
    clear hkk HS
    cases hq : stB (ks.getD j 0) with
    | true =>
      have HV : Hid (∀ i, i < j + 1 -> stB (ks.getD i 0) = true) := fun i hi => if e : i = j then e ▸ hq else hp.out i (by omega)
      generalize ks.getD j 0 = kk at yk hq
      go_wp2_with (go_at_call 129; refine (zbr _ _).mono ?_; rw [hq]; rintro e w3 ⟨rfl, hw3⟩; rw [hw3]; clear hw3 w3)
      go_roundw
      case rel => exact ⟨j + 1, by omega, by go_num, HV, by first | rfl | trivial⟩
      case measure => simp [intOf]; omega
    | false =>
      have en : ks.all stB = false := by
       rw [List.all_eq_false]
       refine ⟨ks.getD j 0, ?_, by rw [hq]; simp⟩
       rw [List.getD_eq_getElem?_getD, List.getElem?_eq_getElem hlt]
       exact List.getElem_mem hlt
      generalize ks.getD j 0 = kk at yk hq
      go_wp2_with (go_at_call 129; refine (zbr _ _).mono ?_; rw [hq]; rintro e w3 ⟨rfl, hw3⟩; rw [hw3]; clear hw3 w3)
      go_ret
      exact ⟨by first | rfl | (rw [en]; rfl), rfl⟩
  · have hge : ¬ (j : Int) < (ks.length : Int) := by omega
    have en : ks.all stB = true := by
     rw [List.all_eq_true]
     intro x hx
     obtain ⟨i, hi, rfl⟩ := List.getElem_of_mem hx
     have := hp.out i (by omega)
     rw [List.getD_eq_getElem?_getD, List.getElem?_eq_getElem hi] at this
     exact this
    go_wp2
    go_ret
    exact ⟨by first | rfl | (rw [en]; rfl), rfl⟩
theorem zar (k : Int) (w : World) : Calls Tryd.prog 83 #[.int .i64 k] w fun e w' => e = .returned (.bool (blB k)) /\ w' = w := by
 unfold blB
 go_enter Tryd.func83, Tryd.ntmps83
 go_wp2
 all_goals
  go_ret
  exact ⟨by first | rfl | (simp; done) | (simp; rw [Bool.eq_iff_iff]; simp) | (simp; omega), rfl⟩
theorem zev (a : Option Addr) (c : Nat) (ks : List Int) (T : Nat) (w : World) (hs : SlF T w (.slice a ks.length c) ks.length ks.length (fun i => .int .i64 (ks.getD i 0))) (hn : ks.length <= 1048576) :
 Calls Tryd.prog 123 #[.slice a ks.length c, .func (.func 83) #[] #[]] w fun e w' => e = .returned (.bool (ks.all blB)) /\ w' = w := by
 have hn' : (ks.length : Int) <= 1048576 := by omega
 have HS : Hid (SlF T w (.slice a ks.length c) ks.length ks.length (fun i => .int .i64 (ks.getD i 0))) := hs
 clear hs
 go_enter Tryd.func123, Tryd.ntmps123
 go_wp2
 go_loopw [9] (fun q wr => ∃ j : Nat, j <= ks.length /\ q = .int .i64 j /\ Hid (∀ i, i < j -> blB (ks.getD i 0) = true) /\ wr = w) (fun q _ => ks.length - (intOf q).toNat)
 case atStart => exact ⟨0, Nat.zero_le _, rfl, (fun i hi => absurd hi (Nat.not_lt_zero _)), rfl⟩
 case round =>
  obtain ⟨j, hj, rfl, hp, hw⟩ := hrel
  rw [hw]
  clear hw
  by_cases hlt : j < ks.length
  · have hlt' : (j : Int) < (ks.length : Int) := by omega
    obtain ⟨bk, ok, ck, hv, tk1, lk, hkk⟩ := HS.out.parts (k := 0) (by omega)
    simp only [Value.slice.injEq] at hv
    obtain ⟨rfl, _, rfl⟩ := hv
    have yk := hkk j hlt
    clear hkk HS
    cases hq : blB (ks.getD j 0) with
    | true =>
      have HV : Hid (∀ i, i < j + 1 -> blB (ks.getD i 0) = true) := fun i hi => if e : i = j then e ▸ hq else hp.out i (by omega)
      generalize ks.getD j 0 = kk at yk hq
      go_wp2_with (go_at_call 83; refine (zar _ _).mono ?_; rw [hq]; rintro e w3 ⟨rfl, hw3⟩; rw [hw3]; clear hw3 w3)
      go_roundw
      case rel => exact ⟨j + 1, by omega, by go_num, HV, by first | rfl | trivial⟩
      case measure => simp [intOf]; omega
    | false =>
      have en : ks.all blB = false := by
       rw [List.all_eq_false]
       refine ⟨ks.getD j 0, ?_, by rw [hq]; simp⟩
       rw [List.getD_eq_getElem?_getD, List.getElem?_eq_getElem hlt]
       exact List.getElem_mem hlt
      generalize ks.getD j 0 = kk at yk hq
      go_wp2_with (go_at_call 83; refine (zar _ _).mono ?_; rw [hq]; rintro e w3 ⟨rfl, hw3⟩; rw [hw3]; clear hw3 w3)
      go_ret
      exact ⟨by first | rfl | (rw [en]; rfl), rfl⟩
  · have hge : ¬ (j : Int) < (ks.length : Int) := by omega
    have en : ks.all blB = true := by
     rw [List.all_eq_true]
     intro x hx
     obtain ⟨i, hi, rfl⟩ := List.getElem_of_mem hx
     have := hp.out i (by omega)
     rw [List.getD_eq_getElem?_getD, List.getElem?_eq_getElem hi] at this
     exact this
    go_wp2
    go_ret
    exact ⟨by first | rfl | (rw [en]; rfl), rfl⟩
theorem zcv (k : Int) (w : World) : Calls Tryd.prog 124 #[.int .i64 k] w fun e w' => e = .returned (.bool (paB k)) /\ w' = w := by
 unfold paB
 go_enter Tryd.func124, Tryd.ntmps124
 go_wp2
 all_goals
  go_ret
  exact ⟨by first | rfl | (simp; done) | (simp; rw [Bool.eq_iff_iff]; simp) | (simp; omega), rfl⟩
theorem zew (a : Option Addr) (c : Nat) (ks : List Int) (T : Nat) (w : World) (hs : SlF T w (.slice a ks.length c) ks.length ks.length (fun i => .int .i64 (ks.getD i 0))) (hn : ks.length <= 1048576) :
 Calls Tryd.prog 123 #[.slice a ks.length c, .func (.func 124) #[] #[]] w fun e w' => e = .returned (.bool (ks.all paB)) /\ w' = w := by
 have hn' : (ks.length : Int) <= 1048576 := by omega
 have HS : Hid (SlF T w (.slice a ks.length c) ks.length ks.length (fun i => .int .i64 (ks.getD i 0))) := hs
 clear hs
 go_enter Tryd.func123, Tryd.ntmps123
 go_wp2
 go_loopw [9] (fun q wr => ∃ j : Nat, j <= ks.length /\ q = .int .i64 j /\ Hid (∀ i, i < j -> paB (ks.getD i 0) = true) /\ wr = w) (fun q _ => ks.length - (intOf q).toNat)
 case atStart => exact ⟨0, Nat.zero_le _, rfl, (fun i hi => absurd hi (Nat.not_lt_zero _)), rfl⟩
 case round =>
  obtain ⟨j, hj, rfl, hp, hw⟩ := hrel
  rw [hw]
  clear hw
  by_cases hlt : j < ks.length
  · have hlt' : (j : Int) < (ks.length : Int) := by omega
    obtain ⟨bk, ok, ck, hv, tk1, lk, hkk⟩ := HS.out.parts (k := 0) (by omega)
    simp only [Value.slice.injEq] at hv
    obtain ⟨rfl, _, rfl⟩ := hv
    have yk := hkk j hlt
    clear hkk HS
    cases hq : paB (ks.getD j 0) with
    | true =>
      have HV : Hid (∀ i, i < j + 1 -> paB (ks.getD i 0) = true) := fun i hi => if e : i = j then e ▸ hq else hp.out i (by omega)
      generalize ks.getD j 0 = kk at yk hq
      go_wp2_with (go_at_call 124; refine (zcv _ _).mono ?_; rw [hq]; rintro e w3 ⟨rfl, hw3⟩; rw [hw3]; clear hw3 w3)
      go_roundw
      case rel => exact ⟨j + 1, by omega, by go_num, HV, by first | rfl | trivial⟩
      case measure => simp [intOf]; omega
    | false =>
      have en : ks.all paB = false := by
       rw [List.all_eq_false]
       refine ⟨ks.getD j 0, ?_, by rw [hq]; simp⟩
       rw [List.getD_eq_getElem?_getD, List.getElem?_eq_getElem hlt]
       exact List.getElem_mem hlt
      generalize ks.getD j 0 = kk at yk hq
      go_wp2_with (go_at_call 124; refine (zcv _ _).mono ?_; rw [hq]; rintro e w3 ⟨rfl, hw3⟩; rw [hw3]; clear hw3 w3)
      go_ret
      exact ⟨by first | rfl | (rw [en]; rfl), rfl⟩
  · have hge : ¬ (j : Int) < (ks.length : Int) := by omega
    have en : ks.all paB = true := by
     rw [List.all_eq_true]
     intro x hx
     obtain ⟨i, hi, rfl⟩ := List.getElem_of_mem hx
     have := hp.out i (by omega)
     rw [List.getD_eq_getElem?_getD, List.getElem?_eq_getElem hi] at this
     exact this
    go_wp2
    go_ret
    exact ⟨by first | rfl | (rw [en]; rfl), rfl⟩
theorem zcw (k : Int) (w : World) : Calls Tryd.prog 125 #[.int .i64 k] w fun e w' => e = .returned (.bool (flB k)) /\ w' = w := by
 unfold flB
 go_enter Tryd.func125, Tryd.ntmps125
 go_wp2
 all_goals
  go_ret
  exact ⟨by first | rfl | (simp; done) | (simp; rw [Bool.eq_iff_iff]; simp) | (simp; omega), rfl⟩
theorem zex (a : Option Addr) (c : Nat) (ks : List Int) (T : Nat) (w : World) (hs : SlF T w (.slice a ks.length c) ks.length ks.length (fun i => .int .i64 (ks.getD i 0))) (hn : ks.length <= 1048576) :
 Calls Tryd.prog 123 #[.slice a ks.length c, .func (.func 125) #[] #[]] w fun e w' => e = .returned (.bool (ks.all flB)) /\ w' = w := by
 have hn' : (ks.length : Int) <= 1048576 := by omega
 have HS : Hid (SlF T w (.slice a ks.length c) ks.length ks.length (fun i => .int .i64 (ks.getD i 0))) := hs
 clear hs
 go_enter Tryd.func123, Tryd.ntmps123
 go_wp2
 go_loopw [9] (fun q wr => ∃ j : Nat, j <= ks.length /\ q = .int .i64 j /\ Hid (∀ i, i < j -> flB (ks.getD i 0) = true) /\ wr = w) (fun q _ => ks.length - (intOf q).toNat)
 case atStart => exact ⟨0, Nat.zero_le _, rfl, (fun i hi => absurd hi (Nat.not_lt_zero _)), rfl⟩
 case round =>
  obtain ⟨j, hj, rfl, hp, hw⟩ := hrel
  rw [hw]
  clear hw
  by_cases hlt : j < ks.length
  · have hlt' : (j : Int) < (ks.length : Int) := by omega
    obtain ⟨bk, ok, ck, hv, tk1, lk, hkk⟩ := HS.out.parts (k := 0) (by omega)
    simp only [Value.slice.injEq] at hv
    obtain ⟨rfl, _, rfl⟩ := hv
    have yk := hkk j hlt
    clear hkk HS
    cases hq : flB (ks.getD j 0) with
    | true =>
      have HV : Hid (∀ i, i < j + 1 -> flB (ks.getD i 0) = true) := fun i hi => if e : i = j then e ▸ hq else hp.out i (by omega)
      generalize ks.getD j 0 = kk at yk hq
      go_wp2_with (go_at_call 125; refine (zcw _ _).mono ?_; rw [hq]; rintro e w3 ⟨rfl, hw3⟩; rw [hw3]; clear hw3 w3)
      go_roundw
      case rel => exact ⟨j + 1, by omega, by go_num, HV, by first | rfl | trivial⟩
      case measure => simp [intOf]; omega
    | false =>
      have en : ks.all flB = false := by
       rw [List.all_eq_false]
       refine ⟨ks.getD j 0, ?_, by rw [hq]; simp⟩
       rw [List.getD_eq_getElem?_getD, List.getElem?_eq_getElem hlt]
       exact List.getElem_mem hlt
      generalize ks.getD j 0 = kk at yk hq
      go_wp2_with (go_at_call 125; refine (zcw _ _).mono ?_; rw [hq]; rintro e w3 ⟨rfl, hw3⟩; rw [hw3]; clear hw3 w3)
      go_ret
      exact ⟨by first | rfl | (rw [en]; rfl), rfl⟩
  · have hge : ¬ (j : Int) < (ks.length : Int) := by omega
    have en : ks.all flB = true := by
     rw [List.all_eq_true]
     intro x hx
     obtain ⟨i, hi, rfl⟩ := List.getElem_of_mem hx
     have := hp.out i (by omega)
     rw [List.getD_eq_getElem?_getD, List.getElem?_eq_getElem hi] at this
     exact this
    go_wp2
    go_ret
    exact ⟨by first | rfl | (rw [en]; rfl), rfl⟩
theorem SlF.drop1 {T : Nat} {w : World} {b off c n : Nat} {ks : List Int} {k : Int} (h : SlF T w (.slice (some ⟨b, off, none⟩) n c) n n (fun i => .int .i64 ((k :: ks).getD i 0))) (hn : n = ks.length + 1) : SlF T w (.slice (some ⟨b, off + 1, none⟩) ks.length (c - 1)) ks.length ks.length (fun i => .int .i64 (ks.getD i 0)) := by
 obtain ⟨b', off', c', hv, h1, h2, h3⟩ := h.parts (k := 0) (by omega)
 simp only [Value.slice.injEq, Option.some.injEq, Addr.mk.injEq] at hv
 obtain ⟨⟨rfl, rfl, _⟩, _, rfl⟩ := hv
 refine ⟨_, _, rfl, .inr ⟨b, off + 1, rfl, h1, h2, fun i hi => ?_⟩⟩
 have := h3 (i + 1) (by omega)
 rw [show off + 1 + i = off + (i + 1) by omega, this]
 rfl
theorem SlF.init {T : Nat} {w : World} {b off c n : Nat} {ks : List Int} {k : Int} (h : SlF T w (.slice (some ⟨b, off, none⟩) n c) n n (fun i => .int .i64 ((ks ++ [k]).getD i 0))) (hn : n = ks.length + 1) : SlF T w (.slice (some ⟨b, off, none⟩) ks.length c) ks.length ks.length (fun i => .int .i64 (ks.getD i 0)) /\ w.cell? ⟨b, off + ks.length, none⟩ = some (.int .i64 k) := by
 obtain ⟨b', off', c', hv, h1, h2, h3⟩ := h.parts (k := 0) (by omega)
 simp only [Value.slice.injEq, Option.some.injEq, Addr.mk.injEq] at hv
 obtain ⟨⟨rfl, rfl, _⟩, _, rfl⟩ := hv
 refine ⟨⟨_, _, rfl, .inr ⟨b, off, rfl, h1, h2, fun i hi => ?_⟩⟩, ?_⟩
 · rw [h3 i (by omega)]
   simp [List.getD_eq_getElem?_getD, List.getElem?_append_left hi]
 · rw [h3 ks.length (by omega)]
   simp [List.getD_eq_getElem?_getD]
set_option maxHeartbeats 1000000 in
theorem zae (a : Option Addr) (c : Nat) (ks : List Int) (m : Int) (T : Nat) (w : World) (hs : SlF T w (.slice a ks.length c) ks.length ks.length (fun i => .int .i64 (ks.getD i 0))) (hn : ks.length <= 1048576) :
 Calls Tryd.prog 127 #[.slice a ks.length c, .int .i64 m] w fun e w' => e = .returned (.bool (decide ((ks.length : Int) = m) && ks.all exB)) /\ w' = w := by
 have hn' : (ks.length : Int) <= 1048576 := by omega
 by_cases hm : (ks.length : Int) = m
 · rw [decide_eq_true hm, Bool.true_and]
   go_enter Tryd.func127, Tryd.ntmps127
   go_wp2_with (go_at_call 123; refine (zbf _ _ ks T _ hs hn).mono ?_; rintro e w3 ⟨rfl, hw3⟩; rw [hw3]; clear hw3 w3)
   go_ret
   exact ⟨rfl, rfl⟩
 · rw [decide_eq_false hm, Bool.false_and]
   have hm' : ((ks.length : Int) == m) = false := by simp [hm]
   go_enter Tryd.func127, Tryd.ntmps127
   go_wp2
   go_ret
   exact ⟨rfl, rfl⟩
def zbg (ks : List Int) : Bool := match ks with | [] => false | k :: ks => exB k && ks.all blB
theorem IR.cap {B : Nat} {w : World} {a : Option Addr} {n c : Nat} {xs : List Int} (h : IR B w (.slice a n c) xs) (h0 : 0 < xs.length) : ∃ g, a = some ⟨g, 0, none⟩ /\ xs.length <= c /\ c <= maxLen := by
 obtain ⟨h1, ⟨hv, h2⟩ | ⟨g, cap, cur, hv, hg, hc, hn, hcap, r⟩⟩ := h
 · omega
 · simp only [Value.slice.injEq] at hv
   obtain ⟨rfl, _, rfl⟩ := hv
   exact ⟨g, rfl, hn, hcap⟩
set_option maxHeartbeats 1000000 in
theorem zcf (a : Option Addr) (c : Nat) (ks : List Int) (m : Int) (B : Nat) (w : World) (hI : IR B w (.slice a ks.length c) ks) (hn : ks.length <= 1048576) (hm2 : 2 <= m) :
 Calls Tryd.prog 128 #[.slice a ks.length c, .int .i64 m] w fun e w' => e = .returned (.bool (decide ((ks.length : Int) = m) && zbg ks)) /\ w' = w := by
 have hn' : (ks.length : Int) <= 1048576 := by omega
 by_cases hm : (ks.length : Int) = m
 rotate_left
 · rw [decide_eq_false hm, Bool.false_and]
   have hm' : ((ks.length : Int) == m) = false := by simp [hm]
   clear hI
   go_enter Tryd.func128, Tryd.ntmps128
   go_wp2
   go_ret
   exact ⟨rfl, rfl⟩
 subst hm
 rw [decide_eq_true rfl, Bool.true_and]
 obtain ⟨g, rfl, hc1, hc2⟩ := hI.cap (by omega)
 cases ks with
 | nil => simp at hm2
 | cons k ks =>
   have hs := hI.sl
   obtain ⟨b', off', c', hv, h1, h2, h3⟩ := hs.parts (k := 0) (by simp)
   simp only [Value.slice.injEq, Option.some.injEq, Addr.mk.injEq] at hv
   obtain ⟨⟨rfl, rfl, _⟩, _, rfl⟩ := hv
   have y0 := h3 0 (by simp)
   simp at y0
   have hd := hs.drop1 (by simp)
   have hl1 : (k :: ks).length = ks.length + 1 := by simp
   have hc3 : ((ks.length + 1 : Nat) : Int) <= (c : Int) := by rw [hl1] at hc1; omega
   have hc4 : (c : Int) <= 9223372036854775807 := by simp [maxLen] at hc2; omega
   have hz : (0 : Int) < ((ks.length + 1 : Nat) : Int) := by omega
   have hq1 : (1 : Int) <= ((ks.length + 1 : Nat) : Int) := by omega
   rw [hl1] at hn' hc1 hm2 ⊢
   have hc9 : ¬ c = 1 := by omega
   clear hI hs h3 hm2
   show Calls _ _ _ _ fun e w' => e = .returned (.bool (exB k && ks.all blB)) /\ w' = w
   cases hk : exB k with
   | false =>
     go_enter Tryd.func128, Tryd.ntmps128
     go_wp2_with (go_at_call 126; refine (zam _ _).mono ?_; rw [hk]; rintro e w3 ⟨rfl, hw3⟩; rw [hw3]; clear hw3 w3)
     go_ret
     exact ⟨rfl, rfl⟩
   | true =>
     go_enter Tryd.func128, Tryd.ntmps128
     go_wp2_with (first | (go_at_call 126; refine (zam _ _).mono ?_; rw [hk]; rintro e w3 ⟨rfl, hw3⟩; rw [hw3]; clear hw3 w3) | (go_at_call 123; refine (zev _ _ ks _ _ hd (by simp at hn; omega)).mono ?_; rintro e w3 ⟨rfl, hw3⟩; rw [hw3]; clear hw3 w3))
     go_ret
     exact ⟨rfl, rfl⟩
end Go.Proofs.YtiglkhkfbgjjoaaDoor
