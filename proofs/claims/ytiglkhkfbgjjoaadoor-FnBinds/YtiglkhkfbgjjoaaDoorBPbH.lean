/- The program's reader: the level of the operator that comes next. -/
import Derived.Test.YtiglkhkfbgjjoaaDoorProg
import Derived.Test.YtiglkhkfbgjjoaaDoorBPbG
namespace Go.Proofs.YtiglkhkfbgjjoaaDoor
set_option maxRecDepth 20000
open Go.RowKit Go.PlainAid Go.Maps
set_option linter.unusedSimpArgs false
set_option linter.unusedVariables false

/-- The level of the operator that comes next, if it is at least l; else 0. -/
def lvN (ts : List TokD) (l : Nat) (s : PS) : Nat := if l ≤ 1 ∧ isNL ts [⟨#[111, 114]⟩] s = true then 1 else if l ≤ 2 ∧ isNL ts [⟨#[97, 110, 100]⟩] s = true then 2 else if l ≤ 3 ∧ isNL ts [⟨#[61, 61]⟩, ⟨#[126, 61]⟩, ⟨#[60]⟩, ⟨#[60, 61]⟩] s = true then 3 else if l ≤ 4 ∧ isNL ts [⟨#[46, 46]⟩] s = true then 4 else if l ≤ 5 ∧ isNL ts [⟨#[43]⟩, ⟨#[45]⟩] s = true then 5 else if l ≤ 6 ∧ isNL ts [⟨#[42]⟩, ⟨#[47]⟩, ⟨#[37]⟩] s = true then 6 else 0
set_option maxHeartbeats 2000000 in
theorem St.level1 {rb : Nat} {ts : List TokD} {tv : Value} {en : Nat} {w w1 : World} {v v1 : Value} {kv K : List Value} {s1 : PS} (h : St rb ts tv en w v kv w1 v1 K s1) :
    Calls Tryd.prog 182 #[.pointer (some ⟨rb, 0, none⟩), .int .i64 1] w1 fun e w2 => e = .returned (.int .i64 (lvN ts 1 s1 : Int)) ∧ St rb ts tv en w v kv w2 v1 K s1 := by
  have H0 : Hid (St rb ts tv en w v kv w1 v1 K s1) := h
  clear h
  go_enter Tryd.func182, Tryd.ntmps182
  cases e1 : isNL ts [⟨#[111, 114]⟩] s1
  · go_wp2_with (go_at_call 168; refine (H0.out.next [⟨#[111, 114]⟩] false e1 (by simp) _ _ _ rfl rfl rfl).mono ?_; rintro e w2 ⟨rfl, h2⟩; have H2 : Hid (St rb ts tv en w v kv w2 v1 K s1) := h2; clear h2 H0)
    cases e2 : isNL ts [⟨#[97, 110, 100]⟩] s1
    · go_wp2_with (go_at_call 168; refine (H2.out.next [⟨#[97, 110, 100]⟩] false e2 (by simp) _ _ _ rfl rfl rfl).mono ?_; rintro e w3 ⟨rfl, h3⟩; have H3 : Hid (St rb ts tv en w v kv w3 v1 K s1) := h3; clear h3 H2)
      cases e3 : isNL ts [⟨#[61, 61]⟩, ⟨#[126, 61]⟩, ⟨#[60]⟩, ⟨#[60, 61]⟩] s1
      · go_wp2_with (go_at_call 168; refine (H3.out.next [⟨#[61, 61]⟩, ⟨#[126, 61]⟩, ⟨#[60]⟩, ⟨#[60, 61]⟩] false e3 (by simp) _ _ _ rfl rfl rfl).mono ?_; rintro e w4 ⟨rfl, h4⟩; have H4 : Hid (St rb ts tv en w v kv w4 v1 K s1) := h4; clear h4 H3)
        cases e4 : isNL ts [⟨#[46, 46]⟩] s1
        · go_wp2_with (go_at_call 168; refine (H4.out.next [⟨#[46, 46]⟩] false e4 (by simp) _ _ _ rfl rfl rfl).mono ?_; rintro e w5 ⟨rfl, h5⟩; have H5 : Hid (St rb ts tv en w v kv w5 v1 K s1) := h5; clear h5 H4)
          cases e5 : isNL ts [⟨#[43]⟩, ⟨#[45]⟩] s1
          · go_wp2_with (go_at_call 168; refine (H5.out.next [⟨#[43]⟩, ⟨#[45]⟩] false e5 (by simp) _ _ _ rfl rfl rfl).mono ?_; rintro e w6 ⟨rfl, h6⟩; have H6 : Hid (St rb ts tv en w v kv w6 v1 K s1) := h6; clear h6 H5)
            cases e6 : isNL ts [⟨#[42]⟩, ⟨#[47]⟩, ⟨#[37]⟩] s1
            · go_wp2_with (go_at_call 168; refine (H6.out.next [⟨#[42]⟩, ⟨#[47]⟩, ⟨#[37]⟩] false e6 (by simp) _ _ _ rfl rfl rfl).mono ?_; rintro e w7 ⟨rfl, h7⟩; have H7 : Hid (St rb ts tv en w v kv w7 v1 K s1) := h7; clear h7 H6)
              go_wp2
              go_ret
              exact ⟨by simp [lvN, e1, e2, e3, e4, e5, e6], H7.out⟩
            · go_wp2_with (go_at_call 168; refine (H6.out.next [⟨#[42]⟩, ⟨#[47]⟩, ⟨#[37]⟩] true e6 (by simp) _ _ _ rfl rfl rfl).mono ?_; rintro e w7 ⟨rfl, h7⟩; have H7 : Hid (St rb ts tv en w v kv w7 v1 K s1) := h7; clear h7 H6)
              go_ret
              exact ⟨by simp [lvN, e1, e2, e3, e4, e5, e6], H7.out⟩
          · go_wp2_with (go_at_call 168; refine (H5.out.next [⟨#[43]⟩, ⟨#[45]⟩] true e5 (by simp) _ _ _ rfl rfl rfl).mono ?_; rintro e w6 ⟨rfl, h6⟩; have H6 : Hid (St rb ts tv en w v kv w6 v1 K s1) := h6; clear h6 H5)
            go_ret
            exact ⟨by simp [lvN, e1, e2, e3, e4, e5], H6.out⟩
        · go_wp2_with (go_at_call 168; refine (H4.out.next [⟨#[46, 46]⟩] true e4 (by simp) _ _ _ rfl rfl rfl).mono ?_; rintro e w5 ⟨rfl, h5⟩; have H5 : Hid (St rb ts tv en w v kv w5 v1 K s1) := h5; clear h5 H4)
          go_ret
          exact ⟨by simp [lvN, e1, e2, e3, e4], H5.out⟩
      · go_wp2_with (go_at_call 168; refine (H3.out.next [⟨#[61, 61]⟩, ⟨#[126, 61]⟩, ⟨#[60]⟩, ⟨#[60, 61]⟩] true e3 (by simp) _ _ _ rfl rfl rfl).mono ?_; rintro e w4 ⟨rfl, h4⟩; have H4 : Hid (St rb ts tv en w v kv w4 v1 K s1) := h4; clear h4 H3)
        go_ret
        exact ⟨by simp [lvN, e1, e2, e3], H4.out⟩
    · go_wp2_with (go_at_call 168; refine (H2.out.next [⟨#[97, 110, 100]⟩] true e2 (by simp) _ _ _ rfl rfl rfl).mono ?_; rintro e w3 ⟨rfl, h3⟩; have H3 : Hid (St rb ts tv en w v kv w3 v1 K s1) := h3; clear h3 H2)
      go_ret
      exact ⟨by simp [lvN, e1, e2], H3.out⟩
  · go_wp2_with (go_at_call 168; refine (H0.out.next [⟨#[111, 114]⟩] true e1 (by simp) _ _ _ rfl rfl rfl).mono ?_; rintro e w2 ⟨rfl, h2⟩; have H2 : Hid (St rb ts tv en w v kv w2 v1 K s1) := h2; clear h2 H0)
    go_ret
    exact ⟨by simp [lvN, e1], H2.out⟩
set_option maxHeartbeats 2000000 in
theorem St.level2 {rb : Nat} {ts : List TokD} {tv : Value} {en : Nat} {w w1 : World} {v v1 : Value} {kv K : List Value} {s1 : PS} (h : St rb ts tv en w v kv w1 v1 K s1) :
    Calls Tryd.prog 182 #[.pointer (some ⟨rb, 0, none⟩), .int .i64 2] w1 fun e w2 => e = .returned (.int .i64 (lvN ts 2 s1 : Int)) ∧ St rb ts tv en w v kv w2 v1 K s1 := by
  have H0 : Hid (St rb ts tv en w v kv w1 v1 K s1) := h
  clear h
  go_enter Tryd.func182, Tryd.ntmps182
  cases e2 : isNL ts [⟨#[97, 110, 100]⟩] s1
  · go_wp2_with (go_at_call 168; refine (H0.out.next [⟨#[97, 110, 100]⟩] false e2 (by simp) _ _ _ rfl rfl rfl).mono ?_; rintro e w3 ⟨rfl, h3⟩; have H3 : Hid (St rb ts tv en w v kv w3 v1 K s1) := h3; clear h3 H0)
    cases e3 : isNL ts [⟨#[61, 61]⟩, ⟨#[126, 61]⟩, ⟨#[60]⟩, ⟨#[60, 61]⟩] s1
    · go_wp2_with (go_at_call 168; refine (H3.out.next [⟨#[61, 61]⟩, ⟨#[126, 61]⟩, ⟨#[60]⟩, ⟨#[60, 61]⟩] false e3 (by simp) _ _ _ rfl rfl rfl).mono ?_; rintro e w4 ⟨rfl, h4⟩; have H4 : Hid (St rb ts tv en w v kv w4 v1 K s1) := h4; clear h4 H3)
      cases e4 : isNL ts [⟨#[46, 46]⟩] s1
      · go_wp2_with (go_at_call 168; refine (H4.out.next [⟨#[46, 46]⟩] false e4 (by simp) _ _ _ rfl rfl rfl).mono ?_; rintro e w5 ⟨rfl, h5⟩; have H5 : Hid (St rb ts tv en w v kv w5 v1 K s1) := h5; clear h5 H4)
        cases e5 : isNL ts [⟨#[43]⟩, ⟨#[45]⟩] s1
        · go_wp2_with (go_at_call 168; refine (H5.out.next [⟨#[43]⟩, ⟨#[45]⟩] false e5 (by simp) _ _ _ rfl rfl rfl).mono ?_; rintro e w6 ⟨rfl, h6⟩; have H6 : Hid (St rb ts tv en w v kv w6 v1 K s1) := h6; clear h6 H5)
          cases e6 : isNL ts [⟨#[42]⟩, ⟨#[47]⟩, ⟨#[37]⟩] s1
          · go_wp2_with (go_at_call 168; refine (H6.out.next [⟨#[42]⟩, ⟨#[47]⟩, ⟨#[37]⟩] false e6 (by simp) _ _ _ rfl rfl rfl).mono ?_; rintro e w7 ⟨rfl, h7⟩; have H7 : Hid (St rb ts tv en w v kv w7 v1 K s1) := h7; clear h7 H6)
            go_wp2
            go_ret
            exact ⟨by simp [lvN, e2, e3, e4, e5, e6], H7.out⟩
          · go_wp2_with (go_at_call 168; refine (H6.out.next [⟨#[42]⟩, ⟨#[47]⟩, ⟨#[37]⟩] true e6 (by simp) _ _ _ rfl rfl rfl).mono ?_; rintro e w7 ⟨rfl, h7⟩; have H7 : Hid (St rb ts tv en w v kv w7 v1 K s1) := h7; clear h7 H6)
            go_ret
            exact ⟨by simp [lvN, e2, e3, e4, e5, e6], H7.out⟩
        · go_wp2_with (go_at_call 168; refine (H5.out.next [⟨#[43]⟩, ⟨#[45]⟩] true e5 (by simp) _ _ _ rfl rfl rfl).mono ?_; rintro e w6 ⟨rfl, h6⟩; have H6 : Hid (St rb ts tv en w v kv w6 v1 K s1) := h6; clear h6 H5)
          go_ret
          exact ⟨by simp [lvN, e2, e3, e4, e5], H6.out⟩
      · go_wp2_with (go_at_call 168; refine (H4.out.next [⟨#[46, 46]⟩] true e4 (by simp) _ _ _ rfl rfl rfl).mono ?_; rintro e w5 ⟨rfl, h5⟩; have H5 : Hid (St rb ts tv en w v kv w5 v1 K s1) := h5; clear h5 H4)
        go_ret
        exact ⟨by simp [lvN, e2, e3, e4], H5.out⟩
    · go_wp2_with (go_at_call 168; refine (H3.out.next [⟨#[61, 61]⟩, ⟨#[126, 61]⟩, ⟨#[60]⟩, ⟨#[60, 61]⟩] true e3 (by simp) _ _ _ rfl rfl rfl).mono ?_; rintro e w4 ⟨rfl, h4⟩; have H4 : Hid (St rb ts tv en w v kv w4 v1 K s1) := h4; clear h4 H3)
      go_ret
      exact ⟨by simp [lvN, e2, e3], H4.out⟩
  · go_wp2_with (go_at_call 168; refine (H0.out.next [⟨#[97, 110, 100]⟩] true e2 (by simp) _ _ _ rfl rfl rfl).mono ?_; rintro e w3 ⟨rfl, h3⟩; have H3 : Hid (St rb ts tv en w v kv w3 v1 K s1) := h3; clear h3 H0)
    go_ret
    exact ⟨by simp [lvN, e2], H3.out⟩
set_option maxHeartbeats 2000000 in
theorem St.level3 {rb : Nat} {ts : List TokD} {tv : Value} {en : Nat} {w w1 : World} {v v1 : Value} {kv K : List Value} {s1 : PS} (h : St rb ts tv en w v kv w1 v1 K s1) :
    Calls Tryd.prog 182 #[.pointer (some ⟨rb, 0, none⟩), .int .i64 3] w1 fun e w2 => e = .returned (.int .i64 (lvN ts 3 s1 : Int)) ∧ St rb ts tv en w v kv w2 v1 K s1 := by
  have H0 : Hid (St rb ts tv en w v kv w1 v1 K s1) := h
  clear h
  go_enter Tryd.func182, Tryd.ntmps182
  cases e3 : isNL ts [⟨#[61, 61]⟩, ⟨#[126, 61]⟩, ⟨#[60]⟩, ⟨#[60, 61]⟩] s1
  · go_wp2_with (go_at_call 168; refine (H0.out.next [⟨#[61, 61]⟩, ⟨#[126, 61]⟩, ⟨#[60]⟩, ⟨#[60, 61]⟩] false e3 (by simp) _ _ _ rfl rfl rfl).mono ?_; rintro e w4 ⟨rfl, h4⟩; have H4 : Hid (St rb ts tv en w v kv w4 v1 K s1) := h4; clear h4 H0)
    cases e4 : isNL ts [⟨#[46, 46]⟩] s1
    · go_wp2_with (go_at_call 168; refine (H4.out.next [⟨#[46, 46]⟩] false e4 (by simp) _ _ _ rfl rfl rfl).mono ?_; rintro e w5 ⟨rfl, h5⟩; have H5 : Hid (St rb ts tv en w v kv w5 v1 K s1) := h5; clear h5 H4)
      cases e5 : isNL ts [⟨#[43]⟩, ⟨#[45]⟩] s1
      · go_wp2_with (go_at_call 168; refine (H5.out.next [⟨#[43]⟩, ⟨#[45]⟩] false e5 (by simp) _ _ _ rfl rfl rfl).mono ?_; rintro e w6 ⟨rfl, h6⟩; have H6 : Hid (St rb ts tv en w v kv w6 v1 K s1) := h6; clear h6 H5)
        cases e6 : isNL ts [⟨#[42]⟩, ⟨#[47]⟩, ⟨#[37]⟩] s1
        · go_wp2_with (go_at_call 168; refine (H6.out.next [⟨#[42]⟩, ⟨#[47]⟩, ⟨#[37]⟩] false e6 (by simp) _ _ _ rfl rfl rfl).mono ?_; rintro e w7 ⟨rfl, h7⟩; have H7 : Hid (St rb ts tv en w v kv w7 v1 K s1) := h7; clear h7 H6)
          go_wp2
          go_ret
          exact ⟨by simp [lvN, e3, e4, e5, e6], H7.out⟩
        · go_wp2_with (go_at_call 168; refine (H6.out.next [⟨#[42]⟩, ⟨#[47]⟩, ⟨#[37]⟩] true e6 (by simp) _ _ _ rfl rfl rfl).mono ?_; rintro e w7 ⟨rfl, h7⟩; have H7 : Hid (St rb ts tv en w v kv w7 v1 K s1) := h7; clear h7 H6)
          go_ret
          exact ⟨by simp [lvN, e3, e4, e5, e6], H7.out⟩
      · go_wp2_with (go_at_call 168; refine (H5.out.next [⟨#[43]⟩, ⟨#[45]⟩] true e5 (by simp) _ _ _ rfl rfl rfl).mono ?_; rintro e w6 ⟨rfl, h6⟩; have H6 : Hid (St rb ts tv en w v kv w6 v1 K s1) := h6; clear h6 H5)
        go_ret
        exact ⟨by simp [lvN, e3, e4, e5], H6.out⟩
    · go_wp2_with (go_at_call 168; refine (H4.out.next [⟨#[46, 46]⟩] true e4 (by simp) _ _ _ rfl rfl rfl).mono ?_; rintro e w5 ⟨rfl, h5⟩; have H5 : Hid (St rb ts tv en w v kv w5 v1 K s1) := h5; clear h5 H4)
      go_ret
      exact ⟨by simp [lvN, e3, e4], H5.out⟩
  · go_wp2_with (go_at_call 168; refine (H0.out.next [⟨#[61, 61]⟩, ⟨#[126, 61]⟩, ⟨#[60]⟩, ⟨#[60, 61]⟩] true e3 (by simp) _ _ _ rfl rfl rfl).mono ?_; rintro e w4 ⟨rfl, h4⟩; have H4 : Hid (St rb ts tv en w v kv w4 v1 K s1) := h4; clear h4 H0)
    go_ret
    exact ⟨by simp [lvN, e3], H4.out⟩
set_option maxHeartbeats 2000000 in
theorem St.level4 {rb : Nat} {ts : List TokD} {tv : Value} {en : Nat} {w w1 : World} {v v1 : Value} {kv K : List Value} {s1 : PS} (h : St rb ts tv en w v kv w1 v1 K s1) :
    Calls Tryd.prog 182 #[.pointer (some ⟨rb, 0, none⟩), .int .i64 4] w1 fun e w2 => e = .returned (.int .i64 (lvN ts 4 s1 : Int)) ∧ St rb ts tv en w v kv w2 v1 K s1 := by
  have H0 : Hid (St rb ts tv en w v kv w1 v1 K s1) := h
  clear h
  go_enter Tryd.func182, Tryd.ntmps182
  cases e4 : isNL ts [⟨#[46, 46]⟩] s1
  · go_wp2_with (go_at_call 168; refine (H0.out.next [⟨#[46, 46]⟩] false e4 (by simp) _ _ _ rfl rfl rfl).mono ?_; rintro e w5 ⟨rfl, h5⟩; have H5 : Hid (St rb ts tv en w v kv w5 v1 K s1) := h5; clear h5 H0)
    cases e5 : isNL ts [⟨#[43]⟩, ⟨#[45]⟩] s1
    · go_wp2_with (go_at_call 168; refine (H5.out.next [⟨#[43]⟩, ⟨#[45]⟩] false e5 (by simp) _ _ _ rfl rfl rfl).mono ?_; rintro e w6 ⟨rfl, h6⟩; have H6 : Hid (St rb ts tv en w v kv w6 v1 K s1) := h6; clear h6 H5)
      cases e6 : isNL ts [⟨#[42]⟩, ⟨#[47]⟩, ⟨#[37]⟩] s1
      · go_wp2_with (go_at_call 168; refine (H6.out.next [⟨#[42]⟩, ⟨#[47]⟩, ⟨#[37]⟩] false e6 (by simp) _ _ _ rfl rfl rfl).mono ?_; rintro e w7 ⟨rfl, h7⟩; have H7 : Hid (St rb ts tv en w v kv w7 v1 K s1) := h7; clear h7 H6)
        go_wp2
        go_ret
        exact ⟨by simp [lvN, e4, e5, e6], H7.out⟩
      · go_wp2_with (go_at_call 168; refine (H6.out.next [⟨#[42]⟩, ⟨#[47]⟩, ⟨#[37]⟩] true e6 (by simp) _ _ _ rfl rfl rfl).mono ?_; rintro e w7 ⟨rfl, h7⟩; have H7 : Hid (St rb ts tv en w v kv w7 v1 K s1) := h7; clear h7 H6)
        go_ret
        exact ⟨by simp [lvN, e4, e5, e6], H7.out⟩
    · go_wp2_with (go_at_call 168; refine (H5.out.next [⟨#[43]⟩, ⟨#[45]⟩] true e5 (by simp) _ _ _ rfl rfl rfl).mono ?_; rintro e w6 ⟨rfl, h6⟩; have H6 : Hid (St rb ts tv en w v kv w6 v1 K s1) := h6; clear h6 H5)
      go_ret
      exact ⟨by simp [lvN, e4, e5], H6.out⟩
  · go_wp2_with (go_at_call 168; refine (H0.out.next [⟨#[46, 46]⟩] true e4 (by simp) _ _ _ rfl rfl rfl).mono ?_; rintro e w5 ⟨rfl, h5⟩; have H5 : Hid (St rb ts tv en w v kv w5 v1 K s1) := h5; clear h5 H0)
    go_ret
    exact ⟨by simp [lvN, e4], H5.out⟩
set_option maxHeartbeats 2000000 in
theorem St.level5 {rb : Nat} {ts : List TokD} {tv : Value} {en : Nat} {w w1 : World} {v v1 : Value} {kv K : List Value} {s1 : PS} (h : St rb ts tv en w v kv w1 v1 K s1) :
    Calls Tryd.prog 182 #[.pointer (some ⟨rb, 0, none⟩), .int .i64 5] w1 fun e w2 => e = .returned (.int .i64 (lvN ts 5 s1 : Int)) ∧ St rb ts tv en w v kv w2 v1 K s1 := by
  have H0 : Hid (St rb ts tv en w v kv w1 v1 K s1) := h
  clear h
  go_enter Tryd.func182, Tryd.ntmps182
  cases e5 : isNL ts [⟨#[43]⟩, ⟨#[45]⟩] s1
  · go_wp2_with (go_at_call 168; refine (H0.out.next [⟨#[43]⟩, ⟨#[45]⟩] false e5 (by simp) _ _ _ rfl rfl rfl).mono ?_; rintro e w6 ⟨rfl, h6⟩; have H6 : Hid (St rb ts tv en w v kv w6 v1 K s1) := h6; clear h6 H0)
    cases e6 : isNL ts [⟨#[42]⟩, ⟨#[47]⟩, ⟨#[37]⟩] s1
    · go_wp2_with (go_at_call 168; refine (H6.out.next [⟨#[42]⟩, ⟨#[47]⟩, ⟨#[37]⟩] false e6 (by simp) _ _ _ rfl rfl rfl).mono ?_; rintro e w7 ⟨rfl, h7⟩; have H7 : Hid (St rb ts tv en w v kv w7 v1 K s1) := h7; clear h7 H6)
      go_wp2
      go_ret
      exact ⟨by simp [lvN, e5, e6], H7.out⟩
    · go_wp2_with (go_at_call 168; refine (H6.out.next [⟨#[42]⟩, ⟨#[47]⟩, ⟨#[37]⟩] true e6 (by simp) _ _ _ rfl rfl rfl).mono ?_; rintro e w7 ⟨rfl, h7⟩; have H7 : Hid (St rb ts tv en w v kv w7 v1 K s1) := h7; clear h7 H6)
      go_ret
      exact ⟨by simp [lvN, e5, e6], H7.out⟩
  · go_wp2_with (go_at_call 168; refine (H0.out.next [⟨#[43]⟩, ⟨#[45]⟩] true e5 (by simp) _ _ _ rfl rfl rfl).mono ?_; rintro e w6 ⟨rfl, h6⟩; have H6 : Hid (St rb ts tv en w v kv w6 v1 K s1) := h6; clear h6 H0)
    go_ret
    exact ⟨by simp [lvN, e5], H6.out⟩
set_option maxHeartbeats 2000000 in
theorem St.level6 {rb : Nat} {ts : List TokD} {tv : Value} {en : Nat} {w w1 : World} {v v1 : Value} {kv K : List Value} {s1 : PS} (h : St rb ts tv en w v kv w1 v1 K s1) :
    Calls Tryd.prog 182 #[.pointer (some ⟨rb, 0, none⟩), .int .i64 6] w1 fun e w2 => e = .returned (.int .i64 (lvN ts 6 s1 : Int)) ∧ St rb ts tv en w v kv w2 v1 K s1 := by
  have H0 : Hid (St rb ts tv en w v kv w1 v1 K s1) := h
  clear h
  go_enter Tryd.func182, Tryd.ntmps182
  cases e6 : isNL ts [⟨#[42]⟩, ⟨#[47]⟩, ⟨#[37]⟩] s1
  · go_wp2_with (go_at_call 168; refine (H0.out.next [⟨#[42]⟩, ⟨#[47]⟩, ⟨#[37]⟩] false e6 (by simp) _ _ _ rfl rfl rfl).mono ?_; rintro e w7 ⟨rfl, h7⟩; have H7 : Hid (St rb ts tv en w v kv w7 v1 K s1) := h7; clear h7 H0)
    go_wp2
    go_ret
    exact ⟨by simp [lvN, e6], H7.out⟩
  · go_wp2_with (go_at_call 168; refine (H0.out.next [⟨#[42]⟩, ⟨#[47]⟩, ⟨#[37]⟩] true e6 (by simp) _ _ _ rfl rfl rfl).mono ?_; rintro e w7 ⟨rfl, h7⟩; have H7 : Hid (St rb ts tv en w v kv w7 v1 K s1) := h7; clear h7 H0)
    go_ret
    exact ⟨by simp [lvN, e6], H7.out⟩
set_option maxHeartbeats 2000000 in
theorem St.level7 {rb : Nat} {ts : List TokD} {tv : Value} {en : Nat} {w w1 : World} {v v1 : Value} {kv K : List Value} {s1 : PS} (h : St rb ts tv en w v kv w1 v1 K s1) :
    Calls Tryd.prog 182 #[.pointer (some ⟨rb, 0, none⟩), .int .i64 7] w1 fun e w2 => e = .returned (.int .i64 (lvN ts 7 s1 : Int)) ∧ St rb ts tv en w v kv w2 v1 K s1 := by
  have H0 : Hid (St rb ts tv en w v kv w1 v1 K s1) := h
  clear h
  go_enter Tryd.func182, Tryd.ntmps182
  go_wp2
  go_ret
  exact ⟨by simp [lvN], H0.out⟩
end Go.Proofs.YtiglkhkfbgjjoaaDoor
