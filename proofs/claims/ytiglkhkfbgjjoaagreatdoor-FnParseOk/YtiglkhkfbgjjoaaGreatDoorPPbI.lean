/- - -/
import Derived.Test.YtiglkhkfbgjjoaaGreatDoorPPbG
namespace Go.Proofs.YtiglkhkfbgjjoaaGreatDoor
set_option maxRecDepth 20000
open Go.RowKit Go.PlainAid Go.Maps
set_option linter.unusedSimpArgs false
set_option linter.unusedVariables false
def lvN (ts : List za) (l : Nat) (s : PS) : Nat := if l <= 1 /\ zai ts [⟨#[111, 114]⟩] s = true then 1 else if l <= 2 /\ zai ts [⟨#[97, 110, 100]⟩] s = true then 2 else if l <= 3 /\ zai ts [⟨#[61, 61]⟩, ⟨#[126, 61]⟩, ⟨#[60]⟩, ⟨#[60, 61]⟩] s = true then 3 else if l <= 4 /\ zai ts [⟨#[46, 46]⟩] s = true then 4 else if l <= 5 /\ zai ts [⟨#[43]⟩, ⟨#[45]⟩] s = true then 5 else if l <= 6 /\ zai ts [⟨#[42]⟩, ⟨#[47]⟩, ⟨#[37]⟩] s = true then 6 else 0
set_option maxHeartbeats 2000000 in
theorem St.level1 {rb : Nat} {ts : List za} {tv : Value} {en : Nat} {w w1 : World} {v v1 : Value} {kv K : List Value} {s1 : PS} (h : St rb ts tv en w v kv w1 v1 K s1) :
 Calls Tryz.prog 112 #[.pointer (some ⟨rb, 0, none⟩), .int .i64 1] w1 fun e w2 => e = .returned (.int .i64 (lvN ts 1 s1 : Int)) /\ St rb ts tv en w v kv w2 v1 K s1 := by
 have H0 : Hid (St rb ts tv en w v kv w1 v1 K s1) := h
 clear h
 go_enter Tryz.func112, Tryz.ntmps112
 cases e1 : zai ts [⟨#[111, 114]⟩] s1
 · go_wp2_with (go_at_call 97; refine (H0.out.next [⟨#[111, 114]⟩] false e1 (by simp) _ _ _ rfl rfl rfl).mono ?_; rintro e w2 ⟨rfl, h2⟩; have H2 : Hid (St rb ts tv en w v kv w2 v1 K s1) := h2; clear h2 H0)
   cases e2 : zai ts [⟨#[97, 110, 100]⟩] s1
   · go_wp2_with (go_at_call 97; refine (H2.out.next [⟨#[97, 110, 100]⟩] false e2 (by simp) _ _ _ rfl rfl rfl).mono ?_; rintro e w3 ⟨rfl, h3⟩; have H3 : Hid (St rb ts tv en w v kv w3 v1 K s1) := h3; clear h3 H2)
     cases e3 : zai ts [⟨#[61, 61]⟩, ⟨#[126, 61]⟩, ⟨#[60]⟩, ⟨#[60, 61]⟩] s1
     · go_wp2_with (go_at_call 97; refine (H3.out.next [⟨#[61, 61]⟩, ⟨#[126, 61]⟩, ⟨#[60]⟩, ⟨#[60, 61]⟩] false e3 (by simp) _ _ _ rfl rfl rfl).mono ?_; rintro e w4 ⟨rfl, h4⟩; have H4 : Hid (St rb ts tv en w v kv w4 v1 K s1) := h4; clear h4 H3)
       cases e4 : zai ts [⟨#[46, 46]⟩] s1
       · go_wp2_with (go_at_call 97; refine (H4.out.next [⟨#[46, 46]⟩] false e4 (by simp) _ _ _ rfl rfl rfl).mono ?_; rintro e w5 ⟨rfl, h5⟩; have H5 : Hid (St rb ts tv en w v kv w5 v1 K s1) := h5; clear h5 H4)
         cases e5 : zai ts [⟨#[43]⟩, ⟨#[45]⟩] s1
         · go_wp2_with (go_at_call 97; refine (H5.out.next [⟨#[43]⟩, ⟨#[45]⟩] false e5 (by simp) _ _ _ rfl rfl rfl).mono ?_; rintro e w6 ⟨rfl, h6⟩; have H6 : Hid (St rb ts tv en w v kv w6 v1 K s1) := h6; clear h6 H5)
           cases e6 : zai ts [⟨#[42]⟩, ⟨#[47]⟩, ⟨#[37]⟩] s1
           · go_wp2_with (go_at_call 97; refine (H6.out.next [⟨#[42]⟩, ⟨#[47]⟩, ⟨#[37]⟩] false e6 (by simp) _ _ _ rfl rfl rfl).mono ?_; rintro e w7 ⟨rfl, h7⟩; have H7 : Hid (St rb ts tv en w v kv w7 v1 K s1) := h7; clear h7 H6)
             go_wp2
             go_ret
             exact ⟨by simp [lvN, e1, e2, e3, e4, e5, e6], H7.out⟩
           · go_wp2_with (go_at_call 97; refine (H6.out.next [⟨#[42]⟩, ⟨#[47]⟩, ⟨#[37]⟩] true e6 (by simp) _ _ _ rfl rfl rfl).mono ?_; rintro e w7 ⟨rfl, h7⟩; have H7 : Hid (St rb ts tv en w v kv w7 v1 K s1) := h7; clear h7 H6)
             go_ret
             exact ⟨by simp [lvN, e1, e2, e3, e4, e5, e6], H7.out⟩
         · go_wp2_with (go_at_call 97; refine (H5.out.next [⟨#[43]⟩, ⟨#[45]⟩] true e5 (by simp) _ _ _ rfl rfl rfl).mono ?_; rintro e w6 ⟨rfl, h6⟩; have H6 : Hid (St rb ts tv en w v kv w6 v1 K s1) := h6; clear h6 H5)
           go_ret
           exact ⟨by simp [lvN, e1, e2, e3, e4, e5], H6.out⟩
       · go_wp2_with (go_at_call 97; refine (H4.out.next [⟨#[46, 46]⟩] true e4 (by simp) _ _ _ rfl rfl rfl).mono ?_; rintro e w5 ⟨rfl, h5⟩; have H5 : Hid (St rb ts tv en w v kv w5 v1 K s1) := h5; clear h5 H4)
         go_ret
         exact ⟨by simp [lvN, e1, e2, e3, e4], H5.out⟩
     · go_wp2_with (go_at_call 97; refine (H3.out.next [⟨#[61, 61]⟩, ⟨#[126, 61]⟩, ⟨#[60]⟩, ⟨#[60, 61]⟩] true e3 (by simp) _ _ _ rfl rfl rfl).mono ?_; rintro e w4 ⟨rfl, h4⟩; have H4 : Hid (St rb ts tv en w v kv w4 v1 K s1) := h4; clear h4 H3)
       go_ret
       exact ⟨by simp [lvN, e1, e2, e3], H4.out⟩
   · go_wp2_with (go_at_call 97; refine (H2.out.next [⟨#[97, 110, 100]⟩] true e2 (by simp) _ _ _ rfl rfl rfl).mono ?_; rintro e w3 ⟨rfl, h3⟩; have H3 : Hid (St rb ts tv en w v kv w3 v1 K s1) := h3; clear h3 H2)
     go_ret
     exact ⟨by simp [lvN, e1, e2], H3.out⟩
 · go_wp2_with (go_at_call 97; refine (H0.out.next [⟨#[111, 114]⟩] true e1 (by simp) _ _ _ rfl rfl rfl).mono ?_; rintro e w2 ⟨rfl, h2⟩; have H2 : Hid (St rb ts tv en w v kv w2 v1 K s1) := h2; clear h2 H0)
   go_ret
   exact ⟨by simp [lvN, e1], H2.out⟩
set_option maxHeartbeats 2000000 in
theorem St.level2 {rb : Nat} {ts : List za} {tv : Value} {en : Nat} {w w1 : World} {v v1 : Value} {kv K : List Value} {s1 : PS} (h : St rb ts tv en w v kv w1 v1 K s1) :
 Calls Tryz.prog 112 #[.pointer (some ⟨rb, 0, none⟩), .int .i64 2] w1 fun e w2 => e = .returned (.int .i64 (lvN ts 2 s1 : Int)) /\ St rb ts tv en w v kv w2 v1 K s1 := by
 have H0 : Hid (St rb ts tv en w v kv w1 v1 K s1) := h
 clear h
 go_enter Tryz.func112, Tryz.ntmps112
 cases e2 : zai ts [⟨#[97, 110, 100]⟩] s1
 · go_wp2_with (go_at_call 97; refine (H0.out.next [⟨#[97, 110, 100]⟩] false e2 (by simp) _ _ _ rfl rfl rfl).mono ?_; rintro e w3 ⟨rfl, h3⟩; have H3 : Hid (St rb ts tv en w v kv w3 v1 K s1) := h3; clear h3 H0)
   cases e3 : zai ts [⟨#[61, 61]⟩, ⟨#[126, 61]⟩, ⟨#[60]⟩, ⟨#[60, 61]⟩] s1
   · go_wp2_with (go_at_call 97; refine (H3.out.next [⟨#[61, 61]⟩, ⟨#[126, 61]⟩, ⟨#[60]⟩, ⟨#[60, 61]⟩] false e3 (by simp) _ _ _ rfl rfl rfl).mono ?_; rintro e w4 ⟨rfl, h4⟩; have H4 : Hid (St rb ts tv en w v kv w4 v1 K s1) := h4; clear h4 H3)
     cases e4 : zai ts [⟨#[46, 46]⟩] s1
     · go_wp2_with (go_at_call 97; refine (H4.out.next [⟨#[46, 46]⟩] false e4 (by simp) _ _ _ rfl rfl rfl).mono ?_; rintro e w5 ⟨rfl, h5⟩; have H5 : Hid (St rb ts tv en w v kv w5 v1 K s1) := h5; clear h5 H4)
       cases e5 : zai ts [⟨#[43]⟩, ⟨#[45]⟩] s1
       · go_wp2_with (go_at_call 97; refine (H5.out.next [⟨#[43]⟩, ⟨#[45]⟩] false e5 (by simp) _ _ _ rfl rfl rfl).mono ?_; rintro e w6 ⟨rfl, h6⟩; have H6 : Hid (St rb ts tv en w v kv w6 v1 K s1) := h6; clear h6 H5)
         cases e6 : zai ts [⟨#[42]⟩, ⟨#[47]⟩, ⟨#[37]⟩] s1
         · go_wp2_with (go_at_call 97; refine (H6.out.next [⟨#[42]⟩, ⟨#[47]⟩, ⟨#[37]⟩] false e6 (by simp) _ _ _ rfl rfl rfl).mono ?_; rintro e w7 ⟨rfl, h7⟩; have H7 : Hid (St rb ts tv en w v kv w7 v1 K s1) := h7; clear h7 H6)
           go_wp2
           go_ret
           exact ⟨by simp [lvN, e2, e3, e4, e5, e6], H7.out⟩
         · go_wp2_with (go_at_call 97; refine (H6.out.next [⟨#[42]⟩, ⟨#[47]⟩, ⟨#[37]⟩] true e6 (by simp) _ _ _ rfl rfl rfl).mono ?_; rintro e w7 ⟨rfl, h7⟩; have H7 : Hid (St rb ts tv en w v kv w7 v1 K s1) := h7; clear h7 H6)
           go_ret
           exact ⟨by simp [lvN, e2, e3, e4, e5, e6], H7.out⟩
       · go_wp2_with (go_at_call 97; refine (H5.out.next [⟨#[43]⟩, ⟨#[45]⟩] true e5 (by simp) _ _ _ rfl rfl rfl).mono ?_; rintro e w6 ⟨rfl, h6⟩; have H6 : Hid (St rb ts tv en w v kv w6 v1 K s1) := h6; clear h6 H5)
         go_ret
         exact ⟨by simp [lvN, e2, e3, e4, e5], H6.out⟩
     · go_wp2_with (go_at_call 97; refine (H4.out.next [⟨#[46, 46]⟩] true e4 (by simp) _ _ _ rfl rfl rfl).mono ?_; rintro e w5 ⟨rfl, h5⟩; have H5 : Hid (St rb ts tv en w v kv w5 v1 K s1) := h5; clear h5 H4)
       go_ret
       exact ⟨by simp [lvN, e2, e3, e4], H5.out⟩
   · go_wp2_with (go_at_call 97; refine (H3.out.next [⟨#[61, 61]⟩, ⟨#[126, 61]⟩, ⟨#[60]⟩, ⟨#[60, 61]⟩] true e3 (by simp) _ _ _ rfl rfl rfl).mono ?_; rintro e w4 ⟨rfl, h4⟩; have H4 : Hid (St rb ts tv en w v kv w4 v1 K s1) := h4; clear h4 H3)
     go_ret
     exact ⟨by simp [lvN, e2, e3], H4.out⟩
 · go_wp2_with (go_at_call 97; refine (H0.out.next [⟨#[97, 110, 100]⟩] true e2 (by simp) _ _ _ rfl rfl rfl).mono ?_; rintro e w3 ⟨rfl, h3⟩; have H3 : Hid (St rb ts tv en w v kv w3 v1 K s1) := h3; clear h3 H0)
   go_ret
   exact ⟨by simp [lvN, e2], H3.out⟩
set_option maxHeartbeats 2000000 in
theorem St.level3 {rb : Nat} {ts : List za} {tv : Value} {en : Nat} {w w1 : World} {v v1 : Value} {kv K : List Value} {s1 : PS} (h : St rb ts tv en w v kv w1 v1 K s1) :
 Calls Tryz.prog 112 #[.pointer (some ⟨rb, 0, none⟩), .int .i64 3] w1 fun e w2 => e = .returned (.int .i64 (lvN ts 3 s1 : Int)) /\ St rb ts tv en w v kv w2 v1 K s1 := by
 have H0 : Hid (St rb ts tv en w v kv w1 v1 K s1) := h
 clear h
 go_enter Tryz.func112, Tryz.ntmps112
 cases e3 : zai ts [⟨#[61, 61]⟩, ⟨#[126, 61]⟩, ⟨#[60]⟩, ⟨#[60, 61]⟩] s1
 · go_wp2_with (go_at_call 97; refine (H0.out.next [⟨#[61, 61]⟩, ⟨#[126, 61]⟩, ⟨#[60]⟩, ⟨#[60, 61]⟩] false e3 (by simp) _ _ _ rfl rfl rfl).mono ?_; rintro e w4 ⟨rfl, h4⟩; have H4 : Hid (St rb ts tv en w v kv w4 v1 K s1) := h4; clear h4 H0)
   cases e4 : zai ts [⟨#[46, 46]⟩] s1
   · go_wp2_with (go_at_call 97; refine (H4.out.next [⟨#[46, 46]⟩] false e4 (by simp) _ _ _ rfl rfl rfl).mono ?_; rintro e w5 ⟨rfl, h5⟩; have H5 : Hid (St rb ts tv en w v kv w5 v1 K s1) := h5; clear h5 H4)
     cases e5 : zai ts [⟨#[43]⟩, ⟨#[45]⟩] s1
     · go_wp2_with (go_at_call 97; refine (H5.out.next [⟨#[43]⟩, ⟨#[45]⟩] false e5 (by simp) _ _ _ rfl rfl rfl).mono ?_; rintro e w6 ⟨rfl, h6⟩; have H6 : Hid (St rb ts tv en w v kv w6 v1 K s1) := h6; clear h6 H5)
       cases e6 : zai ts [⟨#[42]⟩, ⟨#[47]⟩, ⟨#[37]⟩] s1
       · go_wp2_with (go_at_call 97; refine (H6.out.next [⟨#[42]⟩, ⟨#[47]⟩, ⟨#[37]⟩] false e6 (by simp) _ _ _ rfl rfl rfl).mono ?_; rintro e w7 ⟨rfl, h7⟩; have H7 : Hid (St rb ts tv en w v kv w7 v1 K s1) := h7; clear h7 H6)
         go_wp2
         go_ret
         exact ⟨by simp [lvN, e3, e4, e5, e6], H7.out⟩
       · go_wp2_with (go_at_call 97; refine (H6.out.next [⟨#[42]⟩, ⟨#[47]⟩, ⟨#[37]⟩] true e6 (by simp) _ _ _ rfl rfl rfl).mono ?_; rintro e w7 ⟨rfl, h7⟩; have H7 : Hid (St rb ts tv en w v kv w7 v1 K s1) := h7; clear h7 H6)
         go_ret
         exact ⟨by simp [lvN, e3, e4, e5, e6], H7.out⟩
     · go_wp2_with (go_at_call 97; refine (H5.out.next [⟨#[43]⟩, ⟨#[45]⟩] true e5 (by simp) _ _ _ rfl rfl rfl).mono ?_; rintro e w6 ⟨rfl, h6⟩; have H6 : Hid (St rb ts tv en w v kv w6 v1 K s1) := h6; clear h6 H5)
       go_ret
       exact ⟨by simp [lvN, e3, e4, e5], H6.out⟩
   · go_wp2_with (go_at_call 97; refine (H4.out.next [⟨#[46, 46]⟩] true e4 (by simp) _ _ _ rfl rfl rfl).mono ?_; rintro e w5 ⟨rfl, h5⟩; have H5 : Hid (St rb ts tv en w v kv w5 v1 K s1) := h5; clear h5 H4)
     go_ret
     exact ⟨by simp [lvN, e3, e4], H5.out⟩
 · go_wp2_with (go_at_call 97; refine (H0.out.next [⟨#[61, 61]⟩, ⟨#[126, 61]⟩, ⟨#[60]⟩, ⟨#[60, 61]⟩] true e3 (by simp) _ _ _ rfl rfl rfl).mono ?_; rintro e w4 ⟨rfl, h4⟩; have H4 : Hid (St rb ts tv en w v kv w4 v1 K s1) := h4; clear h4 H0)
   go_ret
   exact ⟨by simp [lvN, e3], H4.out⟩
set_option maxHeartbeats 2000000 in
theorem St.level4 {rb : Nat} {ts : List za} {tv : Value} {en : Nat} {w w1 : World} {v v1 : Value} {kv K : List Value} {s1 : PS} (h : St rb ts tv en w v kv w1 v1 K s1) :
 Calls Tryz.prog 112 #[.pointer (some ⟨rb, 0, none⟩), .int .i64 4] w1 fun e w2 => e = .returned (.int .i64 (lvN ts 4 s1 : Int)) /\ St rb ts tv en w v kv w2 v1 K s1 := by
 have H0 : Hid (St rb ts tv en w v kv w1 v1 K s1) := h
 clear h
 go_enter Tryz.func112, Tryz.ntmps112
 cases e4 : zai ts [⟨#[46, 46]⟩] s1
 · go_wp2_with (go_at_call 97; refine (H0.out.next [⟨#[46, 46]⟩] false e4 (by simp) _ _ _ rfl rfl rfl).mono ?_; rintro e w5 ⟨rfl, h5⟩; have H5 : Hid (St rb ts tv en w v kv w5 v1 K s1) := h5; clear h5 H0)
   cases e5 : zai ts [⟨#[43]⟩, ⟨#[45]⟩] s1
   · go_wp2_with (go_at_call 97; refine (H5.out.next [⟨#[43]⟩, ⟨#[45]⟩] false e5 (by simp) _ _ _ rfl rfl rfl).mono ?_; rintro e w6 ⟨rfl, h6⟩; have H6 : Hid (St rb ts tv en w v kv w6 v1 K s1) := h6; clear h6 H5)
     cases e6 : zai ts [⟨#[42]⟩, ⟨#[47]⟩, ⟨#[37]⟩] s1
     · go_wp2_with (go_at_call 97; refine (H6.out.next [⟨#[42]⟩, ⟨#[47]⟩, ⟨#[37]⟩] false e6 (by simp) _ _ _ rfl rfl rfl).mono ?_; rintro e w7 ⟨rfl, h7⟩; have H7 : Hid (St rb ts tv en w v kv w7 v1 K s1) := h7; clear h7 H6)
       go_wp2
       go_ret
       exact ⟨by simp [lvN, e4, e5, e6], H7.out⟩
     · go_wp2_with (go_at_call 97; refine (H6.out.next [⟨#[42]⟩, ⟨#[47]⟩, ⟨#[37]⟩] true e6 (by simp) _ _ _ rfl rfl rfl).mono ?_; rintro e w7 ⟨rfl, h7⟩; have H7 : Hid (St rb ts tv en w v kv w7 v1 K s1) := h7; clear h7 H6)
       go_ret
       exact ⟨by simp [lvN, e4, e5, e6], H7.out⟩
   · go_wp2_with (go_at_call 97; refine (H5.out.next [⟨#[43]⟩, ⟨#[45]⟩] true e5 (by simp) _ _ _ rfl rfl rfl).mono ?_; rintro e w6 ⟨rfl, h6⟩; have H6 : Hid (St rb ts tv en w v kv w6 v1 K s1) := h6; clear h6 H5)
     go_ret
     exact ⟨by simp [lvN, e4, e5], H6.out⟩
 · go_wp2_with (go_at_call 97; refine (H0.out.next [⟨#[46, 46]⟩] true e4 (by simp) _ _ _ rfl rfl rfl).mono ?_; rintro e w5 ⟨rfl, h5⟩; have H5 : Hid (St rb ts tv en w v kv w5 v1 K s1) := h5; clear h5 H0)
   go_ret
   exact ⟨by simp [lvN, e4], H5.out⟩
set_option maxHeartbeats 2000000 in
theorem St.level5 {rb : Nat} {ts : List za} {tv : Value} {en : Nat} {w w1 : World} {v v1 : Value} {kv K : List Value} {s1 : PS} (h : St rb ts tv en w v kv w1 v1 K s1) :
 Calls Tryz.prog 112 #[.pointer (some ⟨rb, 0, none⟩), .int .i64 5] w1 fun e w2 => e = .returned (.int .i64 (lvN ts 5 s1 : Int)) /\ St rb ts tv en w v kv w2 v1 K s1 := by
 have H0 : Hid (St rb ts tv en w v kv w1 v1 K s1) := h
 clear h
 go_enter Tryz.func112, Tryz.ntmps112
 cases e5 : zai ts [⟨#[43]⟩, ⟨#[45]⟩] s1
 · go_wp2_with (go_at_call 97; refine (H0.out.next [⟨#[43]⟩, ⟨#[45]⟩] false e5 (by simp) _ _ _ rfl rfl rfl).mono ?_; rintro e w6 ⟨rfl, h6⟩; have H6 : Hid (St rb ts tv en w v kv w6 v1 K s1) := h6; clear h6 H0)
   cases e6 : zai ts [⟨#[42]⟩, ⟨#[47]⟩, ⟨#[37]⟩] s1
   · go_wp2_with (go_at_call 97; refine (H6.out.next [⟨#[42]⟩, ⟨#[47]⟩, ⟨#[37]⟩] false e6 (by simp) _ _ _ rfl rfl rfl).mono ?_; rintro e w7 ⟨rfl, h7⟩; have H7 : Hid (St rb ts tv en w v kv w7 v1 K s1) := h7; clear h7 H6)
     go_wp2
     go_ret
     exact ⟨by simp [lvN, e5, e6], H7.out⟩
   · go_wp2_with (go_at_call 97; refine (H6.out.next [⟨#[42]⟩, ⟨#[47]⟩, ⟨#[37]⟩] true e6 (by simp) _ _ _ rfl rfl rfl).mono ?_; rintro e w7 ⟨rfl, h7⟩; have H7 : Hid (St rb ts tv en w v kv w7 v1 K s1) := h7; clear h7 H6)
     go_ret
     exact ⟨by simp [lvN, e5, e6], H7.out⟩
 · go_wp2_with (go_at_call 97; refine (H0.out.next [⟨#[43]⟩, ⟨#[45]⟩] true e5 (by simp) _ _ _ rfl rfl rfl).mono ?_; rintro e w6 ⟨rfl, h6⟩; have H6 : Hid (St rb ts tv en w v kv w6 v1 K s1) := h6; clear h6 H0)
   go_ret
   exact ⟨by simp [lvN, e5], H6.out⟩
set_option maxHeartbeats 2000000 in
theorem St.level6 {rb : Nat} {ts : List za} {tv : Value} {en : Nat} {w w1 : World} {v v1 : Value} {kv K : List Value} {s1 : PS} (h : St rb ts tv en w v kv w1 v1 K s1) :
 Calls Tryz.prog 112 #[.pointer (some ⟨rb, 0, none⟩), .int .i64 6] w1 fun e w2 => e = .returned (.int .i64 (lvN ts 6 s1 : Int)) /\ St rb ts tv en w v kv w2 v1 K s1 := by
 have H0 : Hid (St rb ts tv en w v kv w1 v1 K s1) := h
 clear h
 go_enter Tryz.func112, Tryz.ntmps112
 cases e6 : zai ts [⟨#[42]⟩, ⟨#[47]⟩, ⟨#[37]⟩] s1
 · go_wp2_with (go_at_call 97; refine (H0.out.next [⟨#[42]⟩, ⟨#[47]⟩, ⟨#[37]⟩] false e6 (by simp) _ _ _ rfl rfl rfl).mono ?_; rintro e w7 ⟨rfl, h7⟩; have H7 : Hid (St rb ts tv en w v kv w7 v1 K s1) := h7; clear h7 H0)
   go_wp2
   go_ret
   exact ⟨by simp [lvN, e6], H7.out⟩
 · go_wp2_with (go_at_call 97; refine (H0.out.next [⟨#[42]⟩, ⟨#[47]⟩, ⟨#[37]⟩] true e6 (by simp) _ _ _ rfl rfl rfl).mono ?_; rintro e w7 ⟨rfl, h7⟩; have H7 : Hid (St rb ts tv en w v kv w7 v1 K s1) := h7; clear h7 H0)
   go_ret
   exact ⟨by simp [lvN, e6], H7.out⟩
set_option maxHeartbeats 2000000 in
theorem St.level7 {rb : Nat} {ts : List za} {tv : Value} {en : Nat} {w w1 : World} {v v1 : Value} {kv K : List Value} {s1 : PS} (h : St rb ts tv en w v kv w1 v1 K s1) :
 Calls Tryz.prog 112 #[.pointer (some ⟨rb, 0, none⟩), .int .i64 7] w1 fun e w2 => e = .returned (.int .i64 (lvN ts 7 s1 : Int)) /\ St rb ts tv en w v kv w2 v1 K s1 := by
 have H0 : Hid (St rb ts tv en w v kv w1 v1 K s1) := h
 clear h
 go_enter Tryz.func112, Tryz.ntmps112
 go_wp2
 go_ret
 exact ⟨by simp [lvN], H0.out⟩
structure Lk (rb : Nat) (ts : List za) (tv : Value) (en : Nat) (w : World) (v : Value) (kv : List Value) (s : PS) : Prop where
 lt : rb < w.heap.size
 c0 : w.cell? ⟨rb, 0, none⟩ = some tv
 c1 : w.cell? ⟨rb, 1, none⟩ = some (.int .i64 (s.i : Int))
 fz : ∀ i, w.frozen? ⟨rb, i, none⟩ = false
 tk : zaa 0 w tv ts
 tlt : ∀ g, tv.ownBlock = some g -> g < rb
 il : s.i <= ts.length
 tl : ts.length <= 3000
theorem Lk.below {rb : Nat} {ts : List za} {tv : Value} {en : Nat} {w w' : World} {v : Value} {kv : List Value} {s : PS} (h : Lk rb ts tv en w v kv s) (hb : Below w.heap.size w w') : Lk rb ts tv en w' v kv s := by
 have e := fun i => hb.cell (p := ⟨rb, i, none⟩) h.lt
 exact ⟨Nat.lt_of_lt_of_le h.lt hb.size, by rw [e]; exact h.c0, by rw [e]; exact h.c1, fun i => by rw [World.frozen?_of_block (w := w) (hb.block rb h.lt)]; exact h.fz i, World.ownsRow.kept h.tk (row := none) ⟨hb.os, hb.tape, hb.output, hb.size, fun k hk _ => hb.block k hk⟩ (by cases tv.ownBlock <;> simp), h.tlt, h.il, h.tl⟩
theorem Lk.put1 {rb : Nat} {ts : List za} {tv : Value} {en : Nat} {w : World} {v : Value} {kv : List Value} {s : PS} (h : Lk rb ts tv en w v kv s) (n : Nat) (hn : n <= ts.length) :
 Lk rb ts tv en (w.setCell ⟨rb, 1, none⟩ (.int .i64 (n : Int))) v kv ⟨n, s.d, s.ns⟩ /\ Below rb w (w.setCell ⟨rb, 1, none⟩ (.int .i64 (n : Int))) := by
 have hb : ∀ k, k ≠ rb -> (w.setCell ⟨rb, 1, none⟩ (.int .i64 (n : Int))).heap[k]? = w.heap[k]? := fun k hk => Below.heap_setCell w ⟨rb, 1, none⟩ _ k hk
 refine ⟨⟨by simpa using h.lt, by rw [World.cell?_setCell_other _ _ _ _ (fun e => by have := congrArg Addr.off e; simp at this)]; exact h.c0, World.cell?_setCell_same' _ _ _ (by rw [h.c1]; rfl), fun i => by simp [go_sem, h.fz], World.ownsRow.kept h.tk (row := some rb) ⟨rfl, rfl, rfl, by simp, fun k _ hk => hb k (fun e => hk (by rw [e]))⟩ (.inr (fun e => by have := h.tlt rb e; omega)), h.tlt, hn, h.tl⟩, ⟨rfl, rfl, rfl, by simp, fun k hk => hb k (by omega)⟩⟩
theorem Lk.tok {rb : Nat} {ts : List za} {tv : Value} {en : Nat} {w : World} {v : Value} {kv : List Value} {s : PS} (h : Lk rb ts tv en w v kv s) {x : za} (hx : ts[s.i]? = some x) : ∃ g c, tv = .slice (some ⟨g, 0, none⟩) ts.length c /\ g < rb /\ g < w.heap.size /\ s.i < ts.length /\ w.cell? ⟨g, s.i * 4, none⟩ = some (.int .i64 x.k) /\ w.cell? ⟨g, s.i * 4 + 1, none⟩ = some (.int .i64 (x.at_ : Int)) /\ w.cell? ⟨g, s.i * 4 + 2, none⟩ = some (.string x.tx) /\ w.cell? ⟨g, s.i * 4 + 3, none⟩ = some (.int .i64 x.n) := by
 obtain ⟨hi, he⟩ := List.getElem?_eq_some_iff.1 hx
 have hown : w.ownsRow 0 68 4 tv ts.length (zw ts) := h.tk
 have hl := zct ts
 obtain ⟨t0, t1, t2, t3⟩ := zc0 (X := ts) (j := s.i) hi
 rw [he] at t0 t1 t2 t3
 obtain ⟨_, ⟨_, h0⟩ | ⟨g, cap, cur, rfl, _⟩⟩ := hown
 · omega
 have lg := h.tlt g rfl
 have c := fun j (hj : j < ts.length * 4) => h.tk.cellAt j hj
 exact ⟨g, cap, rfl, lg, Nat.lt_trans lg h.lt, hi, (c _ (by omega)).trans t0, (c _ (by omega)).trans t1, (c _ (by omega)).trans t2, (c _ (by omega)).trans t3⟩
theorem Lk.tform {rb : Nat} {ts : List za} {tv : Value} {en : Nat} {w : World} {v : Value} {kv : List Value} {s : PS} (h : Lk rb ts tv en w v kv s) : ∃ a c, tv = .slice a ts.length c := h.tk.form
set_option maxHeartbeats 1000000 in
theorem znw (rb : Nat) (ts : List za) (tv : Value) (en : Nat) (w : World) (v : Value) (kv : List Value) (s : PS) (h : Lk rb ts tv en w v kv s) (q : Bool) (hq : decide (s.i = ts.length) = q) :
 Calls Tryz.prog 29 #[.pointer (some ⟨rb, 0, none⟩)] w fun e w' => e = .returned (.bool q) /\ ∃ m, w' = w.drewN m := by
 obtain ⟨a, c, rfl⟩ := h.tform
 have c0 := h.c0
 have c1 := h.c1
 have lt := h.lt
 have hl : (ts.length : Int) <= 3000 := by have := h.tl; omega
 have hi : (s.i : Int) <= 3000 := by have := h.il; omega
 clear h
 cases q with
 | true =>
   have he : s.i = ts.length := by simpa using hq
   have he' : ((s.i : Int) == (ts.length : Int)) = true := by simp [he]
   clear hq he
   generalize s.i = si at *
   go_enter Tryz.func29, Tryz.ntmps29
   go_wp2
   go_quiet (fail)
   go_wp2
   go_ret
   exact ⟨by first | rfl | simp [he'], _, rfl⟩
 | false =>
   have he : ¬ s.i = ts.length := by simpa using hq
   have he' : ¬ ((s.i : Int) = (ts.length : Int)) := by omega
   clear hq he
   generalize s.i = si at *
   go_enter Tryz.func29, Tryz.ntmps29
   go_wp2
   go_quiet (fail)
   go_wp2
   go_ret
   exact ⟨by first | rfl | simp [he'], _, rfl⟩
theorem zd0 (rb : Nat) (ts : List za) (tv : Value) (en : Nat) (w : World) (v : Value) (kv : List Value) (s : PS) (h : Lk rb ts tv en w v kv s) (q : Bool) (hq : decide (s.i = ts.length) = q) :
 Calls Tryz.prog 29 #[.pointer (some ⟨rb, 0, none⟩)] w fun e w' => e = .returned (.bool q) /\ Below w.heap.size w w' := by
 refine (znw rb ts tv en w v kv s h q hq).mono ?_
 rintro e w' ⟨rfl, m, rfl⟩
 exact ⟨rfl, below_drewN (Below.refl _ _) _⟩
set_option maxHeartbeats 1000000 in
theorem zl8 (rb : Nat) (ts : List za) (tv : Value) (en : Nat) (w : World) (v : Value) (kv : List Value) (s : PS) (h : Lk rb ts tv en w v kv s) (g : Nat) (c : Nat) (bs : List ByteArray) (hl : bs.length <= 10) (hc : ∀ j, j < bs.length -> w.cell? ⟨g, 0 + j, none⟩ = some (.string (bs.getD j ByteArray.empty))) (hg : g < w.heap.size) (hx : ts[s.i]? = none) :
 Calls Tryz.prog 97 #[.pointer (some ⟨rb, 0, none⟩), .slice (some ⟨g, 0, none⟩) bs.length c] w fun e w' => e = .returned (.bool false) /\ Below w.heap.size w w' := by
 have hi : decide (s.i = ts.length) = true := by
  have := List.getElem?_eq_none_iff.1 hx
  have := h.il
  simp; omega
 have HR : Hid (Lk rb ts tv en w v kv s) := h
 clear h hx hc
 go_enter Tryz.func97, Tryz.ntmps97
 go_wp2_with (go_at_call 29; refine (zd0 rb ts _ en _ _ _ _ HR.out true hi).mono ?_; rintro e w6 ⟨rfl, b6'⟩; have HB : Hid (Below w.heap.size w w6) := b6'; clear b6')
 go_ret
 exact ⟨rfl, HB.out⟩
set_option maxHeartbeats 1000000 in
theorem zjn (rb : Nat) (ts : List za) (tv : Value) (en : Nat) (w : World) (v : Value) (kv : List Value) (s : PS) (h : Lk rb ts tv en w v kv s) (g : Nat) (c : Nat) (bs : List ByteArray) (hl : bs.length <= 10) (hc : ∀ j, j < bs.length -> w.cell? ⟨g, 0 + j, none⟩ = some (.string (bs.getD j ByteArray.empty))) (hg : g < w.heap.size) (x : za) (hx : ts[s.i]? = some x) (h2 : (x.k == 2) = false) (h5 : (x.k == 5) = false) :
 Calls Tryz.prog 97 #[.pointer (some ⟨rb, 0, none⟩), .slice (some ⟨g, 0, none⟩) bs.length c] w fun e w' => e = .returned (.bool false) /\ Below w.heap.size w w' := by
 have hi : decide (s.i = ts.length) = false := by
  obtain ⟨hl, _⟩ := List.getElem?_eq_some_iff.1 hx
  simp; omega
 obtain ⟨gt, ct, rfl, lg, lgw, hsl, t0, t1, t2, t3⟩ := h.tok hx
 have HR : Hid (Lk rb ts (.slice (some ⟨gt, 0, none⟩) ts.length ct) en w v kv s) := h
 have hs3 : s.i <= 3000 := by have := h.tl; omega
 have hl3 : ts.length <= 3000 := h.tl
 have HC : Hid (∀ j, j < bs.length -> w.cell? ⟨g, 0 + j, none⟩ = some (.string (bs.getD j ByteArray.empty))) := hc
 clear h hx hc
 obtain ⟨si, sd, sn⟩ := s
 have hi : decide (si = ts.length) = false := hi
 have hsl : si < ts.length := hsl
 have hs3 : si <= 3000 := hs3
 have HT : Hid (w.cell? ⟨gt, si * 4, none⟩ = some (.int .i64 x.k) /\ w.cell? ⟨gt, si * 4 + 1, none⟩ = some (.int .i64 (x.at_ : Int)) /\ w.cell? ⟨gt, si * 4 + 2, none⟩ = some (.string x.tx) /\ w.cell? ⟨gt, si * 4 + 3, none⟩ = some (.int .i64 x.n)) := ⟨t0, t1, t2, t3⟩
 clear t0 t1 t2 t3
 go_enter Tryz.func97, Tryz.ntmps97
 go_wp2_with (go_at_call 29; refine (zd0 rb ts _ en _ _ _ _ HR.out false hi).mono ?_; rintro e w6 ⟨rfl, b6'⟩; have HB : Hid (Below w.heap.size w w6) := b6'; have d0 := (HR.out.below b6').c0; have d1 : w6.cell? ⟨rb, 1, none⟩ = some (.int .i64 (si : Int)) := (HR.out.below b6').c1; have l6 := (HR.out.below b6').lt; have e0 : w6.cell? ⟨gt, si * 4, none⟩ = some (.int .i64 x.k) := (HB.out.cell (p := ⟨gt, si * 4, none⟩) lgw).trans HT.out.1; have e1 : w6.cell? ⟨gt, si * 4 + 1, none⟩ = some (.int .i64 (x.at_ : Int)) := (HB.out.cell (p := ⟨gt, si * 4 + 1, none⟩) lgw).trans HT.out.2.1; have e2 : w6.cell? ⟨gt, si * 4 + 2, none⟩ = some (.string x.tx) := (HB.out.cell (p := ⟨gt, si * 4 + 2, none⟩) lgw).trans HT.out.2.2.1; have e3 : w6.cell? ⟨gt, si * 4 + 3, none⟩ = some (.int .i64 x.n) := (HB.out.cell (p := ⟨gt, si * 4 + 3, none⟩) lgw).trans HT.out.2.2.2; have gw6 : g < w6.heap.size := Nat.lt_of_lt_of_le hg HB.out.size; have gt6 : gt < w6.heap.size := Nat.lt_of_lt_of_le lgw HB.out.size; clear b6')
 go_region
 go_wp2
 go_ret
 exact ⟨rfl, below_drewN (HB.out.alloc HB.out.size _) _⟩
set_option maxHeartbeats 1000000 in
theorem zl9 (rb : Nat) (ts : List za) (tv : Value) (en : Nat) (w : World) (v : Value) (kv : List Value) (s : PS) (h : Lk rb ts tv en w v kv s) (g : Nat) (c : Nat) (bs : List ByteArray) (hl : bs.length <= 10) (hc : ∀ j, j < bs.length -> w.cell? ⟨g, 0 + j, none⟩ = some (.string (bs.getD j ByteArray.empty))) (hg : g < w.heap.size) (x : za) (hx : ts[s.i]? = some x) (h2 : (x.k == 2) = true) :
 Calls Tryz.prog 97 #[.pointer (some ⟨rb, 0, none⟩), .slice (some ⟨g, 0, none⟩) bs.length c] w fun e w' => e = .returned (.bool (Lib.containsS bs x.tx)) /\ Below w.heap.size w w' := by
 have hi : decide (s.i = ts.length) = false := by
  obtain ⟨hl, _⟩ := List.getElem?_eq_some_iff.1 hx
  simp; omega
 obtain ⟨gt, ct, rfl, lg, lgw, hsl, t0, t1, t2, t3⟩ := h.tok hx
 have HR : Hid (Lk rb ts (.slice (some ⟨gt, 0, none⟩) ts.length ct) en w v kv s) := h
 have hs3 : s.i <= 3000 := by have := h.tl; omega
 have hl3 : ts.length <= 3000 := h.tl
 have HC : Hid (∀ j, j < bs.length -> w.cell? ⟨g, 0 + j, none⟩ = some (.string (bs.getD j ByteArray.empty))) := hc
 clear h hx hc
 obtain ⟨si, sd, sn⟩ := s
 have hi : decide (si = ts.length) = false := hi
 have hsl : si < ts.length := hsl
 have hs3 : si <= 3000 := hs3
 have HT : Hid (w.cell? ⟨gt, si * 4, none⟩ = some (.int .i64 x.k) /\ w.cell? ⟨gt, si * 4 + 1, none⟩ = some (.int .i64 (x.at_ : Int)) /\ w.cell? ⟨gt, si * 4 + 2, none⟩ = some (.string x.tx) /\ w.cell? ⟨gt, si * 4 + 3, none⟩ = some (.int .i64 x.n)) := ⟨t0, t1, t2, t3⟩
 clear t0 t1 t2 t3
 go_enter Tryz.func97, Tryz.ntmps97
 go_wp2_with (go_at_call 29; refine (zd0 rb ts _ en _ _ _ _ HR.out false hi).mono ?_; rintro e w6 ⟨rfl, b6'⟩; have HB : Hid (Below w.heap.size w w6) := b6'; have d0 := (HR.out.below b6').c0; have d1 : w6.cell? ⟨rb, 1, none⟩ = some (.int .i64 (si : Int)) := (HR.out.below b6').c1; have l6 := (HR.out.below b6').lt; have e0 : w6.cell? ⟨gt, si * 4, none⟩ = some (.int .i64 x.k) := (HB.out.cell (p := ⟨gt, si * 4, none⟩) lgw).trans HT.out.1; have e1 : w6.cell? ⟨gt, si * 4 + 1, none⟩ = some (.int .i64 (x.at_ : Int)) := (HB.out.cell (p := ⟨gt, si * 4 + 1, none⟩) lgw).trans HT.out.2.1; have e2 : w6.cell? ⟨gt, si * 4 + 2, none⟩ = some (.string x.tx) := (HB.out.cell (p := ⟨gt, si * 4 + 2, none⟩) lgw).trans HT.out.2.2.1; have e3 : w6.cell? ⟨gt, si * 4 + 3, none⟩ = some (.int .i64 x.n) := (HB.out.cell (p := ⟨gt, si * 4 + 3, none⟩) lgw).trans HT.out.2.2.2; have gw6 : g < w6.heap.size := Nat.lt_of_lt_of_le hg HB.out.size; have gt6 : gt < w6.heap.size := Nat.lt_of_lt_of_le lgw HB.out.size; clear b6')
 go_region
 go_wp2_with (go_at_call 110; refine (Tryz.slices_Contains_string g 0 bs.length c bs x.tx _ (Nat.le_refl _) (by omega) (fun j hj => ((below_drewN (HB.out.alloc HB.out.size _) _).cell (p := ⟨g, 0 + j, none⟩) hg).trans (HC.out j hj))).mono ?_; rintro e w7 ⟨rfl, rfl⟩)
 go_ret
 exact ⟨by simp, below_drewN (HB.out.alloc HB.out.size _) _⟩
set_option maxHeartbeats 1000000 in
theorem zk0 (rb : Nat) (ts : List za) (tv : Value) (en : Nat) (w : World) (v : Value) (kv : List Value) (s : PS) (h : Lk rb ts tv en w v kv s) (g : Nat) (c : Nat) (bs : List ByteArray) (hl : bs.length <= 10) (hc : ∀ j, j < bs.length -> w.cell? ⟨g, 0 + j, none⟩ = some (.string (bs.getD j ByteArray.empty))) (hg : g < w.heap.size) (x : za) (hx : ts[s.i]? = some x) (h2 : (x.k == 2) = false) (h5 : (x.k == 5) = true) :
 Calls Tryz.prog 97 #[.pointer (some ⟨rb, 0, none⟩), .slice (some ⟨g, 0, none⟩) bs.length c] w fun e w' => e = .returned (.bool (Lib.containsS bs x.tx)) /\ Below w.heap.size w w' := by
 have hi : decide (s.i = ts.length) = false := by
  obtain ⟨hl, _⟩ := List.getElem?_eq_some_iff.1 hx
  simp; omega
 obtain ⟨gt, ct, rfl, lg, lgw, hsl, t0, t1, t2, t3⟩ := h.tok hx
 have HR : Hid (Lk rb ts (.slice (some ⟨gt, 0, none⟩) ts.length ct) en w v kv s) := h
 have hs3 : s.i <= 3000 := by have := h.tl; omega
 have hl3 : ts.length <= 3000 := h.tl
 have HC : Hid (∀ j, j < bs.length -> w.cell? ⟨g, 0 + j, none⟩ = some (.string (bs.getD j ByteArray.empty))) := hc
 clear h hx hc
 obtain ⟨si, sd, sn⟩ := s
 have hi : decide (si = ts.length) = false := hi
 have hsl : si < ts.length := hsl
 have hs3 : si <= 3000 := hs3
 have HT : Hid (w.cell? ⟨gt, si * 4, none⟩ = some (.int .i64 x.k) /\ w.cell? ⟨gt, si * 4 + 1, none⟩ = some (.int .i64 (x.at_ : Int)) /\ w.cell? ⟨gt, si * 4 + 2, none⟩ = some (.string x.tx) /\ w.cell? ⟨gt, si * 4 + 3, none⟩ = some (.int .i64 x.n)) := ⟨t0, t1, t2, t3⟩
 clear t0 t1 t2 t3
 go_enter Tryz.func97, Tryz.ntmps97
 go_wp2_with (go_at_call 29; refine (zd0 rb ts _ en _ _ _ _ HR.out false hi).mono ?_; rintro e w6 ⟨rfl, b6'⟩; have HB : Hid (Below w.heap.size w w6) := b6'; have d0 := (HR.out.below b6').c0; have d1 : w6.cell? ⟨rb, 1, none⟩ = some (.int .i64 (si : Int)) := (HR.out.below b6').c1; have l6 := (HR.out.below b6').lt; have e0 : w6.cell? ⟨gt, si * 4, none⟩ = some (.int .i64 x.k) := (HB.out.cell (p := ⟨gt, si * 4, none⟩) lgw).trans HT.out.1; have e1 : w6.cell? ⟨gt, si * 4 + 1, none⟩ = some (.int .i64 (x.at_ : Int)) := (HB.out.cell (p := ⟨gt, si * 4 + 1, none⟩) lgw).trans HT.out.2.1; have e2 : w6.cell? ⟨gt, si * 4 + 2, none⟩ = some (.string x.tx) := (HB.out.cell (p := ⟨gt, si * 4 + 2, none⟩) lgw).trans HT.out.2.2.1; have e3 : w6.cell? ⟨gt, si * 4 + 3, none⟩ = some (.int .i64 x.n) := (HB.out.cell (p := ⟨gt, si * 4 + 3, none⟩) lgw).trans HT.out.2.2.2; have gw6 : g < w6.heap.size := Nat.lt_of_lt_of_le hg HB.out.size; have gt6 : gt < w6.heap.size := Nat.lt_of_lt_of_le lgw HB.out.size; clear b6')
 go_region
 go_wp2_with (go_at_call 110; refine (Tryz.slices_Contains_string g 0 bs.length c bs x.tx _ (Nat.le_refl _) (by omega) (fun j hj => ((below_drewN (HB.out.alloc HB.out.size _) _).cell (p := ⟨g, 0 + j, none⟩) hg).trans (HC.out j hj))).mono ?_; rintro e w7 ⟨rfl, rfl⟩)
 go_ret
 exact ⟨by simp, below_drewN (HB.out.alloc HB.out.size _) _⟩
theorem znx (rb : Nat) (ts : List za) (tv : Value) (en : Nat) (w : World) (v : Value) (kv : List Value) (s : PS) (h : Lk rb ts tv en w v kv s) (g : Nat) (c : Nat) (bs : List ByteArray) (hl : bs.length <= 10) (hc : ∀ j, j < bs.length -> w.cell? ⟨g, 0 + j, none⟩ = some (.string (bs.getD j ByteArray.empty))) (hg : g < w.heap.size) (q : Bool) (hq : zai ts bs s = q) :
 Calls Tryz.prog 97 #[.pointer (some ⟨rb, 0, none⟩), .slice (some ⟨g, 0, none⟩) bs.length c] w fun e w' => e = .returned (.bool q) /\ Below w.heap.size w w' := by
 subst hq
 cases hx : ts[s.i]? with
 | none =>
   have e : zai ts bs s = false := by
    have : ∀ b, isN ts b s = false := fun b => by unfold isN; rw [hx]
    unfold zai
    simp [this]
   rw [e]
   exact zl8 rb ts tv en w v kv s h g c bs hl hc hg hx
 | some x =>
   have e : zai ts bs s = bs.any (fun b => isT x b) := by
    unfold zai isN
    rw [hx]
   rw [e]
   cases h2 : (x.k == 2) with
   | true =>
     rw [zdj bs x (by rw [h2]; rfl)]
     exact zl9 rb ts tv en w v kv s h g c bs hl hc hg x hx h2
   | false =>
     cases h5 : (x.k == 5) with
     | true =>
       rw [zdj bs x (by rw [h2, h5]; rfl)]
       exact zk0 rb ts tv en w v kv s h g c bs hl hc hg x hx h2 h5
     | false =>
       have e2 : bs.any (fun b => isT x b) = false := by
        unfold isT
        simp [h2, h5]
       rw [e2]
       exact zjn rb ts tv en w v kv s h g c bs hl hc hg x hx h2 h5
theorem zma (rb : Nat) (ts : List za) (tv : Value) (en : Nat) (w : World) (v : Value) (kv : List Value) (s : PS) (h : Lk rb ts tv en w v kv s) (A : Array Value) (n g : Nat) (bs : List ByteArray) (hl : bs.length <= 10) (hg : g = w.heap.size) (hn : n = bs.length) (hA : A = (bs.map Value.string).toArray) (q : Bool) (hq : zai ts bs s = q) :
 Calls Tryz.prog 97 #[.pointer (some ⟨rb, 0, none⟩), .slice (some ⟨g, 0, none⟩) n n] (w.alloc (.cells A 9)) fun e w' => e = .returned (.bool q) /\ Below w.heap.size w w' := by
 subst hg hn hA
 have a0 : Below w.heap.size w (w.alloc (.cells (bs.map Value.string).toArray 9)) := (Below.refl _ _).alloc (Nat.le_refl _) _
 refine (znx rb ts tv en _ v kv s (h.below a0) w.heap.size bs.length bs hl (fun j hj => ?_) (by simp) q hq).mono ?_
 · have : (w.alloc (.cells (bs.map Value.string).toArray 9)).cell? ⟨w.heap.size, 0 + j, none⟩ = ((bs.map Value.string).toArray)[0 + j]? := by simp [go_sem]
   rw [this]
   simp [hj]
 · rintro e w' ⟨rfl, b⟩
   exact ⟨rfl, a0.trans (b.mono (by simp))⟩
set_option maxHeartbeats 1000000 in
theorem zqt (rb : Nat) (ts : List za) (tv : Value) (en : Nat) (w : World) (v : Value) (kv : List Value) (s : PS) (h : Lk rb ts tv en w v kv s) (x : za) (hx : ts[s.i]? = some x) :
 Calls Tryz.prog 100 #[.pointer (some ⟨rb, 0, none⟩)] w (fun e w' => e = .returned (.agg #[.int .i64 x.k, .int .i64 (x.at_ : Int), .string x.tx, .int .i64 x.n]) /\ Lk rb ts tv en w' v kv (adv s) /\ Below rb w w') := by
 obtain ⟨gt, ct, rfl, lg, lgw, hsl, t0, t1, t2, t3⟩ := h.tok hx
 have R := h.put1 (s.i + 1) (by omega)
 rw [show ((s.i + 1 : Nat) : Int) = (s.i : Int) + 1 by omega] at R
 have hs3 : (s.i : Int) <= 3000 := by have := h.tl; omega
 have hl3 : ts.length <= 3000 := h.tl
 obtain ⟨si, sd, sn⟩ := s
 have hsl : si < ts.length := hsl
 have hs3 : (si : Int) <= 3000 := hs3
 have c0 := h.c0
 have c1 : w.cell? ⟨rb, 1, none⟩ = some (.int .i64 (si : Int)) := h.c1
 have lt := h.lt
 have fz := h.fz 1
 have t0 : w.cell? ⟨gt, si * 4, none⟩ = some (.int .i64 x.k) := t0
 have t1 : w.cell? ⟨gt, si * 4 + 1, none⟩ = some (.int .i64 (x.at_ : Int)) := t1
 have t2 : w.cell? ⟨gt, si * 4 + 2, none⟩ = some (.string x.tx) := t2
 have t3 : w.cell? ⟨gt, si * 4 + 3, none⟩ = some (.int .i64 x.n) := t3
 clear h
 have HX := (show Hid _ from R)
 clear R
 have hne : ¬ gt = rb := by omega
 go_enter Tryz.func100, Tryz.ntmps100
 go_wp2
 go_region
 go_wp2
 have hb := below_drewN ((Below.refl (w.setCell ⟨rb, 1, none⟩ (.int .i64 ((si : Int) + 1))).heap.size (w.setCell ⟨rb, 1, none⟩ (.int .i64 ((si : Int) + 1)))).alloc (Nat.le_refl _) (.cells #[.int .i64 x.k, .int .i64 (x.at_ : Int), .string x.tx, .int .i64 x.n] 68)) 1
 refine bodyPost_ret (v := .agg #[.int .i64 x.k, .int .i64 (x.at_ : Int), .string x.tx, .int .i64 x.n]) (by simp [results, Tryz.results100, go_sem]) rfl ⟨rfl, HX.out.1.below hb, HX.out.2.trans (hb.mono (by simp; omega))⟩
set_option maxHeartbeats 1000000 in
theorem zk1 (rb : Nat) (ts : List za) (tv : Value) (en : Nat) (w : World) (v : Value) (kv : List Value) (s : PS) (h : Rdr rb ts tv en w v kv s) (hq : kdN ts 1 s = false) :
 Calls Tryz.prog 128 #[.pointer (some ⟨rb, 0, none⟩)] w fun e w' => e = .returned (.bool false) /\ Below w.heap.size w w' := by
 have HR : Hid (Rdr rb ts tv en w v kv s) := h
 clear h
 go_enter Tryz.func128, Tryz.ntmps128
 go_wp2_with (go_at_call 98; refine (zcj rb ts tv en _ v kv s HR.out 1 false hq).mono ?_; rintro e w1 ⟨rfl, b1⟩; have HB : Hid (Below w.heap.size w w1) := b1; clear b1)
 go_ret
 exact ⟨rfl, HB.out⟩
set_option maxHeartbeats 1000000 in
theorem zjo (rb : Nat) (ts : List za) (tv : Value) (en : Nat) (w : World) (v : Value) (kv : List Value) (s : PS) (h : Rdr rb ts tv en w v kv s) (hq : kdN ts 1 s = true) (q : Bool) (hq2 : isN ts ⟨#[61]⟩ (adv s) = q) :
 Calls Tryz.prog 128 #[.pointer (some ⟨rb, 0, none⟩)] w fun e w' => e = .returned (.bool q) /\ Below w.heap.size w w' := by
 have HR : Hid (Rdr rb ts tv en w v kv s) := h
 have hlt := zt3 ts hq
 obtain ⟨x, hx⟩ : ∃ x, ts[s.i]? = some x := ⟨_, List.getElem?_eq_getElem hlt⟩
 obtain ⟨va, vc, rfl⟩ : ∃ va vc, v = .slice va s.ns.length vc := by
  obtain ⟨_, ⟨hv, h0⟩ | ⟨g, cap, cur, hv, _⟩⟩ := h.nd.own
  · exact ⟨none, 0, by rw [h0]; exact hv⟩
  · exact ⟨_, _, hv⟩
 obtain ⟨ta, tc, rfl⟩ := h.tform
 clear h
 go_enter Tryz.func128, Tryz.ntmps128
 go_wp2_with (go_at_call 98; refine (zcj rb ts _ en _ _ kv s HR.out 1 true hq).mono ?_; rintro e w1 ⟨rfl, b1⟩; have HB : Hid (Below w.heap.size w w1) := b1; have HR1 : Hid (Rdr rb ts _ en w1 _ kv s) := HR.out.below b1; have d0 := HR1.out.c0; have d1 := HR1.out.c1; have d2 := HR1.out.c2; have d3 := HR1.out.c3; have d4 := HR1.out.c4; have l1 := HR1.out.lt; clear b1)
 have a1 : Below w1.heap.size w1 (w1.alloc (.cells #[.slice ta ts.length tc, .int .i64 (s.i : Int), .int .i64 (en : Int), .int .i64 (s.d : Int), .slice va s.ns.length vc] 45)) := (Below.refl _ _).alloc (Nat.le_refl _) _
 have nw := zj9 (w := w1) (A := #[.slice ta ts.length tc, .int .i64 (s.i : Int), .int .i64 (en : Int), .int .i64 (s.d : Int), .slice va s.ns.length vc]) (t := 45) (Below.refl _ _)
 have HL : Hid (Lk w1.heap.size ts (.slice ta ts.length tc) en (w1.alloc (.cells #[.slice ta ts.length tc, .int .i64 (s.i : Int), .int .i64 (en : Int), .int .i64 (s.d : Int), .slice va s.ns.length vc] 45)) (.slice va s.ns.length vc) kv s) := ⟨nw.2.2, nw.1 0, nw.1 1, nw.2.1, (HR1.out.below a1).tk, fun g hg => Nat.lt_trans (HR1.out.tlt g hg) HR1.out.lt, HR1.out.il, HR1.out.tl⟩
 have HA : Hid (Below w.heap.size w (w1.alloc (.cells #[.slice ta ts.length tc, .int .i64 (s.i : Int), .int .i64 (en : Int), .int .i64 (s.d : Int), .slice va s.ns.length vc] 45))) := HB.out.trans (a1.mono HB.out.size)
 have hw : w.heap.size <= w1.heap.size := HB.out.size
 clear a1 nw HR1 HR HB d0 d1 d2 d3 d4
 go_wp2_with (go_at_call 100; refine (zqt _ ts _ en _ _ kv s HL.out x hx).mono ?_; rintro e w3 ⟨rfl, h3, b3⟩; have HL3 : Hid (Lk w1.heap.size ts (.slice ta ts.length tc) en w3 (.slice va s.ns.length vc) kv (adv s)) := h3; have HB3 : Hid (Below w.heap.size w w3) := HA.out.trans (b3.mono hw); clear h3 b3 HL HA)
 go_wp2_with (go_at_call 97; refine (zma _ ts _ en _ _ kv (adv s) HL3.out _ _ _ [⟨#[61]⟩] (by simp) rfl rfl rfl q (by rw [zc7]; exact hq2)).mono ?_; rintro e w4 ⟨rfl, b4⟩; have HB4 : Hid (Below w.heap.size w w4) := HB3.out.trans (b4.mono HB3.out.size); clear b4)
 go_ret
 exact ⟨rfl, HB4.out⟩
theorem zk2 (rb : Nat) (ts : List za) (tv : Value) (en : Nat) (w : World) (v : Value) (kv : List Value) (s : PS) (h : Rdr rb ts tv en w v kv s) :
 Calls Tryz.prog 128 #[.pointer (some ⟨rb, 0, none⟩)] w fun e w' => e = .returned (.bool (kdN ts 1 s && isN ts ⟨#[61]⟩ (adv s))) /\ Below w.heap.size w w' := by
 cases hq : kdN ts 1 s with
 | false => exact zk1 rb ts tv en w v kv s h hq
 | true => exact zjo rb ts tv en w v kv s h hq _ rfl
end Go.Proofs.YtiglkhkfbgjjoaaGreatDoor
