/- The program's reader: fields. -/
import Derived.Test.YtiglkhkfbgjjoaaDoorProg
import Derived.Test.YtiglkhkfbgjjoaaDoorBPbD
namespace Go.Proofs.YtiglkhkfbgjjoaaDoor
set_option maxRecDepth 20000
open Go.RowKit Go.PlainAid Go.Maps
set_option linter.unusedSimpArgs false
set_option linter.unusedVariables false

set_option maxHeartbeats 2000000 in
theorem readField_at {rb : Nat} {ts : List TokD} {tv : Value} {en : Nat} {r : Rd} {n : Nat} (hr : RP rb ts tv en r n) (hro : RdOk ts r) (HN : ∀ (w : World) (v : Value) (kv : List Value) (s : PS), Rdr rb ts tv en w v kv s → Calls Tryd.prog 207 #[.pointer (some ⟨rb, 0, none⟩)] w fun e w' => e = .returned (.bool (kdN ts 1 s && isN ts ⟨#[61]⟩ (adv s))) ∧ Below w.heap.size w w') (w : World) (v : Value) (kv : List Value) (s : PS) (h : Rdr rb ts tv en w v kv s) (hp : s.ns.length ≤ 8 * s.i) (hf : ts.length < s.i + n) :
    Calls Tryd.prog 199 #[.pointer (some ⟨rb, 0, none⟩)] w (RdE rb ts tv en w v kv (fdP ts en r s)) := by
  have HS0 : Hid (St rb ts tv en w v kv w v [] s) := St.begin h
  have hT : ts.length ≤ 3000 := h.tl
  have hI : s.i ≤ ts.length := h.il
  clear h
  go_enter Tryd.func199, Tryd.ntmps199
  cases e1 : isN ts ⟨#[91]⟩ s
  · skip
    go_wp2_with (go_at_call 140; refine (HS0.out.pass_no ⟨#[91]⟩ e1).mono ?_; rintro e w1 ⟨rfl, h1⟩; have HS1 : Hid (St rb ts tv en w v kv _ _ _ s) := h1; clear h1 HS0)
    cases c2 : (kdN ts 1 s && isN ts ⟨#[61]⟩ (adv s))
    · skip
      go_wp2_with (go_at_call 207; refine (HN _ _ _ _ HS1.out.rd).mono ?_; rintro e w2 ⟨he, b6⟩; rw [c2] at he; subst he; have HS2 : Hid (St rb ts tv en w v kv _ _ _ s) := HS1.out.below b6; clear b6 HS1)
      rcases e3 : r.wh s with ⟨x3⟩ | ⟨a3, s3⟩
      · skip
        go_wp2_with (go_at_call 145; refine (HS2.out.no (hr.wh _ _ _ _ HS2.out.rd hp (by omega)) e3).mono ?_; rintro e w3 ⟨he, b3⟩; unfold pan at he; subst he; have HB : Hid (Below rb w w3) := b3; clear b3 HS2)
        exact ⟨rfl, RdE.no HB.out (by first | (simp only [fdP, pairP, e1, c2, e3, ↓reduceIte, Bool.false_eq_true, if_true, if_false, Bool.and_true, Bool.true_and, and_true, and_false, true_and, false_and]; done) | simp [fdP, pairP, e1, c2, e3])⟩
      · skip
        have o3 := hro.wh e3
        have p3 : s3.ns.length ≤ 8 * s3.i := by have := o3.1.phi hp; omega
        have i3 := o3.1.1
        have t3 := o3.1.2.1
        go_wp2_with (go_at_call 145; refine (HS2.out.yes (hr.wh _ _ _ _ HS2.out.rd hp (by omega)) e3).mono ?_; rintro e w3 ⟨rfl, v3, K3, h3⟩; have HS3 : Hid (St rb ts tv en w v kv _ _ _ s3) := h3; clear h3 HS2)
        go_wp2_with (go_at_call 94; refine (HS3.out.add [a3] 23 eT 0 (by simp) (by have := HS3.out.rd.il; omega) _ _ _ rfl rfl rfl).mono ?_; rintro e w4 ⟨rfl, v4, K4, h4⟩; have HS4 : Hid (St rb ts tv en w v kv _ _ _ (addP 23 eT 0 [a3] s3).2) := h4; clear h4 HS3)
        go_ret
        exact RdE.yes HS4.out (by first | (simp only [fdP, pairP, e1, c2, e3, ↓reduceIte, Bool.false_eq_true, if_true, if_false, Bool.and_true, Bool.true_and, and_true, and_false, true_and, false_and]; done) | simp [fdP, pairP, e1, c2, e3])
    · skip
      go_wp2_with (go_at_call 207; refine (HN _ _ _ _ HS1.out.rd).mono ?_; rintro e w2 ⟨he, b6⟩; rw [c2] at he; subst he; have HS2 : Hid (St rb ts tv en w v kv _ _ _ s) := HS1.out.below b6; clear b6 HS1)
      obtain ⟨x5, y5, z5, n5⟩ | ⟨n4, n5⟩ := name_cases ts en s
      rotate_left
      · rw [n4] at c2; cases c2
      have k5 : keyP ts en s = .ok (addP 4 x5.tx 0 [] (adv s)) := by unfold keyP; rw [n5]
      have t5 := (List.getElem?_eq_some_iff.1 y5).1
      go_wp2_with (go_at_call 197; refine (HS2.out.yes (readKey_at hr hro _ _ _ _ HS2.out.rd hp (by omega)) k5).mono ?_; rintro e w3 ⟨rfl, v3, K3, h3⟩; have HS3 : Hid (St rb ts tv en w v kv _ _ _ (addP 4 x5.tx 0 [] (adv s)).2) := h3; clear h3 HS2)
      have p3 : ((addP 4 x5.tx 0 [] (adv s)).2).ns.length ≤ 8 * ((addP 4 x5.tx 0 [] (adv s)).2).i := by simp [addP, adv]; omega
      have i3 : ((addP 4 x5.tx 0 [] (adv s)).2).i = s.i + 1 := rfl
      rcases want_cases ts en ⟨#[61]⟩ (addP 4 x5.tx 0 [] (adv s)).2 with ⟨q4, e4⟩ | ⟨q4, e4⟩
      · skip
        have p4 : ((adv (addP 4 x5.tx 0 [] (adv s)).2)).ns.length ≤ 8 * ((adv (addP 4 x5.tx 0 [] (adv s)).2)).i := Nat.le_trans p3 (Nat.mul_le_mul_left 8 (Nat.le_succ _))
        have i4 : ((adv (addP 4 x5.tx 0 [] (adv s)).2)).i = ((addP 4 x5.tx 0 [] (adv s)).2).i + 1 := rfl
        go_wp2_with (go_at_call 142; refine (HS3.out.want_yes ⟨#[61]⟩ q4).mono ?_; rintro e w4 ⟨rfl, h4⟩; have HS4 : Hid (St rb ts tv en w v kv _ _ _ (adv (addP 4 x5.tx 0 [] (adv s)).2)) := h4; clear h4 HS3)
        rcases e5 : r.wh (adv (addP 4 x5.tx 0 [] (adv s)).2) with ⟨x5⟩ | ⟨a5, s5⟩
        · skip
          go_wp2_with (go_at_call 145; refine (HS4.out.no (hr.wh _ _ _ _ HS4.out.rd p4 (by omega)) e5).mono ?_; rintro e w5 ⟨he, b5⟩; unfold pan at he; subst he; have HB : Hid (Below rb w w5) := b5; clear b5 HS4)
          exact ⟨rfl, RdE.no HB.out (by first | (simp only [fdP, pairP, e1, c2, n5, e4, e5, ↓reduceIte, Bool.false_eq_true, if_true, if_false, Bool.and_true, Bool.true_and, and_true, and_false, true_and, false_and]; done) | simp [fdP, pairP, e1, c2, n5, e4, e5])⟩
        · skip
          have o5 := hro.wh e5
          have p5 : s5.ns.length ≤ 8 * s5.i := by have := o5.1.phi p4; omega
          have i5 := o5.1.1
          have t5 := o5.1.2.1
          go_wp2_with (go_at_call 145; refine (HS4.out.yes (hr.wh _ _ _ _ HS4.out.rd p4 (by omega)) e5).mono ?_; rintro e w5 ⟨rfl, v5, K5, h5⟩; have HS5 : Hid (St rb ts tv en w v kv _ _ _ s5) := h5; clear h5 HS4)
          go_wp2_with (go_at_call 94; refine (HS5.out.add [(addP 4 x5.tx 0 [] (adv s)).1, a5] 24 eT 0 (by simp) (by have := HS5.out.rd.il; omega) _ _ _ rfl rfl rfl).mono ?_; rintro e w6 ⟨rfl, v6, K6, h6⟩; have HS6 : Hid (St rb ts tv en w v kv _ _ _ (addP 24 eT 0 [(addP 4 x5.tx 0 [] (adv s)).1, a5] s5).2) := h6; clear h6 HS5)
          go_ret
          exact RdE.yes HS6.out (by first | (simp only [fdP, pairP, e1, c2, n5, e4, e5, ↓reduceIte, Bool.false_eq_true, if_true, if_false, Bool.and_true, Bool.true_and, and_true, and_false, true_and, false_and]; done) | simp [fdP, pairP, e1, c2, n5, e4, e5])
      · skip
        go_wp2_with (go_at_call 142; refine (HS3.out.want_no ⟨#[61]⟩ q4).mono ?_; rintro e w4 ⟨he, b4⟩; unfold pan at he; subst he; have HB : Hid (Below rb w w4) := b4; clear b4 HS3)
        exact ⟨rfl, RdE.no HB.out (by first | (simp only [fdP, pairP, e1, c2, n5, e4, ↓reduceIte, Bool.false_eq_true, if_true, if_false, Bool.and_true, Bool.true_and, and_true, and_false, true_and, false_and]; done) | simp [fdP, pairP, e1, c2, n5, e4])⟩
  · skip
    have p1 : ((adv s)).ns.length ≤ 8 * ((adv s)).i := Nat.le_trans hp (Nat.mul_le_mul_left 8 (Nat.le_succ _))
    have i1 : ((adv s)).i = (s).i + 1 := rfl
    go_wp2_with (go_at_call 140; refine (HS0.out.pass_yes ⟨#[91]⟩ e1).mono ?_; rintro e w1 ⟨rfl, h1⟩; have HS1 : Hid (St rb ts tv en w v kv _ _ _ (adv s)) := h1; clear h1 HS0)
    rcases e2 : r.wh (adv s) with ⟨x2⟩ | ⟨a2, s2⟩
    · skip
      go_wp2_with (go_at_call 145; refine (HS1.out.no (hr.wh _ _ _ _ HS1.out.rd p1 (by omega)) e2).mono ?_; rintro e w2 ⟨he, b2⟩; unfold pan at he; subst he; have HB : Hid (Below rb w w2) := b2; clear b2 HS1)
      exact ⟨rfl, RdE.no HB.out (by first | (simp only [fdP, pairP, e1, e2, ↓reduceIte, Bool.false_eq_true, if_true, if_false, Bool.and_true, Bool.true_and, and_true, and_false, true_and, false_and]; done) | simp [fdP, pairP, e1, e2])⟩
    · skip
      have o2 := hro.wh e2
      have p2 : s2.ns.length ≤ 8 * s2.i := by have := o2.1.phi p1; omega
      have i2 := o2.1.1
      have t2 := o2.1.2.1
      go_wp2_with (go_at_call 145; refine (HS1.out.yes (hr.wh _ _ _ _ HS1.out.rd p1 (by omega)) e2).mono ?_; rintro e w2 ⟨rfl, v2, K2, h2⟩; have HS2 : Hid (St rb ts tv en w v kv _ _ _ s2) := h2; clear h2 HS1)
      rcases want_cases ts en ⟨#[93]⟩ s2 with ⟨q3, e3⟩ | ⟨q3, e3⟩
      · skip
        have p3 : ((adv s2)).ns.length ≤ 8 * ((adv s2)).i := Nat.le_trans p2 (Nat.mul_le_mul_left 8 (Nat.le_succ _))
        have i3 : ((adv s2)).i = (s2).i + 1 := rfl
        go_wp2_with (go_at_call 142; refine (HS2.out.want_yes ⟨#[93]⟩ q3).mono ?_; rintro e w3 ⟨rfl, h3⟩; have HS3 : Hid (St rb ts tv en w v kv _ _ _ (adv s2)) := h3; clear h3 HS2)
        rcases want_cases ts en ⟨#[61]⟩ (adv s2) with ⟨q4, e4⟩ | ⟨q4, e4⟩
        · skip
          have p4 : ((adv (adv s2))).ns.length ≤ 8 * ((adv (adv s2))).i := Nat.le_trans p3 (Nat.mul_le_mul_left 8 (Nat.le_succ _))
          have i4 : ((adv (adv s2))).i = ((adv s2)).i + 1 := rfl
          go_wp2_with (go_at_call 142; refine (HS3.out.want_yes ⟨#[61]⟩ q4).mono ?_; rintro e w4 ⟨rfl, h4⟩; have HS4 : Hid (St rb ts tv en w v kv _ _ _ (adv (adv s2))) := h4; clear h4 HS3)
          rcases e5 : r.wh (adv (adv s2)) with ⟨x5⟩ | ⟨a5, s5⟩
          · skip
            go_wp2_with (go_at_call 145; refine (HS4.out.no (hr.wh _ _ _ _ HS4.out.rd p4 (by omega)) e5).mono ?_; rintro e w5 ⟨he, b5⟩; unfold pan at he; subst he; have HB : Hid (Below rb w w5) := b5; clear b5 HS4)
            exact ⟨rfl, RdE.no HB.out (by first | (simp only [fdP, pairP, e1, e2, e3, e4, e5, ↓reduceIte, Bool.false_eq_true, if_true, if_false, Bool.and_true, Bool.true_and, and_true, and_false, true_and, false_and]; done) | simp [fdP, pairP, e1, e2, e3, e4, e5])⟩
          · skip
            have o5 := hro.wh e5
            have p5 : s5.ns.length ≤ 8 * s5.i := by have := o5.1.phi p4; omega
            have i5 := o5.1.1
            have t5 := o5.1.2.1
            go_wp2_with (go_at_call 145; refine (HS4.out.yes (hr.wh _ _ _ _ HS4.out.rd p4 (by omega)) e5).mono ?_; rintro e w5 ⟨rfl, v5, K5, h5⟩; have HS5 : Hid (St rb ts tv en w v kv _ _ _ s5) := h5; clear h5 HS4)
            go_wp2_with (go_at_call 94; refine (HS5.out.add [a2, a5] 24 eT 0 (by simp) (by have := HS5.out.rd.il; omega) _ _ _ rfl rfl rfl).mono ?_; rintro e w6 ⟨rfl, v6, K6, h6⟩; have HS6 : Hid (St rb ts tv en w v kv _ _ _ (addP 24 eT 0 [a2, a5] s5).2) := h6; clear h6 HS5)
            go_ret
            exact RdE.yes HS6.out (by first | (simp only [fdP, pairP, e1, e2, e3, e4, e5, ↓reduceIte, Bool.false_eq_true, if_true, if_false, Bool.and_true, Bool.true_and, and_true, and_false, true_and, false_and]; done) | simp [fdP, pairP, e1, e2, e3, e4, e5])
        · skip
          go_wp2_with (go_at_call 142; refine (HS3.out.want_no ⟨#[61]⟩ q4).mono ?_; rintro e w4 ⟨he, b4⟩; unfold pan at he; subst he; have HB : Hid (Below rb w w4) := b4; clear b4 HS3)
          exact ⟨rfl, RdE.no HB.out (by first | (simp only [fdP, pairP, e1, e2, e3, e4, ↓reduceIte, Bool.false_eq_true, if_true, if_false, Bool.and_true, Bool.true_and, and_true, and_false, true_and, false_and]; done) | simp [fdP, pairP, e1, e2, e3, e4])⟩
      · skip
        go_wp2_with (go_at_call 142; refine (HS2.out.want_no ⟨#[93]⟩ q3).mono ?_; rintro e w3 ⟨he, b3⟩; unfold pan at he; subst he; have HB : Hid (Below rb w w3) := b3; clear b3 HS2)
        exact ⟨rfl, RdE.no HB.out (by first | (simp only [fdP, pairP, e1, e2, e3, ↓reduceIte, Bool.false_eq_true, if_true, if_false, Bool.and_true, Bool.true_and, and_true, and_false, true_and, false_and]; done) | simp [fdP, pairP, e1, e2, e3])⟩
end Go.Proofs.YtiglkhkfbgjjoaaDoor
