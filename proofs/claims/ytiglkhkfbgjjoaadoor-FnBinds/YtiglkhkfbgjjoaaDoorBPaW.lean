/- The program's reader: the readers that go straight on. -/
import Derived.Test.YtiglkhkfbgjjoaaDoorProg
import Derived.Test.YtiglkhkfbgjjoaaDoorBPaV
namespace Go.Proofs.YtiglkhkfbgjjoaaDoor
set_option maxRecDepth 20000
open Go.RowKit Go.PlainAid Go.Maps
set_option linter.unusedSimpArgs false
set_option linter.unusedVariables false

def keyP (ts : List TokD) (en : Nat) (s : PS) : Except (Int × Int) (Int × PS) := match nameP ts en s with
  | .error x => .error x
  | .ok (nm, s1) => .ok (addP 4 nm 0 [] s1)
set_option maxHeartbeats 2000000 in
theorem readKey_at {rb : Nat} {ts : List TokD} {tv : Value} {en : Nat} {r : Rd} {n : Nat} (hr : RP rb ts tv en r n) (hro : RdOk ts r) (w : World) (v : Value) (kv : List Value) (s : PS) (h : Rdr rb ts tv en w v kv s) (hp : s.ns.length ≤ 8 * s.i) (hf : ts.length < s.i + (n + 1)) :
    Calls Tryd.prog 197 #[.pointer (some ⟨rb, 0, none⟩)] w (RdE rb ts tv en w v kv (keyP ts en s)) := by
  have HS0 : Hid (St rb ts tv en w v kv w v [] s) := St.begin h
  have hT : ts.length ≤ 3000 := h.tl
  have hI : s.i ≤ ts.length := h.il
  clear h
  go_enter Tryd.func197, Tryd.ntmps197
  rcases name_cases ts en s with ⟨x1, y1, z1, e1⟩ | ⟨q1, e1⟩
  · skip
    have p1 : ((adv s)).ns.length ≤ 8 * ((adv s)).i := Nat.le_trans hp (Nat.mul_le_mul_left 8 (Nat.le_succ _))
    have i1 : ((adv s)).i = (s).i + 1 := rfl
    go_wp2_with (go_at_call 141; refine (HS0.out.name_yes x1 y1 z1).mono ?_; rintro e w1 ⟨rfl, h1⟩; have HS1 : Hid (St rb ts tv en w v kv _ _ _ (adv s)) := h1; clear h1 HS0)
    go_wp2_with (go_at_call 94; refine (HS1.out.add0 4 x1.tx 0 (by have := HS1.out.rd.il; omega)).mono ?_; rintro e w2 ⟨rfl, v2, K2, h2⟩; have HS2 : Hid (St rb ts tv en w v kv _ _ _ (addP 4 x1.tx 0 [] (adv s)).2) := h2; clear h2 HS1)
    go_ret
    exact RdE.yes HS2.out (by simp only [keyP, e1, ↓reduceIte, Bool.false_eq_true, if_true, if_false, Bool.and_true, Bool.true_and, and_true, and_false, true_and, false_and])
  · skip
    go_wp2_with (go_at_call 141; refine (HS0.out.name_no q1).mono ?_; rintro e w1 ⟨he, b1⟩; unfold pan at he; subst he; have HB : Hid (Below rb w w1) := b1; clear b1 HS0)
    exact ⟨rfl, RdE.no HB.out (by simp only [keyP, e1, ↓reduceIte, Bool.false_eq_true, if_true, if_false, Bool.and_true, Bool.true_and, and_true, and_false, true_and, false_and])⟩
set_option maxHeartbeats 2000000 in
theorem readParam_at {rb : Nat} {ts : List TokD} {tv : Value} {en : Nat} {r : Rd} {n : Nat} (hr : RP rb ts tv en r n) (hro : RdOk ts r) (w : World) (v : Value) (kv : List Value) (s : PS) (h : Rdr rb ts tv en w v kv s) (hp : s.ns.length ≤ 8 * s.i) (hf : ts.length < s.i + (n + 1)) :
    Calls Tryd.prog 198 #[.pointer (some ⟨rb, 0, none⟩)] w (RdE rb ts tv en w v kv (paP ts en s)) := by
  have HS0 : Hid (St rb ts tv en w v kv w v [] s) := St.begin h
  have hT : ts.length ≤ 3000 := h.tl
  have hI : s.i ≤ ts.length := h.il
  clear h
  go_enter Tryd.func198, Tryd.ntmps198
  rcases name_cases ts en s with ⟨x1, y1, z1, e1⟩ | ⟨q1, e1⟩
  · skip
    have p1 : ((adv s)).ns.length ≤ 8 * ((adv s)).i := Nat.le_trans hp (Nat.mul_le_mul_left 8 (Nat.le_succ _))
    have i1 : ((adv s)).i = (s).i + 1 := rfl
    go_wp2_with (go_at_call 141; refine (HS0.out.name_yes x1 y1 z1).mono ?_; rintro e w1 ⟨rfl, h1⟩; have HS1 : Hid (St rb ts tv en w v kv _ _ _ (adv s)) := h1; clear h1 HS0)
    go_wp2_with (go_at_call 94; refine (HS1.out.add0 22 x1.tx 0 (by have := HS1.out.rd.il; omega)).mono ?_; rintro e w2 ⟨rfl, v2, K2, h2⟩; have HS2 : Hid (St rb ts tv en w v kv _ _ _ (addP 22 x1.tx 0 [] (adv s)).2) := h2; clear h2 HS1)
    go_ret
    exact RdE.yes HS2.out (by simp only [paP, e1, ↓reduceIte, Bool.false_eq_true, if_true, if_false, Bool.and_true, Bool.true_and, and_true, and_false, true_and, false_and])
  · skip
    go_wp2_with (go_at_call 141; refine (HS0.out.name_no q1).mono ?_; rintro e w1 ⟨he, b1⟩; unfold pan at he; subst he; have HB : Hid (Below rb w w1) := b1; clear b1 HS0)
    exact ⟨rfl, RdE.no HB.out (by simp only [paP, e1, ↓reduceIte, Bool.false_eq_true, if_true, if_false, Bool.and_true, Bool.true_and, and_true, and_false, true_and, false_and])⟩
set_option maxHeartbeats 2000000 in
theorem readLast_at {rb : Nat} {ts : List TokD} {tv : Value} {en : Nat} {r : Rd} {n : Nat} (hr : RP rb ts tv en r n) (hro : RdOk ts r) (w : World) (v : Value) (kv : List Value) (s : PS) (h : Rdr rb ts tv en w v kv s) (hp : s.ns.length ≤ 8 * s.i) (hf : ts.length < s.i + (n)) :
    Calls Tryd.prog 143 #[.pointer (some ⟨rb, 0, none⟩)] w (RdE rb ts tv en w v kv (laP ts en r s)) := by
  have HS0 : Hid (St rb ts tv en w v kv w v [] s) := St.begin h
  have hT : ts.length ≤ 3000 := h.tl
  have hI : s.i ≤ ts.length := h.il
  clear h
  go_enter Tryd.func143, Tryd.ntmps143
  rcases e1 : r.wh s with ⟨x1⟩ | ⟨a1, s1⟩
  · skip
    go_wp2_with (go_at_call 145; refine (HS0.out.no (hr.wh _ _ _ _ HS0.out.rd hp (by omega)) e1).mono ?_; rintro e w1 ⟨he, b1⟩; unfold pan at he; subst he; have HB : Hid (Below rb w w1) := b1; clear b1 HS0)
    exact ⟨rfl, RdE.no HB.out (by simp only [laP, e1, ↓reduceIte, Bool.false_eq_true, if_true, if_false, Bool.and_true, Bool.true_and, and_true, and_false, true_and, false_and])⟩
  · skip
    have o1 := hro.wh e1
    have p1 : s1.ns.length ≤ 8 * s1.i := by have := o1.1.phi hp; omega
    have i1 := o1.1.1
    have t1 := o1.1.2.1
    go_wp2_with (go_at_call 145; refine (HS0.out.yes (hr.wh _ _ _ _ HS0.out.rd hp (by omega)) e1).mono ?_; rintro e w1 ⟨rfl, v1, K1, h1⟩; have HS1 : Hid (St rb ts tv en w v kv _ _ _ s1) := h1; clear h1 HS0)
    rcases want_cases ts en ⟨#[59]⟩ s1 with ⟨q2, e2⟩ | ⟨q2, e2⟩
    · skip
      have p2 : ((adv s1)).ns.length ≤ 8 * ((adv s1)).i := Nat.le_trans p1 (Nat.mul_le_mul_left 8 (Nat.le_succ _))
      have i2 : ((adv s1)).i = (s1).i + 1 := rfl
      go_wp2_with (go_at_call 142; refine (HS1.out.want_yes ⟨#[59]⟩ q2).mono ?_; rintro e w2 ⟨rfl, h2⟩; have HS2 : Hid (St rb ts tv en w v kv _ _ _ (adv s1)) := h2; clear h2 HS1)
      go_ret
      exact RdE.yes HS2.out (by simp only [laP, e1, e2, ↓reduceIte, Bool.false_eq_true, if_true, if_false, Bool.and_true, Bool.true_and, and_true, and_false, true_and, false_and])
    · skip
      go_wp2_with (go_at_call 142; refine (HS1.out.want_no ⟨#[59]⟩ q2).mono ?_; rintro e w2 ⟨he, b2⟩; unfold pan at he; subst he; have HB : Hid (Below rb w w2) := b2; clear b2 HS1)
      exact ⟨rfl, RdE.no HB.out (by simp only [laP, e1, e2, ↓reduceIte, Bool.false_eq_true, if_true, if_false, Bool.and_true, Bool.true_and, and_true, and_false, true_and, false_and])⟩
end Go.Proofs.YtiglkhkfbgjjoaaDoor
