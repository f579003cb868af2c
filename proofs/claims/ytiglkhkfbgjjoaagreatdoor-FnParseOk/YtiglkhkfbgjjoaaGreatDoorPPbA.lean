/- - -/
import Derived.Test.YtiglkhkfbgjjoaaGreatDoorPPaY
namespace Go.Proofs.YtiglkhkfbgjjoaaGreatDoor
set_option maxRecDepth 20000
open Go.RowKit Go.PlainAid Go.Maps
set_option linter.unusedSimpArgs false
set_option linter.unusedVariables false
def ze1 (ts : List za) (en : Nat) (s : PS) : Except (Int × Int) (Int × PS) := match zbf ts en s with
 | .error x => .error x
 | .ok (nm, s1) => .ok (zb 4 nm 0 [] s1)
set_option maxHeartbeats 2000000 in
theorem zfp {rb : Nat} {ts : List za} {tv : Value} {en : Nat} {r : Rd} {n : Nat} (hr : RP rb ts tv en r n) (hro : zk ts r) (w : World) (v : Value) (kv : List Value) (s : PS) (h : Rdr rb ts tv en w v kv s) (hp : s.ns.length <= 8 * s.i) (hf : ts.length < s.i + (n + 1)) :
 Calls Tryz.prog 123 #[.pointer (some ⟨rb, 0, none⟩)] w (RdE rb ts tv en w v kv (ze1 ts en s)) := by
 have HS0 : Hid (St rb ts tv en w v kv w v [] s) := St.begin h
 have hT : ts.length <= 3000 := h.tl
 have hI : s.i <= ts.length := h.il
 clear h
 go_enter Tryz.func123, Tryz.ntmps123
 rcases zbp ts en s with ⟨x1, y1, z1, e1⟩ | ⟨q1, e1⟩
 · skip
   have p1 : ((adv s)).ns.length <= 8 * ((adv s)).i := Nat.le_trans hp (Nat.mul_le_mul_left 8 (Nat.le_succ _))
   have i1 : ((adv s)).i = (s).i + 1 := rfl
   go_wp2_with (go_at_call 70; refine (HS0.out.name_yes x1 y1 z1).mono ?_; rintro e w1 ⟨rfl, h1⟩; have HS1 : Hid (St rb ts tv en w v kv _ _ _ (adv s)) := h1; clear h1 HS0)
   go_wp2_with (go_at_call 31; refine (HS1.out.add0 4 x1.tx 0 (by have := HS1.out.rd.il; omega)).mono ?_; rintro e w2 ⟨rfl, v2, K2, h2⟩; have HS2 : Hid (St rb ts tv en w v kv _ _ _ (zb 4 x1.tx 0 [] (adv s)).2) := h2; clear h2 HS1)
   go_ret
   exact RdE.yes HS2.out (by simp only [ze1, e1, ↓reduceIte, Bool.false_eq_true, if_true, if_false, Bool.and_true, Bool.true_and, and_true, and_false, true_and, false_and])
 · skip
   go_wp2_with (go_at_call 70; refine (HS0.out.name_no q1).mono ?_; rintro e w1 ⟨he, b1⟩; unfold pan at he; subst he; have HB : Hid (Below rb w w1) := b1; clear b1 HS0)
   exact ⟨rfl, RdE.no HB.out (by simp only [ze1, e1, ↓reduceIte, Bool.false_eq_true, if_true, if_false, Bool.and_true, Bool.true_and, and_true, and_false, true_and, false_and])⟩
set_option maxHeartbeats 2000000 in
theorem zkm {rb : Nat} {ts : List za} {tv : Value} {en : Nat} {r : Rd} {n : Nat} (hr : RP rb ts tv en r n) (hro : zk ts r) (w : World) (v : Value) (kv : List Value) (s : PS) (h : Rdr rb ts tv en w v kv s) (hp : s.ns.length <= 8 * s.i) (hf : ts.length < s.i + (n + 1)) :
 Calls Tryz.prog 124 #[.pointer (some ⟨rb, 0, none⟩)] w (RdE rb ts tv en w v kv (paP ts en s)) := by
 have HS0 : Hid (St rb ts tv en w v kv w v [] s) := St.begin h
 have hT : ts.length <= 3000 := h.tl
 have hI : s.i <= ts.length := h.il
 clear h
 go_enter Tryz.func124, Tryz.ntmps124
 rcases zbp ts en s with ⟨x1, y1, z1, e1⟩ | ⟨q1, e1⟩
 · skip
   have p1 : ((adv s)).ns.length <= 8 * ((adv s)).i := Nat.le_trans hp (Nat.mul_le_mul_left 8 (Nat.le_succ _))
   have i1 : ((adv s)).i = (s).i + 1 := rfl
   go_wp2_with (go_at_call 70; refine (HS0.out.name_yes x1 y1 z1).mono ?_; rintro e w1 ⟨rfl, h1⟩; have HS1 : Hid (St rb ts tv en w v kv _ _ _ (adv s)) := h1; clear h1 HS0)
   go_wp2_with (go_at_call 31; refine (HS1.out.add0 22 x1.tx 0 (by have := HS1.out.rd.il; omega)).mono ?_; rintro e w2 ⟨rfl, v2, K2, h2⟩; have HS2 : Hid (St rb ts tv en w v kv _ _ _ (zb 22 x1.tx 0 [] (adv s)).2) := h2; clear h2 HS1)
   go_ret
   exact RdE.yes HS2.out (by simp only [paP, e1, ↓reduceIte, Bool.false_eq_true, if_true, if_false, Bool.and_true, Bool.true_and, and_true, and_false, true_and, false_and])
 · skip
   go_wp2_with (go_at_call 70; refine (HS0.out.name_no q1).mono ?_; rintro e w1 ⟨he, b1⟩; unfold pan at he; subst he; have HB : Hid (Below rb w w1) := b1; clear b1 HS0)
   exact ⟨rfl, RdE.no HB.out (by simp only [paP, e1, ↓reduceIte, Bool.false_eq_true, if_true, if_false, Bool.and_true, Bool.true_and, and_true, and_false, true_and, false_and])⟩
set_option maxHeartbeats 2000000 in
theorem zbr {rb : Nat} {ts : List za} {tv : Value} {en : Nat} {r : Rd} {n : Nat} (hr : RP rb ts tv en r n) (hro : zk ts r) (w : World) (v : Value) (kv : List Value) (s : PS) (h : Rdr rb ts tv en w v kv s) (hp : s.ns.length <= 8 * s.i) (hf : ts.length < s.i + (n)) :
 Calls Tryz.prog 72 #[.pointer (some ⟨rb, 0, none⟩)] w (RdE rb ts tv en w v kv (laP ts en r s)) := by
 have HS0 : Hid (St rb ts tv en w v kv w v [] s) := St.begin h
 have hT : ts.length <= 3000 := h.tl
 have hI : s.i <= ts.length := h.il
 clear h
 go_enter Tryz.func72, Tryz.ntmps72
 rcases e1 : r.wh s with ⟨x1⟩ | ⟨a1, s1⟩
 · skip
   go_wp2_with (go_at_call 74; refine (HS0.out.no (hr.wh _ _ _ _ HS0.out.rd hp (by omega)) e1).mono ?_; rintro e w1 ⟨he, b1⟩; unfold pan at he; subst he; have HB : Hid (Below rb w w1) := b1; clear b1 HS0)
   exact ⟨rfl, RdE.no HB.out (by simp only [laP, e1, ↓reduceIte, Bool.false_eq_true, if_true, if_false, Bool.and_true, Bool.true_and, and_true, and_false, true_and, false_and])⟩
 · skip
   have o1 := hro.wh e1
   have p1 : s1.ns.length <= 8 * s1.i := by have := o1.1.phi hp; omega
   have i1 := o1.1.1
   have t1 := o1.1.2.1
   go_wp2_with (go_at_call 74; refine (HS0.out.yes (hr.wh _ _ _ _ HS0.out.rd hp (by omega)) e1).mono ?_; rintro e w1 ⟨rfl, v1, K1, h1⟩; have HS1 : Hid (St rb ts tv en w v kv _ _ _ s1) := h1; clear h1 HS0)
   rcases zac ts en ⟨#[59]⟩ s1 with ⟨q2, e2⟩ | ⟨q2, e2⟩
   · skip
     have p2 : ((adv s1)).ns.length <= 8 * ((adv s1)).i := Nat.le_trans p1 (Nat.mul_le_mul_left 8 (Nat.le_succ _))
     have i2 : ((adv s1)).i = (s1).i + 1 := rfl
     go_wp2_with (go_at_call 71; refine (HS1.out.want_yes ⟨#[59]⟩ q2).mono ?_; rintro e w2 ⟨rfl, h2⟩; have HS2 : Hid (St rb ts tv en w v kv _ _ _ (adv s1)) := h2; clear h2 HS1)
     go_ret
     exact RdE.yes HS2.out (by simp only [laP, e1, e2, ↓reduceIte, Bool.false_eq_true, if_true, if_false, Bool.and_true, Bool.true_and, and_true, and_false, true_and, false_and])
   · skip
     go_wp2_with (go_at_call 71; refine (HS1.out.want_no ⟨#[59]⟩ q2).mono ?_; rintro e w2 ⟨he, b2⟩; unfold pan at he; subst he; have HB : Hid (Below rb w w2) := b2; clear b2 HS1)
     exact ⟨rfl, RdE.no HB.out (by simp only [laP, e1, e2, ↓reduceIte, Bool.false_eq_true, if_true, if_false, Bool.and_true, Bool.true_and, and_true, and_false, true_and, false_and])⟩
set_option maxHeartbeats 2000000 in
theorem zf4 {rb : Nat} {ts : List za} {tv : Value} {en : Nat} {r : Rd} {n : Nat} (hr : RP rb ts tv en r n) (hro : zk ts r) (HL : ∀ (l : Nat), 1 <= l -> l <= 7 -> ∀ (w : World) (v : Value) (kv : List Value) (s : PS), Rdr rb ts tv en w v kv s -> s.ns.length <= 8 * s.i -> ts.length < s.i + (n + 1) -> Calls Tryz.prog 102 #[.pointer (some ⟨rb, 0, none⟩), .int .i64 (l : Int)] w (RdE rb ts tv en w v kv (lvP ts en r l s))) (w : World) (v : Value) (kv : List Value) (s : PS) (h : Rdr rb ts tv en w v kv s) (hp : s.ns.length <= 8 * s.i) (hf : ts.length < s.i + (n + 1)) :
 Calls Tryz.prog 74 #[.pointer (some ⟨rb, 0, none⟩)] w (RdE rb ts tv en w v kv (whP ts en r s)) := by
 have HS0 : Hid (St rb ts tv en w v kv w v [] s) := St.begin h
 have hT : ts.length <= 3000 := h.tl
 have hI : s.i <= ts.length := h.il
 clear h
 go_enter Tryz.func74, Tryz.ntmps74
 rcases za2 ts en s with ⟨q1, e1⟩ | ⟨q1, e1⟩
 · skip
   have p1 : (⟨(s).i, (s).d + 1, (s).ns⟩ : PS).ns.length <= 8 * (⟨(s).i, (s).d + 1, (s).ns⟩ : PS).i := hp
   have i1 : (⟨(s).i, (s).d + 1, (s).ns⟩ : PS).i = (s).i := rfl
   go_wp2_with (go_at_call 101; refine (HS0.out.open_yes q1).mono ?_; rintro e w1 ⟨rfl, h1⟩; have HS1 : Hid (St rb ts tv en w v kv _ _ _ (⟨(s).i, (s).d + 1, (s).ns⟩ : PS)) := h1; clear h1 HS0)
   rcases e2 : lvP ts en r 1 (⟨(s).i, (s).d + 1, (s).ns⟩ : PS) with ⟨x2⟩ | ⟨a2, s2⟩
   · skip
     go_wp2_with (go_at_call 102; refine (HS1.out.no (HL 1 (by decide) (by decide) _ _ _ _ HS1.out.rd p1 (by omega)) e2).mono ?_; rintro e w2 ⟨he, b2⟩; unfold pan at he; subst he; have HB : Hid (Below rb w w2) := b2; clear b2 HS1)
     exact ⟨rfl, RdE.no HB.out (by simp only [whP, e1, e2, ↓reduceIte, Bool.false_eq_true, if_true, if_false, Bool.and_true, Bool.true_and, and_true, and_false, true_and, false_and])⟩
   · skip
     have o2 := zf3 ts en hro e2
     have p2 : s2.ns.length <= 8 * s2.i := by have := o2.1.phi p1; omega
     have i2 := o2.1.1
     have t2 := o2.1.2.1
     go_wp2_with (go_at_call 102; refine (HS1.out.yes (HL 1 (by decide) (by decide) _ _ _ _ HS1.out.rd p1 (by omega)) e2).mono ?_; rintro e w2 ⟨rfl, v2, K2, h2⟩; have HS2 : Hid (St rb ts tv en w v kv _ _ _ s2) := h2; clear h2 HS1)
     go_wp2_with (go_at_call 103; refine (HS2.out.shut (by have d : s2.d = s.d + 1 := o2.1.2.2.1; omega)).mono ?_; rintro e w3 ⟨rfl, h3⟩; have HS3 : Hid (St rb ts tv en w v kv _ _ _ (zap s2)) := h3; clear h3 HS2)
     go_ret
     exact RdE.yes HS3.out (by simp only [whP, e1, e2, ↓reduceIte, Bool.false_eq_true, if_true, if_false, Bool.and_true, Bool.true_and, and_true, and_false, true_and, false_and])
 · skip
   go_wp2_with (go_at_call 101; refine (HS0.out.open_no q1).mono ?_; rintro e w1 ⟨he, b1⟩; unfold pan at he; subst he; have HB : Hid (Below rb w w1) := b1; clear b1 HS0)
   exact ⟨rfl, RdE.no HB.out (by simp only [whP, e1, ↓reduceIte, Bool.false_eq_true, if_true, if_false, Bool.and_true, Bool.true_and, and_true, and_false, true_and, false_and])⟩
def ifP (ts : List za) (r : Rd) (s : PS) : Except (Int × Int) (Int × PS) := match r.wh s with
 | .error x => .error x
 | .ok (e, s1) => match r.bl s1 with
   | .error x => .error x
   | .ok (b, s2) => if isN ts ⟨#[101, 108, 115, 101]⟩ s2 then match r.bl (adv s2) with
      | .error x => .error x
      | .ok (c, s3) => .ok (zb 17 eT 0 [e, b, c] s3)
     else .ok (zb 17 eT 0 [e, b] s2)
theorem zub (ts : List za) {r : Rd} (hr : zk ts r) {s s' : PS} {v : Int} (h : ifP ts r s = .ok (v, s')) : OkR ts s v s' := by
 have fin : ∀ {k : Int} {t : ByteArray} {i : Int} {ks : List Int} {s1 : PS} {m : Nat}, 8 <= m -> Adv ts m s s1 -> (Except.ok (zb k t i ks s1) : Except (Int × Int) (Int × PS)) = .ok (v, s') -> OkR ts s v s' := fun hm hs h => by
  injection h with h
  rw [Prod.ext_iff] at h
  obtain ⟨rfl, rfl⟩ := h
  exact hs.add ts _ _ _ _ hm
 unfold ifP at h
 split at h
 · cases h
 rename_i e s1 h1
 split at h
 · cases h
 rename_i b s2 h2
 have ha := ((hr.wh h1).1.trans ts (hr.bl h2).1)
 split at h
 · rename_i hc
   split at h
   · cases h
   rename_i c s3 h3
   exact fin (by omega) ((ha.trans ts (zao ts hc)).trans ts (hr.bl h3).1) h
 · exact fin (by omega) ha h
set_option maxHeartbeats 2000000 in
theorem zi4 {rb : Nat} {ts : List za} {tv : Value} {en : Nat} {r : Rd} {n : Nat} (hr : RP rb ts tv en r n) (hro : zk ts r) (w : World) (v : Value) (kv : List Value) (s : PS) (h : Rdr rb ts tv en w v kv s) (hp : s.ns.length <= 8 * s.i) (hf : ts.length < s.i + (n)) :
 Calls Tryz.prog 73 #[.pointer (some ⟨rb, 0, none⟩)] w (RdE rb ts tv en w v kv (ifP ts r s)) := by
 have HS0 : Hid (St rb ts tv en w v kv w v [] s) := St.begin h
 have hT : ts.length <= 3000 := h.tl
 have hI : s.i <= ts.length := h.il
 obtain ⟨i0, hi, hz0, hz1, hz2⟩ := info_parts zb6
 clear h
 go_enter Tryz.func73, Tryz.ntmps73
 rcases e1 : r.wh s with ⟨x1⟩ | ⟨a1, s1⟩
 · skip
   go_wp2_with (go_at_call 74; refine (HS0.out.no (hr.wh _ _ _ _ HS0.out.rd hp (by omega)) e1).mono ?_; rintro e w1 ⟨he, b1⟩; unfold pan at he; subst he; have HB : Hid (Below rb w w1) := b1; clear b1 HS0)
   exact ⟨rfl, RdE.no HB.out (by simp only [ifP, e1, ↓reduceIte, Bool.false_eq_true, if_true, if_false, Bool.and_true, Bool.true_and, and_true, and_false, true_and, false_and])⟩
 · skip
   have o1 := hro.wh e1
   have p1 : s1.ns.length <= 8 * s1.i := by have := o1.1.phi hp; omega
   have i1 := o1.1.1
   have t1 := o1.1.2.1
   go_wp2_with (go_at_call 74; refine (HS0.out.yes (hr.wh _ _ _ _ HS0.out.rd hp (by omega)) e1).mono ?_; rintro e w1 ⟨rfl, v1, K1, h1⟩; have HS1 : Hid (St rb ts tv en w v kv _ _ _ s1) := h1; clear h1 HS0)
   rcases e2 : r.bl s1 with ⟨x2⟩ | ⟨a2, s2⟩
   · skip
     go_wp2_with (go_at_call 75; refine (HS1.out.no (hr.bl _ _ _ _ HS1.out.rd p1 (by omega)) e2).mono ?_; rintro e w2 ⟨he, b2⟩; unfold pan at he; subst he; have HB : Hid (Below rb w w2) := b2; clear b2 HS1)
     exact ⟨rfl, RdE.no HB.out (by simp only [ifP, e1, e2, ↓reduceIte, Bool.false_eq_true, if_true, if_false, Bool.and_true, Bool.true_and, and_true, and_false, true_and, false_and])⟩
   · skip
     have o2 := hro.bl e2
     have p2 : s2.ns.length <= 8 * s2.i := by have := o2.1.phi p1; omega
     have i2 := o2.1.1
     have t2 := o2.1.2.1
     go_wp2_with (go_at_call 75; refine (HS1.out.yes (hr.bl _ _ _ _ HS1.out.rd p1 (by omega)) e2).mono ?_; rintro e w2 ⟨rfl, v2, K2, h2⟩; have HS2 : Hid (St rb ts tv en w v kv _ _ _ s2) := h2; clear h2 HS1)
     have HSa : Hid (St rb ts tv en w v kv (w2.alloc (.cells #[.int .i64 a1, .int .i64 a2] 3)) v2 K2 s2) := HS2.out.below ((Below.refl _ _).alloc (Nat.le_refl _) _)
     have HKa : Hid (Kd rb w (w2.alloc (.cells #[.int .i64 a1, .int .i64 a2] 3)) v2 (kv ++ K2) (.slice (some ⟨w2.heap.size, 0, none⟩) 2 2) [a1, a2]) := Kd.laid HS2.out [a1, a2] (by simp)
     cases e3 : isN ts ⟨#[101, 108, 115, 101]⟩ s2
     · go_wp2_with (go_at_call 69; refine ((St.begin HSa.out.rd).pass_no _ e3).mono ?_; rintro e w3 ⟨rfl, h5⟩; obtain ⟨h6, k6⟩ := HSa.out.both HKa.out h5; have HS3 : Hid (St rb ts tv en w v kv w3 v2 (K2 ++ []) s2) := h6; have HK3 : Hid (Kd rb w w3 v2 (kv ++ (K2 ++ [])) (.slice (some ⟨w2.heap.size, 0, none⟩) 2 2) [a1, a2]) := k6; clear h5 h6 k6 HSa HKa HS2)
       go_wp2_with (go_at_call 31; refine (HS3.out.addK HK3.out 17 eT 0 (by omega)).mono ?_; rintro e w4 ⟨rfl, v4, K4, h4⟩; have HS4 : Hid (St rb ts tv en w v kv _ _ _ _) := h4; clear h4)
       go_ret
       exact RdE.yes HS4.out (by simp only [ifP, e1, e2, e3, ↓reduceIte, Bool.false_eq_true])
     · have p3 : (adv s2).ns.length <= 8 * (adv s2).i := by show s2.ns.length <= 8 * (s2.i + 1); omega
       have i3 : (adv s2).i = s2.i + 1 := rfl
       go_wp2_with (go_at_call 69; refine ((St.begin HSa.out.rd).pass_yes _ e3).mono ?_; rintro e w3 ⟨rfl, h5⟩; obtain ⟨h6, k6⟩ := HSa.out.both HKa.out h5; have HS3 : Hid (St rb ts tv en w v kv w3 v2 (K2 ++ []) (adv s2)) := h6; have HK3 : Hid (Kd rb w w3 v2 (kv ++ (K2 ++ [])) (.slice (some ⟨w2.heap.size, 0, none⟩) 2 2) [a1, a2]) := k6; clear h5 h6 k6 HSa HKa HS2)
       rcases e4 : r.bl (adv s2) with ⟨x⟩ | ⟨a4, s4⟩
       · go_wp2_with (go_at_call 75; refine (HS3.out.no (hr.bl _ _ _ _ HS3.out.rd p3 (by omega)) e4).mono ?_; rintro e w4 ⟨he, b4⟩; unfold pan at he; subst he; have HB : Hid (Below rb w w4) := b4; clear b4)
         exact ⟨rfl, RdE.no HB.out (by simp only [ifP, e1, e2, e3, e4, ↓reduceIte])⟩
       · have o4 := hro.bl e4
         have p4 : s4.ns.length <= 8 * s4.i := by have := o4.1.phi p3; omega
         have t4 := o4.1.2.1
         go_wp2_with (first | (go_at_call 75; refine (hr.bl _ _ _ _ HS3.out.rd p3 (by omega)).mono ?_; rintro e w4 hh; obtain ⟨rfl, v4, k4, h4⟩ := hh.1 a4 s4 e4; obtain ⟨h5, k5⟩ := HS3.out.both HK3.out h4; have HS4 : Hid (St rb ts tv en w v kv w4 v4 (K2 ++ [] ++ k4) s4) := h5; have HK4 : Hid (Kd rb w w4 v4 (kv ++ (K2 ++ [] ++ k4)) (.slice (some ⟨w2.heap.size, 0, none⟩) 2 2) [a1, a2]) := k5; clear h4 h5 k5 hh HS3 HK3) | (at_builtin; refine wpList_append_own_at _ rfl _ _ 32 rfl (rb + 1) 3 i0 (.int .i64 0) 1 8 Tryz.underlying32 hi hz0 hz1 hz2 rfl (by decide) (.slice (some ⟨w2.heap.size, 0, none⟩) 2 2) [a1, a2].length (icl [a1, a2]) rfl (IR.alloc HK4.out.own.row _) ⟨w4.heap.size, 0, none⟩ 1 1 [.int .i64 a4] rfl rfl (fun j y hy => by have e : (w4.alloc (.cells #[.int .i64 a4] 3)).cell? ((⟨w4.heap.size, 0, none⟩ : Addr).add j) = (#[.int .i64 a4] : Array Value)[j]? := (by cases j <;> simp [go_sem, Addr.add]); rw [e, <- hy]; simp) (by simp [Value.oneCell']) (by unfold maxLen; first | omega | (simp; done) | (simp; omega)) (by first | omega | (simp; done) | (simp; omega)) (by have := HS4.out.rd.lt; simp; omega) ?_))
         intro u' w5 hown hgrow _ hat
         obtain ⟨h4, k4⟩ := Kd.grow HS4.out HK4.out hown hgrow hat
         have HS5 : Hid (St rb ts tv en w v kv w5 v4 _ s4) := h4
         have HK5 : Hid (Kd rb w w5 v4 _ u' ([a1, a2] ++ [a4])) := k4
         clear h4 k4 hown hgrow hat HS4 HK4
         go_wp2_with (go_at_call 31; refine (HS5.out.addK HK5.out 17 eT 0 (by omega)).mono ?_; rintro e w6 ⟨rfl, v6, K6, h6⟩; have HS6 : Hid (St rb ts tv en w v kv _ _ _ _) := h6; clear h6)
         go_ret
         exact RdE.yes HS6.out (by simp only [ifP, e1, e2, e3, e4, ↓reduceIte]; rfl)
theorem zo4 (ts : List za) (en : Nat) (r : Rd) (s : PS) (h1 : isN ts ⟨#[108, 111, 99, 97, 108]⟩ s = false) (h2 : isN ts ⟨#[105, 102]⟩ s = true) : stP ts en r s = ifP ts r (adv s) := by
 unfold stP ifP
 simp only [h1, h2, Bool.false_eq_true, ↓reduceIte] <;> rfl
theorem zmn (ts : List za) (en : Nat) (r : Rd) (s : PS) (h1 : isN ts ⟨#[108, 111, 99, 97, 108]⟩ s = false) (h2 : isN ts ⟨#[105, 102]⟩ s = false) (h3 : isN ts ⟨#[119, 104, 105, 108, 101]⟩ s = false) (h4 : isN ts ⟨#[114, 101, 116, 117, 114, 110]⟩ s = false) : stP ts en r s = za9 ts en r s := by
 unfold stP
 simp only [h1, h2, h3, h4, Bool.false_eq_true, ↓reduceIte]
set_option maxHeartbeats 2000000 in
theorem zgv {rb : Nat} {ts : List za} {tv : Value} {en : Nat} {r : Rd} {n : Nat} (hr : RP rb ts tv en r n) (hro : zk ts r) (HA : ∀ (w : World) (v : Value) (kv : List Value) (s : PS), Rdr rb ts tv en w v kv s -> s.ns.length <= 8 * s.i -> ts.length < s.i + (n + 1) -> Calls Tryz.prog 76 #[.pointer (some ⟨rb, 0, none⟩)] w (RdE rb ts tv en w v kv (za9 ts en r s))) (w : World) (v : Value) (kv : List Value) (s : PS) (h : Rdr rb ts tv en w v kv s) (hp : s.ns.length <= 8 * s.i) (hf : ts.length < s.i + (n + 1)) :
 Calls Tryz.prog 30 #[.pointer (some ⟨rb, 0, none⟩)] w (RdE rb ts tv en w v kv (stP ts en r s)) := by
 have HS0 : Hid (St rb ts tv en w v kv w v [] s) := St.begin h
 have hT : ts.length <= 3000 := h.tl
 have hI : s.i <= ts.length := h.il
 clear h
 go_enter Tryz.func30, Tryz.ntmps30
 cases e1 : isN ts ⟨#[108, 111, 99, 97, 108]⟩ s
 · skip
   go_wp2_with (go_at_call 69; refine (HS0.out.pass_no ⟨#[108, 111, 99, 97, 108]⟩ e1).mono ?_; rintro e w1 ⟨rfl, h1⟩; have HS1 : Hid (St rb ts tv en w v kv _ _ _ s) := h1; clear h1 HS0)
   cases e2 : isN ts ⟨#[105, 102]⟩ s
   · skip
     go_wp2_with (go_at_call 69; refine (HS1.out.pass_no ⟨#[105, 102]⟩ e2).mono ?_; rintro e w2 ⟨rfl, h2⟩; have HS2 : Hid (St rb ts tv en w v kv _ _ _ s) := h2; clear h2 HS1)
     cases e3 : isN ts ⟨#[119, 104, 105, 108, 101]⟩ s
     · skip
       go_wp2_with (go_at_call 69; refine (HS2.out.pass_no ⟨#[119, 104, 105, 108, 101]⟩ e3).mono ?_; rintro e w3 ⟨rfl, h3⟩; have HS3 : Hid (St rb ts tv en w v kv _ _ _ s) := h3; clear h3 HS2)
       cases e4 : isN ts ⟨#[114, 101, 116, 117, 114, 110]⟩ s
       · skip
         go_wp2_with (go_at_call 69; refine (HS3.out.pass_no ⟨#[114, 101, 116, 117, 114, 110]⟩ e4).mono ?_; rintro e w4 ⟨rfl, h4⟩; have HS4 : Hid (St rb ts tv en w v kv _ _ _ s) := h4; clear h4 HS3)
         rcases e5 : za9 ts en r s with ⟨x5⟩ | ⟨a5, s5⟩
         · skip
           go_wp2_with (go_at_call 76; refine (HS4.out.no (HA _ _ _ _ HS4.out.rd hp (by omega)) e5).mono ?_; rintro e w5 ⟨he, b5⟩; unfold pan at he; subst he; have HB : Hid (Below rb w w5) := b5; clear b5 HS4)
           exact ⟨rfl, RdE.no HB.out (by simp only [zmn ts en r s e1 e2 e3 e4, e5, ↓reduceIte, Bool.false_eq_true, if_true, if_false, Bool.and_true, Bool.true_and, and_true, and_false, true_and, false_and])⟩
         · skip
           have o5 := zif ts en hro e5
           have p5 : s5.ns.length <= 8 * s5.i := by have := o5.1.phi hp; omega
           have i5 := o5.1.1
           have t5 := o5.1.2.1
           go_wp2_with (go_at_call 76; refine (HS4.out.yes (HA _ _ _ _ HS4.out.rd hp (by omega)) e5).mono ?_; rintro e w5 ⟨rfl, v5, K5, h5⟩; have HS5 : Hid (St rb ts tv en w v kv _ _ _ s5) := h5; clear h5 HS4)
           go_ret
           exact RdE.yes HS5.out (by simp only [zmn ts en r s e1 e2 e3 e4, e5, ↓reduceIte, Bool.false_eq_true, if_true, if_false, Bool.and_true, Bool.true_and, and_true, and_false, true_and, false_and])
       · skip
         have p4 : ((adv s)).ns.length <= 8 * ((adv s)).i := Nat.le_trans hp (Nat.mul_le_mul_left 8 (Nat.le_succ _))
         have i4 : ((adv s)).i = (s).i + 1 := rfl
         go_wp2_with (go_at_call 69; refine (HS3.out.pass_yes ⟨#[114, 101, 116, 117, 114, 110]⟩ e4).mono ?_; rintro e w4 ⟨rfl, h4⟩; have HS4 : Hid (St rb ts tv en w v kv _ _ _ (adv s)) := h4; clear h4 HS3)
         rcases e5 : laP ts en r (adv s) with ⟨x5⟩ | ⟨a5, s5⟩
         · skip
           go_wp2_with (go_at_call 72; refine (HS4.out.no (zbr hr hro _ _ _ _ HS4.out.rd p4 (by omega)) e5).mono ?_; rintro e w5 ⟨he, b5⟩; unfold pan at he; subst he; have HB : Hid (Below rb w w5) := b5; clear b5 HS4)
           exact ⟨rfl, RdE.no HB.out (by simp only [stP, e1, e2, e3, e4, e5, ↓reduceIte, Bool.false_eq_true, if_true, if_false, Bool.and_true, Bool.true_and, and_true, and_false, true_and, false_and])⟩
         · skip
           have o5 := zd1 ts en hro e5
           have p5 : s5.ns.length <= 8 * s5.i := by have := o5.1.phi p4; omega
           have i5 := o5.1.1
           have t5 := o5.1.2.1
           go_wp2_with (go_at_call 72; refine (HS4.out.yes (zbr hr hro _ _ _ _ HS4.out.rd p4 (by omega)) e5).mono ?_; rintro e w5 ⟨rfl, v5, K5, h5⟩; have HS5 : Hid (St rb ts tv en w v kv _ _ _ s5) := h5; clear h5 HS4)
           go_wp2_with (go_at_call 31; refine (HS5.out.add [a5] 19 eT 0 (by simp) (by have := HS5.out.rd.il; omega) _ _ _ rfl rfl rfl).mono ?_; rintro e w6 ⟨rfl, v6, K6, h6⟩; have HS6 : Hid (St rb ts tv en w v kv _ _ _ (zb 19 eT 0 [a5] s5).2) := h6; clear h6 HS5)
           go_ret
           exact RdE.yes HS6.out (by simp only [stP, e1, e2, e3, e4, e5, ↓reduceIte, Bool.false_eq_true, if_true, if_false, Bool.and_true, Bool.true_and, and_true, and_false, true_and, false_and])
     · skip
       have p3 : ((adv s)).ns.length <= 8 * ((adv s)).i := Nat.le_trans hp (Nat.mul_le_mul_left 8 (Nat.le_succ _))
       have i3 : ((adv s)).i = (s).i + 1 := rfl
       go_wp2_with (go_at_call 69; refine (HS2.out.pass_yes ⟨#[119, 104, 105, 108, 101]⟩ e3).mono ?_; rintro e w3 ⟨rfl, h3⟩; have HS3 : Hid (St rb ts tv en w v kv _ _ _ (adv s)) := h3; clear h3 HS2)
       rcases e4 : r.wh (adv s) with ⟨x4⟩ | ⟨a4, s4⟩
       · skip
         go_wp2_with (go_at_call 74; refine (HS3.out.no (hr.wh _ _ _ _ HS3.out.rd p3 (by omega)) e4).mono ?_; rintro e w4 ⟨he, b4⟩; unfold pan at he; subst he; have HB : Hid (Below rb w w4) := b4; clear b4 HS3)
         exact ⟨rfl, RdE.no HB.out (by simp only [stP, e1, e2, e3, e4, ↓reduceIte, Bool.false_eq_true, if_true, if_false, Bool.and_true, Bool.true_and, and_true, and_false, true_and, false_and])⟩
       · skip
         have o4 := hro.wh e4
         have p4 : s4.ns.length <= 8 * s4.i := by have := o4.1.phi p3; omega
         have i4 := o4.1.1
         have t4 := o4.1.2.1
         go_wp2_with (go_at_call 74; refine (HS3.out.yes (hr.wh _ _ _ _ HS3.out.rd p3 (by omega)) e4).mono ?_; rintro e w4 ⟨rfl, v4, K4, h4⟩; have HS4 : Hid (St rb ts tv en w v kv _ _ _ s4) := h4; clear h4 HS3)
         rcases e5 : r.bl s4 with ⟨x5⟩ | ⟨a5, s5⟩
         · skip
           go_wp2_with (go_at_call 75; refine (HS4.out.no (hr.bl _ _ _ _ HS4.out.rd p4 (by omega)) e5).mono ?_; rintro e w5 ⟨he, b5⟩; unfold pan at he; subst he; have HB : Hid (Below rb w w5) := b5; clear b5 HS4)
           exact ⟨rfl, RdE.no HB.out (by simp only [stP, e1, e2, e3, e4, e5, ↓reduceIte, Bool.false_eq_true, if_true, if_false, Bool.and_true, Bool.true_and, and_true, and_false, true_and, false_and])⟩
         · skip
           have o5 := hro.bl e5
           have p5 : s5.ns.length <= 8 * s5.i := by have := o5.1.phi p4; omega
           have i5 := o5.1.1
           have t5 := o5.1.2.1
           go_wp2_with (go_at_call 75; refine (HS4.out.yes (hr.bl _ _ _ _ HS4.out.rd p4 (by omega)) e5).mono ?_; rintro e w5 ⟨rfl, v5, K5, h5⟩; have HS5 : Hid (St rb ts tv en w v kv _ _ _ s5) := h5; clear h5 HS4)
           go_wp2_with (go_at_call 31; refine (HS5.out.add [a4, a5] 18 eT 0 (by simp) (by have := HS5.out.rd.il; omega) _ _ _ rfl rfl rfl).mono ?_; rintro e w6 ⟨rfl, v6, K6, h6⟩; have HS6 : Hid (St rb ts tv en w v kv _ _ _ (zb 18 eT 0 [a4, a5] s5).2) := h6; clear h6 HS5)
           go_ret
           exact RdE.yes HS6.out (by simp only [stP, e1, e2, e3, e4, e5, ↓reduceIte, Bool.false_eq_true, if_true, if_false, Bool.and_true, Bool.true_and, and_true, and_false, true_and, false_and])
   · skip
     have p2 : ((adv s)).ns.length <= 8 * ((adv s)).i := Nat.le_trans hp (Nat.mul_le_mul_left 8 (Nat.le_succ _))
     have i2 : ((adv s)).i = (s).i + 1 := rfl
     go_wp2_with (go_at_call 69; refine (HS1.out.pass_yes ⟨#[105, 102]⟩ e2).mono ?_; rintro e w2 ⟨rfl, h2⟩; have HS2 : Hid (St rb ts tv en w v kv _ _ _ (adv s)) := h2; clear h2 HS1)
     rcases e3 : ifP ts r (adv s) with ⟨x3⟩ | ⟨a3, s3⟩
     · skip
       go_wp2_with (go_at_call 73; refine (HS2.out.no (zi4 hr hro _ _ _ _ HS2.out.rd p2 (by omega)) e3).mono ?_; rintro e w3 ⟨he, b3⟩; unfold pan at he; subst he; have HB : Hid (Below rb w w3) := b3; clear b3 HS2)
       exact ⟨rfl, RdE.no HB.out (by simp only [zo4 ts en r s e1 e2, e3, ↓reduceIte, Bool.false_eq_true, if_true, if_false, Bool.and_true, Bool.true_and, and_true, and_false, true_and, false_and])⟩
     · skip
       have o3 := zub ts hro e3
       have p3 : s3.ns.length <= 8 * s3.i := by have := o3.1.phi p2; omega
       have i3 := o3.1.1
       have t3 := o3.1.2.1
       go_wp2_with (go_at_call 73; refine (HS2.out.yes (zi4 hr hro _ _ _ _ HS2.out.rd p2 (by omega)) e3).mono ?_; rintro e w3 ⟨rfl, v3, K3, h3⟩; have HS3 : Hid (St rb ts tv en w v kv _ _ _ s3) := h3; clear h3 HS2)
       go_ret
       exact RdE.yes HS3.out (by simp only [zo4 ts en r s e1 e2, e3, ↓reduceIte, Bool.false_eq_true, if_true, if_false, Bool.and_true, Bool.true_and, and_true, and_false, true_and, false_and])
 · skip
   have p1 : ((adv s)).ns.length <= 8 * ((adv s)).i := Nat.le_trans hp (Nat.mul_le_mul_left 8 (Nat.le_succ _))
   have i1 : ((adv s)).i = (s).i + 1 := rfl
   go_wp2_with (go_at_call 69; refine (HS0.out.pass_yes ⟨#[108, 111, 99, 97, 108]⟩ e1).mono ?_; rintro e w1 ⟨rfl, h1⟩; have HS1 : Hid (St rb ts tv en w v kv _ _ _ (adv s)) := h1; clear h1 HS0)
   rcases zbp ts en (adv s) with ⟨x2, y2, z2, e2⟩ | ⟨q2, e2⟩
   · skip
     have p2 : ((adv (adv s))).ns.length <= 8 * ((adv (adv s))).i := Nat.le_trans p1 (Nat.mul_le_mul_left 8 (Nat.le_succ _))
     have i2 : ((adv (adv s))).i = ((adv s)).i + 1 := rfl
     go_wp2_with (go_at_call 70; refine (HS1.out.name_yes x2 y2 z2).mono ?_; rintro e w2 ⟨rfl, h2⟩; have HS2 : Hid (St rb ts tv en w v kv _ _ _ (adv (adv s))) := h2; clear h2 HS1)
     rcases zac ts en ⟨#[61]⟩ (adv (adv s)) with ⟨q3, e3⟩ | ⟨q3, e3⟩
     · skip
       have p3 : ((adv (adv (adv s)))).ns.length <= 8 * ((adv (adv (adv s)))).i := Nat.le_trans p2 (Nat.mul_le_mul_left 8 (Nat.le_succ _))
       have i3 : ((adv (adv (adv s)))).i = ((adv (adv s))).i + 1 := rfl
       go_wp2_with (go_at_call 71; refine (HS2.out.want_yes ⟨#[61]⟩ q3).mono ?_; rintro e w3 ⟨rfl, h3⟩; have HS3 : Hid (St rb ts tv en w v kv _ _ _ (adv (adv (adv s)))) := h3; clear h3 HS2)
       rcases e4 : laP ts en r (adv (adv (adv s))) with ⟨x4⟩ | ⟨a4, s4⟩
       · skip
         go_wp2_with (go_at_call 72; refine (HS3.out.no (zbr hr hro _ _ _ _ HS3.out.rd p3 (by omega)) e4).mono ?_; rintro e w4 ⟨he, b4⟩; unfold pan at he; subst he; have HB : Hid (Below rb w w4) := b4; clear b4 HS3)
         exact ⟨rfl, RdE.no HB.out (by simp only [stP, e1, e2, e3, e4, ↓reduceIte, Bool.false_eq_true, if_true, if_false, Bool.and_true, Bool.true_and, and_true, and_false, true_and, false_and])⟩
       · skip
         have o4 := zd1 ts en hro e4
         have p4 : s4.ns.length <= 8 * s4.i := by have := o4.1.phi p3; omega
         have i4 := o4.1.1
         have t4 := o4.1.2.1
         go_wp2_with (go_at_call 72; refine (HS3.out.yes (zbr hr hro _ _ _ _ HS3.out.rd p3 (by omega)) e4).mono ?_; rintro e w4 ⟨rfl, v4, K4, h4⟩; have HS4 : Hid (St rb ts tv en w v kv _ _ _ s4) := h4; clear h4 HS3)
         go_wp2_with (go_at_call 31; refine (HS4.out.add [a4] 14 x2.tx 0 (by simp) (by have := HS4.out.rd.il; omega) _ _ _ rfl rfl rfl).mono ?_; rintro e w5 ⟨rfl, v5, K5, h5⟩; have HS5 : Hid (St rb ts tv en w v kv _ _ _ (zb 14 x2.tx 0 [a4] s4).2) := h5; clear h5 HS4)
         go_ret
         exact RdE.yes HS5.out (by simp only [stP, e1, e2, e3, e4, ↓reduceIte, Bool.false_eq_true, if_true, if_false, Bool.and_true, Bool.true_and, and_true, and_false, true_and, false_and])
     · skip
       go_wp2_with (go_at_call 71; refine (HS2.out.want_no ⟨#[61]⟩ q3).mono ?_; rintro e w3 ⟨he, b3⟩; unfold pan at he; subst he; have HB : Hid (Below rb w w3) := b3; clear b3 HS2)
       exact ⟨rfl, RdE.no HB.out (by simp only [stP, e1, e2, e3, ↓reduceIte, Bool.false_eq_true, if_true, if_false, Bool.and_true, Bool.true_and, and_true, and_false, true_and, false_and])⟩
   · skip
     go_wp2_with (go_at_call 70; refine (HS1.out.name_no q2).mono ?_; rintro e w2 ⟨he, b2⟩; unfold pan at he; subst he; have HB : Hid (Below rb w w2) := b2; clear b2 HS1)
     exact ⟨rfl, RdE.no HB.out (by simp only [stP, e1, e2, ↓reduceIte, Bool.false_eq_true, if_true, if_false, Bool.and_true, Bool.true_and, and_true, and_false, true_and, false_and])⟩
set_option maxHeartbeats 2000000 in
theorem zkl {rb : Nat} {ts : List za} {tv : Value} {en : Nat} {r : Rd} {n : Nat} (hr : RP rb ts tv en r n) (hro : zk ts r) (w : World) (v : Value) (kv : List Value) (s : PS) (h : Rdr rb ts tv en w v kv s) (hp : s.ns.length <= 8 * s.i) (hf : ts.length < s.i + (n + 1)) :
 Calls Tryz.prog 75 #[.pointer (some ⟨rb, 0, none⟩)] w (RdE rb ts tv en w v kv (blP ts en r s)) := by
 have HS0 : Hid (St rb ts tv en w v kv w v [] s) := St.begin h
 have hT : ts.length <= 3000 := h.tl
 have hI : s.i <= ts.length := h.il
 obtain ⟨i0, hi, hz0, hz1, hz2⟩ := info_parts zb6
 clear h
 go_enter Tryz.func75, Tryz.ntmps75
 rcases za2 ts en s with ⟨q1, e1⟩ | ⟨q1, e1⟩
 · skip
   have p1 : (⟨(s).i, (s).d + 1, (s).ns⟩ : PS).ns.length <= 8 * (⟨(s).i, (s).d + 1, (s).ns⟩ : PS).i := hp
   have i1 : (⟨(s).i, (s).d + 1, (s).ns⟩ : PS).i = (s).i := rfl
   go_wp2_with (go_at_call 101; refine (HS0.out.open_yes q1).mono ?_; rintro e w1 ⟨rfl, h1⟩; have HS1 : Hid (St rb ts tv en w v kv _ _ _ (⟨(s).i, (s).d + 1, (s).ns⟩ : PS)) := h1; clear h1 HS0)
   rcases zac ts en ⟨#[123]⟩ (⟨(s).i, (s).d + 1, (s).ns⟩ : PS) with ⟨q2, e2⟩ | ⟨q2, e2⟩
   · skip
     have p2 : ((adv (⟨(s).i, (s).d + 1, (s).ns⟩ : PS))).ns.length <= 8 * ((adv (⟨(s).i, (s).d + 1, (s).ns⟩ : PS))).i := Nat.le_trans p1 (Nat.mul_le_mul_left 8 (Nat.le_succ _))
     have i2 : ((adv (⟨(s).i, (s).d + 1, (s).ns⟩ : PS))).i = ((⟨(s).i, (s).d + 1, (s).ns⟩ : PS)).i + 1 := rfl
     go_wp2_with (go_at_call 71; refine (HS1.out.want_yes ⟨#[123]⟩ q2).mono ?_; rintro e w2 ⟨rfl, h2⟩; have HS2 : Hid (St rb ts tv en w v kv _ _ _ (adv (⟨(s).i, (s).d + 1, (s).ns⟩ : PS))) := h2; clear h2 HS1)
     have HD : Hid (blP ts en r s = match bsP ts r (ts.length + 1) [] (adv (⟨(s).i, (s).d + 1, (s).ns⟩ : PS)) with | .error x => .error x | .ok (ks, s3) => .ok (zb 21 eT 0 ks (zap s3))) := by show _ = _; simp only [blP, e1, e2] <;> rfl
     have hd0 : (adv (⟨(s).i, (s).d + 1, (s).ns⟩ : PS)).d = s.d + 1 := rfl
     go_loopw [3] (fun u wr => ∃ (ks : List Int) (s' : PS) (v' : Value) (K' : List Value) (m : Nat), Hid (St rb ts tv en w v kv wr v' K' s') /\ Hid (Kd rb w wr v' (kv ++ K') u ks) /\ Hid (bsP ts r m ks s' = bsP ts r (ts.length + 1) [] (adv (⟨(s).i, (s).d + 1, (s).ns⟩ : PS))) /\ s'.ns.length <= 8 * s'.i /\ ts.length < s'.i + m /\ s.i < s'.i /\ ks.length <= s'.i /\ s'.d = s.d + 1) (fun _ wr => ts.length - zca rb wr)
     case atStart => exact ⟨[], (adv (⟨(s).i, (s).d + 1, (s).ns⟩ : PS)), _, _, ts.length + 1, HS2.out, Kd.zero _ _ _ _ _, rfl, p2, by omega, by omega, Nat.zero_le _, hd0⟩
     case round =>
      obtain ⟨ks, s', v', K', m, HSa, HKa, HE, hp2, hf2, hi2, hkl, hd2⟩ := hrel
      have hI2 : s'.i <= ts.length := HSa.out.rd.il
      have hq2 : Hid (zca rb wr = s'.i) := zbm HSa.out.rd
      obtain ⟨m', rfl⟩ : ∃ m', m = m' + 1 := ⟨m - 1, by omega⟩
      cases e5 : isN ts ⟨#[125]⟩ s'
      · go_wp2_with (go_at_call 69; refine ((St.begin HSa.out.rd).pass_no ⟨#[125]⟩ e5).mono ?_; rintro e w5 ⟨rfl, h5⟩; obtain ⟨h6, k6⟩ := HSa.out.both HKa.out h5; have HS5 : Hid (St rb ts tv en w v kv w5 v' (K' ++ []) s') := h6; have HK5 : Hid (Kd rb w w5 v' (kv ++ (K' ++ [])) u3 ks) := k6; clear h5 h6 k6 HSa HKa)
        rcases hx : r.st s' with ⟨x⟩ | ⟨a, s2⟩
        · go_wp2_with (go_at_call 30; refine (HS5.out.no (hr.st _ _ _ _ HS5.out.rd hp2 (by omega)) hx).mono ?_; rintro e w6 ⟨he, b3⟩; unfold pan at he; subst he; have HB : Hid (Below rb w w6) := b3; clear b3)
          exact ⟨rfl, RdE.no HB.out (by rw [HD.out, <- HE.out]; unfold bsP; simp only [e5, hx, Bool.false_eq_true, ↓reduceIte])⟩
        · have o3 := hro.st hx
          have p3 : s2.ns.length <= 8 * s2.i := by have := o3.1.phi hp2; omega
          have i3 := o3.1.1
          have t3 := o3.1.2.1
          have d3 := o3.1.2.2.1
          go_wp2_with (first | (go_at_call 30; refine (hr.st _ _ _ _ HS5.out.rd hp2 (by omega)).mono ?_; rintro e w6 hh; obtain ⟨rfl, v6, k6, h6⟩ := hh.1 a s2 hx; obtain ⟨h7, k7⟩ := HS5.out.both HK5.out h6; have HS6 : Hid (St rb ts tv en w v kv w6 v6 (K' ++ [] ++ k6) s2) := h7; have HK6 : Hid (Kd rb w w6 v6 (kv ++ (K' ++ [] ++ k6)) u3 ks) := k7; clear h6 h7 k7 hh HS5 HK5) | (at_builtin; refine wpList_append_own_at _ rfl _ _ 32 rfl (rb + 1) 3 i0 (.int .i64 0) 1 8 Tryz.underlying32 hi hz0 hz1 hz2 rfl (by decide) u3 ks.length (icl ks) rfl (IR.alloc HK6.out.own.row _) ⟨w6.heap.size, 0, none⟩ 1 1 [.int .i64 a] rfl rfl (fun j y hy => by have e : (w6.alloc (.cells #[.int .i64 a] 3)).cell? ((⟨w6.heap.size, 0, none⟩ : Addr).add j) = (#[.int .i64 a] : Array Value)[j]? := (by cases j <;> simp [go_sem, Addr.add]); rw [e, <- hy]; simp) (by simp [Value.oneCell']) (by unfold maxLen; first | omega | (simp; done) | (simp; omega)) (by first | omega | (simp; done) | (simp; omega)) (by have := HS6.out.rd.lt; simp; omega) ?_))
          intro u' w7 hown hgrow _ hat
          obtain ⟨h4, k4⟩ := Kd.grow HS6.out HK6.out hown hgrow hat
          have HS7 : Hid (St rb ts tv en w v kv w7 v6 _ s2) := h4
          have HK7 : Hid (Kd rb w w7 v6 _ u' (ks ++ [a])) := k4
          clear h4 k4 hown hgrow hat HS6 HK6
          have hq7 : Hid (zca rb w7 = s2.i) := zbm HS7.out.rd
          go_wp2
          go_roundw
          case rel => exact ⟨ks ++ [a], s2, v6, _, m', HS7.out, HK7.out, (by show _ = _; rw [<- HE.out]; conv => rhs; unfold bsP; simp only [e5, hx, Bool.false_eq_true, ↓reduceIte]), p3, by omega, by omega, (by rw [List.length_append]; show ks.length + 1 <= s2.i; omega), by omega⟩
          case measure => rw [hq7.out, hq2.out]; omega
      · go_wp2_with (go_at_call 69; refine ((St.begin HSa.out.rd).pass_yes ⟨#[125]⟩ e5).mono ?_; rintro e w5 ⟨rfl, h5⟩; obtain ⟨h6, k6⟩ := HSa.out.both HKa.out h5; have HS5 : Hid (St rb ts tv en w v kv w5 v' (K' ++ []) (adv s')) := h6; have HK5 : Hid (Kd rb w w5 v' (kv ++ (K' ++ [])) u3 ks) := k6; clear h5 h6 k6 HSa HKa)
        have hi5 := zar ts e5
        go_wp2_with (go_at_call 103; refine ((St.begin HS5.out.rd).shut (by show 1 <= s'.d; omega)).mono ?_; rintro e w6 ⟨rfl, h5⟩; obtain ⟨h6, k6⟩ := HS5.out.both HK5.out h5; have HS6 : Hid (St rb ts tv en w v kv w6 v' (K' ++ [] ++ []) (zap (adv s'))) := h6; have HK6 : Hid (Kd rb w w6 v' (kv ++ (K' ++ [] ++ [])) u3 ks) := k6; clear h5 h6 k6 HS5 HK5)
        go_wp2_with (go_at_call 31; refine (HS6.out.addK HK6.out 21 eT 0 (by show s'.ns.length <= 100000; omega)).mono ?_; rintro e w7 ⟨rfl, v7, K7, h7⟩; have HS7 : Hid (St rb ts tv en w v kv _ _ _ _) := h7; clear h7)
        go_ret
        exact RdE.yes HS7.out (by rw [HD.out, <- HE.out]; unfold bsP; simp only [e5, ↓reduceIte] <;> rfl)
   · skip
     go_wp2_with (go_at_call 71; refine (HS1.out.want_no ⟨#[123]⟩ q2).mono ?_; rintro e w2 ⟨he, b2⟩; unfold pan at he; subst he; have HB : Hid (Below rb w w2) := b2; clear b2 HS1)
     exact ⟨rfl, RdE.no HB.out (by simp only [blP, e1, e2, ↓reduceIte, Bool.false_eq_true, if_true, if_false, Bool.and_true, Bool.true_and, and_true, and_false, true_and, false_and])⟩
 · skip
   go_wp2_with (go_at_call 101; refine (HS0.out.open_no q1).mono ?_; rintro e w1 ⟨he, b1⟩; unfold pan at he; subst he; have HB : Hid (Below rb w w1) := b1; clear b1 HS0)
   exact ⟨rfl, RdE.no HB.out (by simp only [blP, e1, ↓reduceIte, Bool.false_eq_true, if_true, if_false, Bool.and_true, Bool.true_and, and_true, and_false, true_and, false_and])⟩
end Go.Proofs.YtiglkhkfbgjjoaaGreatDoor
