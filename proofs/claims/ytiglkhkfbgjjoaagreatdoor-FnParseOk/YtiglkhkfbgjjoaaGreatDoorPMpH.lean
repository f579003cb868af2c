/- - -/
import Derived.Test.YtiglkhkfbgjjoaaGreatDoorPMpG
namespace Go.Proofs.YtiglkhkfbgjjoaaGreatDoor
set_option maxRecDepth 20000
open Go.RowKit Go.PlainAid Go.Maps
set_option linter.unusedSimpArgs false
set_option linter.unusedVariables false
set_option maxHeartbeats 4000000 in
theorem zkn {rb : Nat} {ts : List za} {tv : Value} {en : Nat} {r : Rd} {n : Nat} (hr : RM rb ts tv en r n) (hro : zk ts r) (w : World) (v : Value) (kv : List Value) (s : PS) (h : Mdr rb ts tv en w v kv s) (hp : s.ns.length <= 8 * s.i) (k1 : isN ts ⟨#[108, 111, 99, 97, 108]⟩ s = true) (hf : ts.length < s.i + (n + 1)) :
 Calls Tryz.prog 16 #[.pointer (some ⟨rb, 0, none⟩)] w (RmE rb ts tv en w v kv (stP ts en r s)) := by
 have HS0 : Hid (Sm rb ts tv en w v kv w v [] s) := Sm.begin h
 have hT : ts.length <= 3000 := h.tl
 have hI : s.i <= ts.length := h.il
 clear h
 have lt := HS0.out.rd.lt
 have c1 := HS0.out.rd.c1
 have c3 := HS0.out.rd.c3
 have fz := HS0.out.rd.fz
 have wi := HS0.out.wri
 have c5 := HS0.out.rd.c5
 have wd := HS0.out.wrd
 go_enter Tryz.func16, Tryz.ntmps16
 go_wp2_with (go_at_call 33; refine (HS0.out.is ⟨#[108, 111, 99, 97, 108]⟩ true k1).mono ?_; rintro e w1 ⟨rfl, h1⟩; have HS1 : Hid (Sm rb ts tv en w v kv _ _ _ s) := h1; clear h1 HS0 lt c1 c3 c5 fz wi wd; have lt := HS1.out.rd.lt; have c1 := HS1.out.rd.c1; have c3 := HS1.out.rd.c3; have fz := HS1.out.rd.fz; have wi := HS1.out.wri; have c5 := HS1.out.rd.c5; have wd := HS1.out.wrd)
 obtain ⟨xo, hxo, hlo⟩ := zah k1
 have HS2 : Hid (Sm rb ts tv en w v kv _ _ _ (adv s)) := HS1.out.adv hlo
 have p2 : ((adv s)).ns.length <= 8 * ((adv s)).i := Nat.le_trans hp (Nat.mul_le_mul_left 8 (Nat.le_succ _))
 have i2 : ((adv s)).i = (s).i + 1 := rfl
 rcases zbp ts en (adv s) with ⟨x3, y3, z3, e3⟩ | ⟨q3, e3⟩
 · skip
   have p3 : ((adv (adv s))).ns.length <= 8 * ((adv (adv s))).i := Nat.le_trans p2 (Nat.mul_le_mul_left 8 (Nat.le_succ _))
   have i3 : ((adv (adv s))).i = ((adv s)).i + 1 := rfl
   go_wp2_with (go_at_call 34; refine (HS2.out.name_yes x3 y3 z3).mono ?_; rintro e w3 ⟨rfl, h3⟩; have HS3 : Hid (Sm rb ts tv en w v kv _ _ _ (adv (adv s))) := h3; clear h3 HS2 lt c1 c3 c5 fz wi wd HS1; have lt := HS3.out.rd.lt; have c1 := HS3.out.rd.c1; have c3 := HS3.out.rd.c3; have fz := HS3.out.rd.fz; have wi := HS3.out.wri; have c5 := True.intro; have wd := True.intro; (try dsimp only at c1 wi))
   rcases zac ts en ⟨#[61]⟩ (adv (adv s)) with ⟨q4, e4⟩ | ⟨q4, e4⟩
   · skip
     have p4 : ((adv (adv (adv s)))).ns.length <= 8 * ((adv (adv (adv s)))).i := Nat.le_trans p3 (Nat.mul_le_mul_left 8 (Nat.le_succ _))
     have i4 : ((adv (adv (adv s)))).i = ((adv (adv s))).i + 1 := rfl
     go_wp2_with (go_at_call 35; refine (HS3.out.want_yes ⟨#[61]⟩ q4).mono ?_; rintro e w4 ⟨rfl, h4⟩; have HS4 : Hid (Sm rb ts tv en w v kv _ _ _ (adv (adv (adv s)))) := h4; clear h4 HS3 lt c1 c3 c5 fz wi wd; have lt := HS4.out.rd.lt; have c1 := HS4.out.rd.c1; have c3 := HS4.out.rd.c3; have fz := HS4.out.rd.fz; have wi := HS4.out.wri; have c5 := True.intro; have wd := True.intro; (try dsimp only at c1 wi))
     rcases e5 : r.wh (adv (adv (adv s))) with ⟨x5⟩ | ⟨a5, s5⟩
     · skip
       go_wp2_with (go_at_call 36; refine (HS4.out.no (hr.wh _ _ _ _ HS4.out.rd p4 (by omega)) e5).mono ?_; rintro e w5 ⟨⟨n5, rfl⟩, F5, b5⟩; clear lt c1 c3 c5 fz wi wd; have HR : Hid (Fl rb w5 _ _) := F5; have HB : Hid (Rf rb w v w5) := b5; have c3 := HR.out.c3; have lt := HR.out.lt; have ne := HR.out.ne; obtain ⟨dd, c5⟩ := HR.out.c5; have fz := HR.out.fz; clear F5 b5 HS4)
       try go_wp2_with (first | (go_at_call 17; refine (zc rb _ _ _ (HR.out.below ((Below.refl _ _).alloc (Nat.le_refl _) _)) _ _ _ _ _ _).mono ?_; rintro e wf ⟨rfl, bf⟩; have HB : Hid (Rf rb w v wf) := (HB.out.next ((Below.refl _ _).alloc (Nat.le_refl _) _)).next bf; have HR : Hid (Fl rb wf _ _) := (HR.out.below ((Below.refl _ _).alloc (Nat.le_refl _) _)).below bf; have c3 := HR.out.c3; have lt := HR.out.lt; clear bf) | (go_at_call 35; refine (zm rb _ _ _ HR.out _).mono ?_; rintro e wf ⟨rfl, -, bf⟩; have HB : Hid (Rf rb w v wf) := HB.out.next bf; have HR : Hid (Fl rb wf _ _) := HR.out.below bf; have c3 := HR.out.c3; have lt := HR.out.lt; clear bf) | (go_at_call 17; refine (zc rb _ _ _ HR.out _ _ _ _ _ _).mono ?_; rintro e wf ⟨rfl, bf⟩; have HB : Hid (Rf rb w v wf) := HB.out.next bf; have HR : Hid (Fl rb wf _ _) := HR.out.below bf; have c3 := HR.out.c3; have lt := HR.out.lt; clear bf) | (go_at_call 36; refine (zt rb _ _ _ HR.out).mono ?_; rintro e wf ⟨⟨nf, rfl⟩, -, bf⟩; have HB : Hid (Rf rb w v wf) := HB.out.next bf; have HR : Hid (Fl rb wf _ _) := HR.out.below bf; have c3 := HR.out.c3; have lt := HR.out.lt; clear bf) | (go_at_call 37; refine (zo rb _ _ _ HR.out).mono ?_; rintro e wf ⟨⟨nf, rfl⟩, -, bf⟩; have HB : Hid (Rf rb w v wf) := HB.out.next bf; have HR : Hid (Fl rb wf _ _) := HR.out.below bf; have c3 := HR.out.c3; have lt := HR.out.lt; clear bf))
       go_ret
       exact RmE.no HR.out HB.out (by first | (simp only [stP, laP, k1, e3, e4, e5, ↓reduceIte, Bool.false_eq_true, if_true, if_false, Bool.and_true, Bool.true_and, and_true, and_false, true_and, false_and]; done) | (simp only [stP, laP, k1, e3, e4, e5, ↓reduceIte, Bool.false_eq_true, if_true, if_false, Bool.and_true, Bool.true_and, and_true, and_false, true_and, false_and]; rfl) | (simp [stP, laP, k1, e3, e4, e5]; done) | (simp [stP, laP, k1, e3, e4, e5]; rfl))
     · skip
       have o5 := hro.wh e5
       have p5 : s5.ns.length <= 8 * s5.i := by have := o5.1.phi p4; omega
       have i5 := o5.1.1
       have t5 := o5.1.2.1
       go_wp2_with (go_at_call 36; refine (HS4.out.yes (hr.wh _ _ _ _ HS4.out.rd p4 (by omega)) e5).mono ?_; rintro e w5 ⟨rfl, v5, K5, h5⟩; have HS5 : Hid (Sm rb ts tv en w v kv _ _ _ s5) := h5; clear h5 HS4 lt c1 c3 c5 fz wi wd; have lt := HS5.out.rd.lt; have c1 := HS5.out.rd.c1; have c3 := HS5.out.rd.c3; have fz := HS5.out.rd.fz; have wi := HS5.out.wri; have c5 := HS5.out.rd.c5; have wd := HS5.out.wrd)
       rcases zac ts en ⟨#[59]⟩ s5 with ⟨q6, e6⟩ | ⟨q6, e6⟩
       · skip
         have p6 : ((adv s5)).ns.length <= 8 * ((adv s5)).i := Nat.le_trans p5 (Nat.mul_le_mul_left 8 (Nat.le_succ _))
         have i6 : ((adv s5)).i = (s5).i + 1 := rfl
         go_wp2_with (go_at_call 35; refine (HS5.out.want_yes ⟨#[59]⟩ q6).mono ?_; rintro e w6 ⟨rfl, h6⟩; have HS6 : Hid (Sm rb ts tv en w v kv _ _ _ (adv s5)) := h6; clear h6 HS5 lt c1 c3 c5 fz wi wd; have lt := HS6.out.rd.lt; have c1 := HS6.out.rd.c1; have c3 := HS6.out.rd.c3; have fz := HS6.out.rd.fz; have wi := HS6.out.wri; have c5 := True.intro; have wd := True.intro; (try dsimp only at c1 wi))
         go_wp2_with (go_at_call 17; refine (HS6.out.nodeN [a5] 14 x3.tx 0 (by simp) (by have := HS6.out.rd.il; omega) _ _ _ (by simp) rfl rfl).mono ?_; rintro e w7 ⟨rfl, v7, K7, h7⟩; have HS7 : Hid (Sm rb ts tv en w v kv _ _ _ (zb 14 x3.tx 0 [a5] (adv s5)).2) := h7; clear h7 HS6 lt c1 c3 c5 fz wi wd; have lt := HS7.out.rd.lt; have c1 := HS7.out.rd.c1; have c3 := HS7.out.rd.c3; have fz := HS7.out.rd.fz; have wi := HS7.out.wri; have c5 := True.intro; have wd := True.intro; (try dsimp only at c1 wi))
         go_ret
         exact RmE.yes HS7.out (by first | (simp only [stP, laP, k1, e3, e4, e5, e6, ↓reduceIte, Bool.false_eq_true, if_true, if_false, Bool.and_true, Bool.true_and, and_true, and_false, true_and, false_and]; done) | (simp only [stP, laP, k1, e3, e4, e5, e6, ↓reduceIte, Bool.false_eq_true, if_true, if_false, Bool.and_true, Bool.true_and, and_true, and_false, true_and, false_and]; rfl) | (simp [stP, laP, k1, e3, e4, e5, e6]; done) | (simp [stP, laP, k1, e3, e4, e5, e6]; rfl))
       · skip
         go_wp2_with (go_at_call 35; refine (HS5.out.want_no ⟨#[59]⟩ q6).mono ?_; rintro e w6 ⟨rfl, F6, b6⟩; clear lt c1 c3 c5 fz wi wd; have HR : Hid (Fl rb w6 _ _) := F6; have HB : Hid (Rf rb w v w6) := b6; have c3 := HR.out.c3; have lt := HR.out.lt; have ne := HR.out.ne; obtain ⟨dd, c5⟩ := HR.out.c5; have fz := HR.out.fz; clear F6 b6 HS5)
         try go_wp2_with (first | (go_at_call 17; refine (zc rb _ _ _ (HR.out.below ((Below.refl _ _).alloc (Nat.le_refl _) _)) _ _ _ _ _ _).mono ?_; rintro e wf ⟨rfl, bf⟩; have HB : Hid (Rf rb w v wf) := (HB.out.next ((Below.refl _ _).alloc (Nat.le_refl _) _)).next bf; have HR : Hid (Fl rb wf _ _) := (HR.out.below ((Below.refl _ _).alloc (Nat.le_refl _) _)).below bf; have c3 := HR.out.c3; have lt := HR.out.lt; clear bf) | (go_at_call 35; refine (zm rb _ _ _ HR.out _).mono ?_; rintro e wf ⟨rfl, -, bf⟩; have HB : Hid (Rf rb w v wf) := HB.out.next bf; have HR : Hid (Fl rb wf _ _) := HR.out.below bf; have c3 := HR.out.c3; have lt := HR.out.lt; clear bf) | (go_at_call 17; refine (zc rb _ _ _ HR.out _ _ _ _ _ _).mono ?_; rintro e wf ⟨rfl, bf⟩; have HB : Hid (Rf rb w v wf) := HB.out.next bf; have HR : Hid (Fl rb wf _ _) := HR.out.below bf; have c3 := HR.out.c3; have lt := HR.out.lt; clear bf) | (go_at_call 36; refine (zt rb _ _ _ HR.out).mono ?_; rintro e wf ⟨⟨nf, rfl⟩, -, bf⟩; have HB : Hid (Rf rb w v wf) := HB.out.next bf; have HR : Hid (Fl rb wf _ _) := HR.out.below bf; have c3 := HR.out.c3; have lt := HR.out.lt; clear bf) | (go_at_call 37; refine (zo rb _ _ _ HR.out).mono ?_; rintro e wf ⟨⟨nf, rfl⟩, -, bf⟩; have HB : Hid (Rf rb w v wf) := HB.out.next bf; have HR : Hid (Fl rb wf _ _) := HR.out.below bf; have c3 := HR.out.c3; have lt := HR.out.lt; clear bf))
         go_ret
         exact RmE.no HR.out HB.out (by first | (simp only [stP, laP, k1, e3, e4, e5, e6, ↓reduceIte, Bool.false_eq_true, if_true, if_false, Bool.and_true, Bool.true_and, and_true, and_false, true_and, false_and]; done) | (simp only [stP, laP, k1, e3, e4, e5, e6, ↓reduceIte, Bool.false_eq_true, if_true, if_false, Bool.and_true, Bool.true_and, and_true, and_false, true_and, false_and]; rfl) | (simp [stP, laP, k1, e3, e4, e5, e6]; done) | (simp [stP, laP, k1, e3, e4, e5, e6]; rfl))
   · skip
     go_wp2_with (go_at_call 35; refine (HS3.out.want_no ⟨#[61]⟩ q4).mono ?_; rintro e w4 ⟨rfl, F4, b4⟩; clear lt c1 c3 c5 fz wi wd; have HR : Hid (Fl rb w4 _ _) := F4; have HB : Hid (Rf rb w v w4) := b4; have c3 := HR.out.c3; have lt := HR.out.lt; have ne := HR.out.ne; obtain ⟨dd, c5⟩ := HR.out.c5; have fz := HR.out.fz; clear F4 b4 HS3)
     try go_wp2_with (first | (go_at_call 17; refine (zc rb _ _ _ (HR.out.below ((Below.refl _ _).alloc (Nat.le_refl _) _)) _ _ _ _ _ _).mono ?_; rintro e wf ⟨rfl, bf⟩; have HB : Hid (Rf rb w v wf) := (HB.out.next ((Below.refl _ _).alloc (Nat.le_refl _) _)).next bf; have HR : Hid (Fl rb wf _ _) := (HR.out.below ((Below.refl _ _).alloc (Nat.le_refl _) _)).below bf; have c3 := HR.out.c3; have lt := HR.out.lt; clear bf) | (go_at_call 35; refine (zm rb _ _ _ HR.out _).mono ?_; rintro e wf ⟨rfl, -, bf⟩; have HB : Hid (Rf rb w v wf) := HB.out.next bf; have HR : Hid (Fl rb wf _ _) := HR.out.below bf; have c3 := HR.out.c3; have lt := HR.out.lt; clear bf) | (go_at_call 17; refine (zc rb _ _ _ HR.out _ _ _ _ _ _).mono ?_; rintro e wf ⟨rfl, bf⟩; have HB : Hid (Rf rb w v wf) := HB.out.next bf; have HR : Hid (Fl rb wf _ _) := HR.out.below bf; have c3 := HR.out.c3; have lt := HR.out.lt; clear bf) | (go_at_call 36; refine (zt rb _ _ _ HR.out).mono ?_; rintro e wf ⟨⟨nf, rfl⟩, -, bf⟩; have HB : Hid (Rf rb w v wf) := HB.out.next bf; have HR : Hid (Fl rb wf _ _) := HR.out.below bf; have c3 := HR.out.c3; have lt := HR.out.lt; clear bf) | (go_at_call 37; refine (zo rb _ _ _ HR.out).mono ?_; rintro e wf ⟨⟨nf, rfl⟩, -, bf⟩; have HB : Hid (Rf rb w v wf) := HB.out.next bf; have HR : Hid (Fl rb wf _ _) := HR.out.below bf; have c3 := HR.out.c3; have lt := HR.out.lt; clear bf))
     go_ret
     exact RmE.no HR.out HB.out (by first | (simp only [stP, laP, k1, e3, e4, ↓reduceIte, Bool.false_eq_true, if_true, if_false, Bool.and_true, Bool.true_and, and_true, and_false, true_and, false_and]; done) | (simp only [stP, laP, k1, e3, e4, ↓reduceIte, Bool.false_eq_true, if_true, if_false, Bool.and_true, Bool.true_and, and_true, and_false, true_and, false_and]; rfl) | (simp [stP, laP, k1, e3, e4]; done) | (simp [stP, laP, k1, e3, e4]; rfl))
 · skip
   go_wp2_with (go_at_call 34; refine (HS2.out.name_no q3).mono ?_; rintro e w3 ⟨rfl, F3, b3⟩; clear lt c1 c3 c5 fz wi wd HS1; have HR : Hid (Fl rb w3 _ _) := F3; have HB : Hid (Rf rb w v w3) := b3; have c3 := HR.out.c3; have lt := HR.out.lt; have ne := HR.out.ne; obtain ⟨dd, c5⟩ := HR.out.c5; have fz := HR.out.fz; clear F3 b3 HS2)
   try go_wp2_with (first | (go_at_call 17; refine (zc rb _ _ _ (HR.out.below ((Below.refl _ _).alloc (Nat.le_refl _) _)) _ _ _ _ _ _).mono ?_; rintro e wf ⟨rfl, bf⟩; have HB : Hid (Rf rb w v wf) := (HB.out.next ((Below.refl _ _).alloc (Nat.le_refl _) _)).next bf; have HR : Hid (Fl rb wf _ _) := (HR.out.below ((Below.refl _ _).alloc (Nat.le_refl _) _)).below bf; have c3 := HR.out.c3; have lt := HR.out.lt; clear bf) | (go_at_call 35; refine (zm rb _ _ _ HR.out _).mono ?_; rintro e wf ⟨rfl, -, bf⟩; have HB : Hid (Rf rb w v wf) := HB.out.next bf; have HR : Hid (Fl rb wf _ _) := HR.out.below bf; have c3 := HR.out.c3; have lt := HR.out.lt; clear bf) | (go_at_call 17; refine (zc rb _ _ _ HR.out _ _ _ _ _ _).mono ?_; rintro e wf ⟨rfl, bf⟩; have HB : Hid (Rf rb w v wf) := HB.out.next bf; have HR : Hid (Fl rb wf _ _) := HR.out.below bf; have c3 := HR.out.c3; have lt := HR.out.lt; clear bf) | (go_at_call 36; refine (zt rb _ _ _ HR.out).mono ?_; rintro e wf ⟨⟨nf, rfl⟩, -, bf⟩; have HB : Hid (Rf rb w v wf) := HB.out.next bf; have HR : Hid (Fl rb wf _ _) := HR.out.below bf; have c3 := HR.out.c3; have lt := HR.out.lt; clear bf) | (go_at_call 37; refine (zo rb _ _ _ HR.out).mono ?_; rintro e wf ⟨⟨nf, rfl⟩, -, bf⟩; have HB : Hid (Rf rb w v wf) := HB.out.next bf; have HR : Hid (Fl rb wf _ _) := HR.out.below bf; have c3 := HR.out.c3; have lt := HR.out.lt; clear bf))
   go_ret
   exact RmE.no HR.out HB.out (by first | (simp only [stP, laP, k1, e3, ↓reduceIte, Bool.false_eq_true, if_true, if_false, Bool.and_true, Bool.true_and, and_true, and_false, true_and, false_and]; done) | (simp only [stP, laP, k1, e3, ↓reduceIte, Bool.false_eq_true, if_true, if_false, Bool.and_true, Bool.true_and, and_true, and_false, true_and, false_and]; rfl) | (simp [stP, laP, k1, e3]; done) | (simp [stP, laP, k1, e3]; rfl))
set_option maxHeartbeats 4000000 in
theorem zko {rb : Nat} {ts : List za} {tv : Value} {en : Nat} {r : Rd} {n : Nat} (hr : RM rb ts tv en r n) (hro : zk ts r) (w : World) (v : Value) (kv : List Value) (s : PS) (h : Mdr rb ts tv en w v kv s) (hp : s.ns.length <= 8 * s.i) (k1 : isN ts ⟨#[108, 111, 99, 97, 108]⟩ s = false) (k2 : isN ts ⟨#[105, 102]⟩ s = false) (k3 : isN ts ⟨#[119, 104, 105, 108, 101]⟩ s = true) (hf : ts.length < s.i + (n + 1)) :
 Calls Tryz.prog 16 #[.pointer (some ⟨rb, 0, none⟩)] w (RmE rb ts tv en w v kv (stP ts en r s)) := by
 have HS0 : Hid (Sm rb ts tv en w v kv w v [] s) := Sm.begin h
 have hT : ts.length <= 3000 := h.tl
 have hI : s.i <= ts.length := h.il
 clear h
 have lt := HS0.out.rd.lt
 have c1 := HS0.out.rd.c1
 have c3 := HS0.out.rd.c3
 have fz := HS0.out.rd.fz
 have wi := HS0.out.wri
 have c5 := HS0.out.rd.c5
 have wd := HS0.out.wrd
 go_enter Tryz.func16, Tryz.ntmps16
 go_wp2_with (go_at_call 33; refine (HS0.out.is ⟨#[108, 111, 99, 97, 108]⟩ false k1).mono ?_; rintro e w1 ⟨rfl, h1⟩; have HS1 : Hid (Sm rb ts tv en w v kv _ _ _ s) := h1; clear h1 HS0 lt c1 c3 c5 fz wi wd; have lt := HS1.out.rd.lt; have c1 := HS1.out.rd.c1; have c3 := HS1.out.rd.c3; have fz := HS1.out.rd.fz; have wi := HS1.out.wri; have c5 := HS1.out.rd.c5; have wd := HS1.out.wrd)
 go_wp2_with (go_at_call 33; refine (HS1.out.is ⟨#[105, 102]⟩ false k2).mono ?_; rintro e w2 ⟨rfl, h2⟩; have HS2 : Hid (Sm rb ts tv en w v kv _ _ _ s) := h2; clear h2 HS1 lt c1 c3 c5 fz wi wd; have lt := HS2.out.rd.lt; have c1 := HS2.out.rd.c1; have c3 := HS2.out.rd.c3; have fz := HS2.out.rd.fz; have wi := HS2.out.wri; have c5 := HS2.out.rd.c5; have wd := HS2.out.wrd)
 go_wp2_with (go_at_call 33; refine (HS2.out.is ⟨#[119, 104, 105, 108, 101]⟩ true k3).mono ?_; rintro e w3 ⟨rfl, h3⟩; have HS3 : Hid (Sm rb ts tv en w v kv _ _ _ s) := h3; clear h3 HS2 lt c1 c3 c5 fz wi wd; have lt := HS3.out.rd.lt; have c1 := HS3.out.rd.c1; have c3 := HS3.out.rd.c3; have fz := HS3.out.rd.fz; have wi := HS3.out.wri; have c5 := HS3.out.rd.c5; have wd := HS3.out.wrd)
 obtain ⟨xo, hxo, hlo⟩ := zah k3
 have HS4 : Hid (Sm rb ts tv en w v kv _ _ _ (adv s)) := HS3.out.adv hlo
 have p4 : ((adv s)).ns.length <= 8 * ((adv s)).i := Nat.le_trans hp (Nat.mul_le_mul_left 8 (Nat.le_succ _))
 have i4 : ((adv s)).i = (s).i + 1 := rfl
 rcases e5 : r.wh (adv s) with ⟨x5⟩ | ⟨a5, s5⟩
 · skip
   go_wp2_with (go_at_call 36; refine (HS4.out.no (hr.wh _ _ _ _ HS4.out.rd p4 (by omega)) e5).mono ?_; rintro e w5 ⟨⟨n5, rfl⟩, F5, b5⟩; clear lt c1 c3 c5 fz wi wd HS3; have HR : Hid (Fl rb w5 _ _) := F5; have HB : Hid (Rf rb w v w5) := b5; have c3 := HR.out.c3; have lt := HR.out.lt; have ne := HR.out.ne; obtain ⟨dd, c5⟩ := HR.out.c5; have fz := HR.out.fz; clear F5 b5 HS4)
   try go_wp2_with (first | (go_at_call 17; refine (zc rb _ _ _ (HR.out.below ((Below.refl _ _).alloc (Nat.le_refl _) _)) _ _ _ _ _ _).mono ?_; rintro e wf ⟨rfl, bf⟩; have HB : Hid (Rf rb w v wf) := (HB.out.next ((Below.refl _ _).alloc (Nat.le_refl _) _)).next bf; have HR : Hid (Fl rb wf _ _) := (HR.out.below ((Below.refl _ _).alloc (Nat.le_refl _) _)).below bf; have c3 := HR.out.c3; have lt := HR.out.lt; clear bf) | (go_at_call 35; refine (zm rb _ _ _ HR.out _).mono ?_; rintro e wf ⟨rfl, -, bf⟩; have HB : Hid (Rf rb w v wf) := HB.out.next bf; have HR : Hid (Fl rb wf _ _) := HR.out.below bf; have c3 := HR.out.c3; have lt := HR.out.lt; clear bf) | (go_at_call 17; refine (zc rb _ _ _ HR.out _ _ _ _ _ _).mono ?_; rintro e wf ⟨rfl, bf⟩; have HB : Hid (Rf rb w v wf) := HB.out.next bf; have HR : Hid (Fl rb wf _ _) := HR.out.below bf; have c3 := HR.out.c3; have lt := HR.out.lt; clear bf) | (go_at_call 36; refine (zt rb _ _ _ HR.out).mono ?_; rintro e wf ⟨⟨nf, rfl⟩, -, bf⟩; have HB : Hid (Rf rb w v wf) := HB.out.next bf; have HR : Hid (Fl rb wf _ _) := HR.out.below bf; have c3 := HR.out.c3; have lt := HR.out.lt; clear bf) | (go_at_call 37; refine (zo rb _ _ _ HR.out).mono ?_; rintro e wf ⟨⟨nf, rfl⟩, -, bf⟩; have HB : Hid (Rf rb w v wf) := HB.out.next bf; have HR : Hid (Fl rb wf _ _) := HR.out.below bf; have c3 := HR.out.c3; have lt := HR.out.lt; clear bf))
   go_ret
   exact RmE.no HR.out HB.out (by first | (simp only [stP, laP, k1, k2, k3, e5, ↓reduceIte, Bool.false_eq_true, if_true, if_false, Bool.and_true, Bool.true_and, and_true, and_false, true_and, false_and]; done) | (simp only [stP, laP, k1, k2, k3, e5, ↓reduceIte, Bool.false_eq_true, if_true, if_false, Bool.and_true, Bool.true_and, and_true, and_false, true_and, false_and]; rfl) | (simp [stP, laP, k1, k2, k3, e5]; done) | (simp [stP, laP, k1, k2, k3, e5]; rfl))
 · skip
   have o5 := hro.wh e5
   have p5 : s5.ns.length <= 8 * s5.i := by have := o5.1.phi p4; omega
   have i5 := o5.1.1
   have t5 := o5.1.2.1
   go_wp2_with (go_at_call 36; refine (HS4.out.yes (hr.wh _ _ _ _ HS4.out.rd p4 (by omega)) e5).mono ?_; rintro e w5 ⟨rfl, v5, K5, h5⟩; have HS5 : Hid (Sm rb ts tv en w v kv _ _ _ s5) := h5; clear h5 HS4 lt c1 c3 c5 fz wi wd HS3; have lt := HS5.out.rd.lt; have c1 := HS5.out.rd.c1; have c3 := HS5.out.rd.c3; have fz := HS5.out.rd.fz; have wi := HS5.out.wri; have c5 := HS5.out.rd.c5; have wd := HS5.out.wrd)
   rcases e6 : r.bl s5 with ⟨x6⟩ | ⟨a6, s6⟩
   · skip
     go_wp2_with (go_at_call 37; refine (HS5.out.no (hr.bl _ _ _ _ HS5.out.rd p5 (by omega)) e6).mono ?_; rintro e w6 ⟨⟨n6, rfl⟩, F6, b6⟩; clear lt c1 c3 c5 fz wi wd; have HR : Hid (Fl rb w6 _ _) := F6; have HB : Hid (Rf rb w v w6) := b6; have c3 := HR.out.c3; have lt := HR.out.lt; have ne := HR.out.ne; obtain ⟨dd, c5⟩ := HR.out.c5; have fz := HR.out.fz; clear F6 b6 HS5)
     try go_wp2_with (first | (go_at_call 17; refine (zc rb _ _ _ (HR.out.below ((Below.refl _ _).alloc (Nat.le_refl _) _)) _ _ _ _ _ _).mono ?_; rintro e wf ⟨rfl, bf⟩; have HB : Hid (Rf rb w v wf) := (HB.out.next ((Below.refl _ _).alloc (Nat.le_refl _) _)).next bf; have HR : Hid (Fl rb wf _ _) := (HR.out.below ((Below.refl _ _).alloc (Nat.le_refl _) _)).below bf; have c3 := HR.out.c3; have lt := HR.out.lt; clear bf) | (go_at_call 35; refine (zm rb _ _ _ HR.out _).mono ?_; rintro e wf ⟨rfl, -, bf⟩; have HB : Hid (Rf rb w v wf) := HB.out.next bf; have HR : Hid (Fl rb wf _ _) := HR.out.below bf; have c3 := HR.out.c3; have lt := HR.out.lt; clear bf) | (go_at_call 17; refine (zc rb _ _ _ HR.out _ _ _ _ _ _).mono ?_; rintro e wf ⟨rfl, bf⟩; have HB : Hid (Rf rb w v wf) := HB.out.next bf; have HR : Hid (Fl rb wf _ _) := HR.out.below bf; have c3 := HR.out.c3; have lt := HR.out.lt; clear bf) | (go_at_call 36; refine (zt rb _ _ _ HR.out).mono ?_; rintro e wf ⟨⟨nf, rfl⟩, -, bf⟩; have HB : Hid (Rf rb w v wf) := HB.out.next bf; have HR : Hid (Fl rb wf _ _) := HR.out.below bf; have c3 := HR.out.c3; have lt := HR.out.lt; clear bf) | (go_at_call 37; refine (zo rb _ _ _ HR.out).mono ?_; rintro e wf ⟨⟨nf, rfl⟩, -, bf⟩; have HB : Hid (Rf rb w v wf) := HB.out.next bf; have HR : Hid (Fl rb wf _ _) := HR.out.below bf; have c3 := HR.out.c3; have lt := HR.out.lt; clear bf))
     go_ret
     exact RmE.no HR.out HB.out (by first | (simp only [stP, laP, k1, k2, k3, e5, e6, ↓reduceIte, Bool.false_eq_true, if_true, if_false, Bool.and_true, Bool.true_and, and_true, and_false, true_and, false_and]; done) | (simp only [stP, laP, k1, k2, k3, e5, e6, ↓reduceIte, Bool.false_eq_true, if_true, if_false, Bool.and_true, Bool.true_and, and_true, and_false, true_and, false_and]; rfl) | (simp [stP, laP, k1, k2, k3, e5, e6]; done) | (simp [stP, laP, k1, k2, k3, e5, e6]; rfl))
   · skip
     have o6 := hro.bl e6
     have p6 : s6.ns.length <= 8 * s6.i := by have := o6.1.phi p5; omega
     have i6 := o6.1.1
     have t6 := o6.1.2.1
     go_wp2_with (go_at_call 37; refine (HS5.out.yes (hr.bl _ _ _ _ HS5.out.rd p5 (by omega)) e6).mono ?_; rintro e w6 ⟨rfl, v6, K6, h6⟩; have HS6 : Hid (Sm rb ts tv en w v kv _ _ _ s6) := h6; clear h6 HS5 lt c1 c3 c5 fz wi wd; have lt := HS6.out.rd.lt; have c1 := HS6.out.rd.c1; have c3 := HS6.out.rd.c3; have fz := HS6.out.rd.fz; have wi := HS6.out.wri; have c5 := HS6.out.rd.c5; have wd := HS6.out.wrd)
     go_wp2_with (go_at_call 17; refine (HS6.out.nodeN [a5, a6] 18 eT 0 (by simp) (by have := HS6.out.rd.il; omega) _ _ _ (by simp) rfl rfl).mono ?_; rintro e w7 ⟨rfl, v7, K7, h7⟩; have HS7 : Hid (Sm rb ts tv en w v kv _ _ _ (zb 18 eT 0 [a5, a6] s6).2) := h7; clear h7 HS6 lt c1 c3 c5 fz wi wd; have lt := HS7.out.rd.lt; have c1 := HS7.out.rd.c1; have c3 := HS7.out.rd.c3; have fz := HS7.out.rd.fz; have wi := HS7.out.wri; have c5 := True.intro; have wd := True.intro; (try dsimp only at c1 wi))
     go_ret
     exact RmE.yes HS7.out (by first | (simp only [stP, laP, k1, k2, k3, e5, e6, ↓reduceIte, Bool.false_eq_true, if_true, if_false, Bool.and_true, Bool.true_and, and_true, and_false, true_and, false_and]; done) | (simp only [stP, laP, k1, k2, k3, e5, e6, ↓reduceIte, Bool.false_eq_true, if_true, if_false, Bool.and_true, Bool.true_and, and_true, and_false, true_and, false_and]; rfl) | (simp [stP, laP, k1, k2, k3, e5, e6]; done) | (simp [stP, laP, k1, k2, k3, e5, e6]; rfl))
set_option maxHeartbeats 4000000 in
theorem zjj {rb : Nat} {ts : List za} {tv : Value} {en : Nat} {r : Rd} {n : Nat} (hr : RM rb ts tv en r n) (hro : zk ts r) (w : World) (v : Value) (kv : List Value) (s : PS) (h : Mdr rb ts tv en w v kv s) (hp : s.ns.length <= 8 * s.i) (k1 : isN ts ⟨#[108, 111, 99, 97, 108]⟩ s = false) (k2 : isN ts ⟨#[105, 102]⟩ s = false) (k3 : isN ts ⟨#[119, 104, 105, 108, 101]⟩ s = false) (k4 : isN ts ⟨#[114, 101, 116, 117, 114, 110]⟩ s = true) (hf : ts.length < s.i + (n + 1)) :
 Calls Tryz.prog 16 #[.pointer (some ⟨rb, 0, none⟩)] w (RmE rb ts tv en w v kv (stP ts en r s)) := by
 have HS0 : Hid (Sm rb ts tv en w v kv w v [] s) := Sm.begin h
 have hT : ts.length <= 3000 := h.tl
 have hI : s.i <= ts.length := h.il
 clear h
 have lt := HS0.out.rd.lt
 have c1 := HS0.out.rd.c1
 have c3 := HS0.out.rd.c3
 have fz := HS0.out.rd.fz
 have wi := HS0.out.wri
 have c5 := HS0.out.rd.c5
 have wd := HS0.out.wrd
 go_enter Tryz.func16, Tryz.ntmps16
 go_wp2_with (go_at_call 33; refine (HS0.out.is ⟨#[108, 111, 99, 97, 108]⟩ false k1).mono ?_; rintro e w1 ⟨rfl, h1⟩; have HS1 : Hid (Sm rb ts tv en w v kv _ _ _ s) := h1; clear h1 HS0 lt c1 c3 c5 fz wi wd; have lt := HS1.out.rd.lt; have c1 := HS1.out.rd.c1; have c3 := HS1.out.rd.c3; have fz := HS1.out.rd.fz; have wi := HS1.out.wri; have c5 := HS1.out.rd.c5; have wd := HS1.out.wrd)
 go_wp2_with (go_at_call 33; refine (HS1.out.is ⟨#[105, 102]⟩ false k2).mono ?_; rintro e w2 ⟨rfl, h2⟩; have HS2 : Hid (Sm rb ts tv en w v kv _ _ _ s) := h2; clear h2 HS1 lt c1 c3 c5 fz wi wd; have lt := HS2.out.rd.lt; have c1 := HS2.out.rd.c1; have c3 := HS2.out.rd.c3; have fz := HS2.out.rd.fz; have wi := HS2.out.wri; have c5 := HS2.out.rd.c5; have wd := HS2.out.wrd)
 go_wp2_with (go_at_call 33; refine (HS2.out.is ⟨#[119, 104, 105, 108, 101]⟩ false k3).mono ?_; rintro e w3 ⟨rfl, h3⟩; have HS3 : Hid (Sm rb ts tv en w v kv _ _ _ s) := h3; clear h3 HS2 lt c1 c3 c5 fz wi wd; have lt := HS3.out.rd.lt; have c1 := HS3.out.rd.c1; have c3 := HS3.out.rd.c3; have fz := HS3.out.rd.fz; have wi := HS3.out.wri; have c5 := HS3.out.rd.c5; have wd := HS3.out.wrd)
 go_wp2_with (go_at_call 33; refine (HS3.out.is ⟨#[114, 101, 116, 117, 114, 110]⟩ true k4).mono ?_; rintro e w4 ⟨rfl, h4⟩; have HS4 : Hid (Sm rb ts tv en w v kv _ _ _ s) := h4; clear h4 HS3 lt c1 c3 c5 fz wi wd; have lt := HS4.out.rd.lt; have c1 := HS4.out.rd.c1; have c3 := HS4.out.rd.c3; have fz := HS4.out.rd.fz; have wi := HS4.out.wri; have c5 := HS4.out.rd.c5; have wd := HS4.out.wrd)
 obtain ⟨xo, hxo, hlo⟩ := zah k4
 have HS5 : Hid (Sm rb ts tv en w v kv _ _ _ (adv s)) := HS4.out.adv hlo
 have p5 : ((adv s)).ns.length <= 8 * ((adv s)).i := Nat.le_trans hp (Nat.mul_le_mul_left 8 (Nat.le_succ _))
 have i5 : ((adv s)).i = (s).i + 1 := rfl
 rcases e6 : r.wh (adv s) with ⟨x6⟩ | ⟨a6, s6⟩
 · skip
   go_wp2_with (go_at_call 36; refine (HS5.out.no (hr.wh _ _ _ _ HS5.out.rd p5 (by omega)) e6).mono ?_; rintro e w6 ⟨⟨n6, rfl⟩, F6, b6⟩; clear lt c1 c3 c5 fz wi wd HS4; have HR : Hid (Fl rb w6 _ _) := F6; have HB : Hid (Rf rb w v w6) := b6; have c3 := HR.out.c3; have lt := HR.out.lt; have ne := HR.out.ne; obtain ⟨dd, c5⟩ := HR.out.c5; have fz := HR.out.fz; clear F6 b6 HS5)
   try go_wp2_with (first | (go_at_call 17; refine (zc rb _ _ _ (HR.out.below ((Below.refl _ _).alloc (Nat.le_refl _) _)) _ _ _ _ _ _).mono ?_; rintro e wf ⟨rfl, bf⟩; have HB : Hid (Rf rb w v wf) := (HB.out.next ((Below.refl _ _).alloc (Nat.le_refl _) _)).next bf; have HR : Hid (Fl rb wf _ _) := (HR.out.below ((Below.refl _ _).alloc (Nat.le_refl _) _)).below bf; have c3 := HR.out.c3; have lt := HR.out.lt; clear bf) | (go_at_call 35; refine (zm rb _ _ _ HR.out _).mono ?_; rintro e wf ⟨rfl, -, bf⟩; have HB : Hid (Rf rb w v wf) := HB.out.next bf; have HR : Hid (Fl rb wf _ _) := HR.out.below bf; have c3 := HR.out.c3; have lt := HR.out.lt; clear bf) | (go_at_call 17; refine (zc rb _ _ _ HR.out _ _ _ _ _ _).mono ?_; rintro e wf ⟨rfl, bf⟩; have HB : Hid (Rf rb w v wf) := HB.out.next bf; have HR : Hid (Fl rb wf _ _) := HR.out.below bf; have c3 := HR.out.c3; have lt := HR.out.lt; clear bf) | (go_at_call 36; refine (zt rb _ _ _ HR.out).mono ?_; rintro e wf ⟨⟨nf, rfl⟩, -, bf⟩; have HB : Hid (Rf rb w v wf) := HB.out.next bf; have HR : Hid (Fl rb wf _ _) := HR.out.below bf; have c3 := HR.out.c3; have lt := HR.out.lt; clear bf) | (go_at_call 37; refine (zo rb _ _ _ HR.out).mono ?_; rintro e wf ⟨⟨nf, rfl⟩, -, bf⟩; have HB : Hid (Rf rb w v wf) := HB.out.next bf; have HR : Hid (Fl rb wf _ _) := HR.out.below bf; have c3 := HR.out.c3; have lt := HR.out.lt; clear bf))
   go_ret
   exact RmE.no HR.out HB.out (by first | (simp only [stP, laP, k1, k2, k3, k4, e6, ↓reduceIte, Bool.false_eq_true, if_true, if_false, Bool.and_true, Bool.true_and, and_true, and_false, true_and, false_and]; done) | (simp only [stP, laP, k1, k2, k3, k4, e6, ↓reduceIte, Bool.false_eq_true, if_true, if_false, Bool.and_true, Bool.true_and, and_true, and_false, true_and, false_and]; rfl) | (simp [stP, laP, k1, k2, k3, k4, e6]; done) | (simp [stP, laP, k1, k2, k3, k4, e6]; rfl))
 · skip
   have o6 := hro.wh e6
   have p6 : s6.ns.length <= 8 * s6.i := by have := o6.1.phi p5; omega
   have i6 := o6.1.1
   have t6 := o6.1.2.1
   go_wp2_with (go_at_call 36; refine (HS5.out.yes (hr.wh _ _ _ _ HS5.out.rd p5 (by omega)) e6).mono ?_; rintro e w6 ⟨rfl, v6, K6, h6⟩; have HS6 : Hid (Sm rb ts tv en w v kv _ _ _ s6) := h6; clear h6 HS5 lt c1 c3 c5 fz wi wd HS4; have lt := HS6.out.rd.lt; have c1 := HS6.out.rd.c1; have c3 := HS6.out.rd.c3; have fz := HS6.out.rd.fz; have wi := HS6.out.wri; have c5 := HS6.out.rd.c5; have wd := HS6.out.wrd)
   rcases zac ts en ⟨#[59]⟩ s6 with ⟨q7, e7⟩ | ⟨q7, e7⟩
   · skip
     have p7 : ((adv s6)).ns.length <= 8 * ((adv s6)).i := Nat.le_trans p6 (Nat.mul_le_mul_left 8 (Nat.le_succ _))
     have i7 : ((adv s6)).i = (s6).i + 1 := rfl
     go_wp2_with (go_at_call 35; refine (HS6.out.want_yes ⟨#[59]⟩ q7).mono ?_; rintro e w7 ⟨rfl, h7⟩; have HS7 : Hid (Sm rb ts tv en w v kv _ _ _ (adv s6)) := h7; clear h7 HS6 lt c1 c3 c5 fz wi wd; have lt := HS7.out.rd.lt; have c1 := HS7.out.rd.c1; have c3 := HS7.out.rd.c3; have fz := HS7.out.rd.fz; have wi := HS7.out.wri; have c5 := True.intro; have wd := True.intro; (try dsimp only at c1 wi))
     go_wp2_with (go_at_call 17; refine (HS7.out.nodeN [a6] 19 eT 0 (by simp) (by have := HS7.out.rd.il; omega) _ _ _ (by simp) rfl rfl).mono ?_; rintro e w8 ⟨rfl, v8, K8, h8⟩; have HS8 : Hid (Sm rb ts tv en w v kv _ _ _ (zb 19 eT 0 [a6] (adv s6)).2) := h8; clear h8 HS7 lt c1 c3 c5 fz wi wd; have lt := HS8.out.rd.lt; have c1 := HS8.out.rd.c1; have c3 := HS8.out.rd.c3; have fz := HS8.out.rd.fz; have wi := HS8.out.wri; have c5 := True.intro; have wd := True.intro; (try dsimp only at c1 wi))
     go_ret
     exact RmE.yes HS8.out (by first | (simp only [stP, laP, k1, k2, k3, k4, e6, e7, ↓reduceIte, Bool.false_eq_true, if_true, if_false, Bool.and_true, Bool.true_and, and_true, and_false, true_and, false_and]; done) | (simp only [stP, laP, k1, k2, k3, k4, e6, e7, ↓reduceIte, Bool.false_eq_true, if_true, if_false, Bool.and_true, Bool.true_and, and_true, and_false, true_and, false_and]; rfl) | (simp [stP, laP, k1, k2, k3, k4, e6, e7]; done) | (simp [stP, laP, k1, k2, k3, k4, e6, e7]; rfl))
   · skip
     go_wp2_with (go_at_call 35; refine (HS6.out.want_no ⟨#[59]⟩ q7).mono ?_; rintro e w7 ⟨rfl, F7, b7⟩; clear lt c1 c3 c5 fz wi wd; have HR : Hid (Fl rb w7 _ _) := F7; have HB : Hid (Rf rb w v w7) := b7; have c3 := HR.out.c3; have lt := HR.out.lt; have ne := HR.out.ne; obtain ⟨dd, c5⟩ := HR.out.c5; have fz := HR.out.fz; clear F7 b7 HS6)
     try go_wp2_with (first | (go_at_call 17; refine (zc rb _ _ _ (HR.out.below ((Below.refl _ _).alloc (Nat.le_refl _) _)) _ _ _ _ _ _).mono ?_; rintro e wf ⟨rfl, bf⟩; have HB : Hid (Rf rb w v wf) := (HB.out.next ((Below.refl _ _).alloc (Nat.le_refl _) _)).next bf; have HR : Hid (Fl rb wf _ _) := (HR.out.below ((Below.refl _ _).alloc (Nat.le_refl _) _)).below bf; have c3 := HR.out.c3; have lt := HR.out.lt; clear bf) | (go_at_call 35; refine (zm rb _ _ _ HR.out _).mono ?_; rintro e wf ⟨rfl, -, bf⟩; have HB : Hid (Rf rb w v wf) := HB.out.next bf; have HR : Hid (Fl rb wf _ _) := HR.out.below bf; have c3 := HR.out.c3; have lt := HR.out.lt; clear bf) | (go_at_call 17; refine (zc rb _ _ _ HR.out _ _ _ _ _ _).mono ?_; rintro e wf ⟨rfl, bf⟩; have HB : Hid (Rf rb w v wf) := HB.out.next bf; have HR : Hid (Fl rb wf _ _) := HR.out.below bf; have c3 := HR.out.c3; have lt := HR.out.lt; clear bf) | (go_at_call 36; refine (zt rb _ _ _ HR.out).mono ?_; rintro e wf ⟨⟨nf, rfl⟩, -, bf⟩; have HB : Hid (Rf rb w v wf) := HB.out.next bf; have HR : Hid (Fl rb wf _ _) := HR.out.below bf; have c3 := HR.out.c3; have lt := HR.out.lt; clear bf) | (go_at_call 37; refine (zo rb _ _ _ HR.out).mono ?_; rintro e wf ⟨⟨nf, rfl⟩, -, bf⟩; have HB : Hid (Rf rb w v wf) := HB.out.next bf; have HR : Hid (Fl rb wf _ _) := HR.out.below bf; have c3 := HR.out.c3; have lt := HR.out.lt; clear bf))
     go_ret
     exact RmE.no HR.out HB.out (by first | (simp only [stP, laP, k1, k2, k3, k4, e6, e7, ↓reduceIte, Bool.false_eq_true, if_true, if_false, Bool.and_true, Bool.true_and, and_true, and_false, true_and, false_and]; done) | (simp only [stP, laP, k1, k2, k3, k4, e6, e7, ↓reduceIte, Bool.false_eq_true, if_true, if_false, Bool.and_true, Bool.true_and, and_true, and_false, true_and, false_and]; rfl) | (simp [stP, laP, k1, k2, k3, k4, e6, e7]; done) | (simp [stP, laP, k1, k2, k3, k4, e6, e7]; rfl))
set_option maxHeartbeats 4000000 in
theorem znn {rb : Nat} {ts : List za} {tv : Value} {en : Nat} {r : Rd} {n : Nat} (hr : RM rb ts tv en r n) (hro : zk ts r) (HA : ∀ (w : World) (v : Value) (kv : List Value) (s : PS), Mdr rb ts tv en w v kv s -> s.ns.length <= 8 * s.i -> ts.length < s.i + (n + 1) -> Calls Tryz.prog 38 #[.pointer (some ⟨rb, 0, none⟩)] w (RmE rb ts tv en w v kv (za9 ts en r s))) (w : World) (v : Value) (kv : List Value) (s : PS) (h : Mdr rb ts tv en w v kv s) (hp : s.ns.length <= 8 * s.i) (k1 : isN ts ⟨#[108, 111, 99, 97, 108]⟩ s = false) (k2 : isN ts ⟨#[105, 102]⟩ s = false) (k3 : isN ts ⟨#[119, 104, 105, 108, 101]⟩ s = false) (k4 : isN ts ⟨#[114, 101, 116, 117, 114, 110]⟩ s = false) (hf : ts.length < s.i + (n + 1)) :
 Calls Tryz.prog 16 #[.pointer (some ⟨rb, 0, none⟩)] w (RmE rb ts tv en w v kv (stP ts en r s)) := by
 have HS0 : Hid (Sm rb ts tv en w v kv w v [] s) := Sm.begin h
 have hT : ts.length <= 3000 := h.tl
 have hI : s.i <= ts.length := h.il
 clear h
 have lt := HS0.out.rd.lt
 have c1 := HS0.out.rd.c1
 have c3 := HS0.out.rd.c3
 have fz := HS0.out.rd.fz
 have wi := HS0.out.wri
 have c5 := HS0.out.rd.c5
 have wd := HS0.out.wrd
 go_enter Tryz.func16, Tryz.ntmps16
 go_wp2_with (go_at_call 33; refine (HS0.out.is ⟨#[108, 111, 99, 97, 108]⟩ false k1).mono ?_; rintro e w1 ⟨rfl, h1⟩; have HS1 : Hid (Sm rb ts tv en w v kv _ _ _ s) := h1; clear h1 HS0 lt c1 c3 c5 fz wi wd; have lt := HS1.out.rd.lt; have c1 := HS1.out.rd.c1; have c3 := HS1.out.rd.c3; have fz := HS1.out.rd.fz; have wi := HS1.out.wri; have c5 := HS1.out.rd.c5; have wd := HS1.out.wrd)
 go_wp2_with (go_at_call 33; refine (HS1.out.is ⟨#[105, 102]⟩ false k2).mono ?_; rintro e w2 ⟨rfl, h2⟩; have HS2 : Hid (Sm rb ts tv en w v kv _ _ _ s) := h2; clear h2 HS1 lt c1 c3 c5 fz wi wd; have lt := HS2.out.rd.lt; have c1 := HS2.out.rd.c1; have c3 := HS2.out.rd.c3; have fz := HS2.out.rd.fz; have wi := HS2.out.wri; have c5 := HS2.out.rd.c5; have wd := HS2.out.wrd)
 go_wp2_with (go_at_call 33; refine (HS2.out.is ⟨#[119, 104, 105, 108, 101]⟩ false k3).mono ?_; rintro e w3 ⟨rfl, h3⟩; have HS3 : Hid (Sm rb ts tv en w v kv _ _ _ s) := h3; clear h3 HS2 lt c1 c3 c5 fz wi wd; have lt := HS3.out.rd.lt; have c1 := HS3.out.rd.c1; have c3 := HS3.out.rd.c3; have fz := HS3.out.rd.fz; have wi := HS3.out.wri; have c5 := HS3.out.rd.c5; have wd := HS3.out.wrd)
 go_wp2_with (go_at_call 33; refine (HS3.out.is ⟨#[114, 101, 116, 117, 114, 110]⟩ false k4).mono ?_; rintro e w4 ⟨rfl, h4⟩; have HS4 : Hid (Sm rb ts tv en w v kv _ _ _ s) := h4; clear h4 HS3 lt c1 c3 c5 fz wi wd; have lt := HS4.out.rd.lt; have c1 := HS4.out.rd.c1; have c3 := HS4.out.rd.c3; have fz := HS4.out.rd.fz; have wi := HS4.out.wri; have c5 := HS4.out.rd.c5; have wd := HS4.out.wrd)
 rcases e5 : za9 ts en r s with ⟨x5⟩ | ⟨a5, s5⟩
 · skip
   go_wp2_with (go_at_call 38; refine (HS4.out.no (HA _ _ _ _ HS4.out.rd hp (by omega)) e5).mono ?_; rintro e w5 ⟨⟨n5, rfl⟩, F5, b5⟩; clear lt c1 c3 c5 fz wi wd; have HR : Hid (Fl rb w5 _ _) := F5; have HB : Hid (Rf rb w v w5) := b5; have c3 := HR.out.c3; have lt := HR.out.lt; have ne := HR.out.ne; obtain ⟨dd, c5⟩ := HR.out.c5; have fz := HR.out.fz; clear F5 b5 HS4)
   try go_wp2_with (first | (go_at_call 17; refine (zc rb _ _ _ (HR.out.below ((Below.refl _ _).alloc (Nat.le_refl _) _)) _ _ _ _ _ _).mono ?_; rintro e wf ⟨rfl, bf⟩; have HB : Hid (Rf rb w v wf) := (HB.out.next ((Below.refl _ _).alloc (Nat.le_refl _) _)).next bf; have HR : Hid (Fl rb wf _ _) := (HR.out.below ((Below.refl _ _).alloc (Nat.le_refl _) _)).below bf; have c3 := HR.out.c3; have lt := HR.out.lt; clear bf) | (go_at_call 35; refine (zm rb _ _ _ HR.out _).mono ?_; rintro e wf ⟨rfl, -, bf⟩; have HB : Hid (Rf rb w v wf) := HB.out.next bf; have HR : Hid (Fl rb wf _ _) := HR.out.below bf; have c3 := HR.out.c3; have lt := HR.out.lt; clear bf) | (go_at_call 17; refine (zc rb _ _ _ HR.out _ _ _ _ _ _).mono ?_; rintro e wf ⟨rfl, bf⟩; have HB : Hid (Rf rb w v wf) := HB.out.next bf; have HR : Hid (Fl rb wf _ _) := HR.out.below bf; have c3 := HR.out.c3; have lt := HR.out.lt; clear bf) | (go_at_call 36; refine (zt rb _ _ _ HR.out).mono ?_; rintro e wf ⟨⟨nf, rfl⟩, -, bf⟩; have HB : Hid (Rf rb w v wf) := HB.out.next bf; have HR : Hid (Fl rb wf _ _) := HR.out.below bf; have c3 := HR.out.c3; have lt := HR.out.lt; clear bf) | (go_at_call 37; refine (zo rb _ _ _ HR.out).mono ?_; rintro e wf ⟨⟨nf, rfl⟩, -, bf⟩; have HB : Hid (Rf rb w v wf) := HB.out.next bf; have HR : Hid (Fl rb wf _ _) := HR.out.below bf; have c3 := HR.out.c3; have lt := HR.out.lt; clear bf))
   go_ret
   exact RmE.no HR.out HB.out (by first | (simp only [stP, laP, k1, k2, k3, k4, e5, ↓reduceIte, Bool.false_eq_true, if_true, if_false, Bool.and_true, Bool.true_and, and_true, and_false, true_and, false_and]; done) | (simp only [stP, laP, k1, k2, k3, k4, e5, ↓reduceIte, Bool.false_eq_true, if_true, if_false, Bool.and_true, Bool.true_and, and_true, and_false, true_and, false_and]; rfl) | (simp [stP, laP, k1, k2, k3, k4, e5]; done) | (simp [stP, laP, k1, k2, k3, k4, e5]; rfl))
 · skip
   have o5 := zif ts en hro e5
   have p5 : s5.ns.length <= 8 * s5.i := by have := o5.1.phi hp; omega
   have i5 := o5.1.1
   have t5 := o5.1.2.1
   go_wp2_with (go_at_call 38; refine (HS4.out.yes (HA _ _ _ _ HS4.out.rd hp (by omega)) e5).mono ?_; rintro e w5 ⟨rfl, v5, K5, h5⟩; have HS5 : Hid (Sm rb ts tv en w v kv _ _ _ s5) := h5; clear h5 HS4 lt c1 c3 c5 fz wi wd; have lt := HS5.out.rd.lt; have c1 := HS5.out.rd.c1; have c3 := HS5.out.rd.c3; have fz := HS5.out.rd.fz; have wi := HS5.out.wri; have c5 := HS5.out.rd.c5; have wd := HS5.out.wrd)
   go_ret
   exact RmE.yes HS5.out (by first | (simp only [stP, laP, k1, k2, k3, k4, e5, ↓reduceIte, Bool.false_eq_true, if_true, if_false, Bool.and_true, Bool.true_and, and_true, and_false, true_and, false_and]; done) | (simp only [stP, laP, k1, k2, k3, k4, e5, ↓reduceIte, Bool.false_eq_true, if_true, if_false, Bool.and_true, Bool.true_and, and_true, and_false, true_and, false_and]; rfl) | (simp [stP, laP, k1, k2, k3, k4, e5]; done) | (simp [stP, laP, k1, k2, k3, k4, e5]; rfl))
end Go.Proofs.YtiglkhkfbgjjoaaGreatDoor
