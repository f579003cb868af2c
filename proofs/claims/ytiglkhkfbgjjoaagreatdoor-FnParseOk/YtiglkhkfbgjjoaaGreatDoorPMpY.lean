/- - -/
import Derived.Test.YtiglkhkfbgjjoaaGreatDoorPMpQ
import Derived.Test.YtiglkhkfbgjjoaaGreatDoorPMpT
import Derived.Test.YtiglkhkfbgjjoaaGreatDoorPMpV
import Derived.Test.YtiglkhkfbgjjoaaGreatDoorPMpH
import Derived.Test.YtiglkhkfbgjjoaaGreatDoorPPbO
namespace Go.Proofs.YtiglkhkfbgjjoaaGreatDoor
set_option maxRecDepth 20000
open Go.RowKit Go.PlainAid Go.Maps
set_option linter.unusedSimpArgs false
set_option linter.unusedVariables false
set_option maxHeartbeats 4000000 in
theorem zo5 {rb : Nat} {ts : List za} {tv : Value} {en : Nat} {r : Rd} {n : Nat} (hr : RM rb ts tv en r n) (hro : zk ts r) (w : World) (v : Value) (kv : List Value) (s : PS) (h : Mdr rb ts tv en w v kv s) (hp : s.ns.length <= 8 * s.i) (k1 : isN ts ⟨#[108, 111, 99, 97, 108]⟩ s = false) (k2 : isN ts ⟨#[105, 102]⟩ s = true) (hf : ts.length < s.i + (n + 1)) :
 Calls Tryz.prog 16 #[.pointer (some ⟨rb, 0, none⟩)] w (RmE rb ts tv en w v kv (stP ts en r s)) := by
 have HS0 : Hid (Sm rb ts tv en w v kv w v [] s) := Sm.begin h
 have hT : ts.length <= 3000 := h.tl
 have hI : s.i <= ts.length := h.il
 clear h
 have lt := HS0.out.rd.lt
 have c1 := HS0.out.rd.c1
 have c3 := HS0.out.rd.c3
 have fz := HS0.out.rd.fz
 have wi := HS0.out.wri
 have c5 := HS0.out.rd.c5
 have wd := HS0.out.wrd
 go_enter Tryz.func16, Tryz.ntmps16
 go_wp2_with (go_at_call 33; refine (HS0.out.is ⟨#[108, 111, 99, 97, 108]⟩ false k1).mono ?_; rintro e w1 ⟨rfl, h1⟩; have HS1 : Hid (Sm rb ts tv en w v kv _ _ _ s) := h1; clear h1 HS0 lt c1 c3 c5 fz wi wd; have lt := HS1.out.rd.lt; have c1 := HS1.out.rd.c1; have c3 := HS1.out.rd.c3; have fz := HS1.out.rd.fz; have wi := HS1.out.wri; have c5 := HS1.out.rd.c5; have wd := HS1.out.wrd)
 go_wp2_with (go_at_call 33; refine (HS1.out.is ⟨#[105, 102]⟩ true k2).mono ?_; rintro e w2 ⟨rfl, h2⟩; have HS2 : Hid (Sm rb ts tv en w v kv _ _ _ s) := h2; clear h2 HS1 lt c1 c3 c5 fz wi wd; have lt := HS2.out.rd.lt; have c1 := HS2.out.rd.c1; have c3 := HS2.out.rd.c3; have fz := HS2.out.rd.fz; have wi := HS2.out.wri; have c5 := HS2.out.rd.c5; have wd := HS2.out.wrd)
 obtain ⟨xo, hxo, hlo⟩ := zah k2
 have HS3 : Hid (Sm rb ts tv en w v kv _ _ _ (adv s)) := HS2.out.adv hlo
 have p3 : ((adv s)).ns.length <= 8 * ((adv s)).i := Nat.le_trans hp (Nat.mul_le_mul_left 8 (Nat.le_succ _))
 have i3 : ((adv s)).i = (s).i + 1 := rfl
 rcases e4 : r.wh (adv s) with ⟨x4⟩ | ⟨a4, s4⟩
 · skip
   go_wp2_with (go_at_call 36; refine (HS3.out.no (hr.wh _ _ _ _ HS3.out.rd p3 (by omega)) e4).mono ?_; rintro e w4 ⟨⟨n4, rfl⟩, F4, b4⟩; clear lt c1 c3 c5 fz wi wd HS2; have HR : Hid (Fl rb w4 _ _) := F4; have HB : Hid (Rf rb w v w4) := b4; have c3 := HR.out.c3; have lt := HR.out.lt; have ne := HR.out.ne; obtain ⟨dd, c5⟩ := HR.out.c5; have fz := HR.out.fz; clear F4 b4 HS3)
   try go_wp2_with (first | (go_at_call 33; refine (zgf rb _ _ _ (HR.out.below ((Below.refl _ _).alloc (Nat.le_refl _) _)) _).mono ?_; rintro e wf ⟨rfl, bf⟩; have HB : Hid (Rf rb w v wf) := (HB.out.next ((Below.refl _ _).alloc (Nat.le_refl _) _)).next bf; have HR : Hid (Fl rb wf _ _) := (HR.out.below ((Below.refl _ _).alloc (Nat.le_refl _) _)).below bf; have c3 := HR.out.c3; have lt := HR.out.lt; clear bf) | (go_at_call 37; refine (zo rb _ _ _ HR.out).mono ?_; rintro e wf ⟨⟨nf, rfl⟩, -, bf⟩; have HB : Hid (Rf rb w v wf) := HB.out.next bf; have HR : Hid (Fl rb wf _ _) := HR.out.below bf; have c3 := HR.out.c3; have lt := HR.out.lt; clear bf) | (go_at_call 17; refine (zc rb _ _ _ HR.out _ _ _ _ _ _).mono ?_; rintro e wf ⟨rfl, bf⟩; have HB : Hid (Rf rb w v wf) := HB.out.next bf; have HR : Hid (Fl rb wf _ _) := HR.out.below bf; have c3 := HR.out.c3; have lt := HR.out.lt; clear bf))
   go_ret
   exact RmE.no HR.out HB.out (by first | (simp only [stP, laP, k1, k2, e4, ↓reduceIte, Bool.false_eq_true, if_true, if_false, Bool.and_true, Bool.true_and, and_true, and_false, true_and, false_and]; done) | (simp only [stP, laP, k1, k2, e4, ↓reduceIte, Bool.false_eq_true, if_true, if_false, Bool.and_true, Bool.true_and, and_true, and_false, true_and, false_and]; rfl) | (simp [stP, laP, k1, k2, e4]; done) | (simp [stP, laP, k1, k2, e4]; rfl))
 · skip
   have o4 := hro.wh e4
   have p4 : s4.ns.length <= 8 * s4.i := by have := o4.1.phi p3; omega
   have i4 := o4.1.1
   have t4 := o4.1.2.1
   go_wp2_with (go_at_call 36; refine (HS3.out.yes (hr.wh _ _ _ _ HS3.out.rd p3 (by omega)) e4).mono ?_; rintro e w4 ⟨rfl, v4, K4, h4⟩; have HS4 : Hid (Sm rb ts tv en w v kv _ _ _ s4) := h4; clear h4 HS3 lt c1 c3 c5 fz wi wd HS2; have lt := HS4.out.rd.lt; have c1 := HS4.out.rd.c1; have c3 := HS4.out.rd.c3; have fz := HS4.out.rd.fz; have wi := HS4.out.wri; have c5 := HS4.out.rd.c5; have wd := HS4.out.wrd)
   rcases e5 : r.bl s4 with ⟨x5⟩ | ⟨a5, s5⟩
   · skip
     go_wp2_with (go_at_call 37; refine (HS4.out.no (hr.bl _ _ _ _ HS4.out.rd p4 (by omega)) e5).mono ?_; rintro e w5 ⟨⟨n5, rfl⟩, F5, b5⟩; clear lt c1 c3 c5 fz wi wd; have HR : Hid (Fl rb w5 _ _) := F5; have HB : Hid (Rf rb w v w5) := b5; have c3 := HR.out.c3; have lt := HR.out.lt; have ne := HR.out.ne; obtain ⟨dd, c5⟩ := HR.out.c5; have fz := HR.out.fz; clear F5 b5 HS4)
     try go_wp2_with (first | (go_at_call 33; refine (zgf rb _ _ _ (HR.out.below ((Below.refl _ _).alloc (Nat.le_refl _) _)) _).mono ?_; rintro e wf ⟨rfl, bf⟩; have HB : Hid (Rf rb w v wf) := (HB.out.next ((Below.refl _ _).alloc (Nat.le_refl _) _)).next bf; have HR : Hid (Fl rb wf _ _) := (HR.out.below ((Below.refl _ _).alloc (Nat.le_refl _) _)).below bf; have c3 := HR.out.c3; have lt := HR.out.lt; clear bf) | (go_at_call 37; refine (zo rb _ _ _ HR.out).mono ?_; rintro e wf ⟨⟨nf, rfl⟩, -, bf⟩; have HB : Hid (Rf rb w v wf) := HB.out.next bf; have HR : Hid (Fl rb wf _ _) := HR.out.below bf; have c3 := HR.out.c3; have lt := HR.out.lt; clear bf) | (go_at_call 17; refine (zc rb _ _ _ HR.out _ _ _ _ _ _).mono ?_; rintro e wf ⟨rfl, bf⟩; have HB : Hid (Rf rb w v wf) := HB.out.next bf; have HR : Hid (Fl rb wf _ _) := HR.out.below bf; have c3 := HR.out.c3; have lt := HR.out.lt; clear bf))
     go_ret
     exact RmE.no HR.out HB.out (by first | (simp only [stP, laP, k1, k2, e4, e5, ↓reduceIte, Bool.false_eq_true, if_true, if_false, Bool.and_true, Bool.true_and, and_true, and_false, true_and, false_and]; done) | (simp only [stP, laP, k1, k2, e4, e5, ↓reduceIte, Bool.false_eq_true, if_true, if_false, Bool.and_true, Bool.true_and, and_true, and_false, true_and, false_and]; rfl) | (simp [stP, laP, k1, k2, e4, e5]; done) | (simp [stP, laP, k1, k2, e4, e5]; rfl))
   · skip
     have o5 := hro.bl e5
     have p5 : s5.ns.length <= 8 * s5.i := by have := o5.1.phi p4; omega
     have i5 := o5.1.1
     have t5 := o5.1.2.1
     go_wp2_with (go_at_call 37; refine (HS4.out.yes (hr.bl _ _ _ _ HS4.out.rd p4 (by omega)) e5).mono ?_; rintro e w5 ⟨rfl, v5, K5, h5⟩; have HS5 : Hid (Sm rb ts tv en w v kv _ _ _ s5) := h5; clear h5 HS4 lt c1 c3 c5 fz wi wd; have lt := HS5.out.rd.lt; have c1 := HS5.out.rd.c1; have c3 := HS5.out.rd.c3; have fz := HS5.out.rd.fz; have wi := HS5.out.wri; have c5 := HS5.out.rd.c5; have wd := HS5.out.wrd)
     have HK : Hid (SK rb ts tv en w v kv _ _ _ _ (.slice (some ⟨w5.heap.size, 0, none⟩) 2 2) _) := SK.laid HS5.out [a4, a5] (by simp)
     clear lt c1 c3 c5 fz wi wd
     have hpp := p5
     have hil := HS5.out.rd.il
     cases e6 : isN ts ⟨#[101, 108, 115, 101]⟩ s5
     · go_wp2_with (first | (go_at_call 33; refine (HK.out.is _ false e6).mono ?_; rintro e w4 ⟨rfl, K4, h4⟩; have HK : Hid (SK rb ts tv en w v kv w4 _ _ _ _ _) := h4; clear h4) | (go_at_call 17; refine (HK.out.node 17 eT 0 (by omega)).mono ?_; rintro e w7 ⟨rfl, v7, K7, h7⟩; have HS9 : Hid (Sm rb ts tv en w v kv _ _ _ _) := h7; clear h7))
       go_ret
       exact RmE.yes HS9.out (by simp only [stP, laP, k1, k2, e4, e5, e6, ↓reduceIte, Bool.false_eq_true, if_false])
     · obtain ⟨xq, hxq, hlq⟩ := zah e6
       have p9 : (adv s5).ns.length <= 8 * (adv s5).i := Nat.le_trans hpp (Nat.mul_le_mul_left 8 (Nat.le_succ _))
       have i9 : (adv s5).i = (s5).i + 1 := rfl
       go_wp2_with (first | (go_at_call 33; refine (HK.out.is _ true e6).mono ?_; rintro e w4 ⟨rfl, K4, h4⟩; have HK : Hid (SK rb ts tv en w v kv w4 _ _ _ _ _) := h4; clear h4; have lt := HK.out.sm.rd.lt; have c1 := HK.out.sm.rd.c1; have fz := HK.out.sm.rd.fz; have wi := HK.out.sm.wri))
       obtain ⟨K9, h9⟩ := HK.out.adv hlq
       have HK : Hid (SK rb ts tv en w v kv _ _ _ _ _ _) := h9
       clear h9 lt c1 fz wi
       rcases e9 : r.bl (adv s5) with ⟨x9⟩ | ⟨a9, s9⟩
       · go_wp2_with (first | (go_at_call 37; refine (HK.out.no (hr.bl _ _ _ _ HK.out.sm.rd p9 (by omega)) e9).mono ?_; rintro e w6 ⟨⟨n6, rfl⟩, h6⟩; have HX : Hid (FK rb w v w6 _ _ _) := h6; have c3 := HX.out.fl.c3; have lt := HX.out.fl.lt; have ne := HX.out.fl.ne; clear h6) | (at_builtin; refine zb7 rfl _ _ rfl HX.out n6 _ rfl rfl rfl (by first | omega | (simp; done) | (simp; omega) | (have := HN.out; simp at this ⊢; omega)) ?_; intro ua' uc' w7 h7; have HX : Hid (FK rb w v w7 _ _ _) := h7; have c3 := HX.out.fl.c3; have lt := HX.out.fl.lt; clear h7) | (go_at_call 17; refine (zc rb _ _ _ HX.out.fl _ _ _ _ _ _).mono ?_; rintro e w6 ⟨rfl, b6⟩; have HX : Hid (FK rb w v w6 _ _ _) := HX.out.below b6; have c3 := HX.out.fl.c3; have lt := HX.out.fl.lt; clear b6))
         go_ret
         exact RmE.no HX.out.fl HX.out.rf (by simp only [stP, laP, k1, k2, e4, e5, e6, e9, ↓reduceIte, Bool.false_eq_true, if_false])
       · have o9 := hro.bl e9
         have p10 : s9.ns.length <= 8 * s9.i := by have := o9.1.phi p9; omega
         have t9 := o9.1.2.1
         go_wp2_with (first | (go_at_call 37; refine (HK.out.yes (hr.bl _ _ _ _ HK.out.sm.rd p9 (by omega)) e9).mono ?_; rintro e w6 ⟨rfl, v6, K6, h6⟩; have HK : Hid (SK rb ts tv en w v kv w6 _ _ _ _ _) := h6; clear h6) | (at_builtin; refine zdh rfl _ _ rfl HK.out a9 _ rfl rfl rfl (by first | omega | (simp; done) | (simp; omega) | (have := HN.out; simp at this ⊢; omega)) ?_; intro ua' uc' w7 h7; have HK : Hid (SK rb ts tv en w v kv w7 _ _ _ _ _) := h7; clear h7) | (go_at_call 17; refine (HK.out.node 17 eT 0 (by omega)).mono ?_; rintro e w7 ⟨rfl, v7, K7, h7⟩; have HS9 : Hid (Sm rb ts tv en w v kv _ _ _ _) := h7; clear h7))
         go_ret
         exact RmE.yes HS9.out (by simp only [stP, laP, k1, k2, e4, e5, e6, e9, ↓reduceIte, Bool.false_eq_true, if_false, List.cons_append, List.nil_append])
theorem ziy {rb : Nat} {ts : List za} {tv : Value} {en : Nat} {r : Rd} {n : Nat} (hr : RM rb ts tv en r n) (hro : zk ts r) (hW : ∀ x ∈ ts, x.k = 2 -> (x.tx.toList == (⟨#[61]⟩ : ByteArray).toList) = false) : ∀ (w : World) (v : Value) (kv : List Value) (s : PS), Mdr rb ts tv en w v kv s -> s.ns.length <= 8 * s.i -> ts.length < s.i + (n + 1) -> Calls Tryz.prog 107 #[.pointer (some ⟨rb, 0, none⟩)] w (RmE rb ts tv en w v kv (tnP ts en r s)) :=
 zox hr hro (zlp hr hro (zkh hr hro (zsr hr hro) (znh hr hro (zni hr hro hW) zfo)))
theorem zfh {rb : Nat} {ts : List za} {tv : Value} {en : Nat} {r : Rd} {n : Nat} (hr : RM rb ts tv en r n) (hro : zk ts r) (hW : ∀ x ∈ ts, x.k = 2 -> (x.tx.toList == (⟨#[61]⟩ : ByteArray).toList) = false) (d : Nat) (hd : d <= 6) : ∀ (w : World) (v : Value) (kv : List Value) (s : PS), Mdr rb ts tv en w v kv s -> s.ns.length <= 8 * s.i -> ts.length < s.i + (n + 1) -> Calls Tryz.prog 85 #[.pointer (some ⟨rb, 0, none⟩), .int .i64 ((7 - d : Nat) : Int)] w (RmE rb ts tv en w v kv (lvP ts en r (7 - d) s)) :=
 match d, hd with
 | 0, _ => fun w v kv s h hp hf => zlt hr hro (ziy hr hro hW) w v kv s h hp hf
 | d + 1, hd => fun w v kv s h hp hf => zkf hr hro (7 - (d + 1)) (by omega) (by omega) (fun w v kv s h hp hf => by
     have := zfh hr hro hW d (by omega) w v kv s h hp hf
     rw [show 7 - (d + 1) + 1 = 7 - d by omega, show (((7 - (d + 1) : Nat) : Int) + 1) = ((7 - d : Nat) : Int) by omega]
     exact this) w v kv s h hp hf
theorem ziz {rb : Nat} {ts : List za} {tv : Value} {en : Nat} {r : Rd} {n : Nat} (hr : RM rb ts tv en r n) (hro : zk ts r) (hW : ∀ x ∈ ts, x.k = 2 -> (x.tx.toList == (⟨#[61]⟩ : ByteArray).toList) = false) : ∀ (w : World) (v : Value) (kv : List Value) (s : PS), Mdr rb ts tv en w v kv s -> s.ns.length <= 8 * s.i -> ts.length < s.i + (n + 1) -> Calls Tryz.prog 36 #[.pointer (some ⟨rb, 0, none⟩)] w (RmE rb ts tv en w v kv (whP ts en r s)) :=
 zoy hr hro (zfh hr hro hW 6 (by omega))
theorem zok {rb : Nat} {ts : List za} {tv : Value} {en : Nat} {r : Rd} {n : Nat} (hr : RM rb ts tv en r n) (hro : zk ts r) (hW : ∀ x ∈ ts, x.k = 2 -> (x.tx.toList == (⟨#[61]⟩ : ByteArray).toList) = false) : ∀ (w : World) (v : Value) (kv : List Value) (s : PS), Mdr rb ts tv en w v kv s -> s.ns.length <= 8 * s.i -> ts.length < s.i + (n + 1) -> Calls Tryz.prog 16 #[.pointer (some ⟨rb, 0, none⟩)] w (RmE rb ts tv en w v kv (stP ts en r s)) := fun w v kv s h hp hf => by
 cases k1 : isN ts ⟨#[108, 111, 99, 97, 108]⟩ s with
 | true => exact zkn hr hro w v kv s h hp k1 hf
 | false =>
   cases k2 : isN ts ⟨#[105, 102]⟩ s with
   | true => exact zo5 hr hro w v kv s h hp k1 k2 hf
   | false =>
     cases k3 : isN ts ⟨#[119, 104, 105, 108, 101]⟩ s with
     | true => exact zko hr hro w v kv s h hp k1 k2 k3 hf
     | false =>
       cases k4 : isN ts ⟨#[114, 101, 116, 117, 114, 110]⟩ s with
       | true => exact zjj hr hro w v kv s h hp k1 k2 k3 k4 hf
       | false => exact znn hr hro (zlw hr hro (ziz hr hro hW)) w v kv s h hp k1 k2 k3 k4 hf
theorem RM.step {rb : Nat} {ts : List za} {tv : Value} {en : Nat} {r : Rd} {n : Nat} (hr : RM rb ts tv en r n) (hro : zk ts r) (hW : ∀ x ∈ ts, x.k = 2 -> (x.tx.toList == (⟨#[61]⟩ : ByteArray).toList) = false) : RM rb ts tv en (znf ts en r) (n + 1) :=
 ⟨ziz hr hro hW, fun l h1 h7 => by
  have := zfh hr hro hW (7 - l) (by omega)
  rw [show 7 - (7 - l) = l by omega] at this
  exact this, ziy hr hro hW, zno hr hro, zok hr hro hW⟩
theorem RM.zero (rb : Nat) (ts : List za) (tv : Value) (en : Nat) (r : Rd) : RM rb ts tv en r 0 :=
 ⟨fun w v kv s h _ hf => absurd h.il (by omega), fun l _ _ w v kv s h _ hf => absurd h.il (by omega), fun w v kv s h _ hf => absurd h.il (by omega), fun w v kv s h _ hf => absurd h.il (by omega), fun w v kv s h _ hf => absurd h.il (by omega)⟩
theorem RM.all (rb : Nat) (ts : List za) (tv : Value) (en : Nat) (hW : ∀ x ∈ ts, x.k = 2 -> (x.tx.toList == (⟨#[61]⟩ : ByteArray).toList) = false) : ∀ n, RM rb ts tv en (rds ts en n) n
 | 0 => RM.zero _ _ _ _ _
 | n + 1 => (RM.all rb ts tv en hW n).step (zav ts en n) hW
theorem zoj (t : ByteArray) : ∀ x ∈ (zn t).2.2, x.k = 2 -> (x.tx.toList == (⟨#[61]⟩ : ByteArray).toList) = false := fun x hx hk => by
 obtain ⟨j, hj, _⟩ := zmo t
 rcases (hj x hx).1 with ⟨_, h0, h1, _⟩ | h | h | h | h
 · cases hq : (x.tx.toList == (⟨#[61]⟩ : ByteArray).toList) with
   | false => rfl
   | true =>
     have e := eq_of_beq hq
     have h2 := h1 0 h0
     rw [ByteArray.toList_eq, ByteArray.toList_eq] at e
     have e2 : x.tx = ⟨#[61]⟩ := by
      cases hx2 : x.tx with
      | mk d => rw [hx2] at e; simp at e; rw [<- Array.toList_inj.1 (show d.toList = (#[61] : Array UInt8).toList by rw [e])]
     rw [e2] at h2
     exact absurd h2 (by decide)
 · rw [hk] at h; exact absurd h.1 (by decide)
 · rw [hk] at h; exact absurd h.1 (by decide)
 · rw [hk] at h; exact absurd h.1 (by decide)
 · rw [hk] at h; exact absurd h.1 (by decide)
theorem zsf {w1 : World} {ts : List za} {tv : Value} {en : Nat} {B : Nat} (hk : zaa B w1 tv ts) (hl : ts.length <= 3000) :
 Mdr w1.heap.size ts tv en (w1.alloc (.cells #[tv, .int .i64 0, .slice none 0 0, .int .i64 0, .int .i64 0, .int .i64 0, .int .i64 (en : Int)] 49)) (.slice none 0 0) [] ⟨0, 0, []⟩ := by
 have hb : Below w1.heap.size w1 (w1.alloc (.cells #[tv, .int .i64 0, .slice none 0 0, .int .i64 0, .int .i64 0, .int .i64 0, .int .i64 (en : Int)] 49)) := (Below.refl _ _).alloc (Nat.le_refl _) _
 refine ⟨by simp, by simp [go_sem], by simp [go_sem], by simp [go_sem], by simp [go_sem], by simp [go_sem], by simp [go_sem], by simp [go_sem], fun i => by simp [go_sem], ?_, ?_, by simp, hl, by simp, by simp, ?_⟩
 · exact zcw (C := 0) hk (Nat.zero_le _) (fun k _ h2 => hb.block k h2)
 · intro g e
   exact (World.ownsRow.lt hk g e).2
 · exact ⟨rfl, World.ownsRow_nil _ _ _ 4, fun j x u h1 h2 => by simp at h1, fun j u g h1 => by simp at h1, fun i j u u' g h1 => by simp at h1⟩
set_option maxHeartbeats 2000000 in
theorem zjd (t : ByteArray) (w : World) (ht0 : t.size <= 1048576) (hc : (zn t).1 ≠ 0) :
 Calls Tryz.prog 7 #[.string t] w fun e w' => e = .returned (.tuple #[.agg #[.slice none 0 0, .int .i64 0], .int .i64 1, .int .i64 ((zn t).2.1 : Int)]) /\ Below w.heap.size w w' := by
 have B1 : Below w.heap.size w (w.alloc (.cells #[.slice none 0 0, .int .i64 0] 27)) := (Below.refl _ _).alloc (Nat.le_refl _) _
 have HL : Hid (Calls _ _ _ _ _) := zhf t (w.alloc (.cells #[.slice none 0 0, .int .i64 0] 27)) ht0
 have hc' : ((zn t).1 != 0) = true := by simpa using hc
 clear hc
 generalize (zn t).1 = co at HL hc'
 generalize ((zn t).2.1 : Int) = pl at HL
 generalize (zn t).2.2 = ts at HL
 go_enter Tryz.func7, Tryz.ntmps7
 go_wp2_with fail
 refine HL.out.mono ?_
 rintro e w1 ⟨tv, rfl, _, b1⟩
 have k := za7 b1
 have d0 : w1.cell? ⟨w.heap.size, 0, none⟩ = some (.slice none 0 0) := by rw [k.1 _ _ (by simp)]; simp [go_sem]
 have d1 : w1.cell? ⟨w.heap.size, 1, none⟩ = some (.int .i64 0) := by rw [k.1 _ _ (by simp)]; simp [go_sem]
 have f0 : ∀ i, w1.frozen? ⟨w.heap.size, i, none⟩ = false := fun i => by rw [k.2 _ _ (by simp)]; simp [go_sem]
 have l1 : w.heap.size < w1.heap.size := Nat.lt_of_lt_of_le (by simp) b1.size
 have HB : Hid (Below w.heap.size w w1) := zg B1 b1
 clear b1 k B1 HL
 go_wp2_with fail
 refine bodyPost_ret (v := .tuple #[.agg #[.slice none 0 0, .int .i64 0], .int .i64 1, .int .i64 pl]) (by simp [results, Tryz.results7, go_sem, d0, d1]) rfl ⟨rfl, (HB.out.setCell (Nat.le_refl _) _).setCell (Nat.le_refl _) _⟩
def tpF (R : Except (Int × Int) (List Int × PS)) : Except (Int × Int) (Int × List KnL) := match R with
 | .error x => .error x
 | .ok (ks, s) => .ok ((zb 21 eT 0 ks s).1, (zb 21 eT 0 ks s).2.ns)
theorem zt0 (ts : List za) (en : Nat) : zbj ts en = tpF (tpP ts (rds ts en (ts.length + 1)) (ts.length + 1) [] ⟨0, 0, []⟩) := rfl
def PaE (w : World) (R : Except (Int × Int) (Int × List KnL)) (e : Ending) (w' : World) : Prop :=
 (∀ x, R = .error x -> e = .returned (.tuple #[.agg #[.slice none 0 0, .int .i64 0], .int .i64 x.1, .int .i64 x.2]) /\ Below w.heap.size w w' /\ x.1 ≠ 0) /\ (∀ n ns, R = .ok (n, ns) -> ∃ v kv, e = .returned (.tuple #[.agg #[v, .int .i64 n], .int .i64 0, .int .i64 0]) /\ NdR w.heap.size w' v ns kv /\ Below w.heap.size w w')
theorem zsg {ts : List za} {r : Rd} {k : Nat} {ks : List Int} {s : PS} (h : s.i = ts.length) : tpP ts r (k + 1) ks s = .ok (ks, s) := by rw [tpP, if_pos h]
theorem zsh {ts : List za} {r : Rd} {k : Nat} {ks : List Int} {s : PS} (h : s.i < ts.length) : tpP ts r (k + 1) ks s = match r.st s with
 | .error x => .error x
 | .ok (v, s1) => tpP ts r k (ks ++ [v]) s1 := by
 rw [tpP, if_neg (by omega)]
 rfl
set_option maxHeartbeats 4000000 in
theorem zj6 (t : ByteArray) (w : World) (ht0 : t.size <= 1048576) (hc : (zn t).1 = 0) :
 Calls Tryz.prog 7 #[.string t] w (PaE w (zbj (zn t).2.2 t.size)) := by
 have HL : Hid (Calls _ _ _ _ _) := zhf t (w.alloc (.cells #[.slice none 0 0, .int .i64 0] 27)) ht0
 have hl := zen t
 have hW := zoj t
 rw [hc] at HL
 clear hc
 generalize ((zn t).2.1 : Int) = pl at HL
 generalize (zn t).2.2 = ts at HL hl hW ⊢
 have ht' : (t.size : Int) <= 1048576 := by omega
 go_enter Tryz.func7, Tryz.ntmps7
 go_wp2_with fail
 refine HL.out.mono ?_
 rintro e w1 ⟨tv, rfl, hTk, b1⟩
 have k := za7 b1
 have d0 : w1.cell? ⟨w.heap.size, 0, none⟩ = some (.slice none 0 0) := by rw [k.1 _ _ (by simp)]; simp [go_sem]
 have d1 : w1.cell? ⟨w.heap.size, 1, none⟩ = some (.int .i64 0) := by rw [k.1 _ _ (by simp)]; simp [go_sem]
 have f0 : ∀ i, w1.frozen? ⟨w.heap.size, i, none⟩ = false := fun i => by rw [k.2 _ _ (by simp)]; simp [go_sem]
 have l1 : w.heap.size < w1.heap.size := Nat.lt_of_lt_of_le (by simp) b1.size
 have HB1 : Hid (Below w.heap.size w w1) := zg ((Below.refl _ _).alloc (Nat.le_refl _) _) b1
 obtain ⟨ta, tc, htv⟩ := hTk.form
 subst htv
 obtain ⟨rb, hrb⟩ : ∃ b, b = w1.heap.size := ⟨_, rfl⟩
 obtain ⟨W, hWd⟩ : ∃ V, V = w1.alloc (.cells #[.slice ta ts.length tc, .int .i64 0, .slice none 0 0, .int .i64 0, .int .i64 0, .int .i64 0, .int .i64 (t.size : Int)] 49) := ⟨_, rfl⟩
 have HS0 : Hid (Sm rb ts (.slice ta ts.length tc) t.size W (.slice none 0 0) [] W (.slice none 0 0) [] ⟨0, 0, []⟩) := by
  show Sm _ _ _ _ _ _ _ _ _ _ _
  rw [hrb, hWd]
  exact Sm.begin (zsf hTk hl)
 have bW : Below w1.heap.size w1 W := by rw [hWd]; exact (Below.refl _ _).alloc (Nat.le_refl _) _
 have HBW : Hid (Below w.heap.size w W) := zg HB1.out bW
 have HD : Hid (w.heap.size < rb /\ W.cell? ⟨w.heap.size, 0, none⟩ = some (.slice none 0 0) /\ W.cell? ⟨w.heap.size, 1, none⟩ = some (.int .i64 0) /\ ∀ i, W.frozen? ⟨w.heap.size, i, none⟩ = false) := by
  have k := za7 bW
  exact ⟨by omega, by rw [k.1 _ _ l1]; exact d0, by rw [k.1 _ _ l1]; exact d1, fun i => by rw [k.2 _ _ l1]; exact f0 i⟩
 clear b1 k HL hTk d0 d1 f0 l1 HB1 bW
 go_upto_region 5 with fail
 rw [<- hWd, <- hrb]
 clear hWd hrb w1
 go_wp2
 obtain ⟨R, hR⟩ : ∃ q, q = rds ts t.size (ts.length + 1) := ⟨_, rfl⟩
 have hr : RM rb ts (.slice ta ts.length tc) t.size R (ts.length + 1) := by rw [hR]; exact RM.all rb ts _ t.size hW _
 have hro : zk ts R := by rw [hR]; exact zav ts t.size _
 obtain ⟨RR, hRR⟩ : ∃ q, q = tpP ts R (ts.length + 1) [] ⟨0, 0, []⟩ := ⟨_, rfl⟩
 have HT : Hid (zbj ts t.size = tpF RR) := by show _ = _; rw [zt0, hRR, hR]
 have HR0 : Hid (tpP ts R (ts.length + 1) [] ⟨0, 0, []⟩ = RR) := hRR.symm
 clear hR hRR hW
 go_loopw [9] (fun u wr => (∃ (k : Nat) (ks : List Int) (s1 : PS) (v1 : Value) (K : List Value), Hid (SK rb ts (.slice ta ts.length tc) t.size W (.slice none 0 0) [] wr v1 K s1 u ks) /\ Hid (s1.ns.length <= 8 * s1.i) /\ Hid (ts.length < s1.i + k) /\ Hid (ks.length <= s1.i) /\ Hid (tpP ts R k ks s1 = RR)) \/ (∃ (ks : List Int) (x : Int × Int), Hid (FK rb W (.slice none 0 0) wr u ks x) /\ Hid (ks.length <= 5000) /\ Hid (RR = .error x))) (fun _ wr => msr rb wr)
 case atStart => exact Or.inl ⟨_, [], _, _, _, SK.laid' HS0.out [] (by simp) _ _ rfl rfl, (by show _ <= _; simp), (by show _ < _; omega), (by show _ <= _; simp), HR0⟩
 case round =>
  rcases hrel with ⟨k, ks, s3, v3, K3, HK3, HP, HF3, HI, HM⟩ | ⟨ks, x2, HX, HN, HE⟩
  · obtain ⟨ua, L, uc, hu, hL⟩ := HK3.out.formL
    subst hu
    have HLL : Hid _ := hL
    clear hL
    have hi2 := HI.out
    have hil := HK3.out.sm.rd.il
    have hpp := HP.out
    have hff := HF3.out
    have HN : Hid (ks.length <= 4000) := by show _ <= _; omega
    obtain ⟨k', rfl⟩ : ∃ k', k = k' + 1 := ⟨k - 1, by omega⟩
    have HK := HK3
    have lt := HK3.out.sm.rd.lt
    have c1 := HK3.out.sm.rd.c1
    have c3 := HK3.out.sm.rd.c3
    by_cases hov : s3.i = ts.length
    · have HE : Hid (RR = .ok (ks, s3)) := by show _ = _; rw [<- HM.out, zsg hov]
      have hno : ¬ (s3.i : Int) < (ts.length : Int) := by omega
      have HOV : Hid (s3.i = ts.length) := hov
      clear hov
      go_wp2_with (go_at_call 17; refine (HK.out.node 21 eT 0 (by omega)).mono ?_; rintro e w7 ⟨rfl, v7, K7, h7⟩; have HS7 : Hid (Sm rb ts (.slice ta ts.length tc) t.size W (.slice none 0 0) [] w7 v7 K7 (zb 21 eT 0 ks s3).2) := h7; clear lt c1 c3 h7; obtain ⟨na, nc, hnv⟩ := HS7.out.rd.nd.form; subst hnv; have c3 := HS7.out.rd.c3; have c2 := HS7.out.rd.c2; have lt := HS7.out.rd.lt; have fz := HS7.out.rd.fz; have lw := za7 HS7.out.low; have hD := HD.out; have d0 := (lw.1 _ 0 hD.1).trans hD.2.1; have d1 := (lw.1 _ 1 hD.1).trans hD.2.2.1; have f0 := fun i => (lw.2 _ i hD.1).trans (hD.2.2.2 i); have lB : w.heap.size < w7.heap.size := (by have := hD.1; omega); clear lw hD)
      have hB7 : Below w.heap.size w w7 := HBW.out.trans (HS7.out.low.mono (by have := HD.out.1; omega))
      have hN7 := HS7.out.rd.nd
      have hDr := HD.out.1
      refine bodyPost_ret (v := .tuple #[.agg #[.slice na (zb 21 eT 0 ks s3).2.ns.length nc, .int .i64 (zb 21 eT 0 ks s3).1], .int .i64 0, .int .i64 0]) (by simp [results, Tryz.results7, go_sem, d0, d1, lB]) rfl ?_
      refine ⟨fun x hx => ?_, fun n ns hx => ?_⟩
      · rw [HT.out, HE.out] at hx
        cases hx
      · rw [HT.out, HE.out] at hx
        injection hx with hx
        injection hx with h1 h2
        subst h1 h2
        refine ⟨_, _, rfl, hN7.blocks (by omega) (fun k h1 h2 => ?_), (hB7.setCell (Nat.le_refl _) _).setCell (Nat.le_refl _) _⟩
        rw [Below.heap_setCell _ ⟨w.heap.size, 1, none⟩ _ k (by show k ≠ w.heap.size; omega), Below.heap_setCell _ ⟨w.heap.size, 0, none⟩ _ k (by show k ≠ w.heap.size; omega)]
    · have hlt : s3.i < ts.length := by omega
      have hlt' : (s3.i : Int) < (ts.length : Int) := by omega
      have hm := HM.out
      rw [zsh hlt] at hm
      clear hov
      rcases e6 : R.st s3 with ⟨x6⟩ | ⟨a6, s6⟩
      · have HE : Hid (RR = .error x6) := by show _ = _; rw [<- hm, e6]
        go_wp2_with (first | (go_at_call 16; refine (HK.out.no (hr.st _ _ _ _ HK.out.sm.rd hpp (by omega)) e6).mono ?_; rintro e w6 ⟨⟨n6, rfl⟩, h6⟩; have HX : Hid (FK rb W (.slice none 0 0) w6 _ _ _) := h6; clear h6) | (at_builtin; refine zb7 rfl _ _ rfl HX.out n6 _ rfl rfl rfl (by first | omega | (simp; done) | (simp; omega) | (have := HN.out; simp at this ⊢; omega)) ?_; intro ua' uc' w7 h7; have HX : Hid (FK rb W (.slice none 0 0) w7 _ _ _) := h7; have c3 := HX.out.fl.c3; have lt := HX.out.fl.lt; clear h7))
        have ms1 := HK3.out.sm.rd.msr
        have ms2 := HX.out.fl.msr
        have hN := HN.out
        refine ⟨Or.inr ⟨_, _, HX, (by show _ <= _; first | (simp; done) | (simp; omega)), HE⟩, ?_⟩
        show msr rb _ < msr rb _
        rw [ms1, ms2]
        omega
      · have o6 := hro.st e6
        have p6 : s6.ns.length <= 8 * s6.i := by have := o6.1.phi hpp; omega
        have i6 := o6.1.1
        have t6 := o6.1.2.1
        have HM6 : Hid (tpP ts R k' (ks ++ [a6]) s6 = RR) := by show _ = _; rw [<- hm, e6]
        clear hm
        go_wp2_with (first | (go_at_call 16; refine (HK.out.yes (hr.st _ _ _ _ HK.out.sm.rd hpp (by omega)) e6).mono ?_; rintro e w6 ⟨rfl, v6, K6, h6⟩; have HK : Hid (SK rb ts (.slice ta ts.length tc) t.size W (.slice none 0 0) [] w6 _ _ _ _ _) := h6; clear h6) | (at_builtin; refine zdh rfl _ _ rfl HK.out a6 _ rfl rfl rfl (by first | omega | (simp; done) | (simp; omega) | (have := HN.out; simp at this ⊢; omega)) ?_; intro ua' uc' w7 h7; have HK : Hid (SK rb ts (.slice ta ts.length tc) t.size W (.slice none 0 0) [] w7 _ _ _ _ _) := h7; clear h7))
        have ms1 := HK3.out.sm.rd.msr
        have ms2 := HK.out.sm.rd.msr
        refine ⟨Or.inl ⟨k', ks ++ [a6], s6, _, _, HK, p6, (by show _ < _; omega), (by show _ <= _; first | (simp; done) | (simp; omega)), HM6⟩, ?_⟩
        show msr rb _ < msr rb _
        rw [ms1, ms2]
        omega
  · obtain ⟨ua, L, uc, hu, hL⟩ := HX.out.form
    subst hu
    have HLL : Hid _ := hL
    clear hL
    have c3 := HX.out.fl.c3
    have lt := HX.out.fl.lt
    have ne := HX.out.fl.ne
    go_wp2_with (go_at_call 17; refine (zc rb _ _ _ HX.out.fl _ _ _ _ _ _).mono ?_; rintro e w6 ⟨rfl, b6⟩; have HX : Hid (FK rb W (.slice none 0 0) w6 _ _ _) := HX.out.below b6; clear lt c3 b6; have c3 := HX.out.fl.c3; have c4 := HX.out.fl.c4; have lt := HX.out.fl.lt; have lw := za7 (HX.out.rf.low (by have := HS0.out.lt; omega) (by simp [Value.ownBlock])); have hD := HD.out; have d0 := (lw.1 _ 0 hD.1).trans hD.2.1; have d1 := (lw.1 _ 1 hD.1).trans hD.2.2.1; have f0 := fun i => (lw.2 _ i hD.1).trans (hD.2.2.2 i); have lB : w.heap.size < w6.heap.size := (by have := hD.1; omega); clear lw hD)
    go_region
    go_wp2
    have hB7 : Below w.heap.size w w6 := HBW.out.trans ((HX.out.rf.low (by have := HS0.out.lt; omega) (by simp [Value.ownBlock])).mono (by have := HD.out.1; omega))
    refine bodyPost_ret (v := .tuple #[.agg #[.slice none 0 0, .int .i64 0], .int .i64 x2.1, .int .i64 x2.2]) (by simp [results, Tryz.results7, go_sem, d0, d1, lB]) rfl ?_
    refine ⟨fun x hx => ?_, fun n ns hx => ?_⟩
    · rw [HT.out, HE.out] at hx
      injection hx with hx
      subst hx
      exact ⟨rfl, ((hB7.setCell (Nat.le_refl _) _).setCell (Nat.le_refl _) _).drew, HX.out.fl.ne⟩
    · rw [HT.out, HE.out] at hx
      cases hx
end Go.Proofs.YtiglkhkfbgjjoaaGreatDoor
