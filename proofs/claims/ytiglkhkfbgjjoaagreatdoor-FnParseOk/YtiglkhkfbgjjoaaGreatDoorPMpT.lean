/- - -/
import Derived.Test.YtiglkhkfbgjjoaaGreatDoorPMpP
import Derived.Test.YtiglkhkfbgjjoaaGreatDoorPMpS
namespace Go.Proofs.YtiglkhkfbgjjoaaGreatDoor
set_option maxRecDepth 20000
open Go.RowKit Go.PlainAid Go.Maps
set_option linter.unusedSimpArgs false
set_option linter.unusedVariables false
section
variable {ts : List za} {en : Nat} {r : Rd} {s : PS}
theorem zl (h3 : ¬ kdO ts s = 3) (h4 : ¬ kdO ts s = 4) (h1 : ¬ kdO ts s = 1) : zu ts en r s = if isN ts ⟨#[110, 105, 108]⟩ s then .ok (zb 1 eT 0 [] (adv s)) else if isN ts ⟨#[102, 97, 108, 115, 101]⟩ s then .ok (zb 2 eT 0 [] (adv s)) else if isN ts ⟨#[116, 114, 117, 101]⟩ s then .ok (zb 2 eT 1 [] (adv s)) else if isN ts ⟨#[102, 110]⟩ s then fnP ts en r (adv s) else if isN ts ⟨#[123]⟩ s then taP ts en r (adv s) else if isN ts ⟨#[40]⟩ s then (match r.wh (adv s) with
 | .error x => .error x
 | .ok (v, s1) => match zaw ts en ⟨#[41]⟩ s1 with
   | .error x => .error x
   | .ok s2 => .ok (v, s2)) else .error (fh ts en 2 s) := by
 unfold zu isN
 unfold kdO at h1 h3 h4
 cases hx : ts[s.i]? with
 | none => rfl
 | some x =>
   rw [hx] at h1 h3 h4
   simp only at h1 h3 h4
   simp only [h1, h3, h4, if_false]
   rfl
theorem zgh (h : isN ts ⟨#[116, 114, 117, 101]⟩ s = true) : isN ts ⟨#[102, 97, 108, 115, 101]⟩ s = false := by
 unfold isN at h ⊢
 cases hx : ts[s.i]? with
 | none => rfl
 | some x =>
   rw [hx] at h
   simp only [isT, Bool.and_eq_true, beq_iff_eq] at h
   simp only [isT, h.2, Bool.and_eq_false_iff]
   right
   simp [ByteArray.toList_eq]
theorem zij {x : za} (hx : ts[s.i]? = some x) : kdO ts s = x.k := by unfold kdO; rw [hx]
theorem zgu {k : Int} (h : kdO ts s = k) (hk : k ≠ 0) : ∃ x, ts[s.i]? = some x /\ x.k = k /\ s.i < ts.length := by
 unfold kdO at h
 cases hx : ts[s.i]? with
 | none => rw [hx] at h; exact absurd h.symm hk
 | some x => rw [hx] at h; exact ⟨x, rfl, h, (List.getElem?_eq_some_iff.1 hx).1⟩
end
set_option maxHeartbeats 4000000 in
theorem zik {rb : Nat} {ts : List za} {tv : Value} {en : Nat} {r : Rd} {n : Nat} (hr : RM rb ts tv en r n) (hro : zk ts r) (HFN : ∀ (w : World) (v : Value) (kv : List Value) (s : PS), Mdr rb ts tv en w v kv s -> s.ns.length <= 8 * s.i -> ts.length < s.i + n -> Calls Tryz.prog 126 #[.pointer (some ⟨rb, 0, none⟩)] w (RmE rb ts tv en w v kv (fnP ts en r s))) (HTA : ∀ (w : World) (v : Value) (kv : List Value) (s : PS), Mdr rb ts tv en w v kv s -> s.ns.length <= 8 * s.i -> ts.length < s.i + n -> Calls Tryz.prog 127 #[.pointer (some ⟨rb, 0, none⟩)] w (RmE rb ts tv en w v kv (taP ts en r s))) (w : World) (v : Value) (kv : List Value) (s : PS) (h : Mdr rb ts tv en w v kv s) (hp : s.ns.length <= 8 * s.i) (h3 : ¬ kdO ts s = 3) (h4 : ¬ kdO ts s = 4) (h1 : ¬ kdO ts s = 1) (hf : ts.length < s.i + (n + 1)) :
 Calls Tryz.prog 121 #[.pointer (some ⟨rb, 0, none⟩)] w (RmE rb ts tv en w v kv (zu ts en r s)) := by
 have HS0 : Hid (Sm rb ts tv en w v kv w v [] s) := Sm.begin h
 have hT : ts.length <= 3000 := h.tl
 have hI : s.i <= ts.length := h.il
 clear h
 have lt := HS0.out.rd.lt
 have c1 := HS0.out.rd.c1
 have c3 := HS0.out.rd.c3
 have fz := HS0.out.rd.fz
 have wi := HS0.out.wri
 have c5 := HS0.out.rd.c5
 have wd := HS0.out.wrd
 have hkc := HS0.out.kind
 obtain ⟨kd, hkd⟩ : ∃ k, k = kdO ts s := ⟨_, rfl⟩
 rw [<- hkd] at hkc
 have k3 : ¬ kd = 3 := by rw [hkd]; exact h3
 have k4 : ¬ kd = 4 := by rw [hkd]; exact h4
 have k1 : ¬ kd = 1 := by rw [hkd]; exact h1
 clear hkd
 go_enter Tryz.func121, Tryz.ntmps121
 go_wp2_with (go_at_call 82; refine (hkc).mono ?_; rintro e w1 ⟨rfl, h1⟩; have HS1 : Hid (Sm rb ts tv en w v kv _ _ _ s) := h1; clear h1 HS0 lt c1 c3 c5 fz wi wd; have lt := HS1.out.rd.lt; have c1 := HS1.out.rd.c1; have c3 := HS1.out.rd.c3; have fz := HS1.out.rd.fz; have wi := HS1.out.wri; have c5 := HS1.out.rd.c5; have wd := HS1.out.wrd)
 cases e2 : isN ts ⟨#[110, 105, 108]⟩ s
 · skip
   go_wp2_with (go_at_call 33; refine (HS1.out.is ⟨#[110, 105, 108]⟩ false e2).mono ?_; rintro e w2 ⟨rfl, h2⟩; have HS2 : Hid (Sm rb ts tv en w v kv _ _ _ s) := h2; clear h2 HS1 lt c1 c3 c5 fz wi wd; have lt := HS2.out.rd.lt; have c1 := HS2.out.rd.c1; have c3 := HS2.out.rd.c3; have fz := HS2.out.rd.fz; have wi := HS2.out.wri; have c5 := HS2.out.rd.c5; have wd := HS2.out.wrd)
   cases e3 : isN ts ⟨#[116, 114, 117, 101]⟩ s
   · skip
     go_wp2_with (go_at_call 33; refine (HS2.out.is ⟨#[116, 114, 117, 101]⟩ false e3).mono ?_; rintro e w3 ⟨rfl, h3⟩; have HS3 : Hid (Sm rb ts tv en w v kv _ _ _ s) := h3; clear h3 HS2 lt c1 c3 c5 fz wi wd; have lt := HS3.out.rd.lt; have c1 := HS3.out.rd.c1; have c3 := HS3.out.rd.c3; have fz := HS3.out.rd.fz; have wi := HS3.out.wri; have c5 := HS3.out.rd.c5; have wd := HS3.out.wrd)
     cases e4 : isN ts ⟨#[102, 97, 108, 115, 101]⟩ s
     · skip
       go_wp2_with (go_at_call 33; refine (HS3.out.is ⟨#[102, 97, 108, 115, 101]⟩ false e4).mono ?_; rintro e w4 ⟨rfl, h4⟩; have HS4 : Hid (Sm rb ts tv en w v kv _ _ _ s) := h4; clear h4 HS3 lt c1 c3 c5 fz wi wd; have lt := HS4.out.rd.lt; have c1 := HS4.out.rd.c1; have c3 := HS4.out.rd.c3; have fz := HS4.out.rd.fz; have wi := HS4.out.wri; have c5 := HS4.out.rd.c5; have wd := HS4.out.wrd)
       cases e5 : isN ts ⟨#[102, 110]⟩ s
       · skip
         go_wp2_with (go_at_call 33; refine (HS4.out.is ⟨#[102, 110]⟩ false e5).mono ?_; rintro e w5 ⟨rfl, h5⟩; have HS5 : Hid (Sm rb ts tv en w v kv _ _ _ s) := h5; clear h5 HS4 lt c1 c3 c5 fz wi wd; have lt := HS5.out.rd.lt; have c1 := HS5.out.rd.c1; have c3 := HS5.out.rd.c3; have fz := HS5.out.rd.fz; have wi := HS5.out.wri; have c5 := HS5.out.rd.c5; have wd := HS5.out.wrd)
         cases e6 : isN ts ⟨#[123]⟩ s
         · skip
           go_wp2_with (go_at_call 33; refine (HS5.out.is ⟨#[123]⟩ false e6).mono ?_; rintro e w6 ⟨rfl, h6⟩; have HS6 : Hid (Sm rb ts tv en w v kv _ _ _ s) := h6; clear h6 HS5 lt c1 c3 c5 fz wi wd; have lt := HS6.out.rd.lt; have c1 := HS6.out.rd.c1; have c3 := HS6.out.rd.c3; have fz := HS6.out.rd.fz; have wi := HS6.out.wri; have c5 := HS6.out.rd.c5; have wd := HS6.out.wrd)
           cases e7 : isN ts ⟨#[40]⟩ s
           · skip
             go_wp2_with (go_at_call 33; refine (HS6.out.is ⟨#[40]⟩ false e7).mono ?_; rintro e w7 ⟨rfl, h7⟩; have HS7 : Hid (Sm rb ts tv en w v kv _ _ _ s) := h7; clear h7 HS6 lt c1 c3 c5 fz wi wd; have lt := HS7.out.rd.lt; have c1 := HS7.out.rd.c1; have c3 := HS7.out.rd.c3; have fz := HS7.out.rd.fz; have wi := HS7.out.wri; have c5 := HS7.out.rd.c5; have wd := HS7.out.wrd)
             go_wp2_with (go_at_call 83; refine (HS7.out.fail).mono ?_; rintro e w8 ⟨rfl, F8, b8⟩; clear lt c1 c3 c5 fz wi wd; have HR : Hid (Fl rb w8 _ _) := F8; have HB : Hid (Rf rb w v w8) := b8; have c3 := HR.out.c3; have lt := HR.out.lt; have ne := HR.out.ne; obtain ⟨dd, c5⟩ := HR.out.c5; have fz := HR.out.fz; clear F8 b8 HS7)
             try go_wp2_with (first | (go_at_call 17; refine (zc rb _ _ _ (HR.out.below ((Below.refl _ _).alloc (Nat.le_refl _) _)) _ _ _ _ _ _).mono ?_; rintro e wf ⟨rfl, bf⟩; have HB : Hid (Rf rb w v wf) := (HB.out.next ((Below.refl _ _).alloc (Nat.le_refl _) _)).next bf; have HR : Hid (Fl rb wf _ _) := (HR.out.below ((Below.refl _ _).alloc (Nat.le_refl _) _)).below bf; have c3 := HR.out.c3; have lt := HR.out.lt; clear bf) | (go_at_call 35; refine (zm rb _ _ _ HR.out _).mono ?_; rintro e wf ⟨rfl, -, bf⟩; have HB : Hid (Rf rb w v wf) := HB.out.next bf; have HR : Hid (Fl rb wf _ _) := HR.out.below bf; have c3 := HR.out.c3; have lt := HR.out.lt; clear bf) | (go_at_call 17; refine (zc rb _ _ _ HR.out _ _ _ _ _ _).mono ?_; rintro e wf ⟨rfl, bf⟩; have HB : Hid (Rf rb w v wf) := HB.out.next bf; have HR : Hid (Fl rb wf _ _) := HR.out.below bf; have c3 := HR.out.c3; have lt := HR.out.lt; clear bf) | (go_at_call 36; refine (zt rb _ _ _ HR.out).mono ?_; rintro e wf ⟨⟨nf, rfl⟩, -, bf⟩; have HB : Hid (Rf rb w v wf) := HB.out.next bf; have HR : Hid (Fl rb wf _ _) := HR.out.below bf; have c3 := HR.out.c3; have lt := HR.out.lt; clear bf) | (go_at_call 37; refine (zo rb _ _ _ HR.out).mono ?_; rintro e wf ⟨⟨nf, rfl⟩, -, bf⟩; have HB : Hid (Rf rb w v wf) := HB.out.next bf; have HR : Hid (Fl rb wf _ _) := HR.out.below bf; have c3 := HR.out.c3; have lt := HR.out.lt; clear bf))
             go_ret
             exact RmE.no HR.out HB.out (by first | (simp only [zl h3 h4 h1, e2, e3, e4, e5, e6, e7, ↓reduceIte, Bool.false_eq_true, if_true, if_false, Bool.and_true, Bool.true_and, and_true, and_false, true_and, false_and]; done) | (simp only [zl h3 h4 h1, e2, e3, e4, e5, e6, e7, ↓reduceIte, Bool.false_eq_true, if_true, if_false, Bool.and_true, Bool.true_and, and_true, and_false, true_and, false_and]; rfl) | (simp [zl h3 h4 h1, e2, e3, e4, e5, e6, e7]; done) | (simp [zl h3 h4 h1, e2, e3, e4, e5, e6, e7]; rfl))
           · skip
             go_wp2_with (go_at_call 33; refine (HS6.out.is ⟨#[40]⟩ true e7).mono ?_; rintro e w7 ⟨rfl, h7⟩; have HS7 : Hid (Sm rb ts tv en w v kv _ _ _ s) := h7; clear h7 HS6 lt c1 c3 c5 fz wi wd; have lt := HS7.out.rd.lt; have c1 := HS7.out.rd.c1; have c3 := HS7.out.rd.c3; have fz := HS7.out.rd.fz; have wi := HS7.out.wri; have c5 := HS7.out.rd.c5; have wd := HS7.out.wrd)
             obtain ⟨xo, hxo, hlo⟩ := zah e7
             have HS8 : Hid (Sm rb ts tv en w v kv _ _ _ (adv s)) := HS7.out.adv hlo
             have p8 : ((adv s)).ns.length <= 8 * ((adv s)).i := Nat.le_trans hp (Nat.mul_le_mul_left 8 (Nat.le_succ _))
             have i8 : ((adv s)).i = (s).i + 1 := rfl
             have hnn : (adv s).ns.length <= 8 * s.i := hp
             rcases e9 : r.wh (adv s) with ⟨x9⟩ | ⟨a9, s9⟩
             · skip
               go_wp2_with (go_at_call 36; refine (HS8.out.no (hr.wh _ _ _ _ HS8.out.rd p8 (by omega)) e9).mono ?_; rintro e w9 ⟨⟨n9, rfl⟩, F9, b9⟩; clear lt c1 c3 c5 fz wi wd HS7; have HR : Hid (Fl rb w9 _ _) := F9; have HB : Hid (Rf rb w v w9) := b9; have c3 := HR.out.c3; have lt := HR.out.lt; have ne := HR.out.ne; obtain ⟨dd, c5⟩ := HR.out.c5; have fz := HR.out.fz; clear F9 b9 HS8)
               try go_wp2_with (first | (go_at_call 17; refine (zc rb _ _ _ (HR.out.below ((Below.refl _ _).alloc (Nat.le_refl _) _)) _ _ _ _ _ _).mono ?_; rintro e wf ⟨rfl, bf⟩; have HB : Hid (Rf rb w v wf) := (HB.out.next ((Below.refl _ _).alloc (Nat.le_refl _) _)).next bf; have HR : Hid (Fl rb wf _ _) := (HR.out.below ((Below.refl _ _).alloc (Nat.le_refl _) _)).below bf; have c3 := HR.out.c3; have lt := HR.out.lt; clear bf) | (go_at_call 35; refine (zm rb _ _ _ HR.out _).mono ?_; rintro e wf ⟨rfl, -, bf⟩; have HB : Hid (Rf rb w v wf) := HB.out.next bf; have HR : Hid (Fl rb wf _ _) := HR.out.below bf; have c3 := HR.out.c3; have lt := HR.out.lt; clear bf) | (go_at_call 17; refine (zc rb _ _ _ HR.out _ _ _ _ _ _).mono ?_; rintro e wf ⟨rfl, bf⟩; have HB : Hid (Rf rb w v wf) := HB.out.next bf; have HR : Hid (Fl rb wf _ _) := HR.out.below bf; have c3 := HR.out.c3; have lt := HR.out.lt; clear bf) | (go_at_call 36; refine (zt rb _ _ _ HR.out).mono ?_; rintro e wf ⟨⟨nf, rfl⟩, -, bf⟩; have HB : Hid (Rf rb w v wf) := HB.out.next bf; have HR : Hid (Fl rb wf _ _) := HR.out.below bf; have c3 := HR.out.c3; have lt := HR.out.lt; clear bf) | (go_at_call 37; refine (zo rb _ _ _ HR.out).mono ?_; rintro e wf ⟨⟨nf, rfl⟩, -, bf⟩; have HB : Hid (Rf rb w v wf) := HB.out.next bf; have HR : Hid (Fl rb wf _ _) := HR.out.below bf; have c3 := HR.out.c3; have lt := HR.out.lt; clear bf))
               go_ret
               exact RmE.no HR.out HB.out (by first | (simp only [zl h3 h4 h1, e2, e3, e4, e5, e6, e7, e9, ↓reduceIte, Bool.false_eq_true, if_true, if_false, Bool.and_true, Bool.true_and, and_true, and_false, true_and, false_and]; done) | (simp only [zl h3 h4 h1, e2, e3, e4, e5, e6, e7, e9, ↓reduceIte, Bool.false_eq_true, if_true, if_false, Bool.and_true, Bool.true_and, and_true, and_false, true_and, false_and]; rfl) | (simp [zl h3 h4 h1, e2, e3, e4, e5, e6, e7, e9]; done) | (simp [zl h3 h4 h1, e2, e3, e4, e5, e6, e7, e9]; rfl))
             · skip
               have o9 := hro.wh e9
               have p9 : s9.ns.length <= 8 * s9.i := by have := o9.1.phi p8; omega
               have i9 := o9.1.1
               have t9 := o9.1.2.1
               go_wp2_with (go_at_call 36; refine (HS8.out.yes (hr.wh _ _ _ _ HS8.out.rd p8 (by omega)) e9).mono ?_; rintro e w9 ⟨rfl, v9, K9, h9⟩; have HS9 : Hid (Sm rb ts tv en w v kv _ _ _ s9) := h9; clear h9 HS8 lt c1 c3 c5 fz wi wd HS7; have lt := HS9.out.rd.lt; have c1 := HS9.out.rd.c1; have c3 := HS9.out.rd.c3; have fz := HS9.out.rd.fz; have wi := HS9.out.wri; have c5 := HS9.out.rd.c5; have wd := HS9.out.wrd)
               rcases zac ts en ⟨#[41]⟩ s9 with ⟨q10, e10⟩ | ⟨q10, e10⟩
               · skip
                 have p10 : ((adv s9)).ns.length <= 8 * ((adv s9)).i := Nat.le_trans p9 (Nat.mul_le_mul_left 8 (Nat.le_succ _))
                 have i10 : ((adv s9)).i = (s9).i + 1 := rfl
                 go_wp2_with (go_at_call 35; refine (HS9.out.want_yes ⟨#[41]⟩ q10).mono ?_; rintro e w10 ⟨rfl, h10⟩; have HS10 : Hid (Sm rb ts tv en w v kv _ _ _ (adv s9)) := h10; clear h10 HS9 lt c1 c3 c5 fz wi wd; have lt := HS10.out.rd.lt; have c1 := HS10.out.rd.c1; have c3 := HS10.out.rd.c3; have fz := HS10.out.rd.fz; have wi := HS10.out.wri; have c5 := True.intro; have wd := True.intro; (try dsimp only at c1 wi))
                 go_ret
                 exact RmE.yes HS10.out (by first | (simp only [zl h3 h4 h1, e2, e3, e4, e5, e6, e7, e9, e10, ↓reduceIte, Bool.false_eq_true, if_true, if_false, Bool.and_true, Bool.true_and, and_true, and_false, true_and, false_and]; done) | (simp only [zl h3 h4 h1, e2, e3, e4, e5, e6, e7, e9, e10, ↓reduceIte, Bool.false_eq_true, if_true, if_false, Bool.and_true, Bool.true_and, and_true, and_false, true_and, false_and]; rfl) | (simp [zl h3 h4 h1, e2, e3, e4, e5, e6, e7, e9, e10]; done) | (simp [zl h3 h4 h1, e2, e3, e4, e5, e6, e7, e9, e10]; rfl))
               · skip
                 go_wp2_with (go_at_call 35; refine (HS9.out.want_no ⟨#[41]⟩ q10).mono ?_; rintro e w10 ⟨rfl, F10, b10⟩; clear lt c1 c3 c5 fz wi wd; have HR : Hid (Fl rb w10 _ _) := F10; have HB : Hid (Rf rb w v w10) := b10; have c3 := HR.out.c3; have lt := HR.out.lt; have ne := HR.out.ne; obtain ⟨dd, c5⟩ := HR.out.c5; have fz := HR.out.fz; clear F10 b10 HS9)
                 try go_wp2_with (first | (go_at_call 17; refine (zc rb _ _ _ (HR.out.below ((Below.refl _ _).alloc (Nat.le_refl _) _)) _ _ _ _ _ _).mono ?_; rintro e wf ⟨rfl, bf⟩; have HB : Hid (Rf rb w v wf) := (HB.out.next ((Below.refl _ _).alloc (Nat.le_refl _) _)).next bf; have HR : Hid (Fl rb wf _ _) := (HR.out.below ((Below.refl _ _).alloc (Nat.le_refl _) _)).below bf; have c3 := HR.out.c3; have lt := HR.out.lt; clear bf) | (go_at_call 35; refine (zm rb _ _ _ HR.out _).mono ?_; rintro e wf ⟨rfl, -, bf⟩; have HB : Hid (Rf rb w v wf) := HB.out.next bf; have HR : Hid (Fl rb wf _ _) := HR.out.below bf; have c3 := HR.out.c3; have lt := HR.out.lt; clear bf) | (go_at_call 17; refine (zc rb _ _ _ HR.out _ _ _ _ _ _).mono ?_; rintro e wf ⟨rfl, bf⟩; have HB : Hid (Rf rb w v wf) := HB.out.next bf; have HR : Hid (Fl rb wf _ _) := HR.out.below bf; have c3 := HR.out.c3; have lt := HR.out.lt; clear bf) | (go_at_call 36; refine (zt rb _ _ _ HR.out).mono ?_; rintro e wf ⟨⟨nf, rfl⟩, -, bf⟩; have HB : Hid (Rf rb w v wf) := HB.out.next bf; have HR : Hid (Fl rb wf _ _) := HR.out.below bf; have c3 := HR.out.c3; have lt := HR.out.lt; clear bf) | (go_at_call 37; refine (zo rb _ _ _ HR.out).mono ?_; rintro e wf ⟨⟨nf, rfl⟩, -, bf⟩; have HB : Hid (Rf rb w v wf) := HB.out.next bf; have HR : Hid (Fl rb wf _ _) := HR.out.below bf; have c3 := HR.out.c3; have lt := HR.out.lt; clear bf))
                 go_ret
                 exact RmE.no HR.out HB.out (by first | (simp only [zl h3 h4 h1, e2, e3, e4, e5, e6, e7, e9, e10, ↓reduceIte, Bool.false_eq_true, if_true, if_false, Bool.and_true, Bool.true_and, and_true, and_false, true_and, false_and]; done) | (simp only [zl h3 h4 h1, e2, e3, e4, e5, e6, e7, e9, e10, ↓reduceIte, Bool.false_eq_true, if_true, if_false, Bool.and_true, Bool.true_and, and_true, and_false, true_and, false_and]; rfl) | (simp [zl h3 h4 h1, e2, e3, e4, e5, e6, e7, e9, e10]; done) | (simp [zl h3 h4 h1, e2, e3, e4, e5, e6, e7, e9, e10]; rfl))
         · skip
           go_wp2_with (go_at_call 33; refine (HS5.out.is ⟨#[123]⟩ true e6).mono ?_; rintro e w6 ⟨rfl, h6⟩; have HS6 : Hid (Sm rb ts tv en w v kv _ _ _ s) := h6; clear h6 HS5 lt c1 c3 c5 fz wi wd; have lt := HS6.out.rd.lt; have c1 := HS6.out.rd.c1; have c3 := HS6.out.rd.c3; have fz := HS6.out.rd.fz; have wi := HS6.out.wri; have c5 := HS6.out.rd.c5; have wd := HS6.out.wrd)
           obtain ⟨xo, hxo, hlo⟩ := zah e6
           have HS7 : Hid (Sm rb ts tv en w v kv _ _ _ (adv s)) := HS6.out.adv hlo
           have p7 : ((adv s)).ns.length <= 8 * ((adv s)).i := Nat.le_trans hp (Nat.mul_le_mul_left 8 (Nat.le_succ _))
           have i7 : ((adv s)).i = (s).i + 1 := rfl
           have hnn : (adv s).ns.length <= 8 * s.i := hp
           rcases e8 : taP ts en r (adv s) with ⟨x8⟩ | ⟨a8, s8⟩
           · skip
             go_wp2_with (go_at_call 127; refine (HS7.out.no (HTA _ _ _ _ HS7.out.rd p7 (by omega)) e8).mono ?_; rintro e w8 ⟨⟨n8, rfl⟩, F8, b8⟩; clear lt c1 c3 c5 fz wi wd HS6; have HR : Hid (Fl rb w8 _ _) := F8; have HB : Hid (Rf rb w v w8) := b8; have c3 := HR.out.c3; have lt := HR.out.lt; have ne := HR.out.ne; obtain ⟨dd, c5⟩ := HR.out.c5; have fz := HR.out.fz; clear F8 b8 HS7)
             try go_wp2_with (first | (go_at_call 17; refine (zc rb _ _ _ (HR.out.below ((Below.refl _ _).alloc (Nat.le_refl _) _)) _ _ _ _ _ _).mono ?_; rintro e wf ⟨rfl, bf⟩; have HB : Hid (Rf rb w v wf) := (HB.out.next ((Below.refl _ _).alloc (Nat.le_refl _) _)).next bf; have HR : Hid (Fl rb wf _ _) := (HR.out.below ((Below.refl _ _).alloc (Nat.le_refl _) _)).below bf; have c3 := HR.out.c3; have lt := HR.out.lt; clear bf) | (go_at_call 35; refine (zm rb _ _ _ HR.out _).mono ?_; rintro e wf ⟨rfl, -, bf⟩; have HB : Hid (Rf rb w v wf) := HB.out.next bf; have HR : Hid (Fl rb wf _ _) := HR.out.below bf; have c3 := HR.out.c3; have lt := HR.out.lt; clear bf) | (go_at_call 17; refine (zc rb _ _ _ HR.out _ _ _ _ _ _).mono ?_; rintro e wf ⟨rfl, bf⟩; have HB : Hid (Rf rb w v wf) := HB.out.next bf; have HR : Hid (Fl rb wf _ _) := HR.out.below bf; have c3 := HR.out.c3; have lt := HR.out.lt; clear bf) | (go_at_call 36; refine (zt rb _ _ _ HR.out).mono ?_; rintro e wf ⟨⟨nf, rfl⟩, -, bf⟩; have HB : Hid (Rf rb w v wf) := HB.out.next bf; have HR : Hid (Fl rb wf _ _) := HR.out.below bf; have c3 := HR.out.c3; have lt := HR.out.lt; clear bf) | (go_at_call 37; refine (zo rb _ _ _ HR.out).mono ?_; rintro e wf ⟨⟨nf, rfl⟩, -, bf⟩; have HB : Hid (Rf rb w v wf) := HB.out.next bf; have HR : Hid (Fl rb wf _ _) := HR.out.below bf; have c3 := HR.out.c3; have lt := HR.out.lt; clear bf))
             go_ret
             exact RmE.no HR.out HB.out (by first | (simp only [zl h3 h4 h1, e2, e3, e4, e5, e6, e8, ↓reduceIte, Bool.false_eq_true, if_true, if_false, Bool.and_true, Bool.true_and, and_true, and_false, true_and, false_and]; done) | (simp only [zl h3 h4 h1, e2, e3, e4, e5, e6, e8, ↓reduceIte, Bool.false_eq_true, if_true, if_false, Bool.and_true, Bool.true_and, and_true, and_false, true_and, false_and]; rfl) | (simp [zl h3 h4 h1, e2, e3, e4, e5, e6, e8]; done) | (simp [zl h3 h4 h1, e2, e3, e4, e5, e6, e8]; rfl))
           · skip
             go_wp2_with (go_at_call 127; refine (HS7.out.yes (HTA _ _ _ _ HS7.out.rd p7 (by omega)) e8).mono ?_; rintro e w8 ⟨rfl, v8, K8, h8⟩; have HS8 : Hid (Sm rb ts tv en w v kv _ _ _ s8) := h8; clear h8 HS7 lt c1 c3 c5 fz wi wd HS6; have lt := HS8.out.rd.lt; have c1 := HS8.out.rd.c1; have c3 := HS8.out.rd.c3; have fz := HS8.out.rd.fz; have wi := HS8.out.wri; have c5 := HS8.out.rd.c5; have wd := HS8.out.wrd)
             go_ret
             exact RmE.yes HS8.out (by first | (simp only [zl h3 h4 h1, e2, e3, e4, e5, e6, e8, ↓reduceIte, Bool.false_eq_true, if_true, if_false, Bool.and_true, Bool.true_and, and_true, and_false, true_and, false_and]; done) | (simp only [zl h3 h4 h1, e2, e3, e4, e5, e6, e8, ↓reduceIte, Bool.false_eq_true, if_true, if_false, Bool.and_true, Bool.true_and, and_true, and_false, true_and, false_and]; rfl) | (simp [zl h3 h4 h1, e2, e3, e4, e5, e6, e8]; done) | (simp [zl h3 h4 h1, e2, e3, e4, e5, e6, e8]; rfl))
       · skip
         go_wp2_with (go_at_call 33; refine (HS4.out.is ⟨#[102, 110]⟩ true e5).mono ?_; rintro e w5 ⟨rfl, h5⟩; have HS5 : Hid (Sm rb ts tv en w v kv _ _ _ s) := h5; clear h5 HS4 lt c1 c3 c5 fz wi wd; have lt := HS5.out.rd.lt; have c1 := HS5.out.rd.c1; have c3 := HS5.out.rd.c3; have fz := HS5.out.rd.fz; have wi := HS5.out.wri; have c5 := HS5.out.rd.c5; have wd := HS5.out.wrd)
         obtain ⟨xo, hxo, hlo⟩ := zah e5
         have HS6 : Hid (Sm rb ts tv en w v kv _ _ _ (adv s)) := HS5.out.adv hlo
         have p6 : ((adv s)).ns.length <= 8 * ((adv s)).i := Nat.le_trans hp (Nat.mul_le_mul_left 8 (Nat.le_succ _))
         have i6 : ((adv s)).i = (s).i + 1 := rfl
         have hnn : (adv s).ns.length <= 8 * s.i := hp
         rcases e7 : fnP ts en r (adv s) with ⟨x7⟩ | ⟨a7, s7⟩
         · skip
           go_wp2_with (go_at_call 126; refine (HS6.out.no (HFN _ _ _ _ HS6.out.rd p6 (by omega)) e7).mono ?_; rintro e w7 ⟨⟨n7, rfl⟩, F7, b7⟩; clear lt c1 c3 c5 fz wi wd HS5; have HR : Hid (Fl rb w7 _ _) := F7; have HB : Hid (Rf rb w v w7) := b7; have c3 := HR.out.c3; have lt := HR.out.lt; have ne := HR.out.ne; obtain ⟨dd, c5⟩ := HR.out.c5; have fz := HR.out.fz; clear F7 b7 HS6)
           try go_wp2_with (first | (go_at_call 17; refine (zc rb _ _ _ (HR.out.below ((Below.refl _ _).alloc (Nat.le_refl _) _)) _ _ _ _ _ _).mono ?_; rintro e wf ⟨rfl, bf⟩; have HB : Hid (Rf rb w v wf) := (HB.out.next ((Below.refl _ _).alloc (Nat.le_refl _) _)).next bf; have HR : Hid (Fl rb wf _ _) := (HR.out.below ((Below.refl _ _).alloc (Nat.le_refl _) _)).below bf; have c3 := HR.out.c3; have lt := HR.out.lt; clear bf) | (go_at_call 35; refine (zm rb _ _ _ HR.out _).mono ?_; rintro e wf ⟨rfl, -, bf⟩; have HB : Hid (Rf rb w v wf) := HB.out.next bf; have HR : Hid (Fl rb wf _ _) := HR.out.below bf; have c3 := HR.out.c3; have lt := HR.out.lt; clear bf) | (go_at_call 17; refine (zc rb _ _ _ HR.out _ _ _ _ _ _).mono ?_; rintro e wf ⟨rfl, bf⟩; have HB : Hid (Rf rb w v wf) := HB.out.next bf; have HR : Hid (Fl rb wf _ _) := HR.out.below bf; have c3 := HR.out.c3; have lt := HR.out.lt; clear bf) | (go_at_call 36; refine (zt rb _ _ _ HR.out).mono ?_; rintro e wf ⟨⟨nf, rfl⟩, -, bf⟩; have HB : Hid (Rf rb w v wf) := HB.out.next bf; have HR : Hid (Fl rb wf _ _) := HR.out.below bf; have c3 := HR.out.c3; have lt := HR.out.lt; clear bf) | (go_at_call 37; refine (zo rb _ _ _ HR.out).mono ?_; rintro e wf ⟨⟨nf, rfl⟩, -, bf⟩; have HB : Hid (Rf rb w v wf) := HB.out.next bf; have HR : Hid (Fl rb wf _ _) := HR.out.below bf; have c3 := HR.out.c3; have lt := HR.out.lt; clear bf))
           go_ret
           exact RmE.no HR.out HB.out (by first | (simp only [zl h3 h4 h1, e2, e3, e4, e5, e7, ↓reduceIte, Bool.false_eq_true, if_true, if_false, Bool.and_true, Bool.true_and, and_true, and_false, true_and, false_and]; done) | (simp only [zl h3 h4 h1, e2, e3, e4, e5, e7, ↓reduceIte, Bool.false_eq_true, if_true, if_false, Bool.and_true, Bool.true_and, and_true, and_false, true_and, false_and]; rfl) | (simp [zl h3 h4 h1, e2, e3, e4, e5, e7]; done) | (simp [zl h3 h4 h1, e2, e3, e4, e5, e7]; rfl))
         · skip
           go_wp2_with (go_at_call 126; refine (HS6.out.yes (HFN _ _ _ _ HS6.out.rd p6 (by omega)) e7).mono ?_; rintro e w7 ⟨rfl, v7, K7, h7⟩; have HS7 : Hid (Sm rb ts tv en w v kv _ _ _ s7) := h7; clear h7 HS6 lt c1 c3 c5 fz wi wd HS5; have lt := HS7.out.rd.lt; have c1 := HS7.out.rd.c1; have c3 := HS7.out.rd.c3; have fz := HS7.out.rd.fz; have wi := HS7.out.wri; have c5 := HS7.out.rd.c5; have wd := HS7.out.wrd)
           go_ret
           exact RmE.yes HS7.out (by first | (simp only [zl h3 h4 h1, e2, e3, e4, e5, e7, ↓reduceIte, Bool.false_eq_true, if_true, if_false, Bool.and_true, Bool.true_and, and_true, and_false, true_and, false_and]; done) | (simp only [zl h3 h4 h1, e2, e3, e4, e5, e7, ↓reduceIte, Bool.false_eq_true, if_true, if_false, Bool.and_true, Bool.true_and, and_true, and_false, true_and, false_and]; rfl) | (simp [zl h3 h4 h1, e2, e3, e4, e5, e7]; done) | (simp [zl h3 h4 h1, e2, e3, e4, e5, e7]; rfl))
     · skip
       go_wp2_with (go_at_call 33; refine (HS3.out.is ⟨#[102, 97, 108, 115, 101]⟩ true e4).mono ?_; rintro e w4 ⟨rfl, h4⟩; have HS4 : Hid (Sm rb ts tv en w v kv _ _ _ s) := h4; clear h4 HS3 lt c1 c3 c5 fz wi wd; have lt := HS4.out.rd.lt; have c1 := HS4.out.rd.c1; have c3 := HS4.out.rd.c3; have fz := HS4.out.rd.fz; have wi := HS4.out.wri; have c5 := HS4.out.rd.c5; have wd := HS4.out.wrd)
       obtain ⟨xo, hxo, hlo⟩ := zah e4
       have HS5 : Hid (Sm rb ts tv en w v kv _ _ _ (adv s)) := HS4.out.adv hlo
       have p5 : ((adv s)).ns.length <= 8 * ((adv s)).i := Nat.le_trans hp (Nat.mul_le_mul_left 8 (Nat.le_succ _))
       have i5 : ((adv s)).i = (s).i + 1 := rfl
       have hnn : (adv s).ns.length <= 8 * s.i := hp
       go_wp2_with (go_at_call 17; refine (HS5.out.node0 2 eT 0 (by have := HS5.out.rd.il; omega)).mono ?_; rintro e w6 ⟨rfl, v6, K6, h6⟩; have HS6 : Hid (Sm rb ts tv en w v kv _ _ _ (zb 2 eT 0 [] (adv s)).2) := h6; clear h6 HS5 lt c1 c3 c5 fz wi wd HS4; have lt := HS6.out.rd.lt; have c1 := HS6.out.rd.c1; have c3 := HS6.out.rd.c3; have fz := HS6.out.rd.fz; have wi := HS6.out.wri; have c5 := True.intro; have wd := True.intro; (try dsimp only at c1 wi))
       go_ret
       exact RmE.yes HS6.out (by first | (simp only [zl h3 h4 h1, e2, e3, e4, ↓reduceIte, Bool.false_eq_true, if_true, if_false, Bool.and_true, Bool.true_and, and_true, and_false, true_and, false_and]; done) | (simp only [zl h3 h4 h1, e2, e3, e4, ↓reduceIte, Bool.false_eq_true, if_true, if_false, Bool.and_true, Bool.true_and, and_true, and_false, true_and, false_and]; rfl) | (simp [zl h3 h4 h1, e2, e3, e4]; done) | (simp [zl h3 h4 h1, e2, e3, e4]; rfl))
   · skip
     go_wp2_with (go_at_call 33; refine (HS2.out.is ⟨#[116, 114, 117, 101]⟩ true e3).mono ?_; rintro e w3 ⟨rfl, h3⟩; have HS3 : Hid (Sm rb ts tv en w v kv _ _ _ s) := h3; clear h3 HS2 lt c1 c3 c5 fz wi wd; have lt := HS3.out.rd.lt; have c1 := HS3.out.rd.c1; have c3 := HS3.out.rd.c3; have fz := HS3.out.rd.fz; have wi := HS3.out.wri; have c5 := HS3.out.rd.c5; have wd := HS3.out.wrd)
     obtain ⟨xo, hxo, hlo⟩ := zah e3
     have HS4 : Hid (Sm rb ts tv en w v kv _ _ _ (adv s)) := HS3.out.adv hlo
     have p4 : ((adv s)).ns.length <= 8 * ((adv s)).i := Nat.le_trans hp (Nat.mul_le_mul_left 8 (Nat.le_succ _))
     have i4 : ((adv s)).i = (s).i + 1 := rfl
     have hnn : (adv s).ns.length <= 8 * s.i := hp
     go_wp2_with (go_at_call 17; refine (HS4.out.node0 2 eT 1 (by have := HS4.out.rd.il; omega)).mono ?_; rintro e w5 ⟨rfl, v5, K5, h5⟩; have HS5 : Hid (Sm rb ts tv en w v kv _ _ _ (zb 2 eT 1 [] (adv s)).2) := h5; clear h5 HS4 lt c1 c3 c5 fz wi wd HS3; have lt := HS5.out.rd.lt; have c1 := HS5.out.rd.c1; have c3 := HS5.out.rd.c3; have fz := HS5.out.rd.fz; have wi := HS5.out.wri; have c5 := True.intro; have wd := True.intro; (try dsimp only at c1 wi))
     go_ret
     exact RmE.yes HS5.out (by first | (simp only [zl h3 h4 h1, e2, e3, zgh e3, ↓reduceIte, Bool.false_eq_true, if_true, if_false, Bool.and_true, Bool.true_and, and_true, and_false, true_and, false_and]; done) | (simp only [zl h3 h4 h1, e2, e3, zgh e3, ↓reduceIte, Bool.false_eq_true, if_true, if_false, Bool.and_true, Bool.true_and, and_true, and_false, true_and, false_and]; rfl) | (simp [zl h3 h4 h1, e2, e3, zgh e3]; done) | (simp [zl h3 h4 h1, e2, e3, zgh e3]; rfl))
 · skip
   go_wp2_with (go_at_call 33; refine (HS1.out.is ⟨#[110, 105, 108]⟩ true e2).mono ?_; rintro e w2 ⟨rfl, h2⟩; have HS2 : Hid (Sm rb ts tv en w v kv _ _ _ s) := h2; clear h2 HS1 lt c1 c3 c5 fz wi wd; have lt := HS2.out.rd.lt; have c1 := HS2.out.rd.c1; have c3 := HS2.out.rd.c3; have fz := HS2.out.rd.fz; have wi := HS2.out.wri; have c5 := HS2.out.rd.c5; have wd := HS2.out.wrd)
   obtain ⟨xo, hxo, hlo⟩ := zah e2
   have HS3 : Hid (Sm rb ts tv en w v kv _ _ _ (adv s)) := HS2.out.adv hlo
   have p3 : ((adv s)).ns.length <= 8 * ((adv s)).i := Nat.le_trans hp (Nat.mul_le_mul_left 8 (Nat.le_succ _))
   have i3 : ((adv s)).i = (s).i + 1 := rfl
   have hnn : (adv s).ns.length <= 8 * s.i := hp
   go_wp2_with (go_at_call 17; refine (HS3.out.node0 1 eT 0 (by have := HS3.out.rd.il; omega)).mono ?_; rintro e w4 ⟨rfl, v4, K4, h4⟩; have HS4 : Hid (Sm rb ts tv en w v kv _ _ _ (zb 1 eT 0 [] (adv s)).2) := h4; clear h4 HS3 lt c1 c3 c5 fz wi wd HS2; have lt := HS4.out.rd.lt; have c1 := HS4.out.rd.c1; have c3 := HS4.out.rd.c3; have fz := HS4.out.rd.fz; have wi := HS4.out.wri; have c5 := True.intro; have wd := True.intro; (try dsimp only at c1 wi))
   go_ret
   exact RmE.yes HS4.out (by first | (simp only [zl h3 h4 h1, e2, ↓reduceIte, Bool.false_eq_true, if_true, if_false, Bool.and_true, Bool.true_and, and_true, and_false, true_and, false_and]; done) | (simp only [zl h3 h4 h1, e2, ↓reduceIte, Bool.false_eq_true, if_true, if_false, Bool.and_true, Bool.true_and, and_true, and_false, true_and, false_and]; rfl) | (simp [zl h3 h4 h1, e2]; done) | (simp [zl h3 h4 h1, e2]; rfl))
set_option maxHeartbeats 4000000 in
theorem zil {rb : Nat} {ts : List za} {tv : Value} {en : Nat} {r : Rd} {n : Nat} (hr : RM rb ts tv en r n) (hro : zk ts r) (w : World) (v : Value) (kv : List Value) (s : PS) (h : Mdr rb ts tv en w v kv s) (hp : s.ns.length <= 8 * s.i) (x : za) (hx : ts[s.i]? = some x) (hk : x.k = 1) (hf : ts.length < s.i + (n + 1)) :
 Calls Tryz.prog 121 #[.pointer (some ⟨rb, 0, none⟩)] w (RmE rb ts tv en w v kv (zu ts en r s)) := by
 have HS0 : Hid (Sm rb ts tv en w v kv w v [] s) := Sm.begin h
 have hT : ts.length <= 3000 := h.tl
 have hI : s.i <= ts.length := h.il
 clear h
 have lt := HS0.out.rd.lt
 have c1 := HS0.out.rd.c1
 have c3 := HS0.out.rd.c3
 have fz := HS0.out.rd.fz
 have wi := HS0.out.wri
 have c5 := HS0.out.rd.c5
 have wd := HS0.out.wrd
 go_enter Tryz.func121, Tryz.ntmps121
 have hkc := HS0.out.kind
 rw [zij hx, hk] at hkc
 go_wp2_with (go_at_call 82; refine (hkc).mono ?_; rintro e w1 ⟨rfl, h1⟩; have HS1 : Hid (Sm rb ts tv en w v kv _ _ _ s) := h1; clear h1 HS0 lt c1 c3 c5 fz wi wd; have lt := HS1.out.rd.lt; have c1 := HS1.out.rd.c1; have c3 := HS1.out.rd.c3; have fz := HS1.out.rd.fz; have wi := HS1.out.wri; have c5 := HS1.out.rd.c5; have wd := HS1.out.wrd)
 have hnn : (adv s).ns.length <= 8 * s.i := hp
 go_wp2_with (go_at_call 34; refine (HS1.out.name_yes x hx hk).mono ?_; rintro e w2 ⟨rfl, h2⟩; have HS2 : Hid (Sm rb ts tv en w v kv _ _ _ (adv s)) := h2; clear h2 HS1 lt c1 c3 c5 fz wi wd; have lt := HS2.out.rd.lt; have c1 := HS2.out.rd.c1; have c3 := HS2.out.rd.c3; have fz := HS2.out.rd.fz; have wi := HS2.out.wri; have c5 := True.intro; have wd := True.intro; (try dsimp only at c1 wi))
 have i9 : (adv s).i = s.i + 1 := rfl
 go_wp2_with (go_at_call 17; refine (HS2.out.node0 5 x.tx 0 (by have := HS2.out.rd.il; omega)).mono ?_; rintro e w3 ⟨rfl, v3, K3, h3⟩; have HS3 : Hid (Sm rb ts tv en w v kv _ _ _ (zb 5 x.tx 0 [] (adv s)).2) := h3; clear h3 HS2 lt c1 c3 c5 fz wi wd; have lt := HS3.out.rd.lt; have c1 := HS3.out.rd.c1; have c3 := HS3.out.rd.c3; have fz := HS3.out.rd.fz; have wi := HS3.out.wri; have c5 := True.intro; have wd := True.intro; (try dsimp only at c1 wi))
 go_ret
 exact RmE.yes HS3.out (by first | (simp only [zu, hx, hk, ↓reduceIte, Bool.false_eq_true, if_true, if_false, Bool.and_true, Bool.true_and, and_true, and_false, true_and, false_and]; done) | (simp only [zu, hx, hk, ↓reduceIte, Bool.false_eq_true, if_true, if_false, Bool.and_true, Bool.true_and, and_true, and_false, true_and, false_and]; rfl) | (simp [zu, hx, hk]; done) | (simp [zu, hx, hk]; rfl))
set_option maxHeartbeats 4000000 in
theorem zjh {rb : Nat} {ts : List za} {tv : Value} {en : Nat} {r : Rd} {n : Nat} (hr : RM rb ts tv en r n) (hro : zk ts r) (w : World) (v : Value) (kv : List Value) (s : PS) (h : Mdr rb ts tv en w v kv s) (hp : s.ns.length <= 8 * s.i) (x : za) (hx : ts[s.i]? = some x) (hk : x.k = 3) (hf : ts.length < s.i + (n + 1)) :
 Calls Tryz.prog 121 #[.pointer (some ⟨rb, 0, none⟩)] w (RmE rb ts tv en w v kv (zu ts en r s)) := by
 have HS0 : Hid (Sm rb ts tv en w v kv w v [] s) := Sm.begin h
 have hT : ts.length <= 3000 := h.tl
 have hI : s.i <= ts.length := h.il
 clear h
 have lt := HS0.out.rd.lt
 have c1 := HS0.out.rd.c1
 have c3 := HS0.out.rd.c3
 have fz := HS0.out.rd.fz
 have wi := HS0.out.wri
 have c5 := HS0.out.rd.c5
 have wd := HS0.out.wrd
 go_enter Tryz.func121, Tryz.ntmps121
 have hkc := HS0.out.kind
 rw [zij hx, hk] at hkc
 go_wp2_with (go_at_call 82; refine (hkc).mono ?_; rintro e w1 ⟨rfl, h1⟩; have HS1 : Hid (Sm rb ts tv en w v kv _ _ _ s) := h1; clear h1 HS0 lt c1 c3 c5 fz wi wd; have lt := HS1.out.rd.lt; have c1 := HS1.out.rd.c1; have c3 := HS1.out.rd.c3; have fz := HS1.out.rd.fz; have wi := HS1.out.wri; have c5 := HS1.out.rd.c5; have wd := HS1.out.wrd)
 have hlo : s.i < ts.length := (List.getElem?_eq_some_iff.1 hx).1
 have hnn : (adv s).ns.length <= 8 * s.i := hp
 go_upto_region 4 with fail
 obtain ⟨W, hW⟩ : ∃ V, V = w1.setCell ⟨rb, 1, none⟩ (.int .i64 ((s.i : Int) + 1)) := ⟨_, rfl⟩
 have HS2 : Hid (Sm rb ts tv en w v kv W v [] (adv s)) := by show Sm _ _ _ _ _ _ _ _ _ _ _; rw [hW]; exact HS1.out.adv hlo
 rw [<- hW]
 clear hW lt c1 c3 c5 fz wi wd
 obtain ⟨gt, ct, htv, lg, lgw, hsl, t0, t1, t2, t3⟩ := HS2.out.rd.tokj hx
 subst htv
 have c0 := HS2.out.rd.c0
 have c1 := HS2.out.rd.c1
 have hjl : (s.i : Int) < (ts.length : Int) := by omega
 obtain ⟨K, hK0⟩ : ∃ K : Int, K = ((adv s).i : Int) := ⟨_, rfl⟩
 rw [<- hK0] at c1
 have wq : IntKind.i64.wrap (K - 1) = (s.i : Int) := by rw [IntKind.wrap_i64, hK0]; have e : (adv s).i = s.i + 1 := rfl; omega
 have HX : Hid (zu ts en r s = .ok (zb 3 eT x.n [] (adv s))) := by show _ = _; unfold zu; rw [hx]; simp [hk]
 have HK0 : Hid (K = ((adv s).i : Int)) := hK0
 have HXT : Hid (ts[s.i]? = some x) := hx
 have HSI : Hid (s.i * 4 + 3 = s.i * 4 + 3) := rfl
 obtain ⟨si, hsi⟩ : ∃ q, q = s.i := ⟨_, rfl⟩
 have HSE : Hid (si = s.i) := hsi
 rw [<- hsi] at t3 hjl wq
 clear hK0 hsi hx t0 t1 t2 lg lgw hsl
 have hS0 : W.cell? ⟨rb, 0, none⟩ = some (.slice (some ⟨gt, 0, none⟩) ts.length ct) /\ W.cell? ⟨rb, 1, none⟩ = some (.int .i64 K) /\ W.cell? ⟨gt, si * 4 + 3, none⟩ = some (.int .i64 x.n) := ⟨c0, c1, t3⟩
 clear c0 c1 t3
 refine wp_region_held_drew (S := fun V => V.cell? ⟨rb, 0, none⟩ = some (.slice (some ⟨gt, 0, none⟩) ts.length ct) /\ V.cell? ⟨rb, 1, none⟩ = some (.int .i64 K) /\ V.cell? ⟨gt, si * 4 + 3, none⟩ = some (.int .i64 x.n)) (by kernel_rfl) hS0 (fun hHeld => ?_)
 refine tk 0 15 (.pointer (some ⟨rb, 0, none⟩)) hHeld rfl (by intro V hS; (try dsimp only at hS); obtain ⟨q0, q1, q2⟩ := hS; go_simp) ?_
 try simp only [Act.put, zv2, zv3, zv4]
 refine tk 1 16 (.pointer (some ⟨rb, 0, none⟩)) hHeld rfl (by intro V hS; (try dsimp only at hS); obtain ⟨q0, q1, q2⟩ := hS; go_simp) ?_
 try simp only [Act.put, zv2, zv3, zv4]
 refine tk 2 17 (.pointer (some ⟨rb, 0, none⟩)) hHeld rfl (by intro V hS; (try dsimp only at hS); obtain ⟨q0, q1, q2⟩ := hS; go_simp) ?_
 try simp only [Act.put, zv2, zv3, zv4]
 refine tk 3 18 (.pointer (some ⟨rb, 0, none⟩)) hHeld rfl (by intro V hS; (try dsimp only at hS); obtain ⟨q0, q1, q2⟩ := hS; go_simp) ?_
 try simp only [Act.put, zv2, zv3, zv4]
 refine tk 4 19 (.slice (some ⟨gt, 0, none⟩) ts.length ct) hHeld rfl (by intro V hS; (try dsimp only at hS); obtain ⟨q0, q1, q2⟩ := hS; go_simp) ?_
 try simp only [Act.put, zv2, zv3, zv4]
 refine tk 5 20 (.pointer (some ⟨rb, 0, none⟩)) hHeld rfl (by intro V hS; (try dsimp only at hS); obtain ⟨q0, q1, q2⟩ := hS; go_simp) ?_
 try simp only [Act.put, zv2, zv3, zv4]
 refine tk 6 21 (.pointer (some ⟨rb, 0, none⟩)) hHeld rfl (by intro V hS; (try dsimp only at hS); obtain ⟨q0, q1, q2⟩ := hS; go_simp) ?_
 try simp only [Act.put, zv2, zv3, zv4]
 refine tk 7 22 (.pointer (some ⟨rb, 1, none⟩)) hHeld rfl (by intro V hS; (try dsimp only at hS); obtain ⟨q0, q1, q2⟩ := hS; go_simp) ?_
 try simp only [Act.put, zv2, zv3, zv4]
 refine tk 8 23 (.int .i64 K) hHeld rfl (by intro V hS; (try dsimp only at hS); obtain ⟨q0, q1, q2⟩ := hS; go_simp) ?_
 try simp only [Act.put, zv2, zv3, zv4]
 refine tk 9 24 (.int .i64 (si : Int)) hHeld rfl (by intro V hS; (try dsimp only at hS); obtain ⟨q0, q1, q2⟩ := hS; go_simp) ?_
 try simp only [Act.put, zv2, zv3, zv4]
 refine tk 10 25 (.pointer (some ⟨gt, si * 4, none⟩)) hHeld rfl (by intro V hS; (try dsimp only at hS); obtain ⟨q0, q1, q2⟩ := hS; go_simp) ?_
 try simp only [Act.put, zv2, zv3, zv4]
 refine tk 11 26 (.pointer (some ⟨gt, si * 4 + 3, none⟩)) hHeld rfl (by intro V hS; (try dsimp only at hS); obtain ⟨q0, q1, q2⟩ := hS; go_simp) ?_
 try simp only [Act.put, zv2, zv3, zv4]
 refine tk 12 27 (.int .i64 x.n) hHeld rfl (by intro V hS; (try dsimp only at hS); obtain ⟨q0, q1, q2⟩ := hS; go_simp) ?_
 try simp only [Act.put, zv2, zv3, zv4]
 refine tk 13 28 (.agg #[.int .i64 3, .string ⟨#[]⟩, .int .i64 x.n, .slice none 0 0]) hHeld rfl (by intro V hS; (try dsimp only at hS); obtain ⟨q0, q1, q2⟩ := hS; go_simp) ?_
 try simp only [Act.put, zv2, zv3, zv4]
 refine wpAnyH_ready (rs := [14]) (by kernel_rfl) (by simp) ?_
 refine AllReadyH.cons (o := { dst := some 29, op := _, type := _, pos := _, after := _, guard := _ }) rfl (fun KK hK => ?_) AllReadyH.nil
 go_simp
 go_at_call 17
 have HS3 : Hid (Sm rb ts _ en w v kv W.drew _ _ (adv s)) := HS2.out.below ((Below.refl _ _).drew)
 refine (HS3.out.node0 3 eT x.n (by omega)).mono ?_
 rintro e w3 ⟨rfl, v3, K3, h3⟩
 have HS4 : Hid (Sm rb ts _ en w v kv _ _ _ _) := h3
 have hS1 : w3.cell? ⟨rb, 0, none⟩ = some (.slice (some ⟨gt, 0, none⟩) ts.length ct) /\ w3.cell? ⟨rb, 1, none⟩ = some (.int .i64 K) /\ w3.cell? ⟨gt, si * 4 + 3, none⟩ = some (.int .i64 x.n) := by
  obtain ⟨g2, c2, htv2, lg2, lgw2, hsl2, u0, u1, u2, u3⟩ := h3.rd.tokj HXT.out
  injection htv2 with htv2 _ _
  injection htv2 with htv2
  injection htv2 with htv2 _ _
  subst htv2
  refine ⟨h3.rd.c0, ?_, ?_⟩
  · rw [HK0.out]; exact h3.rd.c1
  · rw [HSE.out]; exact u3
 clear hHeld h3
 refine hK.out _ _ hS1 (fun hHeld => ?_)
 clear hK KK
 try simp only [Act.put, zv2, zv3, zv4]
 refine tk 15 2 (.int .i64 (zb 3 eT x.n [] (adv s)).1) hHeld rfl (by intro V hS; go_simp) ?_
 try simp only [Act.put, zv2, zv3, zv4]
 refine wpAnyH_done (by kernel_rfl) ?_ _
 go_wp2
 go_ret
 exact RmE.yes HS4.out HX.out
set_option maxHeartbeats 4000000 in
theorem zim {rb : Nat} {ts : List za} {tv : Value} {en : Nat} {r : Rd} {n : Nat} (hr : RM rb ts tv en r n) (hro : zk ts r) (w : World) (v : Value) (kv : List Value) (s : PS) (h : Mdr rb ts tv en w v kv s) (hp : s.ns.length <= 8 * s.i) (x : za) (hx : ts[s.i]? = some x) (hk : x.k = 4) (hf : ts.length < s.i + (n + 1)) :
 Calls Tryz.prog 121 #[.pointer (some ⟨rb, 0, none⟩)] w (RmE rb ts tv en w v kv (zu ts en r s)) := by
 have HS0 : Hid (Sm rb ts tv en w v kv w v [] s) := Sm.begin h
 have hT : ts.length <= 3000 := h.tl
 have hI : s.i <= ts.length := h.il
 clear h
 have lt := HS0.out.rd.lt
 have c1 := HS0.out.rd.c1
 have c3 := HS0.out.rd.c3
 have fz := HS0.out.rd.fz
 have wi := HS0.out.wri
 have c5 := HS0.out.rd.c5
 have wd := HS0.out.wrd
 go_enter Tryz.func121, Tryz.ntmps121
 have hkc := HS0.out.kind
 rw [zij hx, hk] at hkc
 go_wp2_with (go_at_call 82; refine (hkc).mono ?_; rintro e w1 ⟨rfl, h1⟩; have HS1 : Hid (Sm rb ts tv en w v kv _ _ _ s) := h1; clear h1 HS0 lt c1 c3 c5 fz wi wd; have lt := HS1.out.rd.lt; have c1 := HS1.out.rd.c1; have c3 := HS1.out.rd.c3; have fz := HS1.out.rd.fz; have wi := HS1.out.wri; have c5 := HS1.out.rd.c5; have wd := HS1.out.wrd)
 have hlo : s.i < ts.length := (List.getElem?_eq_some_iff.1 hx).1
 have hnn : (adv s).ns.length <= 8 * s.i := hp
 go_upto_region 7 with fail
 obtain ⟨W, hW⟩ : ∃ V, V = w1.setCell ⟨rb, 1, none⟩ (.int .i64 ((s.i : Int) + 1)) := ⟨_, rfl⟩
 have HS2 : Hid (Sm rb ts tv en w v kv W v [] (adv s)) := by show Sm _ _ _ _ _ _ _ _ _ _ _; rw [hW]; exact HS1.out.adv hlo
 rw [<- hW]
 clear hW lt c1 c3 c5 fz wi wd
 obtain ⟨gt, ct, htv, lg, lgw, hsl, t0, t1, t2, t3⟩ := HS2.out.rd.tokj hx
 subst htv
 have c0 := HS2.out.rd.c0
 have c1 := HS2.out.rd.c1
 have hjl : (s.i : Int) < (ts.length : Int) := by omega
 obtain ⟨K, hK0⟩ : ∃ K : Int, K = ((adv s).i : Int) := ⟨_, rfl⟩
 rw [<- hK0] at c1
 have wq : IntKind.i64.wrap (K - 1) = (s.i : Int) := by rw [IntKind.wrap_i64, hK0]; have e : (adv s).i = s.i + 1 := rfl; omega
 have HX : Hid (zu ts en r s = .ok (zb 4 x.tx 0 [] (adv s))) := by show _ = _; unfold zu; rw [hx]; simp [hk]
 have HK0 : Hid (K = ((adv s).i : Int)) := hK0
 have HXT : Hid (ts[s.i]? = some x) := hx
 have HSI : Hid (s.i * 4 + 2 = s.i * 4 + 2) := rfl
 obtain ⟨si, hsi⟩ : ∃ q, q = s.i := ⟨_, rfl⟩
 have HSE : Hid (si = s.i) := hsi
 rw [<- hsi] at t2 hjl wq
 clear hK0 hsi hx t0 t1 t3 lg lgw hsl
 have hS0 : W.cell? ⟨rb, 0, none⟩ = some (.slice (some ⟨gt, 0, none⟩) ts.length ct) /\ W.cell? ⟨rb, 1, none⟩ = some (.int .i64 K) /\ W.cell? ⟨gt, si * 4 + 2, none⟩ = some (.string x.tx) := ⟨c0, c1, t2⟩
 clear c0 c1 t2
 refine wp_region_held_drew (S := fun V => V.cell? ⟨rb, 0, none⟩ = some (.slice (some ⟨gt, 0, none⟩) ts.length ct) /\ V.cell? ⟨rb, 1, none⟩ = some (.int .i64 K) /\ V.cell? ⟨gt, si * 4 + 2, none⟩ = some (.string x.tx)) (by kernel_rfl) hS0 (fun hHeld => ?_)
 refine tk 0 39 (.pointer (some ⟨rb, 0, none⟩)) hHeld rfl (by intro V hS; (try dsimp only at hS); obtain ⟨q0, q1, q2⟩ := hS; go_simp) ?_
 try simp only [Act.put, zv2, zv3, zv4]
 refine tk 1 40 (.pointer (some ⟨rb, 0, none⟩)) hHeld rfl (by intro V hS; (try dsimp only at hS); obtain ⟨q0, q1, q2⟩ := hS; go_simp) ?_
 try simp only [Act.put, zv2, zv3, zv4]
 refine tk 2 41 (.pointer (some ⟨rb, 0, none⟩)) hHeld rfl (by intro V hS; (try dsimp only at hS); obtain ⟨q0, q1, q2⟩ := hS; go_simp) ?_
 try simp only [Act.put, zv2, zv3, zv4]
 refine tk 3 42 (.pointer (some ⟨rb, 0, none⟩)) hHeld rfl (by intro V hS; (try dsimp only at hS); obtain ⟨q0, q1, q2⟩ := hS; go_simp) ?_
 try simp only [Act.put, zv2, zv3, zv4]
 refine tk 4 43 (.slice (some ⟨gt, 0, none⟩) ts.length ct) hHeld rfl (by intro V hS; (try dsimp only at hS); obtain ⟨q0, q1, q2⟩ := hS; go_simp) ?_
 try simp only [Act.put, zv2, zv3, zv4]
 refine tk 5 44 (.pointer (some ⟨rb, 0, none⟩)) hHeld rfl (by intro V hS; (try dsimp only at hS); obtain ⟨q0, q1, q2⟩ := hS; go_simp) ?_
 try simp only [Act.put, zv2, zv3, zv4]
 refine tk 6 45 (.pointer (some ⟨rb, 0, none⟩)) hHeld rfl (by intro V hS; (try dsimp only at hS); obtain ⟨q0, q1, q2⟩ := hS; go_simp) ?_
 try simp only [Act.put, zv2, zv3, zv4]
 refine tk 7 46 (.pointer (some ⟨rb, 1, none⟩)) hHeld rfl (by intro V hS; (try dsimp only at hS); obtain ⟨q0, q1, q2⟩ := hS; go_simp) ?_
 try simp only [Act.put, zv2, zv3, zv4]
 refine tk 8 47 (.int .i64 K) hHeld rfl (by intro V hS; (try dsimp only at hS); obtain ⟨q0, q1, q2⟩ := hS; go_simp) ?_
 try simp only [Act.put, zv2, zv3, zv4]
 refine tk 9 48 (.int .i64 (si : Int)) hHeld rfl (by intro V hS; (try dsimp only at hS); obtain ⟨q0, q1, q2⟩ := hS; go_simp) ?_
 try simp only [Act.put, zv2, zv3, zv4]
 refine tk 10 49 (.pointer (some ⟨gt, si * 4, none⟩)) hHeld rfl (by intro V hS; (try dsimp only at hS); obtain ⟨q0, q1, q2⟩ := hS; go_simp) ?_
 try simp only [Act.put, zv2, zv3, zv4]
 refine tk 11 50 (.pointer (some ⟨gt, si * 4 + 2, none⟩)) hHeld rfl (by intro V hS; (try dsimp only at hS); obtain ⟨q0, q1, q2⟩ := hS; go_simp) ?_
 try simp only [Act.put, zv2, zv3, zv4]
 refine tk 12 51 (.string x.tx) hHeld rfl (by intro V hS; (try dsimp only at hS); obtain ⟨q0, q1, q2⟩ := hS; go_simp) ?_
 try simp only [Act.put, zv2, zv3, zv4]
 refine tk 13 52 (.agg #[.int .i64 4, .string x.tx, .int .i64 0, .slice none 0 0]) hHeld rfl (by intro V hS; (try dsimp only at hS); obtain ⟨q0, q1, q2⟩ := hS; go_simp) ?_
 try simp only [Act.put, zv2, zv3, zv4]
 refine wpAnyH_ready (rs := [14]) (by kernel_rfl) (by simp) ?_
 refine AllReadyH.cons (o := { dst := some 53, op := _, type := _, pos := _, after := _, guard := _ }) rfl (fun KK hK => ?_) AllReadyH.nil
 go_simp
 go_at_call 17
 have HS3 : Hid (Sm rb ts _ en w v kv W.drew _ _ (adv s)) := HS2.out.below ((Below.refl _ _).drew)
 refine (HS3.out.node0 4 x.tx 0 (by omega)).mono ?_
 rintro e w3 ⟨rfl, v3, K3, h3⟩
 have HS4 : Hid (Sm rb ts _ en w v kv _ _ _ _) := h3
 have hS1 : w3.cell? ⟨rb, 0, none⟩ = some (.slice (some ⟨gt, 0, none⟩) ts.length ct) /\ w3.cell? ⟨rb, 1, none⟩ = some (.int .i64 K) /\ w3.cell? ⟨gt, si * 4 + 2, none⟩ = some (.string x.tx) := by
  obtain ⟨g2, c2, htv2, lg2, lgw2, hsl2, u0, u1, u2, u3⟩ := h3.rd.tokj HXT.out
  injection htv2 with htv2 _ _
  injection htv2 with htv2
  injection htv2 with htv2 _ _
  subst htv2
  refine ⟨h3.rd.c0, ?_, ?_⟩
  · rw [HK0.out]; exact h3.rd.c1
  · rw [HSE.out]; exact u2
 clear hHeld h3
 refine hK.out _ _ hS1 (fun hHeld => ?_)
 clear hK KK
 try simp only [Act.put, zv2, zv3, zv4]
 refine tk 15 2 (.int .i64 (zb 4 x.tx 0 [] (adv s)).1) hHeld rfl (by intro V hS; go_simp) ?_
 try simp only [Act.put, zv2, zv3, zv4]
 refine wpAnyH_done (by kernel_rfl) ?_ _
 go_wp2
 go_ret
 exact RmE.yes HS4.out HX.out
theorem zkh {rb : Nat} {ts : List za} {tv : Value} {en : Nat} {r : Rd} {n : Nat} (hr : RM rb ts tv en r n) (hro : zk ts r) (HFN : ∀ (w : World) (v : Value) (kv : List Value) (s : PS), Mdr rb ts tv en w v kv s -> s.ns.length <= 8 * s.i -> ts.length < s.i + n -> Calls Tryz.prog 126 #[.pointer (some ⟨rb, 0, none⟩)] w (RmE rb ts tv en w v kv (fnP ts en r s))) (HTA : ∀ (w : World) (v : Value) (kv : List Value) (s : PS), Mdr rb ts tv en w v kv s -> s.ns.length <= 8 * s.i -> ts.length < s.i + n -> Calls Tryz.prog 127 #[.pointer (some ⟨rb, 0, none⟩)] w (RmE rb ts tv en w v kv (taP ts en r s))) (w : World) (v : Value) (kv : List Value) (s : PS) (h : Mdr rb ts tv en w v kv s) (hp : s.ns.length <= 8 * s.i) (hf : ts.length < s.i + (n + 1)) :
 Calls Tryz.prog 121 #[.pointer (some ⟨rb, 0, none⟩)] w (RmE rb ts tv en w v kv (zu ts en r s)) := by
 by_cases h3 : kdO ts s = 3
 · obtain ⟨x, hx, hk, _⟩ := zgu h3 (by decide)
   exact zjh hr hro w v kv s h hp x hx hk hf
 by_cases h4 : kdO ts s = 4
 · obtain ⟨x, hx, hk, _⟩ := zgu h4 (by decide)
   exact zim hr hro w v kv s h hp x hx hk hf
 by_cases h1 : kdO ts s = 1
 · obtain ⟨x, hx, hk, _⟩ := zgu h1 (by decide)
   exact zil hr hro w v kv s h hp x hx hk hf
 exact zik hr hro HFN HTA w v kv s h hp h3 h4 h1 hf
end Go.Proofs.YtiglkhkfbgjjoaaGreatDoor
