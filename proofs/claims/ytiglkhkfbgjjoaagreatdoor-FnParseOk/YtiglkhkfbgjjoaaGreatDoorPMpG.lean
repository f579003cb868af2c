/- - -/
import Derived.Test.YtiglkhkfbgjjoaaGreatDoorPMpE
namespace Go.Proofs.YtiglkhkfbgjjoaaGreatDoor
set_option maxRecDepth 20000
open Go.RowKit Go.PlainAid Go.Maps
set_option linter.unusedSimpArgs false
set_option linter.unusedVariables false
theorem Sm.wri {rb : Nat} {ts : List za} {tv : Value} {en : Nat} {w w1 : World} {v v1 : Value} {kv K : List Value} {s1 : PS} (h : Sm rb ts tv en w v kv w1 v1 K s1) : IntKind.i64.wrap ((s1.i : Int) + 1) = (s1.i : Int) + 1 := by rw [IntKind.wrap_i64]; have := h.rd.il; have := h.rd.tl; omega
theorem Sm.wrd {rb : Nat} {ts : List za} {tv : Value} {en : Nat} {w w1 : World} {v v1 : Value} {kv K : List Value} {s1 : PS} (h : Sm rb ts tv en w v kv w1 v1 K s1) : IntKind.i64.wrap ((s1.d : Int) - 1) = (s1.d : Int) - 1 := by rw [IntKind.wrap_i64]; have := h.rd.dl; omega
theorem ze9 {ts : List za} {s : PS} (hx : ts[s.i]? = none) (b : ByteArray) : isN ts b s = false := by unfold isN; rw [hx]
theorem zhd {ts : List za} {en : Nat} {s : PS} (hx : ts[s.i]? = none) (c : Int) : fh ts en c s = (2, (en : Int)) := by unfold fh; rw [hx]
theorem zt7 {ts : List za} {en : Nat} {s : PS} (hx : ts[s.i]? = none) (r : Rd) : tnP ts en r s = .error (2, (en : Int)) := by
 unfold tnP zy
 rw [ze9 hx, ze9 hx, ze9 hx]
 simp only [Bool.false_eq_true, if_false, if_true, zu, hx, zhd hx]
theorem zt8 {ts : List za} {en : Nat} {s : PS} (hx : ts[s.i]? = none) (r : Rd) : whP ts en r s = .error (fh ts en 3 s) := by
 unfold whP
 rcases za2 ts en s with ⟨q, e⟩ | ⟨q, e⟩
 · rw [e]
   simp only [lvP, zt7 (s := ⟨s.i, s.d + 1, s.ns⟩) hx r, zhd hx]
 · rw [e]
theorem zt9 {ts : List za} {en : Nat} {s : PS} (hx : ts[s.i]? = none) (r : Rd) : blP ts en r s = .error (fh ts en 3 s) := by
 unfold blP
 rcases za2 ts en s with ⟨q, e⟩ | ⟨q, e⟩
 · rw [e]
   simp only [zaw, ze9 (s := ⟨s.i, s.d + 1, s.ns⟩) hx, zhd (s := ⟨s.i, s.d + 1, s.ns⟩) hx, zhd hx, Bool.false_eq_true, if_false]
 · rw [e]
set_option maxHeartbeats 4000000 in
theorem zoy {rb : Nat} {ts : List za} {tv : Value} {en : Nat} {r : Rd} {n : Nat} (hr : RM rb ts tv en r n) (hro : zk ts r) (HL : ∀ (w : World) (v : Value) (kv : List Value) (s : PS), Mdr rb ts tv en w v kv s -> s.ns.length <= 8 * s.i -> ts.length < s.i + (n + 1) -> Calls Tryz.prog 85 #[.pointer (some ⟨rb, 0, none⟩), .int .i64 1] w (RmE rb ts tv en w v kv (lvP ts en r 1 s))) (w : World) (v : Value) (kv : List Value) (s : PS) (h : Mdr rb ts tv en w v kv s) (hp : s.ns.length <= 8 * s.i) (hf : ts.length < s.i + (n + 1)) :
 Calls Tryz.prog 36 #[.pointer (some ⟨rb, 0, none⟩)] w (RmE rb ts tv en w v kv (whP ts en r s)) := by
 have HS0 : Hid (Sm rb ts tv en w v kv w v [] s) := Sm.begin h
 have hT : ts.length <= 3000 := h.tl
 have hI : s.i <= ts.length := h.il
 clear h
 have lt := HS0.out.rd.lt
 have c1 := HS0.out.rd.c1
 have c3 := HS0.out.rd.c3
 have fz := HS0.out.rd.fz
 have wi := HS0.out.wri
 have c5 := HS0.out.rd.c5
 have wd := HS0.out.wrd
 go_enter Tryz.func36, Tryz.ntmps36
 cases hx : ts[(s).i]? with
 | none =>
   rw [zt8 hx r]
   go_wp2_with (go_at_call 84; refine (HS0.out.open_no (.inr hx)).mono ?_; rintro e w1 ⟨rfl, F1, b1⟩; clear lt c1 c3 c5 fz wi wd; have HR : Hid (Fl rb w1 _ _) := F1; have HB : Hid (Rf rb w v w1) := b1; have c3 := HR.out.c3; have lt := HR.out.lt; have ne := HR.out.ne; obtain ⟨dd, c5⟩ := HR.out.c5; have fz := HR.out.fz; clear F1 b1 HS0)
   try go_wp2_with (first | (go_at_call 17; refine (zc rb _ _ _ (HR.out.below ((Below.refl _ _).alloc (Nat.le_refl _) _)) _ _ _ _ _ _).mono ?_; rintro e wf ⟨rfl, bf⟩; have HB : Hid (Rf rb w v wf) := (HB.out.next ((Below.refl _ _).alloc (Nat.le_refl _) _)).next bf; have HR : Hid (Fl rb wf _ _) := (HR.out.below ((Below.refl _ _).alloc (Nat.le_refl _) _)).below bf; have c3 := HR.out.c3; have lt := HR.out.lt; clear bf) | (go_at_call 35; refine (zm rb _ _ _ HR.out _).mono ?_; rintro e wf ⟨rfl, -, bf⟩; have HB : Hid (Rf rb w v wf) := HB.out.next bf; have HR : Hid (Fl rb wf _ _) := HR.out.below bf; have c3 := HR.out.c3; have lt := HR.out.lt; clear bf) | (go_at_call 17; refine (zc rb _ _ _ HR.out _ _ _ _ _ _).mono ?_; rintro e wf ⟨rfl, bf⟩; have HB : Hid (Rf rb w v wf) := HB.out.next bf; have HR : Hid (Fl rb wf _ _) := HR.out.below bf; have c3 := HR.out.c3; have lt := HR.out.lt; clear bf) | (go_at_call 36; refine (zt rb _ _ _ HR.out).mono ?_; rintro e wf ⟨⟨nf, rfl⟩, -, bf⟩; have HB : Hid (Rf rb w v wf) := HB.out.next bf; have HR : Hid (Fl rb wf _ _) := HR.out.below bf; have c3 := HR.out.c3; have lt := HR.out.lt; clear bf) | (go_at_call 37; refine (zo rb _ _ _ HR.out).mono ?_; rintro e wf ⟨⟨nf, rfl⟩, -, bf⟩; have HB : Hid (Rf rb w v wf) := HB.out.next bf; have HR : Hid (Fl rb wf _ _) := HR.out.below bf; have c3 := HR.out.c3; have lt := HR.out.lt; clear bf))
   go_ret
   exact RmE.no HR.out HB.out (rfl)
 | some xo =>
   rcases za2 ts en s with ⟨q1, e1⟩ | ⟨q1, e1⟩
   · skip
     have p1 : ((⟨(s).i, (s).d + 1, (s).ns⟩ : PS)).ns.length <= 8 * ((⟨(s).i, (s).d + 1, (s).ns⟩ : PS)).i := hp
     have i1 : ((⟨(s).i, (s).d + 1, (s).ns⟩ : PS)).i = (s).i := rfl
     go_wp2_with (go_at_call 84; refine (HS0.out.open_yes xo hx q1).mono ?_; rintro e w1 ⟨rfl, h1⟩; have HS1 : Hid (Sm rb ts tv en w v kv _ _ _ (⟨(s).i, (s).d + 1, (s).ns⟩ : PS)) := h1; clear h1 HS0 lt c1 c3 c5 fz wi wd; have lt := HS1.out.rd.lt; have c1 := HS1.out.rd.c1; have c3 := HS1.out.rd.c3; have fz := HS1.out.rd.fz; have wi := HS1.out.wri; have c5 := True.intro; have wd := True.intro; (try dsimp only at c1 wi))
     rcases e2 : lvP ts en r 1 (⟨(s).i, (s).d + 1, (s).ns⟩ : PS) with ⟨x2⟩ | ⟨a2, s2⟩
     · skip
       go_wp2_with (go_at_call 85; refine (HS1.out.no (HL _ _ _ _ HS1.out.rd p1 (by omega)) e2).mono ?_; rintro e w2 ⟨⟨n2, rfl⟩, F2, b2⟩; clear lt c1 c3 c5 fz wi wd; have HR : Hid (Fl rb w2 _ _) := F2; have HB : Hid (Rf rb w v w2) := b2; have c3 := HR.out.c3; have lt := HR.out.lt; have ne := HR.out.ne; obtain ⟨dd, c5⟩ := HR.out.c5; have fz := HR.out.fz; clear F2 b2 HS1)
       go_ret
       exact RmE.no (HR.out.put5 _) (HB.out.put _ _) (by first | (simp only [whP, e1, e2, ↓reduceIte, Bool.false_eq_true, if_true, if_false, Bool.and_true, Bool.true_and, and_true, and_false, true_and, false_and]; done) | (simp only [whP, e1, e2, ↓reduceIte, Bool.false_eq_true, if_true, if_false, Bool.and_true, Bool.true_and, and_true, and_false, true_and, false_and]; rfl) | (simp [whP, e1, e2]; done) | (simp [whP, e1, e2]; rfl))
     · skip
       have o2 := zf3 ts en hro e2
       have p2 : s2.ns.length <= 8 * s2.i := by have := o2.1.phi p1; omega
       have i2 := o2.1.1
       have t2 := o2.1.2.1
       go_wp2_with (go_at_call 85; refine (HS1.out.yes (HL _ _ _ _ HS1.out.rd p1 (by omega)) e2).mono ?_; rintro e w2 ⟨rfl, v2, K2, h2⟩; have HS2 : Hid (Sm rb ts tv en w v kv _ _ _ s2) := h2; clear h2 HS1 lt c1 c3 c5 fz wi wd; have lt := HS2.out.rd.lt; have c1 := HS2.out.rd.c1; have c3 := HS2.out.rd.c3; have fz := HS2.out.rd.fz; have wi := HS2.out.wri; have c5 := HS2.out.rd.c5; have wd := HS2.out.wrd)
       have hd3 : 1 <= (s2).d := by have d : (s2).d = (s).d + 1 := o2.1.2.2.1; omega
       have HS3 : Hid (Sm rb ts tv en w v kv _ _ _ (zap s2)) := HS2.out.shut hd3
       have p3 : ((zap s2)).ns.length <= 8 * ((zap s2)).i := p2
       go_ret
       exact RmE.yes HS3.out (by first | (simp only [whP, e1, e2, ↓reduceIte, Bool.false_eq_true, if_true, if_false, Bool.and_true, Bool.true_and, and_true, and_false, true_and, false_and]; done) | (simp only [whP, e1, e2, ↓reduceIte, Bool.false_eq_true, if_true, if_false, Bool.and_true, Bool.true_and, and_true, and_false, true_and, false_and]; rfl) | (simp [whP, e1, e2]; done) | (simp [whP, e1, e2]; rfl))
   · skip
     go_wp2_with (go_at_call 84; refine (HS0.out.open_no (.inl q1)).mono ?_; rintro e w1 ⟨rfl, F1, b1⟩; clear lt c1 c3 c5 fz wi wd; have HR : Hid (Fl rb w1 _ _) := F1; have HB : Hid (Rf rb w v w1) := b1; have c3 := HR.out.c3; have lt := HR.out.lt; have ne := HR.out.ne; obtain ⟨dd, c5⟩ := HR.out.c5; have fz := HR.out.fz; clear F1 b1 HS0)
     try go_wp2_with (first | (go_at_call 17; refine (zc rb _ _ _ (HR.out.below ((Below.refl _ _).alloc (Nat.le_refl _) _)) _ _ _ _ _ _).mono ?_; rintro e wf ⟨rfl, bf⟩; have HB : Hid (Rf rb w v wf) := (HB.out.next ((Below.refl _ _).alloc (Nat.le_refl _) _)).next bf; have HR : Hid (Fl rb wf _ _) := (HR.out.below ((Below.refl _ _).alloc (Nat.le_refl _) _)).below bf; have c3 := HR.out.c3; have lt := HR.out.lt; clear bf) | (go_at_call 35; refine (zm rb _ _ _ HR.out _).mono ?_; rintro e wf ⟨rfl, -, bf⟩; have HB : Hid (Rf rb w v wf) := HB.out.next bf; have HR : Hid (Fl rb wf _ _) := HR.out.below bf; have c3 := HR.out.c3; have lt := HR.out.lt; clear bf) | (go_at_call 17; refine (zc rb _ _ _ HR.out _ _ _ _ _ _).mono ?_; rintro e wf ⟨rfl, bf⟩; have HB : Hid (Rf rb w v wf) := HB.out.next bf; have HR : Hid (Fl rb wf _ _) := HR.out.below bf; have c3 := HR.out.c3; have lt := HR.out.lt; clear bf) | (go_at_call 36; refine (zt rb _ _ _ HR.out).mono ?_; rintro e wf ⟨⟨nf, rfl⟩, -, bf⟩; have HB : Hid (Rf rb w v wf) := HB.out.next bf; have HR : Hid (Fl rb wf _ _) := HR.out.below bf; have c3 := HR.out.c3; have lt := HR.out.lt; clear bf) | (go_at_call 37; refine (zo rb _ _ _ HR.out).mono ?_; rintro e wf ⟨⟨nf, rfl⟩, -, bf⟩; have HB : Hid (Rf rb w v wf) := HB.out.next bf; have HR : Hid (Fl rb wf _ _) := HR.out.below bf; have c3 := HR.out.c3; have lt := HR.out.lt; clear bf))
     go_ret
     exact RmE.no HR.out HB.out (by first | (simp only [whP, e1, ↓reduceIte, Bool.false_eq_true, if_true, if_false, Bool.and_true, Bool.true_and, and_true, and_false, true_and, false_and]; done) | (simp only [whP, e1, ↓reduceIte, Bool.false_eq_true, if_true, if_false, Bool.and_true, Bool.true_and, and_true, and_false, true_and, false_and]; rfl) | (simp [whP, e1]; done) | (simp [whP, e1]; rfl))
def zcn (ts : List za) (en : Nat) (r : Rd) (s : PS) : Except (Int × Int) (Int × PS) := match zu ts en r s with
 | .error x => .error x
 | .ok (a, s1) => bhP ts en r (ts.length + 1) a s1
theorem zmj {ts : List za} {en : Nat} {r : Rd} {s : PS} (h : zy ts s = 0) : tnP ts en r s = zcn ts en r s := by
 unfold tnP
 rw [if_pos h]
 rfl
set_option maxHeartbeats 4000000 in
theorem zox {rb : Nat} {ts : List za} {tv : Value} {en : Nat} {r : Rd} {n : Nat} (hr : RM rb ts tv en r n) (hro : zk ts r) (HX : ∀ (w : World) (v : Value) (kv : List Value) (s : PS), Mdr rb ts tv en w v kv s -> s.ns.length <= 8 * s.i -> ts.length < s.i + (n + 1) -> Calls Tryz.prog 114 #[.pointer (some ⟨rb, 0, none⟩)] w (RmE rb ts tv en w v kv (zcn ts en r s))) (w : World) (v : Value) (kv : List Value) (s : PS) (h : Mdr rb ts tv en w v kv s) (hp : s.ns.length <= 8 * s.i) (hf : ts.length < s.i + (n + 1)) :
 Calls Tryz.prog 107 #[.pointer (some ⟨rb, 0, none⟩)] w (RmE rb ts tv en w v kv (tnP ts en r s)) := by
 have HS0 : Hid (Sm rb ts tv en w v kv w v [] s) := Sm.begin h
 have hT : ts.length <= 3000 := h.tl
 have hI : s.i <= ts.length := h.il
 clear h
 have lt := HS0.out.rd.lt
 have c1 := HS0.out.rd.c1
 have c3 := HS0.out.rd.c3
 have fz := HS0.out.rd.fz
 have wi := HS0.out.wri
 have c5 := HS0.out.rd.c5
 have wd := HS0.out.wrd
 go_enter Tryz.func107, Tryz.ntmps107
 cases e1 : isN ts ⟨#[45]⟩ s
 · skip
   go_wp2_with (go_at_call 33; refine (HS0.out.is ⟨#[45]⟩ false e1).mono ?_; rintro e w1 ⟨rfl, h1⟩; have HS1 : Hid (Sm rb ts tv en w v kv _ _ _ s) := h1; clear h1 HS0 lt c1 c3 c5 fz wi wd; have lt := HS1.out.rd.lt; have c1 := HS1.out.rd.c1; have c3 := HS1.out.rd.c3; have fz := HS1.out.rd.fz; have wi := HS1.out.wri; have c5 := HS1.out.rd.c5; have wd := HS1.out.wrd)
   cases e2 : isN ts ⟨#[110, 111, 116]⟩ s
   · skip
     go_wp2_with (go_at_call 33; refine (HS1.out.is ⟨#[110, 111, 116]⟩ false e2).mono ?_; rintro e w2 ⟨rfl, h2⟩; have HS2 : Hid (Sm rb ts tv en w v kv _ _ _ s) := h2; clear h2 HS1 lt c1 c3 c5 fz wi wd; have lt := HS2.out.rd.lt; have c1 := HS2.out.rd.c1; have c3 := HS2.out.rd.c3; have fz := HS2.out.rd.fz; have wi := HS2.out.wri; have c5 := HS2.out.rd.c5; have wd := HS2.out.wrd)
     cases e3 : isN ts ⟨#[35]⟩ s
     · skip
       go_wp2_with (go_at_call 33; refine (HS2.out.is ⟨#[35]⟩ false e3).mono ?_; rintro e w3 ⟨rfl, h3⟩; have HS3 : Hid (Sm rb ts tv en w v kv _ _ _ s) := h3; clear h3 HS2 lt c1 c3 c5 fz wi wd; have lt := HS3.out.rd.lt; have c1 := HS3.out.rd.c1; have c3 := HS3.out.rd.c3; have fz := HS3.out.rd.fz; have wi := HS3.out.wri; have c5 := HS3.out.rd.c5; have wd := HS3.out.wrd)
       rcases e4 : zcn ts en r s with ⟨x4⟩ | ⟨a4, s4⟩
       · skip
         go_wp2_with (go_at_call 114; refine (HS3.out.no (HX _ _ _ _ HS3.out.rd hp (by omega)) e4).mono ?_; rintro e w4 ⟨⟨n4, rfl⟩, F4, b4⟩; clear lt c1 c3 c5 fz wi wd; have HR : Hid (Fl rb w4 _ _) := F4; have HB : Hid (Rf rb w v w4) := b4; have c3 := HR.out.c3; have lt := HR.out.lt; have ne := HR.out.ne; obtain ⟨dd, c5⟩ := HR.out.c5; have fz := HR.out.fz; clear F4 b4 HS3)
         try go_wp2_with (first | (go_at_call 17; refine (zc rb _ _ _ (HR.out.below ((Below.refl _ _).alloc (Nat.le_refl _) _)) _ _ _ _ _ _).mono ?_; rintro e wf ⟨rfl, bf⟩; have HB : Hid (Rf rb w v wf) := (HB.out.next ((Below.refl _ _).alloc (Nat.le_refl _) _)).next bf; have HR : Hid (Fl rb wf _ _) := (HR.out.below ((Below.refl _ _).alloc (Nat.le_refl _) _)).below bf; have c3 := HR.out.c3; have lt := HR.out.lt; clear bf) | (go_at_call 35; refine (zm rb _ _ _ HR.out _).mono ?_; rintro e wf ⟨rfl, -, bf⟩; have HB : Hid (Rf rb w v wf) := HB.out.next bf; have HR : Hid (Fl rb wf _ _) := HR.out.below bf; have c3 := HR.out.c3; have lt := HR.out.lt; clear bf) | (go_at_call 17; refine (zc rb _ _ _ HR.out _ _ _ _ _ _).mono ?_; rintro e wf ⟨rfl, bf⟩; have HB : Hid (Rf rb w v wf) := HB.out.next bf; have HR : Hid (Fl rb wf _ _) := HR.out.below bf; have c3 := HR.out.c3; have lt := HR.out.lt; clear bf) | (go_at_call 36; refine (zt rb _ _ _ HR.out).mono ?_; rintro e wf ⟨⟨nf, rfl⟩, -, bf⟩; have HB : Hid (Rf rb w v wf) := HB.out.next bf; have HR : Hid (Fl rb wf _ _) := HR.out.below bf; have c3 := HR.out.c3; have lt := HR.out.lt; clear bf) | (go_at_call 37; refine (zo rb _ _ _ HR.out).mono ?_; rintro e wf ⟨⟨nf, rfl⟩, -, bf⟩; have HB : Hid (Rf rb w v wf) := HB.out.next bf; have HR : Hid (Fl rb wf _ _) := HR.out.below bf; have c3 := HR.out.c3; have lt := HR.out.lt; clear bf))
         go_ret
         exact RmE.no HR.out HB.out ((zmj (by simp only [zy, e1, e2, e3, Bool.false_eq_true, if_false])).trans e4)
       · skip
         go_wp2_with (go_at_call 114; refine (HS3.out.yes (HX _ _ _ _ HS3.out.rd hp (by omega)) e4).mono ?_; rintro e w4 ⟨rfl, v4, K4, h4⟩; have HS4 : Hid (Sm rb ts tv en w v kv _ _ _ s4) := h4; clear h4 HS3 lt c1 c3 c5 fz wi wd; have lt := HS4.out.rd.lt; have c1 := HS4.out.rd.c1; have c3 := HS4.out.rd.c3; have fz := HS4.out.rd.fz; have wi := HS4.out.wri; have c5 := HS4.out.rd.c5; have wd := HS4.out.wrd)
         go_ret
         exact RmE.yes HS4.out ((zmj (by simp only [zy, e1, e2, e3, Bool.false_eq_true, if_false])).trans e4)
     · skip
       go_wp2_with (go_at_call 33; refine (HS2.out.is ⟨#[35]⟩ true e3).mono ?_; rintro e w3 ⟨rfl, h3⟩; have HS3 : Hid (Sm rb ts tv en w v kv _ _ _ s) := h3; clear h3 HS2 lt c1 c3 c5 fz wi wd; have lt := HS3.out.rd.lt; have c1 := HS3.out.rd.c1; have c3 := HS3.out.rd.c3; have fz := HS3.out.rd.fz; have wi := HS3.out.wri; have c5 := HS3.out.rd.c5; have wd := HS3.out.wrd)
       obtain ⟨xo, hxo, hlo⟩ := zah e3
       rcases za2 ts en s with ⟨q4, e4⟩ | ⟨q4, e4⟩
       · skip
         have p4 : ((⟨(s).i, (s).d + 1, (s).ns⟩ : PS)).ns.length <= 8 * ((⟨(s).i, (s).d + 1, (s).ns⟩ : PS)).i := hp
         have i4 : ((⟨(s).i, (s).d + 1, (s).ns⟩ : PS)).i = (s).i := rfl
         go_wp2_with (go_at_call 84; refine (HS3.out.open_yes xo hxo q4).mono ?_; rintro e w4 ⟨rfl, h4⟩; have HS4 : Hid (Sm rb ts tv en w v kv _ _ _ (⟨(s).i, (s).d + 1, (s).ns⟩ : PS)) := h4; clear h4 HS3 lt c1 c3 c5 fz wi wd; have lt := HS4.out.rd.lt; have c1 := HS4.out.rd.c1; have c3 := HS4.out.rd.c3; have fz := HS4.out.rd.fz; have wi := HS4.out.wri; have c5 := True.intro; have wd := True.intro; (try dsimp only at c1 wi))
         have HS5 : Hid (Sm rb ts tv en w v kv _ _ _ (adv (⟨(s).i, (s).d + 1, (s).ns⟩ : PS))) := HS4.out.adv hlo
         have p5 : ((adv (⟨(s).i, (s).d + 1, (s).ns⟩ : PS))).ns.length <= 8 * ((adv (⟨(s).i, (s).d + 1, (s).ns⟩ : PS))).i := Nat.le_trans p4 (Nat.mul_le_mul_left 8 (Nat.le_succ _))
         have i5 : ((adv (⟨(s).i, (s).d + 1, (s).ns⟩ : PS))).i = ((⟨(s).i, (s).d + 1, (s).ns⟩ : PS)).i + 1 := rfl
         rcases e6 : r.tn (adv (⟨(s).i, (s).d + 1, (s).ns⟩ : PS)) with ⟨x6⟩ | ⟨a6, s6⟩
         · skip
           go_wp2_with (go_at_call 107; refine (HS5.out.no (hr.tn _ _ _ _ HS5.out.rd p5 (by omega)) e6).mono ?_; rintro e w6 ⟨⟨n6, rfl⟩, F6, b6⟩; clear lt c1 c3 c5 fz wi wd HS4; have HR : Hid (Fl rb w6 _ _) := F6; have HB : Hid (Rf rb w v w6) := b6; have c3 := HR.out.c3; have lt := HR.out.lt; have ne := HR.out.ne; obtain ⟨dd, c5⟩ := HR.out.c5; have fz := HR.out.fz; clear F6 b6 HS5)
           go_wp2_with (go_at_call 17; refine (zc rb _ _ _ ((HR.out.put5 _).below ((Below.refl _ _).alloc (Nat.le_refl _) _)) _ _ _ _ _ _).mono ?_; rintro e wf ⟨rfl, bf⟩; have HB : Hid (Rf rb w v wf) := ((HB.out.put _ _).next ((Below.refl _ _).alloc (Nat.le_refl _) _)).next bf; have HR : Hid (Fl rb wf _ _) := ((HR.out.put5 _).below ((Below.refl _ _).alloc (Nat.le_refl _) _)).below bf; clear bf)
           go_ret
           exact RmE.no HR.out HB.out (by first | (simp only [tnP, zy, e1, e2, e3, e4, e6, ↓reduceIte, Bool.false_eq_true, if_true, if_false, Bool.and_true, Bool.true_and, and_true, and_false, true_and, false_and]; done) | (simp only [tnP, zy, e1, e2, e3, e4, e6, ↓reduceIte, Bool.false_eq_true, if_true, if_false, Bool.and_true, Bool.true_and, and_true, and_false, true_and, false_and]; rfl) | (simp [tnP, zy, e1, e2, e3, e4, e6]; done) | (simp [tnP, zy, e1, e2, e3, e4, e6]; rfl))
         · skip
           have o6 := hro.tn e6
           have p6 : s6.ns.length <= 8 * s6.i := by have := o6.1.phi p5; omega
           have i6 := o6.1.1
           have t6 := o6.1.2.1
           go_wp2_with (go_at_call 107; refine (HS5.out.yes (hr.tn _ _ _ _ HS5.out.rd p5 (by omega)) e6).mono ?_; rintro e w6 ⟨rfl, v6, K6, h6⟩; have HS6 : Hid (Sm rb ts tv en w v kv _ _ _ s6) := h6; clear h6 HS5 lt c1 c3 c5 fz wi wd HS4; have lt := HS6.out.rd.lt; have c1 := HS6.out.rd.c1; have c3 := HS6.out.rd.c3; have fz := HS6.out.rd.fz; have wi := HS6.out.wri; have c5 := HS6.out.rd.c5; have wd := HS6.out.wrd)
           have hd7 : 1 <= (s6).d := by have d : (s6).d = (s).d + 1 := o6.1.2.2.1; omega
           have HS7 : Hid (Sm rb ts tv en w v kv _ _ _ (zap s6)) := HS6.out.shut hd7
           have p7 : ((zap s6)).ns.length <= 8 * ((zap s6)).i := p6
           go_wp2_with (go_at_call 17; refine (HS7.out.nodeN [a6] 11 eT 3 (by simp) (by have := HS7.out.rd.il; omega) _ _ _ (by simp) rfl rfl).mono ?_; rintro e w8 ⟨rfl, v8, K8, h8⟩; have HS8 : Hid (Sm rb ts tv en w v kv _ _ _ (zb 11 eT 3 [a6] (zap s6)).2) := h8; clear h8 HS7 lt c1 c3 c5 fz wi wd HS6; have lt := HS8.out.rd.lt; have c1 := HS8.out.rd.c1; have c3 := HS8.out.rd.c3; have fz := HS8.out.rd.fz; have wi := HS8.out.wri; have c5 := True.intro; have wd := True.intro; (try dsimp only at c1 wi))
           go_ret
           exact RmE.yes HS8.out (by first | (simp only [tnP, zy, e1, e2, e3, e4, e6, ↓reduceIte, Bool.false_eq_true, if_true, if_false, Bool.and_true, Bool.true_and, and_true, and_false, true_and, false_and]; done) | (simp only [tnP, zy, e1, e2, e3, e4, e6, ↓reduceIte, Bool.false_eq_true, if_true, if_false, Bool.and_true, Bool.true_and, and_true, and_false, true_and, false_and]; rfl) | (simp [tnP, zy, e1, e2, e3, e4, e6]; done) | (simp [tnP, zy, e1, e2, e3, e4, e6]; rfl))
       · skip
         go_wp2_with (go_at_call 84; refine (HS3.out.open_no (.inl q4)).mono ?_; rintro e w4 ⟨rfl, F4, b4⟩; clear lt c1 c3 c5 fz wi wd; have HR : Hid (Fl rb w4 _ _) := F4; have HB : Hid (Rf rb w v w4) := b4; have c3 := HR.out.c3; have lt := HR.out.lt; have ne := HR.out.ne; obtain ⟨dd, c5⟩ := HR.out.c5; have fz := HR.out.fz; clear F4 b4 HS3)
         try go_wp2_with (first | (go_at_call 17; refine (zc rb _ _ _ (HR.out.below ((Below.refl _ _).alloc (Nat.le_refl _) _)) _ _ _ _ _ _).mono ?_; rintro e wf ⟨rfl, bf⟩; have HB : Hid (Rf rb w v wf) := (HB.out.next ((Below.refl _ _).alloc (Nat.le_refl _) _)).next bf; have HR : Hid (Fl rb wf _ _) := (HR.out.below ((Below.refl _ _).alloc (Nat.le_refl _) _)).below bf; have c3 := HR.out.c3; have lt := HR.out.lt; clear bf) | (go_at_call 35; refine (zm rb _ _ _ HR.out _).mono ?_; rintro e wf ⟨rfl, -, bf⟩; have HB : Hid (Rf rb w v wf) := HB.out.next bf; have HR : Hid (Fl rb wf _ _) := HR.out.below bf; have c3 := HR.out.c3; have lt := HR.out.lt; clear bf) | (go_at_call 17; refine (zc rb _ _ _ HR.out _ _ _ _ _ _).mono ?_; rintro e wf ⟨rfl, bf⟩; have HB : Hid (Rf rb w v wf) := HB.out.next bf; have HR : Hid (Fl rb wf _ _) := HR.out.below bf; have c3 := HR.out.c3; have lt := HR.out.lt; clear bf) | (go_at_call 36; refine (zt rb _ _ _ HR.out).mono ?_; rintro e wf ⟨⟨nf, rfl⟩, -, bf⟩; have HB : Hid (Rf rb w v wf) := HB.out.next bf; have HR : Hid (Fl rb wf _ _) := HR.out.below bf; have c3 := HR.out.c3; have lt := HR.out.lt; clear bf) | (go_at_call 37; refine (zo rb _ _ _ HR.out).mono ?_; rintro e wf ⟨⟨nf, rfl⟩, -, bf⟩; have HB : Hid (Rf rb w v wf) := HB.out.next bf; have HR : Hid (Fl rb wf _ _) := HR.out.below bf; have c3 := HR.out.c3; have lt := HR.out.lt; clear bf))
         go_ret
         exact RmE.no HR.out HB.out (by first | (simp only [tnP, zy, e1, e2, e3, e4, ↓reduceIte, Bool.false_eq_true, if_true, if_false, Bool.and_true, Bool.true_and, and_true, and_false, true_and, false_and]; done) | (simp only [tnP, zy, e1, e2, e3, e4, ↓reduceIte, Bool.false_eq_true, if_true, if_false, Bool.and_true, Bool.true_and, and_true, and_false, true_and, false_and]; rfl) | (simp [tnP, zy, e1, e2, e3, e4]; done) | (simp [tnP, zy, e1, e2, e3, e4]; rfl))
   · skip
     go_wp2_with (go_at_call 33; refine (HS1.out.is ⟨#[110, 111, 116]⟩ true e2).mono ?_; rintro e w2 ⟨rfl, h2⟩; have HS2 : Hid (Sm rb ts tv en w v kv _ _ _ s) := h2; clear h2 HS1 lt c1 c3 c5 fz wi wd; have lt := HS2.out.rd.lt; have c1 := HS2.out.rd.c1; have c3 := HS2.out.rd.c3; have fz := HS2.out.rd.fz; have wi := HS2.out.wri; have c5 := HS2.out.rd.c5; have wd := HS2.out.wrd)
     obtain ⟨xo, hxo, hlo⟩ := zah e2
     rcases za2 ts en s with ⟨q3, e3⟩ | ⟨q3, e3⟩
     · skip
       have p3 : ((⟨(s).i, (s).d + 1, (s).ns⟩ : PS)).ns.length <= 8 * ((⟨(s).i, (s).d + 1, (s).ns⟩ : PS)).i := hp
       have i3 : ((⟨(s).i, (s).d + 1, (s).ns⟩ : PS)).i = (s).i := rfl
       go_wp2_with (go_at_call 84; refine (HS2.out.open_yes xo hxo q3).mono ?_; rintro e w3 ⟨rfl, h3⟩; have HS3 : Hid (Sm rb ts tv en w v kv _ _ _ (⟨(s).i, (s).d + 1, (s).ns⟩ : PS)) := h3; clear h3 HS2 lt c1 c3 c5 fz wi wd; have lt := HS3.out.rd.lt; have c1 := HS3.out.rd.c1; have c3 := HS3.out.rd.c3; have fz := HS3.out.rd.fz; have wi := HS3.out.wri; have c5 := True.intro; have wd := True.intro; (try dsimp only at c1 wi))
       have HS4 : Hid (Sm rb ts tv en w v kv _ _ _ (adv (⟨(s).i, (s).d + 1, (s).ns⟩ : PS))) := HS3.out.adv hlo
       have p4 : ((adv (⟨(s).i, (s).d + 1, (s).ns⟩ : PS))).ns.length <= 8 * ((adv (⟨(s).i, (s).d + 1, (s).ns⟩ : PS))).i := Nat.le_trans p3 (Nat.mul_le_mul_left 8 (Nat.le_succ _))
       have i4 : ((adv (⟨(s).i, (s).d + 1, (s).ns⟩ : PS))).i = ((⟨(s).i, (s).d + 1, (s).ns⟩ : PS)).i + 1 := rfl
       rcases e5 : r.tn (adv (⟨(s).i, (s).d + 1, (s).ns⟩ : PS)) with ⟨x5⟩ | ⟨a5, s5⟩
       · skip
         go_wp2_with (go_at_call 107; refine (HS4.out.no (hr.tn _ _ _ _ HS4.out.rd p4 (by omega)) e5).mono ?_; rintro e w5 ⟨⟨n5, rfl⟩, F5, b5⟩; clear lt c1 c3 c5 fz wi wd HS3; have HR : Hid (Fl rb w5 _ _) := F5; have HB : Hid (Rf rb w v w5) := b5; have c3 := HR.out.c3; have lt := HR.out.lt; have ne := HR.out.ne; obtain ⟨dd, c5⟩ := HR.out.c5; have fz := HR.out.fz; clear F5 b5 HS4)
         go_wp2_with (go_at_call 17; refine (zc rb _ _ _ ((HR.out.put5 _).below ((Below.refl _ _).alloc (Nat.le_refl _) _)) _ _ _ _ _ _).mono ?_; rintro e wf ⟨rfl, bf⟩; have HB : Hid (Rf rb w v wf) := ((HB.out.put _ _).next ((Below.refl _ _).alloc (Nat.le_refl _) _)).next bf; have HR : Hid (Fl rb wf _ _) := ((HR.out.put5 _).below ((Below.refl _ _).alloc (Nat.le_refl _) _)).below bf; clear bf)
         go_ret
         exact RmE.no HR.out HB.out (by first | (simp only [tnP, zy, e1, e2, e3, e5, ↓reduceIte, Bool.false_eq_true, if_true, if_false, Bool.and_true, Bool.true_and, and_true, and_false, true_and, false_and]; done) | (simp only [tnP, zy, e1, e2, e3, e5, ↓reduceIte, Bool.false_eq_true, if_true, if_false, Bool.and_true, Bool.true_and, and_true, and_false, true_and, false_and]; rfl) | (simp [tnP, zy, e1, e2, e3, e5]; done) | (simp [tnP, zy, e1, e2, e3, e5]; rfl))
       · skip
         have o5 := hro.tn e5
         have p5 : s5.ns.length <= 8 * s5.i := by have := o5.1.phi p4; omega
         have i5 := o5.1.1
         have t5 := o5.1.2.1
         go_wp2_with (go_at_call 107; refine (HS4.out.yes (hr.tn _ _ _ _ HS4.out.rd p4 (by omega)) e5).mono ?_; rintro e w5 ⟨rfl, v5, K5, h5⟩; have HS5 : Hid (Sm rb ts tv en w v kv _ _ _ s5) := h5; clear h5 HS4 lt c1 c3 c5 fz wi wd HS3; have lt := HS5.out.rd.lt; have c1 := HS5.out.rd.c1; have c3 := HS5.out.rd.c3; have fz := HS5.out.rd.fz; have wi := HS5.out.wri; have c5 := HS5.out.rd.c5; have wd := HS5.out.wrd)
         have hd6 : 1 <= (s5).d := by have d : (s5).d = (s).d + 1 := o5.1.2.2.1; omega
         have HS6 : Hid (Sm rb ts tv en w v kv _ _ _ (zap s5)) := HS5.out.shut hd6
         have p6 : ((zap s5)).ns.length <= 8 * ((zap s5)).i := p5
         go_wp2_with (go_at_call 17; refine (HS6.out.nodeN [a5] 11 eT 2 (by simp) (by have := HS6.out.rd.il; omega) _ _ _ (by simp) rfl rfl).mono ?_; rintro e w7 ⟨rfl, v7, K7, h7⟩; have HS7 : Hid (Sm rb ts tv en w v kv _ _ _ (zb 11 eT 2 [a5] (zap s5)).2) := h7; clear h7 HS6 lt c1 c3 c5 fz wi wd HS5; have lt := HS7.out.rd.lt; have c1 := HS7.out.rd.c1; have c3 := HS7.out.rd.c3; have fz := HS7.out.rd.fz; have wi := HS7.out.wri; have c5 := True.intro; have wd := True.intro; (try dsimp only at c1 wi))
         go_ret
         exact RmE.yes HS7.out (by first | (simp only [tnP, zy, e1, e2, e3, e5, ↓reduceIte, Bool.false_eq_true, if_true, if_false, Bool.and_true, Bool.true_and, and_true, and_false, true_and, false_and]; done) | (simp only [tnP, zy, e1, e2, e3, e5, ↓reduceIte, Bool.false_eq_true, if_true, if_false, Bool.and_true, Bool.true_and, and_true, and_false, true_and, false_and]; rfl) | (simp [tnP, zy, e1, e2, e3, e5]; done) | (simp [tnP, zy, e1, e2, e3, e5]; rfl))
     · skip
       go_wp2_with (go_at_call 84; refine (HS2.out.open_no (.inl q3)).mono ?_; rintro e w3 ⟨rfl, F3, b3⟩; clear lt c1 c3 c5 fz wi wd; have HR : Hid (Fl rb w3 _ _) := F3; have HB : Hid (Rf rb w v w3) := b3; have c3 := HR.out.c3; have lt := HR.out.lt; have ne := HR.out.ne; obtain ⟨dd, c5⟩ := HR.out.c5; have fz := HR.out.fz; clear F3 b3 HS2)
       try go_wp2_with (first | (go_at_call 17; refine (zc rb _ _ _ (HR.out.below ((Below.refl _ _).alloc (Nat.le_refl _) _)) _ _ _ _ _ _).mono ?_; rintro e wf ⟨rfl, bf⟩; have HB : Hid (Rf rb w v wf) := (HB.out.next ((Below.refl _ _).alloc (Nat.le_refl _) _)).next bf; have HR : Hid (Fl rb wf _ _) := (HR.out.below ((Below.refl _ _).alloc (Nat.le_refl _) _)).below bf; have c3 := HR.out.c3; have lt := HR.out.lt; clear bf) | (go_at_call 35; refine (zm rb _ _ _ HR.out _).mono ?_; rintro e wf ⟨rfl, -, bf⟩; have HB : Hid (Rf rb w v wf) := HB.out.next bf; have HR : Hid (Fl rb wf _ _) := HR.out.below bf; have c3 := HR.out.c3; have lt := HR.out.lt; clear bf) | (go_at_call 17; refine (zc rb _ _ _ HR.out _ _ _ _ _ _).mono ?_; rintro e wf ⟨rfl, bf⟩; have HB : Hid (Rf rb w v wf) := HB.out.next bf; have HR : Hid (Fl rb wf _ _) := HR.out.below bf; have c3 := HR.out.c3; have lt := HR.out.lt; clear bf) | (go_at_call 36; refine (zt rb _ _ _ HR.out).mono ?_; rintro e wf ⟨⟨nf, rfl⟩, -, bf⟩; have HB : Hid (Rf rb w v wf) := HB.out.next bf; have HR : Hid (Fl rb wf _ _) := HR.out.below bf; have c3 := HR.out.c3; have lt := HR.out.lt; clear bf) | (go_at_call 37; refine (zo rb _ _ _ HR.out).mono ?_; rintro e wf ⟨⟨nf, rfl⟩, -, bf⟩; have HB : Hid (Rf rb w v wf) := HB.out.next bf; have HR : Hid (Fl rb wf _ _) := HR.out.below bf; have c3 := HR.out.c3; have lt := HR.out.lt; clear bf))
       go_ret
       exact RmE.no HR.out HB.out (by first | (simp only [tnP, zy, e1, e2, e3, ↓reduceIte, Bool.false_eq_true, if_true, if_false, Bool.and_true, Bool.true_and, and_true, and_false, true_and, false_and]; done) | (simp only [tnP, zy, e1, e2, e3, ↓reduceIte, Bool.false_eq_true, if_true, if_false, Bool.and_true, Bool.true_and, and_true, and_false, true_and, false_and]; rfl) | (simp [tnP, zy, e1, e2, e3]; done) | (simp [tnP, zy, e1, e2, e3]; rfl))
 · skip
   go_wp2_with (go_at_call 33; refine (HS0.out.is ⟨#[45]⟩ true e1).mono ?_; rintro e w1 ⟨rfl, h1⟩; have HS1 : Hid (Sm rb ts tv en w v kv _ _ _ s) := h1; clear h1 HS0 lt c1 c3 c5 fz wi wd; have lt := HS1.out.rd.lt; have c1 := HS1.out.rd.c1; have c3 := HS1.out.rd.c3; have fz := HS1.out.rd.fz; have wi := HS1.out.wri; have c5 := HS1.out.rd.c5; have wd := HS1.out.wrd)
   obtain ⟨xo, hxo, hlo⟩ := zah e1
   rcases za2 ts en s with ⟨q2, e2⟩ | ⟨q2, e2⟩
   · skip
     have p2 : ((⟨(s).i, (s).d + 1, (s).ns⟩ : PS)).ns.length <= 8 * ((⟨(s).i, (s).d + 1, (s).ns⟩ : PS)).i := hp
     have i2 : ((⟨(s).i, (s).d + 1, (s).ns⟩ : PS)).i = (s).i := rfl
     go_wp2_with (go_at_call 84; refine (HS1.out.open_yes xo hxo q2).mono ?_; rintro e w2 ⟨rfl, h2⟩; have HS2 : Hid (Sm rb ts tv en w v kv _ _ _ (⟨(s).i, (s).d + 1, (s).ns⟩ : PS)) := h2; clear h2 HS1 lt c1 c3 c5 fz wi wd; have lt := HS2.out.rd.lt; have c1 := HS2.out.rd.c1; have c3 := HS2.out.rd.c3; have fz := HS2.out.rd.fz; have wi := HS2.out.wri; have c5 := True.intro; have wd := True.intro; (try dsimp only at c1 wi))
     have HS3 : Hid (Sm rb ts tv en w v kv _ _ _ (adv (⟨(s).i, (s).d + 1, (s).ns⟩ : PS))) := HS2.out.adv hlo
     have p3 : ((adv (⟨(s).i, (s).d + 1, (s).ns⟩ : PS))).ns.length <= 8 * ((adv (⟨(s).i, (s).d + 1, (s).ns⟩ : PS))).i := Nat.le_trans p2 (Nat.mul_le_mul_left 8 (Nat.le_succ _))
     have i3 : ((adv (⟨(s).i, (s).d + 1, (s).ns⟩ : PS))).i = ((⟨(s).i, (s).d + 1, (s).ns⟩ : PS)).i + 1 := rfl
     rcases e4 : r.tn (adv (⟨(s).i, (s).d + 1, (s).ns⟩ : PS)) with ⟨x4⟩ | ⟨a4, s4⟩
     · skip
       go_wp2_with (go_at_call 107; refine (HS3.out.no (hr.tn _ _ _ _ HS3.out.rd p3 (by omega)) e4).mono ?_; rintro e w4 ⟨⟨n4, rfl⟩, F4, b4⟩; clear lt c1 c3 c5 fz wi wd HS2; have HR : Hid (Fl rb w4 _ _) := F4; have HB : Hid (Rf rb w v w4) := b4; have c3 := HR.out.c3; have lt := HR.out.lt; have ne := HR.out.ne; obtain ⟨dd, c5⟩ := HR.out.c5; have fz := HR.out.fz; clear F4 b4 HS3)
       go_wp2_with (go_at_call 17; refine (zc rb _ _ _ ((HR.out.put5 _).below ((Below.refl _ _).alloc (Nat.le_refl _) _)) _ _ _ _ _ _).mono ?_; rintro e wf ⟨rfl, bf⟩; have HB : Hid (Rf rb w v wf) := ((HB.out.put _ _).next ((Below.refl _ _).alloc (Nat.le_refl _) _)).next bf; have HR : Hid (Fl rb wf _ _) := ((HR.out.put5 _).below ((Below.refl _ _).alloc (Nat.le_refl _) _)).below bf; clear bf)
       go_ret
       exact RmE.no HR.out HB.out (by first | (simp only [tnP, zy, e1, e2, e4, ↓reduceIte, Bool.false_eq_true, if_true, if_false, Bool.and_true, Bool.true_and, and_true, and_false, true_and, false_and]; done) | (simp only [tnP, zy, e1, e2, e4, ↓reduceIte, Bool.false_eq_true, if_true, if_false, Bool.and_true, Bool.true_and, and_true, and_false, true_and, false_and]; rfl) | (simp [tnP, zy, e1, e2, e4]; done) | (simp [tnP, zy, e1, e2, e4]; rfl))
     · skip
       have o4 := hro.tn e4
       have p4 : s4.ns.length <= 8 * s4.i := by have := o4.1.phi p3; omega
       have i4 := o4.1.1
       have t4 := o4.1.2.1
       go_wp2_with (go_at_call 107; refine (HS3.out.yes (hr.tn _ _ _ _ HS3.out.rd p3 (by omega)) e4).mono ?_; rintro e w4 ⟨rfl, v4, K4, h4⟩; have HS4 : Hid (Sm rb ts tv en w v kv _ _ _ s4) := h4; clear h4 HS3 lt c1 c3 c5 fz wi wd HS2; have lt := HS4.out.rd.lt; have c1 := HS4.out.rd.c1; have c3 := HS4.out.rd.c3; have fz := HS4.out.rd.fz; have wi := HS4.out.wri; have c5 := HS4.out.rd.c5; have wd := HS4.out.wrd)
       have hd5 : 1 <= (s4).d := by have d : (s4).d = (s).d + 1 := o4.1.2.2.1; omega
       have HS5 : Hid (Sm rb ts tv en w v kv _ _ _ (zap s4)) := HS4.out.shut hd5
       have p5 : ((zap s4)).ns.length <= 8 * ((zap s4)).i := p4
       go_wp2_with (go_at_call 17; refine (HS5.out.nodeN [a4] 11 eT 1 (by simp) (by have := HS5.out.rd.il; omega) _ _ _ (by simp) rfl rfl).mono ?_; rintro e w6 ⟨rfl, v6, K6, h6⟩; have HS6 : Hid (Sm rb ts tv en w v kv _ _ _ (zb 11 eT 1 [a4] (zap s4)).2) := h6; clear h6 HS5 lt c1 c3 c5 fz wi wd HS4; have lt := HS6.out.rd.lt; have c1 := HS6.out.rd.c1; have c3 := HS6.out.rd.c3; have fz := HS6.out.rd.fz; have wi := HS6.out.wri; have c5 := True.intro; have wd := True.intro; (try dsimp only at c1 wi))
       go_ret
       exact RmE.yes HS6.out (by first | (simp only [tnP, zy, e1, e2, e4, ↓reduceIte, Bool.false_eq_true, if_true, if_false, Bool.and_true, Bool.true_and, and_true, and_false, true_and, false_and]; done) | (simp only [tnP, zy, e1, e2, e4, ↓reduceIte, Bool.false_eq_true, if_true, if_false, Bool.and_true, Bool.true_and, and_true, and_false, true_and, false_and]; rfl) | (simp [tnP, zy, e1, e2, e4]; done) | (simp [tnP, zy, e1, e2, e4]; rfl))
   · skip
     go_wp2_with (go_at_call 84; refine (HS1.out.open_no (.inl q2)).mono ?_; rintro e w2 ⟨rfl, F2, b2⟩; clear lt c1 c3 c5 fz wi wd; have HR : Hid (Fl rb w2 _ _) := F2; have HB : Hid (Rf rb w v w2) := b2; have c3 := HR.out.c3; have lt := HR.out.lt; have ne := HR.out.ne; obtain ⟨dd, c5⟩ := HR.out.c5; have fz := HR.out.fz; clear F2 b2 HS1)
     try go_wp2_with (first | (go_at_call 17; refine (zc rb _ _ _ (HR.out.below ((Below.refl _ _).alloc (Nat.le_refl _) _)) _ _ _ _ _ _).mono ?_; rintro e wf ⟨rfl, bf⟩; have HB : Hid (Rf rb w v wf) := (HB.out.next ((Below.refl _ _).alloc (Nat.le_refl _) _)).next bf; have HR : Hid (Fl rb wf _ _) := (HR.out.below ((Below.refl _ _).alloc (Nat.le_refl _) _)).below bf; have c3 := HR.out.c3; have lt := HR.out.lt; clear bf) | (go_at_call 35; refine (zm rb _ _ _ HR.out _).mono ?_; rintro e wf ⟨rfl, -, bf⟩; have HB : Hid (Rf rb w v wf) := HB.out.next bf; have HR : Hid (Fl rb wf _ _) := HR.out.below bf; have c3 := HR.out.c3; have lt := HR.out.lt; clear bf) | (go_at_call 17; refine (zc rb _ _ _ HR.out _ _ _ _ _ _).mono ?_; rintro e wf ⟨rfl, bf⟩; have HB : Hid (Rf rb w v wf) := HB.out.next bf; have HR : Hid (Fl rb wf _ _) := HR.out.below bf; have c3 := HR.out.c3; have lt := HR.out.lt; clear bf) | (go_at_call 36; refine (zt rb _ _ _ HR.out).mono ?_; rintro e wf ⟨⟨nf, rfl⟩, -, bf⟩; have HB : Hid (Rf rb w v wf) := HB.out.next bf; have HR : Hid (Fl rb wf _ _) := HR.out.below bf; have c3 := HR.out.c3; have lt := HR.out.lt; clear bf) | (go_at_call 37; refine (zo rb _ _ _ HR.out).mono ?_; rintro e wf ⟨⟨nf, rfl⟩, -, bf⟩; have HB : Hid (Rf rb w v wf) := HB.out.next bf; have HR : Hid (Fl rb wf _ _) := HR.out.below bf; have c3 := HR.out.c3; have lt := HR.out.lt; clear bf))
     go_ret
     exact RmE.no HR.out HB.out (by first | (simp only [tnP, zy, e1, e2, ↓reduceIte, Bool.false_eq_true, if_true, if_false, Bool.and_true, Bool.true_and, and_true, and_false, true_and, false_and]; done) | (simp only [tnP, zy, e1, e2, ↓reduceIte, Bool.false_eq_true, if_true, if_false, Bool.and_true, Bool.true_and, and_true, and_false, true_and, false_and]; rfl) | (simp [tnP, zy, e1, e2]; done) | (simp [tnP, zy, e1, e2]; rfl))
end Go.Proofs.YtiglkhkfbgjjoaaGreatDoor
