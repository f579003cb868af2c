/- - -/
import Derived.Test.YtiglkhkfbgjjoaaGreatDoorPMpJ
import Derived.Test.YtiglkhkfbgjjoaaGreatDoorPMpG
namespace Go.Proofs.YtiglkhkfbgjjoaaGreatDoor
set_option maxRecDepth 20000
open Go.RowKit Go.PlainAid Go.Maps
set_option linter.unusedSimpArgs false
set_option linter.unusedVariables false
def msr (rb : Nat) (w : World) : Nat := match w.cell? ⟨rb, 3, none⟩, w.cell? ⟨rb, 1, none⟩ with
 | some (.int _ c), some (.int _ i) => if c = 0 then 3001 - i.toNat else 0
 | _, _ => 0
theorem Mdr.msr {rb : Nat} {ts : List za} {tv : Value} {en : Nat} {w : World} {v : Value} {kv : List Value} {s : PS} (h : Mdr rb ts tv en w v kv s) : Go.Proofs.YtiglkhkfbgjjoaaGreatDoor.msr rb w = 3001 - s.i := by
 unfold Go.Proofs.YtiglkhkfbgjjoaaGreatDoor.msr
 rw [h.c3, h.c1]
 simp
theorem Fl.msr {rb : Nat} {w : World} {c a : Int} (h : Fl rb w c a) : Go.Proofs.YtiglkhkfbgjjoaaGreatDoor.msr rb w = 0 := by
 unfold Go.Proofs.YtiglkhkfbgjjoaaGreatDoor.msr
 rw [h.c3]
 split
 · rename_i h1 h2
   simp only [Option.some.injEq, Value.int.injEq] at h1
   rw [if_neg (by rw [<- h1.2]; exact h.ne)]
 · rfl
theorem zam {α : Type} {P : α -> Prop} {c : Prop} [Decidable c] {a b : α} (ha : P a) (hb : P b) : P (if c then a else b) := by split <;> assumption
def OpK (p : Nat × Int × Int) : Prop := p = (0, 0, 0) \/ p = (1, 13, 0) \/ p = (2, 12, 0) \/ ∃ l i, p = (l, 10, i) /\ i ≠ 0
def zbl (p : Nat × Int × Int) : Prop := (p.1 = 1 -> p.2 = (13, 0)) /\ (p.1 = 2 -> p.2 = (12, 0))
theorem zii {ts : List za} {s : PS} : (zi ts s).1 = 1 ↔ isN ts ⟨#[111, 114]⟩ s = true := by
 unfold zi isN
 cases ts[s.i]? with
 | none => simp
 | some x =>
   simp only [opT]
   cases isT x ⟨#[111, 114]⟩ with
   | true => simp
   | false =>
     simp only [Bool.false_eq_true, if_false, iff_false]
     repeat' split
     all_goals simp
theorem zqg {ts : List za} {s : PS} (h : isN ts ⟨#[111, 114]⟩ s = false) : (zi ts s).1 = 2 ↔ isN ts ⟨#[97, 110, 100]⟩ s = true := by
 unfold isN at h ⊢
 unfold zi
 cases hx : ts[s.i]? with
 | none => simp
 | some x =>
   rw [hx] at h
   simp only at h
   simp only [opT, h, Bool.false_eq_true, if_false]
   cases isT x ⟨#[97, 110, 100]⟩ with
   | true => simp
   | false =>
     simp only [Bool.false_eq_true, if_false, iff_false]
     repeat' split
     all_goals simp
theorem zua {ts : List za} {s : PS} (h : isN ts ⟨#[97, 110, 100]⟩ s = true) : isN ts ⟨#[111, 114]⟩ s = false := by
 unfold isN at h ⊢
 cases hx : ts[s.i]? with
 | none => rfl
 | some x =>
   rw [hx] at h
   simp only [isT, Bool.and_eq_true, beq_iff_eq] at h
   simp only [isT, h.2, Bool.and_eq_false_iff]
   right
   simp [ByteArray.toList_eq]
theorem zi3 {ts : List za} {s : PS} : (zi ts s).1 = 2 ↔ isN ts ⟨#[97, 110, 100]⟩ s = true := by
 cases ho : isN ts ⟨#[111, 114]⟩ s with
 | false => exact zqg ho
 | true =>
   have := zii.2 ho
   constructor
   · intro h; omega
   · intro h; rw [zua h] at ho; cases ho
theorem zmk {ts : List za} {s : PS} : ((zi ts s).1 = 1 -> (zi ts s).2 = (13, 0)) /\ ((zi ts s).1 = 2 -> (zi ts s).2 = (12, 0)) := by
 unfold zi
 cases ts[s.i]? with
 | none => simp
 | some x =>
   have hc : zbl (opT x) := (zam (P := zbl) (by unfold zbl; simp) (zam (P := zbl) (by unfold zbl; simp) (zam (P := zbl) (by unfold zbl; simp) (zam (P := zbl) (by unfold zbl; simp) (zam (P := zbl) (by unfold zbl; simp) (zam (P := zbl) (by unfold zbl; simp) (zam (P := zbl) (by unfold zbl; simp) (zam (P := zbl) (by unfold zbl; simp) (zam (P := zbl) (by unfold zbl; simp) (zam (P := zbl) (by unfold zbl; simp) (zam (P := zbl) (by unfold zbl; simp) (zam (P := zbl) (by unfold zbl; simp) (by unfold zbl; simp)))))))))))))
   exact hc
theorem zoz {ts : List za} {s : PS} (h : 3 <= (zi ts s).1) : (zi ts s).2.1 = 10 /\ (zi ts s).2.2 ≠ 0 := by
 unfold zi at h ⊢
 cases hx : ts[s.i]? with
 | none => rw [hx] at h; simp at h
 | some x =>
   rw [hx] at h
   simp only at h ⊢
   have hc : OpK (opT x) := zam (P := OpK) (Or.inr (Or.inl rfl)) (zam (P := OpK) (Or.inr (Or.inr (Or.inl rfl))) (zam (P := OpK) (Or.inr (Or.inr (Or.inr ⟨_, _, rfl, by decide⟩))) (zam (P := OpK) (Or.inr (Or.inr (Or.inr ⟨_, _, rfl, by decide⟩))) (zam (P := OpK) (Or.inr (Or.inr (Or.inr ⟨_, _, rfl, by decide⟩))) (zam (P := OpK) (Or.inr (Or.inr (Or.inr ⟨_, _, rfl, by decide⟩))) (zam (P := OpK) (Or.inr (Or.inr (Or.inr ⟨_, _, rfl, by decide⟩))) (zam (P := OpK) (Or.inr (Or.inr (Or.inr ⟨_, _, rfl, by decide⟩))) (zam (P := OpK) (Or.inr (Or.inr (Or.inr ⟨_, _, rfl, by decide⟩))) (zam (P := OpK) (Or.inr (Or.inr (Or.inr ⟨_, _, rfl, by decide⟩))) (zam (P := OpK) (Or.inr (Or.inr (Or.inr ⟨_, _, rfl, by decide⟩))) (zam (P := OpK) (Or.inr (Or.inr (Or.inr ⟨_, _, rfl, by decide⟩))) (Or.inl rfl))))))))))))
   rcases hc with e | e | e | ⟨l, i, e, hi⟩
   · rw [e] at h; simp at h
   · rw [e] at h; simp at h
   · rw [e] at h; simp at h
   · rw [e]; exact ⟨rfl, hi⟩
set_option maxHeartbeats 4000000 in
theorem zlt {rb : Nat} {ts : List za} {tv : Value} {en : Nat} {r : Rd} {n : Nat} (hr : RM rb ts tv en r n) (hro : zk ts r) (HT : ∀ (w : World) (v : Value) (kv : List Value) (s : PS), Mdr rb ts tv en w v kv s -> s.ns.length <= 8 * s.i -> ts.length < s.i + (n + 1) -> Calls Tryz.prog 107 #[.pointer (some ⟨rb, 0, none⟩)] w (RmE rb ts tv en w v kv (tnP ts en r s))) (w : World) (v : Value) (kv : List Value) (s : PS) (h : Mdr rb ts tv en w v kv s) (hp : s.ns.length <= 8 * s.i) (hf : ts.length < s.i + (n + 1)) :
 Calls Tryz.prog 85 #[.pointer (some ⟨rb, 0, none⟩), .int .i64 7] w (RmE rb ts tv en w v kv (lvP ts en r 7 s)) := by
 have HS0 : Hid (Sm rb ts tv en w v kv w v [] s) := Sm.begin h
 have hT : ts.length <= 3000 := h.tl
 have hI : s.i <= ts.length := h.il
 clear h
 have lt := HS0.out.rd.lt
 have c1 := HS0.out.rd.c1
 have c3 := HS0.out.rd.c3
 have fz := HS0.out.rd.fz
 have wi := HS0.out.wri
 have c5 := HS0.out.rd.c5
 have wd := HS0.out.wrd
 go_enter Tryz.func85, Tryz.ntmps85
 rcases e1 : tnP ts en r s with ⟨x1⟩ | ⟨a1, s1⟩
 · skip
   go_wp2_with (go_at_call 107; refine (HS0.out.no (HT _ _ _ _ HS0.out.rd hp (by omega)) e1).mono ?_; rintro e w1 ⟨⟨n1, rfl⟩, F1, b1⟩; clear lt c1 c3 c5 fz wi wd; have HR : Hid (Fl rb w1 _ _) := F1; have HB : Hid (Rf rb w v w1) := b1; have c3 := HR.out.c3; have lt := HR.out.lt; have ne := HR.out.ne; obtain ⟨dd, c5⟩ := HR.out.c5; have fz := HR.out.fz; clear F1 b1 HS0)
   try go_wp2_with (first | (go_at_call 17; refine (zc rb _ _ _ (HR.out.below ((Below.refl _ _).alloc (Nat.le_refl _) _)) _ _ _ _ _ _).mono ?_; rintro e wf ⟨rfl, bf⟩; have HB : Hid (Rf rb w v wf) := (HB.out.next ((Below.refl _ _).alloc (Nat.le_refl _) _)).next bf; have HR : Hid (Fl rb wf _ _) := (HR.out.below ((Below.refl _ _).alloc (Nat.le_refl _) _)).below bf; have c3 := HR.out.c3; have lt := HR.out.lt; clear bf) | (go_at_call 35; refine (zm rb _ _ _ HR.out _).mono ?_; rintro e wf ⟨rfl, -, bf⟩; have HB : Hid (Rf rb w v wf) := HB.out.next bf; have HR : Hid (Fl rb wf _ _) := HR.out.below bf; have c3 := HR.out.c3; have lt := HR.out.lt; clear bf) | (go_at_call 17; refine (zc rb _ _ _ HR.out _ _ _ _ _ _).mono ?_; rintro e wf ⟨rfl, bf⟩; have HB : Hid (Rf rb w v wf) := HB.out.next bf; have HR : Hid (Fl rb wf _ _) := HR.out.below bf; have c3 := HR.out.c3; have lt := HR.out.lt; clear bf) | (go_at_call 36; refine (zt rb _ _ _ HR.out).mono ?_; rintro e wf ⟨⟨nf, rfl⟩, -, bf⟩; have HB : Hid (Rf rb w v wf) := HB.out.next bf; have HR : Hid (Fl rb wf _ _) := HR.out.below bf; have c3 := HR.out.c3; have lt := HR.out.lt; clear bf) | (go_at_call 37; refine (zo rb _ _ _ HR.out).mono ?_; rintro e wf ⟨⟨nf, rfl⟩, -, bf⟩; have HB : Hid (Rf rb w v wf) := HB.out.next bf; have HR : Hid (Fl rb wf _ _) := HR.out.below bf; have c3 := HR.out.c3; have lt := HR.out.lt; clear bf))
   go_ret
   exact RmE.no HR.out HB.out (by first | (simp only [zdb, e1, ↓reduceIte, Bool.false_eq_true, if_true, if_false, Bool.and_true, Bool.true_and, and_true, and_false, true_and, false_and]; done) | (simp only [zdb, e1, ↓reduceIte, Bool.false_eq_true, if_true, if_false, Bool.and_true, Bool.true_and, and_true, and_false, true_and, false_and]; rfl) | (simp [zdb, e1]; done) | (simp [zdb, e1]; rfl))
 · skip
   have o1 := zf2 ts en hro e1
   have p1 : s1.ns.length <= 8 * s1.i := by have := o1.1.phi hp; omega
   have i1 := o1.1.1
   have t1 := o1.1.2.1
   go_wp2_with (go_at_call 107; refine (HS0.out.yes (HT _ _ _ _ HS0.out.rd hp (by omega)) e1).mono ?_; rintro e w1 ⟨rfl, v1, K1, h1⟩; have HS1 : Hid (Sm rb ts tv en w v kv _ _ _ s1) := h1; clear h1 HS0 lt c1 c3 c5 fz wi wd; have lt := HS1.out.rd.lt; have c1 := HS1.out.rd.c1; have c3 := HS1.out.rd.c3; have fz := HS1.out.rd.fz; have wi := HS1.out.wri; have c5 := HS1.out.rd.c5; have wd := HS1.out.wrd)
   go_ret
   exact RmE.yes HS1.out (by first | (simp only [zdb, e1, ↓reduceIte, Bool.false_eq_true, if_true, if_false, Bool.and_true, Bool.true_and, and_true, and_false, true_and, false_and]; done) | (simp only [zdb, e1, ↓reduceIte, Bool.false_eq_true, if_true, if_false, Bool.and_true, Bool.true_and, and_true, and_false, true_and, false_and]; rfl) | (simp [zdb, e1]; done) | (simp [zdb, e1]; rfl))
set_option maxHeartbeats 4000000 in
theorem zkf {rb : Nat} {ts : List za} {tv : Value} {en : Nat} {r : Rd} {n : Nat} (hr : RM rb ts tv en r n) (hro : zk ts r) (l : Nat) (l1 : 1 <= l) (l6 : l <= 6) (HN : ∀ (w : World) (v : Value) (kv : List Value) (s : PS), Mdr rb ts tv en w v kv s -> s.ns.length <= 8 * s.i -> ts.length < s.i + (n + 1) -> Calls Tryz.prog 85 #[.pointer (some ⟨rb, 0, none⟩), .int .i64 ((l : Int) + 1)] w (RmE rb ts tv en w v kv (lvP ts en r (l + 1) s))) (w : World) (v : Value) (kv : List Value) (s : PS) (h : Mdr rb ts tv en w v kv s) (hp : s.ns.length <= 8 * s.i) (hf : ts.length < s.i + (n + 1)) :
 Calls Tryz.prog 85 #[.pointer (some ⟨rb, 0, none⟩), .int .i64 (l : Int)] w (RmE rb ts tv en w v kv (lvP ts en r l s)) := by
 have HS0 : Hid (Sm rb ts tv en w v kv w v [] s) := Sm.begin h
 have hT : ts.length <= 3000 := h.tl
 have hI : s.i <= ts.length := h.il
 clear h
 have lt := HS0.out.rd.lt
 have c1 := HS0.out.rd.c1
 have c3 := HS0.out.rd.c3
 have fz := HS0.out.rd.fz
 have wi := HS0.out.wri
 have c5 := HS0.out.rd.c5
 have wd := HS0.out.wrd
 have wl : IntKind.i64.wrap ((l : Int) + 1) = (l : Int) + 1 := by rw [IntKind.wrap_i64]; omega
 have n7 : ¬ (l : Int) = 7 := by omega
 go_enter Tryz.func85, Tryz.ntmps85
 rcases e1 : lvP ts en r (l + 1) s with ⟨x1⟩ | ⟨a1, s1⟩
 · have hR : Hid (lvP ts en r l s = .error x1) := by show _ = _; rw [zkg l1 l6, e1]
   go_wp2_with (go_at_call 85; refine (HS0.out.no (HN _ _ _ _ HS0.out.rd hp (by omega)) e1).mono ?_; rintro e w1 ⟨⟨n1, rfl⟩, F1, b1⟩; clear lt c1 c3 c5 fz wi wd; have HR : Hid (Fl rb w1 x1.1 x1.2) := F1; have HB : Hid (Rf rb w v w1) := b1; clear F1 b1 HS0)
   go_loopw [5] (fun u wr => (∃ n, u = .int .i64 n) /\ Hid (Fl rb wr x1.1 x1.2) /\ Hid (Rf rb w v wr)) (fun _ _ => 0)
   case atStart => exact ⟨⟨_, rfl⟩, HR, HB⟩
   case round =>
    obtain ⟨⟨n2, rfl⟩, HR, HB⟩ := hrel
    have c3 := HR.out.c3
    have lt := HR.out.lt
    have ne := HR.out.ne
    go_wp2
    go_ret
    exact RmE.no HR.out HB.out hR.out
 · have o1 := zf3 ts en hro e1
   have p1 : s1.ns.length <= 8 * s1.i := by have := o1.1.phi hp; omega
   have i1 := o1.1.1
   have t1 := o1.1.2.1
   have hM : Hid (mlp ts r l (ts.length + 1) a1 s1 = lvP ts en r l s) := by show _ = _; rw [zkg l1 l6 s, e1]
   go_wp2_with (go_at_call 85; refine (HS0.out.yes (HN _ _ _ _ HS0.out.rd hp (by omega)) e1).mono ?_; rintro e w1 ⟨rfl, v1, K1, h1⟩; have HS1 : Hid (Sm rb ts tv en w v kv _ _ _ s1) := h1; clear h1 HS0 lt c1 c3 c5 fz wi wd)
   go_loopw [5] (fun u wr => (∃ (k : Nat) (a : Int) (s1 : PS) (v1 : Value) (K : List Value), u = .int .i64 a /\ Hid (Sm rb ts tv en w v kv wr v1 K s1) /\ Hid (s1.ns.length <= 8 * s1.i) /\ Hid (ts.length < s1.i + k) /\ Hid (s.i < s1.i) /\ Hid (mlp ts r l k a s1 = lvP ts en r l s)) \/ ((∃ n, u = .int .i64 n) /\ ∃ x : Int × Int, Hid (Fl rb wr x.1 x.2) /\ Hid (Rf rb w v wr) /\ Hid (lvP ts en r l s = .error x))) (fun _ wr => msr rb wr)
   case atStart => exact .inl ⟨_, _, _, _, _, rfl, HS1, p1, (by show _ < _; omega), i1, hM⟩
   case round =>
    rcases hrel with ⟨k, a, s2, v2, K2, rfl, HS2, HP, HK, HI, HM⟩ | ⟨⟨n2, rfl⟩, x2, HR, HB, HE⟩
    · obtain ⟨k', rfl⟩ : ∃ k', k = k' + 1 := ⟨k - 1, by have := HK.out; have := HS2.out.rd.il; omega⟩
      have hm : Hid ((if (zi ts s2).1 = l then (match r.lv (l + 1) (adv s2) with | .error x => .error x | .ok (b, s3) => if l = 3 then .ok (zb (zi ts s2).2.1 eT (zi ts s2).2.2 [a, b] s3) else mlp ts r l k' (zb (zi ts s2).2.1 eT (zi ts s2).2.2 [a, b] s3).1 (zb (zi ts s2).2.1 eT (zi ts s2).2.2 [a, b] s3).2) else .ok (a, s2)) = lvP ts en r l s) := HM.out
      have lt := HS2.out.rd.lt
      have c1 := HS2.out.rd.c1
      have c3 := HS2.out.rd.c3
      have fz := HS2.out.rd.fz
      have wi := HS2.out.wri
      by_cases ho : (zi ts s2).1 = l
      · have hlt : s2.i < ts.length := zie ts (by rw [ho]; omega)
        have p4 : (adv s2).ns.length <= 8 * (adv s2).i := Nat.le_trans HP.out (Nat.mul_le_mul_left 8 (Nat.le_succ _))
        have i4 : (adv s2).i = s2.i + 1 := rfl
        have hI2 := HI.out
        have hg : opG ts s2 (l : Int) 10 1 = if 3 <= l then (zi ts s2).2.2 else 0 := by rw [zo0]; simp [ho]
        by_cases q1 : l = 1
        · subst q1
          have f1 := zii.1 ho
          have hk2 := zmk.1 ho
          go_wp2_with (go_at_call 33; refine (HS2.out.is ⟨#[111, 114]⟩ true f1).mono ?_; rintro e w3 ⟨rfl, h3⟩; have HS3 : Hid (Sm rb ts tv en w v kv _ _ _ s2) := h3; clear h3 lt c1 c3 fz wi; have lt := HS3.out.rd.lt; have c1 := HS3.out.rd.c1; have c3 := HS3.out.rd.c3; have fz := HS3.out.rd.fz; have wi := HS3.out.wri)
          have HS4 : Hid (Sm rb ts tv en w v kv _ _ _ (adv s2)) := HS3.out.adv hlt
          rcases e3 : r.lv (1 + 1) (adv s2) with ⟨x3⟩ | ⟨b3, s3⟩
          · have HE : Hid (lvP ts en r 1 s = .error x3) := by have := hm.out; rw [if_pos ho, e3] at this; exact this.symm
            go_wp2_with (first | (go_at_call 85; refine (HS4.out.no (hr.lv (1 + 1) (by omega) (by omega) _ _ _ _ HS4.out.rd p4 (by omega)) e3).mono ?_; rintro e w5 ⟨⟨n5, rfl⟩, F5, b5⟩; clear lt c1 c3 fz wi; have HR : Hid (Fl rb w5 x3.1 x3.2) := F5; have HB : Hid (Rf rb w v w5) := b5; have c3 := HR.out.c3; have lt := HR.out.lt; have ne := HR.out.ne; clear F5 b5) | (go_at_call 17; refine (zc rb _ _ _ (HR.out.below ((Below.refl _ _).alloc (Nat.le_refl _) _)) _ _ _ _ _ _).mono ?_; rintro e wf ⟨rfl, bf⟩; have HB : Hid (Rf rb w v wf) := (HB.out.next ((Below.refl _ _).alloc (Nat.le_refl _) _)).next bf; have HR : Hid (Fl rb wf _ _) := (HR.out.below ((Below.refl _ _).alloc (Nat.le_refl _) _)).below bf; have c3 := HR.out.c3; have lt := HR.out.lt; clear bf))
            have ms1 := HS2.out.rd.msr
            have ms2 := HR.out.msr
            have il2 := HS2.out.rd.il
            refine ⟨⟨_, _, _, _, _, _, _, _, _, _, _, _, _, _, _, _, _, _, _, _, _, _, _, _, _, _, _, _, _, _, _, _, _, _, _, _, _, _, _, _, _, _, _, _, _, _, _, _, _, _, _, _, .inr ⟨⟨_, rfl⟩, x3, HR, HB, HE⟩, rfl⟩, ?_⟩
            show msr rb _ < msr rb _
            rw [ms1, ms2]
            omega
          · have o3 := hro.lv e3
            have p5 : s3.ns.length <= 8 * s3.i := by have := o3.1.phi p4; omega
            have i5 := o3.1.1
            have t5 := o3.1.2.1
            go_wp2_with (first | (go_at_call 85; refine (HS4.out.yes (hr.lv (1 + 1) (by omega) (by omega) _ _ _ _ HS4.out.rd p4 (by omega)) e3).mono ?_; rintro e w5 ⟨rfl, v5, K5, h5⟩; have HS5 : Hid (Sm rb ts tv en w v kv _ _ _ s3) := h5; clear h5 lt c1 c3 fz wi) | (go_at_call 17; refine (HS5.out.nodeN [a, b3] (13) eT (0) (by simp) (by omega) _ _ _ (by simp) rfl rfl).mono ?_; rintro e w6 ⟨rfl, v6, K6, h6⟩; have HS6 : Hid (Sm rb ts tv en w v kv _ _ _ (zb (13) eT (0) [a, b3] s3).2) := h6; have c3 := HS6.out.rd.c3; have lt := HS6.out.rd.lt; clear h6))
            have HM2 : Hid (mlp ts r 1 k' (zb (13) eT (0) [a, b3] s3).1 (zb (13) eT (0) [a, b3] s3).2 = lvP ts en r 1 s) := by have := hm.out; rw [if_pos ho, e3] at this; simp only [] at this; rw [if_neg (by omega), hk2] at this; exact this
            have ms1 := HS2.out.rd.msr
            have ms2 := HS6.out.rd.msr
            have e6 : (zb (13) eT (0) [a, b3] s3).2.i = s3.i := rfl
            have l6' : (zb (13) eT (0) [a, b3] s3).2.ns.length = s3.ns.length + 1 := by simp [zb]
            have hK := HK.out
            have o35 := o3.1.2.2.2.2
            refine ⟨⟨_, _, _, _, _, _, _, _, _, _, _, _, _, _, _, _, _, _, _, _, _, _, _, _, _, _, _, _, _, _, _, _, _, _, _, _, _, _, _, _, _, _, _, _, _, _, _, _, _, _, _, _, .inl ⟨k', _, _, _, _, rfl, HS6, (by show _ <= _; omega), (by show _ < _; omega), (by show _ < _; omega), HM2⟩, rfl⟩, ?_⟩
            show msr rb _ < msr rb _
            rw [ms1, ms2]
            omega
        · have n1 : ¬ (l : Int) = 1 := by omega
          by_cases q2 : l = 2
          · subst q2
            have f1 := zi3.1 ho
            have hk2 := zmk.2 ho
            go_wp2_with (go_at_call 33; refine (HS2.out.is ⟨#[97, 110, 100]⟩ true f1).mono ?_; rintro e w3 ⟨rfl, h3⟩; have HS3 : Hid (Sm rb ts tv en w v kv _ _ _ s2) := h3; clear h3 lt c1 c3 fz wi; have lt := HS3.out.rd.lt; have c1 := HS3.out.rd.c1; have c3 := HS3.out.rd.c3; have fz := HS3.out.rd.fz; have wi := HS3.out.wri)
            have HS4 : Hid (Sm rb ts tv en w v kv _ _ _ (adv s2)) := HS3.out.adv hlt
            rcases e3 : r.lv (2 + 1) (adv s2) with ⟨x3⟩ | ⟨b3, s3⟩
            · have HE : Hid (lvP ts en r 2 s = .error x3) := by have := hm.out; rw [if_pos ho, e3] at this; exact this.symm
              go_wp2_with (first | (go_at_call 85; refine (HS4.out.no (hr.lv (2 + 1) (by omega) (by omega) _ _ _ _ HS4.out.rd p4 (by omega)) e3).mono ?_; rintro e w5 ⟨⟨n5, rfl⟩, F5, b5⟩; clear lt c1 c3 fz wi; have HR : Hid (Fl rb w5 x3.1 x3.2) := F5; have HB : Hid (Rf rb w v w5) := b5; have c3 := HR.out.c3; have lt := HR.out.lt; have ne := HR.out.ne; clear F5 b5) | (go_at_call 17; refine (zc rb _ _ _ (HR.out.below ((Below.refl _ _).alloc (Nat.le_refl _) _)) _ _ _ _ _ _).mono ?_; rintro e wf ⟨rfl, bf⟩; have HB : Hid (Rf rb w v wf) := (HB.out.next ((Below.refl _ _).alloc (Nat.le_refl _) _)).next bf; have HR : Hid (Fl rb wf _ _) := (HR.out.below ((Below.refl _ _).alloc (Nat.le_refl _) _)).below bf; have c3 := HR.out.c3; have lt := HR.out.lt; clear bf))
              have ms1 := HS2.out.rd.msr
              have ms2 := HR.out.msr
              have il2 := HS2.out.rd.il
              refine ⟨⟨_, _, _, _, _, _, _, _, _, _, _, _, _, _, _, _, _, _, _, _, _, _, _, _, _, _, _, _, _, _, _, _, _, _, _, _, _, _, _, _, _, _, _, _, _, _, _, _, _, _, _, _, .inr ⟨⟨_, rfl⟩, x3, HR, HB, HE⟩, rfl⟩, ?_⟩
              show msr rb _ < msr rb _
              rw [ms1, ms2]
              omega
            · have o3 := hro.lv e3
              have p5 : s3.ns.length <= 8 * s3.i := by have := o3.1.phi p4; omega
              have i5 := o3.1.1
              have t5 := o3.1.2.1
              go_wp2_with (first | (go_at_call 85; refine (HS4.out.yes (hr.lv (2 + 1) (by omega) (by omega) _ _ _ _ HS4.out.rd p4 (by omega)) e3).mono ?_; rintro e w5 ⟨rfl, v5, K5, h5⟩; have HS5 : Hid (Sm rb ts tv en w v kv _ _ _ s3) := h5; clear h5 lt c1 c3 fz wi) | (go_at_call 17; refine (HS5.out.nodeN [a, b3] (12) eT (0) (by simp) (by omega) _ _ _ (by simp) rfl rfl).mono ?_; rintro e w6 ⟨rfl, v6, K6, h6⟩; have HS6 : Hid (Sm rb ts tv en w v kv _ _ _ (zb (12) eT (0) [a, b3] s3).2) := h6; have c3 := HS6.out.rd.c3; have lt := HS6.out.rd.lt; clear h6))
              have HM2 : Hid (mlp ts r 2 k' (zb (12) eT (0) [a, b3] s3).1 (zb (12) eT (0) [a, b3] s3).2 = lvP ts en r 2 s) := by have := hm.out; rw [if_pos ho, e3] at this; simp only [] at this; rw [if_neg (by omega), hk2] at this; exact this
              have ms1 := HS2.out.rd.msr
              have ms2 := HS6.out.rd.msr
              have e6 : (zb (12) eT (0) [a, b3] s3).2.i = s3.i := rfl
              have l6' : (zb (12) eT (0) [a, b3] s3).2.ns.length = s3.ns.length + 1 := by simp [zb]
              have hK := HK.out
              have o35 := o3.1.2.2.2.2
              refine ⟨⟨_, _, _, _, _, _, _, _, _, _, _, _, _, _, _, _, _, _, _, _, _, _, _, _, _, _, _, _, _, _, _, _, _, _, _, _, _, _, _, _, _, _, _, _, _, _, _, _, _, _, _, _, .inl ⟨k', _, _, _, _, rfl, HS6, (by show _ <= _; omega), (by show _ < _; omega), (by show _ < _; omega), HM2⟩, rfl⟩, ?_⟩
              show msr rb _ < msr rb _
              rw [ms1, ms2]
              omega
          · have n2 : ¬ (l : Int) = 2 := by omega
            have l3 : 3 <= l := by omega
            have hkd := zoz (ts := ts) (s := s2) (by omega)
            rw [if_pos l3] at hg
            have nz := hkd.2
            by_cases l3' : l = 3
            · subst l3'
              have hg1 : opG ts s2 (3 : Int) 10 1 = (zi ts s2).2.2 := hg
              go_wp2_with (go_at_call 108; refine (zfa rb ts tv en _ _ _ s2 HS2.out.rd _).mono ?_; rintro e w3 ⟨rfl, b3⟩; rw [hg1]; have HS3 : Hid (Sm rb ts tv en w v kv _ _ _ s2) := HS2.out.below b3; clear b3 lt c1 c3 fz wi; have lt := HS3.out.rd.lt; have c1 := HS3.out.rd.c1; have c3 := HS3.out.rd.c3; have fz := HS3.out.rd.fz; have wi := HS3.out.wri)
              have HS4 : Hid (Sm rb ts tv en w v kv _ _ _ (adv s2)) := HS3.out.adv hlt
              rcases e3 : r.lv (3 + 1) (adv s2) with ⟨x3⟩ | ⟨b3, s3⟩
              · have HE : Hid (lvP ts en r 3 s = .error x3) := by have := hm.out; rw [if_pos ho, e3] at this; exact this.symm
                go_wp2_with (first | (go_at_call 85; refine (HS4.out.no (hr.lv (3 + 1) (by omega) (by omega) _ _ _ _ HS4.out.rd p4 (by omega)) e3).mono ?_; rintro e w5 ⟨⟨n5, rfl⟩, F5, b5⟩; clear lt c1 c3 fz wi; have HR : Hid (Fl rb w5 x3.1 x3.2) := F5; have HB : Hid (Rf rb w v w5) := b5; have c3 := HR.out.c3; have lt := HR.out.lt; have ne := HR.out.ne; clear F5 b5) | (go_at_call 17; refine (zc rb _ _ _ (HR.out.below ((Below.refl _ _).alloc (Nat.le_refl _) _)) _ _ _ _ _ _).mono ?_; rintro e wf ⟨rfl, bf⟩; have HB : Hid (Rf rb w v wf) := (HB.out.next ((Below.refl _ _).alloc (Nat.le_refl _) _)).next bf; have HR : Hid (Fl rb wf _ _) := (HR.out.below ((Below.refl _ _).alloc (Nat.le_refl _) _)).below bf; have c3 := HR.out.c3; have lt := HR.out.lt; clear bf))
                go_ret
                exact RmE.no HR.out HB.out HE.out
              · have o3 := hro.lv e3
                have p5 : s3.ns.length <= 8 * s3.i := by have := o3.1.phi p4; omega
                have i5 := o3.1.1
                have t5 := o3.1.2.1
                go_wp2_with (first | (go_at_call 85; refine (HS4.out.yes (hr.lv (3 + 1) (by omega) (by omega) _ _ _ _ HS4.out.rd p4 (by omega)) e3).mono ?_; rintro e w5 ⟨rfl, v5, K5, h5⟩; have HS5 : Hid (Sm rb ts tv en w v kv _ _ _ s3) := h5; clear h5 lt c1 c3 fz wi) | (go_at_call 17; refine (HS5.out.nodeN [a, b3] (10) eT ((zi ts s2).2.2) (by simp) (by omega) _ _ _ (by simp) rfl rfl).mono ?_; rintro e w6 ⟨rfl, v6, K6, h6⟩; have HS6 : Hid (Sm rb ts tv en w v kv _ _ _ (zb (10) eT ((zi ts s2).2.2) [a, b3] s3).2) := h6; have c3 := HS6.out.rd.c3; have lt := HS6.out.rd.lt; clear h6))
                go_ret
                exact RmE.yes HS6.out (by have := hm.out; rw [if_pos ho, e3] at this; simp only [↓reduceIte, if_true] at this; rw [hkd.1] at this; exact this.symm)
            · have n3 : ¬ (l : Int) = 3 := by omega
              go_wp2_with (go_at_call 108; refine (zfa rb ts tv en _ _ _ s2 HS2.out.rd _).mono ?_; rintro e w3 ⟨rfl, b3⟩; rw [hg]; have HS3 : Hid (Sm rb ts tv en w v kv _ _ _ s2) := HS2.out.below b3; clear b3 lt c1 c3 fz wi; have lt := HS3.out.rd.lt; have c1 := HS3.out.rd.c1; have c3 := HS3.out.rd.c3; have fz := HS3.out.rd.fz; have wi := HS3.out.wri)
              have HS4 : Hid (Sm rb ts tv en w v kv _ _ _ (adv s2)) := HS3.out.adv hlt
              rcases e3 : r.lv (l + 1) (adv s2) with ⟨x3⟩ | ⟨b3, s3⟩
              · have HE : Hid (lvP ts en r l s = .error x3) := by have := hm.out; rw [if_pos ho, e3] at this; exact this.symm
                go_wp2_with (first | (go_at_call 85; refine (HS4.out.no (hr.lv (l + 1) (by omega) (by omega) _ _ _ _ HS4.out.rd p4 (by omega)) e3).mono ?_; rintro e w5 ⟨⟨n5, rfl⟩, F5, b5⟩; clear lt c1 c3 fz wi; have HR : Hid (Fl rb w5 x3.1 x3.2) := F5; have HB : Hid (Rf rb w v w5) := b5; have c3 := HR.out.c3; have lt := HR.out.lt; have ne := HR.out.ne; clear F5 b5) | (go_at_call 17; refine (zc rb _ _ _ (HR.out.below ((Below.refl _ _).alloc (Nat.le_refl _) _)) _ _ _ _ _ _).mono ?_; rintro e wf ⟨rfl, bf⟩; have HB : Hid (Rf rb w v wf) := (HB.out.next ((Below.refl _ _).alloc (Nat.le_refl _) _)).next bf; have HR : Hid (Fl rb wf _ _) := (HR.out.below ((Below.refl _ _).alloc (Nat.le_refl _) _)).below bf; have c3 := HR.out.c3; have lt := HR.out.lt; clear bf))
                have ms1 := HS2.out.rd.msr
                have ms2 := HR.out.msr
                have il2 := HS2.out.rd.il
                refine ⟨.inr ⟨⟨_, rfl⟩, x3, HR, HB, HE⟩, ?_⟩
                show msr rb _ < msr rb _
                rw [ms1, ms2]
                omega
              · have o3 := hro.lv e3
                have p5 : s3.ns.length <= 8 * s3.i := by have := o3.1.phi p4; omega
                have i5 := o3.1.1
                have t5 := o3.1.2.1
                go_wp2_with (first | (go_at_call 85; refine (HS4.out.yes (hr.lv (l + 1) (by omega) (by omega) _ _ _ _ HS4.out.rd p4 (by omega)) e3).mono ?_; rintro e w5 ⟨rfl, v5, K5, h5⟩; have HS5 : Hid (Sm rb ts tv en w v kv _ _ _ s3) := h5; clear h5 lt c1 c3 fz wi) | (go_at_call 17; refine (HS5.out.nodeN [a, b3] (10) eT ((zi ts s2).2.2) (by simp) (by omega) _ _ _ (by simp) rfl rfl).mono ?_; rintro e w6 ⟨rfl, v6, K6, h6⟩; have HS6 : Hid (Sm rb ts tv en w v kv _ _ _ (zb (10) eT ((zi ts s2).2.2) [a, b3] s3).2) := h6; have c3 := HS6.out.rd.c3; have lt := HS6.out.rd.lt; clear h6))
                have HM2 : Hid (mlp ts r l k' (zb (10) eT ((zi ts s2).2.2) [a, b3] s3).1 (zb (10) eT ((zi ts s2).2.2) [a, b3] s3).2 = lvP ts en r l s) := by have := hm.out; rw [if_pos ho, e3] at this; simp only [] at this; rw [if_neg (by omega), hkd.1] at this; exact this
                have ms1 := HS2.out.rd.msr
                have ms2 := HS6.out.rd.msr
                have e6 : (zb (10) eT ((zi ts s2).2.2) [a, b3] s3).2.i = s3.i := rfl
                have l6' : (zb (10) eT ((zi ts s2).2.2) [a, b3] s3).2.ns.length = s3.ns.length + 1 := by simp [zb]
                have hK := HK.out
                have o35 := o3.1.2.2.2.2
                refine ⟨.inl ⟨k', _, _, _, _, rfl, HS6, (by show _ <= _; omega), (by show _ < _; omega), (by show _ < _; omega), HM2⟩, ?_⟩
                show msr rb _ < msr rb _
                rw [ms1, ms2]
                omega
      · have HE : Hid (lvP ts en r l s = .ok (a, s2)) := by have := hm.out; rw [if_neg ho] at this; exact this.symm
        have hz : opG ts s2 (l : Int) 10 1 = 0 := by rw [zo0, if_neg (fun g => ho g.1)]
        clear hm HM
        by_cases q1 : l = 1
        · subst q1
          have f1 : isN ts ⟨#[111, 114]⟩ s2 = false := by cases hq : isN ts ⟨#[111, 114]⟩ s2; rfl; exact absurd (zii.2 hq) ho
          have hz1 : opG ts s2 (1 : Int) 10 1 = 0 := hz
          go_wp2_with (first | (go_at_call 33; refine (HS2.out.is ⟨#[111, 114]⟩ false f1).mono ?_; rintro e w3 ⟨rfl, h3⟩; have HS3 : Hid (Sm rb ts tv en w v kv _ _ _ s2) := h3; clear h3 lt c1 c3 fz wi; have lt := HS3.out.rd.lt; have c1 := HS3.out.rd.c1; have c3 := HS3.out.rd.c3; have fz := HS3.out.rd.fz; have wi := HS3.out.wri) | (go_at_call 108; refine (zfa rb ts tv en _ _ _ s2 HS3.out.rd _).mono ?_; rintro e w3 ⟨rfl, b3⟩; rw [hz1]; have HS3 : Hid (Sm rb ts tv en w v kv _ _ _ s2) := HS3.out.below b3; clear b3 lt c1 c3 fz wi; have lt := HS3.out.rd.lt; have c1 := HS3.out.rd.c1; have c3 := HS3.out.rd.c3; have fz := HS3.out.rd.fz; have wi := HS3.out.wri))
          go_ret
          exact RmE.yes HS3.out HE.out
        · have n1 : ¬ (l : Int) = 1 := by omega
          by_cases q2 : l = 2
          · subst q2
            have f1 : isN ts ⟨#[97, 110, 100]⟩ s2 = false := by cases hq : isN ts ⟨#[97, 110, 100]⟩ s2; rfl; exact absurd (zi3.2 hq) ho
            have hz1 : opG ts s2 (2 : Int) 10 1 = 0 := hz
            go_wp2_with (first | (go_at_call 33; refine (HS2.out.is ⟨#[97, 110, 100]⟩ false f1).mono ?_; rintro e w3 ⟨rfl, h3⟩; have HS3 : Hid (Sm rb ts tv en w v kv _ _ _ s2) := h3; clear h3 lt c1 c3 fz wi; have lt := HS3.out.rd.lt; have c1 := HS3.out.rd.c1; have c3 := HS3.out.rd.c3; have fz := HS3.out.rd.fz; have wi := HS3.out.wri) | (go_at_call 108; refine (zfa rb ts tv en _ _ _ s2 HS3.out.rd _).mono ?_; rintro e w3 ⟨rfl, b3⟩; rw [hz1]; have HS3 : Hid (Sm rb ts tv en w v kv _ _ _ s2) := HS3.out.below b3; clear b3 lt c1 c3 fz wi; have lt := HS3.out.rd.lt; have c1 := HS3.out.rd.c1; have c3 := HS3.out.rd.c3; have fz := HS3.out.rd.fz; have wi := HS3.out.wri))
            go_ret
            exact RmE.yes HS3.out HE.out
          · have n2 : ¬ (l : Int) = 2 := by omega
            go_wp2_with (go_at_call 108; refine (zfa rb ts tv en _ _ _ s2 HS2.out.rd _).mono ?_; rintro e w3 ⟨rfl, b3⟩; rw [hz]; have HS3 : Hid (Sm rb ts tv en w v kv _ _ _ s2) := HS2.out.below b3; clear b3 lt c1 c3 fz wi; have lt := HS3.out.rd.lt; have c1 := HS3.out.rd.c1; have c3 := HS3.out.rd.c3; have fz := HS3.out.rd.fz; have wi := HS3.out.wri)
            go_ret
            exact RmE.yes HS3.out HE.out
    · have c3 := HR.out.c3
      have lt := HR.out.lt
      have ne := HR.out.ne
      go_wp2
      go_ret
      exact RmE.no HR.out HB.out HE.out
end Go.Proofs.YtiglkhkfbgjjoaaGreatDoor
