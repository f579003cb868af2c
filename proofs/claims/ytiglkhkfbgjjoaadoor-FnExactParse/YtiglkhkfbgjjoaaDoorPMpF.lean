/- The model's reader: a whole expression, a turned operand. -/
import Derived.Test.YtiglkhkfbgjjoaaDoorPMpE
namespace Go.Proofs.YtiglkhkfbgjjoaaDoor
set_option maxRecDepth 20000
open Go.RowKit Go.PlainAid Go.Maps
set_option linter.unusedSimpArgs false
set_option linter.unusedVariables false

theorem Sm.wri {rb : Nat} {ts : List TokD} {tv : Value} {en : Nat} {w w1 : World} {v v1 : Value} {kv K : List Value} {s1 : PS} (h : Sm rb ts tv en w v kv w1 v1 K s1) : IntKind.i64.wrap ((s1.i : Int) + 1) = (s1.i : Int) + 1 := by rw [IntKind.wrap_i64]; have := h.rd.il; have := h.rd.tl; omega
theorem Sm.wrd {rb : Nat} {ts : List TokD} {tv : Value} {en : Nat} {w w1 : World} {v v1 : Value} {kv K : List Value} {s1 : PS} (h : Sm rb ts tv en w v kv w1 v1 K s1) : IntKind.i64.wrap ((s1.d : Int) - 1) = (s1.d : Int) - 1 := by rw [IntKind.wrap_i64]; have := h.rd.dl; omega
theorem isN_end {ts : List TokD} {s : PS} (hx : ts[s.i]? = none) (b : ByteArray) : isN ts b s = false := by unfold isN; rw [hx]
theorem fh_end {ts : List TokD} {en : Nat} {s : PS} (hx : ts[s.i]? = none) (c : Int) : fh ts en c s = (2, (en : Int)) := by unfold fh; rw [hx]
theorem tn_end {ts : List TokD} {en : Nat} {s : PS} (hx : ts[s.i]? = none) (r : Rd) : tnP ts en r s = .error (2, (en : Int)) := by
  unfold tnP tnOf
  rw [isN_end hx, isN_end hx, isN_end hx]
  simp only [Bool.false_eq_true, if_false, if_true, opdP, hx, fh_end hx]
theorem wh_end {ts : List TokD} {en : Nat} {s : PS} (hx : ts[s.i]? = none) (r : Rd) : whP ts en r s = .error (fh ts en 3 s) := by
  unfold whP
  rcases open_cases ts en s with ⟨q, e⟩ | ⟨q, e⟩
  · rw [e]
    simp only [lvP, tn_end (s := ⟨s.i, s.d + 1, s.ns⟩) hx r, fh_end hx]
  · rw [e]
theorem bl_end {ts : List TokD} {en : Nat} {s : PS} (hx : ts[s.i]? = none) (r : Rd) : blP ts en r s = .error (fh ts en 3 s) := by
  unfold blP
  rcases open_cases ts en s with ⟨q, e⟩ | ⟨q, e⟩
  · rw [e]
    simp only [wantP, isN_end (s := ⟨s.i, s.d + 1, s.ns⟩) hx, fh_end (s := ⟨s.i, s.d + 1, s.ns⟩) hx, fh_end hx, Bool.false_eq_true, if_false]
  · rw [e]
set_option maxHeartbeats 4000000 in
theorem l9Expr_at {rb : Nat} {ts : List TokD} {tv : Value} {en : Nat} {r : Rd} {n : Nat} (hr : RM rb ts tv en r n) (hro : RdOk ts r) (HL : ∀ (w : World) (v : Value) (kv : List Value) (s : PS), Mdr rb ts tv en w v kv s → s.ns.length ≤ 8 * s.i → ts.length < s.i + (n + 1) → Calls Tryd.prog 151 #[.pointer (some ⟨rb, 0, none⟩), .int .i64 1] w (RmE rb ts tv en w v kv (lvP ts en r 1 s))) (w : World) (v : Value) (kv : List Value) (s : PS) (h : Mdr rb ts tv en w v kv s) (hp : s.ns.length ≤ 8 * s.i) (hf : ts.length < s.i + (n + 1)) :
    Calls Tryd.prog 99 #[.pointer (some ⟨rb, 0, none⟩)] w (RmE rb ts tv en w v kv (whP ts en r s)) := by
  have HS0 : Hid (Sm rb ts tv en w v kv w v [] s) := Sm.begin h
  have hT : ts.length ≤ 3000 := h.tl
  have hI : s.i ≤ ts.length := h.il
  clear h
  have lt := HS0.out.rd.lt
  have c1 := HS0.out.rd.c1
  have c3 := HS0.out.rd.c3
  have fz := HS0.out.rd.fz
  have wi := HS0.out.wri
  have c5 := HS0.out.rd.c5
  have wd := HS0.out.wrd
  go_enter Tryd.func99, Tryd.ntmps99
  cases hx : ts[(s).i]? with
  | none =>
    rw [wh_end hx r]
    go_wp2_with (go_at_call 150; refine (HS0.out.open_no (.inr hx)).mono ?_; rintro e w1 ⟨rfl, F1, b1⟩; clear lt c1 c3 c5 fz wi wd; have HR : Hid (Fl rb w1 _ _) := F1; have HB : Hid (Rf rb w v w1) := b1; have c3 := HR.out.c3; have lt := HR.out.lt; have ne := HR.out.ne; obtain ⟨dd, c5⟩ := HR.out.c5; have fz := HR.out.fz; clear F1 b1 HS0)
    try go_wp2_with (first | (go_at_call 47; refine (l9Node_fl rb _ _ _ (HR.out.below ((Below.refl _ _).alloc (Nat.le_refl _) _)) _ _ _ _ _ _).mono ?_; rintro e wf ⟨rfl, bf⟩; have HB : Hid (Rf rb w v wf) := (HB.out.next ((Below.refl _ _).alloc (Nat.le_refl _) _)).next bf; have HR : Hid (Fl rb wf _ _) := (HR.out.below ((Below.refl _ _).alloc (Nat.le_refl _) _)).below bf; have c3 := HR.out.c3; have lt := HR.out.lt; clear bf) | (go_at_call 98; refine (l9Want_fl rb _ _ _ HR.out _).mono ?_; rintro e wf ⟨rfl, -, bf⟩; have HB : Hid (Rf rb w v wf) := HB.out.next bf; have HR : Hid (Fl rb wf _ _) := HR.out.below bf; have c3 := HR.out.c3; have lt := HR.out.lt; clear bf) | (go_at_call 47; refine (l9Node_fl rb _ _ _ HR.out _ _ _ _ _ _).mono ?_; rintro e wf ⟨rfl, bf⟩; have HB : Hid (Rf rb w v wf) := HB.out.next bf; have HR : Hid (Fl rb wf _ _) := HR.out.below bf; have c3 := HR.out.c3; have lt := HR.out.lt; clear bf) | (go_at_call 99; refine (l9Expr_fl rb _ _ _ HR.out).mono ?_; rintro e wf ⟨⟨nf, rfl⟩, -, bf⟩; have HB : Hid (Rf rb w v wf) := HB.out.next bf; have HR : Hid (Fl rb wf _ _) := HR.out.below bf; have c3 := HR.out.c3; have lt := HR.out.lt; clear bf) | (go_at_call 100; refine (l9Block_fl rb _ _ _ HR.out).mono ?_; rintro e wf ⟨⟨nf, rfl⟩, -, bf⟩; have HB : Hid (Rf rb w v wf) := HB.out.next bf; have HR : Hid (Fl rb wf _ _) := HR.out.below bf; have c3 := HR.out.c3; have lt := HR.out.lt; clear bf))
    go_ret
    exact RmE.no HR.out HB.out (rfl)
  | some xo =>
    rcases open_cases ts en s with ⟨q1, e1⟩ | ⟨q1, e1⟩
    · skip
      have p1 : ((⟨(s).i, (s).d + 1, (s).ns⟩ : PS)).ns.length ≤ 8 * ((⟨(s).i, (s).d + 1, (s).ns⟩ : PS)).i := hp
      have i1 : ((⟨(s).i, (s).d + 1, (s).ns⟩ : PS)).i = (s).i := rfl
      go_wp2_with (go_at_call 150; refine (HS0.out.open_yes xo hx q1).mono ?_; rintro e w1 ⟨rfl, h1⟩; have HS1 : Hid (Sm rb ts tv en w v kv _ _ _ (⟨(s).i, (s).d + 1, (s).ns⟩ : PS)) := h1; clear h1 HS0 lt c1 c3 c5 fz wi wd; have lt := HS1.out.rd.lt; have c1 := HS1.out.rd.c1; have c3 := HS1.out.rd.c3; have fz := HS1.out.rd.fz; have wi := HS1.out.wri; have c5 := True.intro; have wd := True.intro; (try dsimp only at c1 wi))
      rcases e2 : lvP ts en r 1 (⟨(s).i, (s).d + 1, (s).ns⟩ : PS) with ⟨x2⟩ | ⟨a2, s2⟩
      · skip
        go_wp2_with (go_at_call 151; refine (HS1.out.no (HL _ _ _ _ HS1.out.rd p1 (by omega)) e2).mono ?_; rintro e w2 ⟨⟨n2, rfl⟩, F2, b2⟩; clear lt c1 c3 c5 fz wi wd; have HR : Hid (Fl rb w2 _ _) := F2; have HB : Hid (Rf rb w v w2) := b2; have c3 := HR.out.c3; have lt := HR.out.lt; have ne := HR.out.ne; obtain ⟨dd, c5⟩ := HR.out.c5; have fz := HR.out.fz; clear F2 b2 HS1)
        go_ret
        exact RmE.no (HR.out.put5 _) (HB.out.put _ _) (by first | (simp only [whP, e1, e2, ↓reduceIte, Bool.false_eq_true, if_true, if_false, Bool.and_true, Bool.true_and, and_true, and_false, true_and, false_and]; done) | (simp only [whP, e1, e2, ↓reduceIte, Bool.false_eq_true, if_true, if_false, Bool.and_true, Bool.true_and, and_true, and_false, true_and, false_and]; rfl) | (simp [whP, e1, e2]; done) | (simp [whP, e1, e2]; rfl))
      · skip
        have o2 := lvP_ok ts en hro e2
        have p2 : s2.ns.length ≤ 8 * s2.i := by have := o2.1.phi p1; omega
        have i2 := o2.1.1
        have t2 := o2.1.2.1
        go_wp2_with (go_at_call 151; refine (HS1.out.yes (HL _ _ _ _ HS1.out.rd p1 (by omega)) e2).mono ?_; rintro e w2 ⟨rfl, v2, K2, h2⟩; have HS2 : Hid (Sm rb ts tv en w v kv _ _ _ s2) := h2; clear h2 HS1 lt c1 c3 c5 fz wi wd; have lt := HS2.out.rd.lt; have c1 := HS2.out.rd.c1; have c3 := HS2.out.rd.c3; have fz := HS2.out.rd.fz; have wi := HS2.out.wri; have c5 := HS2.out.rd.c5; have wd := HS2.out.wrd)
        have hd3 : 1 ≤ (s2).d := by have d : (s2).d = (s).d + 1 := o2.1.2.2.1; omega
        have HS3 : Hid (Sm rb ts tv en w v kv _ _ _ (shutP s2)) := HS2.out.shut hd3
        have p3 : ((shutP s2)).ns.length ≤ 8 * ((shutP s2)).i := p2
        go_ret
        exact RmE.yes HS3.out (by first | (simp only [whP, e1, e2, ↓reduceIte, Bool.false_eq_true, if_true, if_false, Bool.and_true, Bool.true_and, and_true, and_false, true_and, false_and]; done) | (simp only [whP, e1, e2, ↓reduceIte, Bool.false_eq_true, if_true, if_false, Bool.and_true, Bool.true_and, and_true, and_false, true_and, false_and]; rfl) | (simp [whP, e1, e2]; done) | (simp [whP, e1, e2]; rfl))
    · skip
      go_wp2_with (go_at_call 150; refine (HS0.out.open_no (.inl q1)).mono ?_; rintro e w1 ⟨rfl, F1, b1⟩; clear lt c1 c3 c5 fz wi wd; have HR : Hid (Fl rb w1 _ _) := F1; have HB : Hid (Rf rb w v w1) := b1; have c3 := HR.out.c3; have lt := HR.out.lt; have ne := HR.out.ne; obtain ⟨dd, c5⟩ := HR.out.c5; have fz := HR.out.fz; clear F1 b1 HS0)
      try go_wp2_with (first | (go_at_call 47; refine (l9Node_fl rb _ _ _ (HR.out.below ((Below.refl _ _).alloc (Nat.le_refl _) _)) _ _ _ _ _ _).mono ?_; rintro e wf ⟨rfl, bf⟩; have HB : Hid (Rf rb w v wf) := (HB.out.next ((Below.refl _ _).alloc (Nat.le_refl _) _)).next bf; have HR : Hid (Fl rb wf _ _) := (HR.out.below ((Below.refl _ _).alloc (Nat.le_refl _) _)).below bf; have c3 := HR.out.c3; have lt := HR.out.lt; clear bf) | (go_at_call 98; refine (l9Want_fl rb _ _ _ HR.out _).mono ?_; rintro e wf ⟨rfl, -, bf⟩; have HB : Hid (Rf rb w v wf) := HB.out.next bf; have HR : Hid (Fl rb wf _ _) := HR.out.below bf; have c3 := HR.out.c3; have lt := HR.out.lt; clear bf) | (go_at_call 47; refine (l9Node_fl rb _ _ _ HR.out _ _ _ _ _ _).mono ?_; rintro e wf ⟨rfl, bf⟩; have HB : Hid (Rf rb w v wf) := HB.out.next bf; have HR : Hid (Fl rb wf _ _) := HR.out.below bf; have c3 := HR.out.c3; have lt := HR.out.lt; clear bf) | (go_at_call 99; refine (l9Expr_fl rb _ _ _ HR.out).mono ?_; rintro e wf ⟨⟨nf, rfl⟩, -, bf⟩; have HB : Hid (Rf rb w v wf) := HB.out.next bf; have HR : Hid (Fl rb wf _ _) := HR.out.below bf; have c3 := HR.out.c3; have lt := HR.out.lt; clear bf) | (go_at_call 100; refine (l9Block_fl rb _ _ _ HR.out).mono ?_; rintro e wf ⟨⟨nf, rfl⟩, -, bf⟩; have HB : Hid (Rf rb w v wf) := HB.out.next bf; have HR : Hid (Fl rb wf _ _) := HR.out.below bf; have c3 := HR.out.c3; have lt := HR.out.lt; clear bf))
      go_ret
      exact RmE.no HR.out HB.out (by first | (simp only [whP, e1, ↓reduceIte, Bool.false_eq_true, if_true, if_false, Bool.and_true, Bool.true_and, and_true, and_false, true_and, false_and]; done) | (simp only [whP, e1, ↓reduceIte, Bool.false_eq_true, if_true, if_false, Bool.and_true, Bool.true_and, and_true, and_false, true_and, false_and]; rfl) | (simp [whP, e1]; done) | (simp [whP, e1]; rfl))
end Go.Proofs.YtiglkhkfbgjjoaaDoor
