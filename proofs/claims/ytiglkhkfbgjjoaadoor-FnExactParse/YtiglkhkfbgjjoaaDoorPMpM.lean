/- The model's reader: a block. -/
import Derived.Test.YtiglkhkfbgjjoaaDoorPMpK
import Derived.Test.YtiglkhkfbgjjoaaDoorPMpN
import Derived.Test.YtiglkhkfbgjjoaaDoorPPaY
namespace Go.Proofs.YtiglkhkfbgjjoaaDoor
set_option maxRecDepth 20000
open Go.RowKit Go.PlainAid Go.Maps
set_option linter.unusedSimpArgs false
set_option linter.unusedVariables false

/-- What a block's statements come to. -/
def blF (R : Except (Int × Int) (List Int × PS)) : Except (Int × Int) (Int × PS) := match R with
  | .error x => .error x
  | .ok (ks, s3) => .ok (addP 21 eT 0 ks (shutP s3))
set_option maxHeartbeats 4000000 in
theorem l9Block_at {rb : Nat} {ts : List TokD} {tv : Value} {en : Nat} {r : Rd} {n : Nat} (hr : RM rb ts tv en r n) (hro : RdOk ts r) (w : World) (v : Value) (kv : List Value) (s : PS) (h : Mdr rb ts tv en w v kv s) (hp : s.ns.length ≤ 8 * s.i) (hf : ts.length < s.i + (n + 1)) :
    Calls Tryd.prog 100 #[.pointer (some ⟨rb, 0, none⟩)] w (RmE rb ts tv en w v kv (blP ts en r s)) := by
  have HS0 : Hid (Sm rb ts tv en w v kv w v [] s) := Sm.begin h
  have hT : ts.length ≤ 3000 := h.tl
  have hI : s.i ≤ ts.length := h.il
  clear h
  have lt := HS0.out.rd.lt
  have c1 := HS0.out.rd.c1
  have c3 := HS0.out.rd.c3
  have fz := HS0.out.rd.fz
  have wi := HS0.out.wri
  have c5 := HS0.out.rd.c5
  have wd := HS0.out.wrd
  go_enter Tryd.func100, Tryd.ntmps100
  cases hx : ts[(s).i]? with
  | none =>
    rw [bl_end hx r]
    go_wp2_with (go_at_call 150; refine (HS0.out.open_no (.inr hx)).mono ?_; rintro e w1 ⟨rfl, F1, b1⟩; clear lt c1 c3 c5 fz wi wd; have HR : Hid (Fl rb w1 _ _) := F1; have HB : Hid (Rf rb w v w1) := b1; have c3 := HR.out.c3; have lt := HR.out.lt; have ne := HR.out.ne; obtain ⟨dd, c5⟩ := HR.out.c5; have fz := HR.out.fz; clear F1 b1 HS0)
    try go_wp2_with (first | (go_at_call 47; refine (l9Node_fl rb _ _ _ (HR.out.below ((Below.refl _ _).alloc (Nat.le_refl _) _)) _ _ _ _ _ _).mono ?_; rintro e wf ⟨rfl, bf⟩; have HB : Hid (Rf rb w v wf) := (HB.out.next ((Below.refl _ _).alloc (Nat.le_refl _) _)).next bf; have HR : Hid (Fl rb wf _ _) := (HR.out.below ((Below.refl _ _).alloc (Nat.le_refl _) _)).below bf; have c3 := HR.out.c3; have lt := HR.out.lt; clear bf) | (go_at_call 98; refine (l9Want_fl rb _ _ _ HR.out _).mono ?_; rintro e wf ⟨rfl, -, bf⟩; have HB : Hid (Rf rb w v wf) := HB.out.next bf; have HR : Hid (Fl rb wf _ _) := HR.out.below bf; have c3 := HR.out.c3; have lt := HR.out.lt; clear bf) | (go_at_call 47; refine (l9Node_fl rb _ _ _ HR.out _ _ _ _ _ _).mono ?_; rintro e wf ⟨rfl, bf⟩; have HB : Hid (Rf rb w v wf) := HB.out.next bf; have HR : Hid (Fl rb wf _ _) := HR.out.below bf; have c3 := HR.out.c3; have lt := HR.out.lt; clear bf) | (go_at_call 99; refine (l9Expr_fl rb _ _ _ HR.out).mono ?_; rintro e wf ⟨⟨nf, rfl⟩, -, bf⟩; have HB : Hid (Rf rb w v wf) := HB.out.next bf; have HR : Hid (Fl rb wf _ _) := HR.out.below bf; have c3 := HR.out.c3; have lt := HR.out.lt; clear bf) | (go_at_call 100; refine (l9Block_fl rb _ _ _ HR.out).mono ?_; rintro e wf ⟨⟨nf, rfl⟩, -, bf⟩; have HB : Hid (Rf rb w v wf) := HB.out.next bf; have HR : Hid (Fl rb wf _ _) := HR.out.below bf; have c3 := HR.out.c3; have lt := HR.out.lt; clear bf))
    go_ret
    exact RmE.no HR.out HB.out (rfl)
  | some xo =>
    rcases open_cases ts en s with ⟨q1, e1⟩ | ⟨q1, e1⟩
    · skip
      have p1 : ((⟨(s).i, (s).d + 1, (s).ns⟩ : PS)).ns.length ≤ 8 * ((⟨(s).i, (s).d + 1, (s).ns⟩ : PS)).i := hp
      have i1 : ((⟨(s).i, (s).d + 1, (s).ns⟩ : PS)).i = (s).i := rfl
      go_wp2_with (go_at_call 150; refine (HS0.out.open_yes xo hx q1).mono ?_; rintro e w1 ⟨rfl, h1⟩; have HS1 : Hid (Sm rb ts tv en w v kv _ _ _ (⟨(s).i, (s).d + 1, (s).ns⟩ : PS)) := h1; clear h1 HS0 lt c1 c3 c5 fz wi wd; have lt := HS1.out.rd.lt; have c1 := HS1.out.rd.c1; have c3 := HS1.out.rd.c3; have fz := HS1.out.rd.fz; have wi := HS1.out.wri; have c5 := True.intro; have wd := True.intro; (try dsimp only at c1 wi))
      rcases want_cases ts en ⟨#[123]⟩ (⟨(s).i, (s).d + 1, (s).ns⟩ : PS) with ⟨q2, e2⟩ | ⟨q2, e2⟩
      · obtain ⟨i0, hi0, hz0, hz1, hz2⟩ := info_parts infoInt
        have p2 : ((adv (⟨(s).i, (s).d + 1, (s).ns⟩ : PS))).ns.length ≤ 8 * ((adv (⟨(s).i, (s).d + 1, (s).ns⟩ : PS))).i := Nat.le_trans p1 (Nat.mul_le_mul_left 8 (Nat.le_succ _))
        have i2 : ((adv (⟨(s).i, (s).d + 1, (s).ns⟩ : PS))).i = s.i + 1 := rfl
        go_wp2_with (go_at_call 98; refine (HS1.out.want_yes _ q2).mono ?_; rintro e w2 ⟨rfl, h2⟩; have HS2 : Hid (Sm rb ts tv en w v kv w2 _ _ (adv (⟨(s).i, (s).d + 1, (s).ns⟩ : PS))) := h2; clear h2 HS1 lt c1 c3 c5 fz wi wd)
        obtain ⟨RR, hRR⟩ : ∃ R, R = bsP ts r (ts.length + 1) [] (adv (⟨(s).i, (s).d + 1, (s).ns⟩ : PS)) := ⟨_, rfl⟩
        have HRR : Hid (RR = bsP ts r (ts.length + 1) [] (adv (⟨(s).i, (s).d + 1, (s).ns⟩ : PS))) := hRR
        have HB0 : Hid (blP ts en r s = blF RR) := by show _ = _; rw [hRR]; simp only [blP, e1, e2]; rfl
        clear hRR
        go_loopw [3] (fun u wr => (∃ (k : Nat) (ks : List Int) (s1 : PS) (v1 : Value) (K : List Value), Hid (Sm rb ts tv en w v kv wr v1 K s1) ∧ Hid (Km rb w wr v1 (kv ++ K) u ks) ∧ Hid (s1.ns.length ≤ 8 * s1.i) ∧ Hid (ts.length < s1.i + k) ∧ Hid (s.i < s1.i ∧ ks.length ≤ s1.i ∧ s1.d = s.d + 1) ∧ Hid (bsP ts r k ks s1 = RR)) ∨ ((∃ b m c, u = .slice b m c) ∧ ∃ x : Int × Int, Hid (Fl rb wr x.1 x.2) ∧ Hid (Rf rb w v wr) ∧ Hid (RR = .error x))) (fun _ wr => msr rb wr)
        case atStart => exact .inl ⟨_, [], _, _, _, HS2.out.below ((Below.refl _ _).alloc (Nat.le_refl _) _), Km.laid HS2.out [] (by simp), p2, (by show _ < _; omega), ⟨by omega, by simp, rfl⟩, HRR.out.symm⟩
        case round =>
          rcases hrel with ⟨k, ks, s3, v3, K3, HS3, HK3, HP, HF, HI, HM⟩ | ⟨⟨ub, um, uc, rfl⟩, x2, HR, HB, HE⟩
          · obtain ⟨ua, uc, rfl⟩ := HK3.out.own.row.form
            obtain ⟨hi1, hi2, hi3⟩ := HI.out
            have hil := HS3.out.rd.il
            have hpp := HP.out
            obtain ⟨k', rfl⟩ : ∃ k', k = k' + 1 := ⟨k - 1, by have := HF.out; omega⟩
            have hff := HF.out
            have lt := HS3.out.rd.lt
            have c1 := HS3.out.rd.c1
            have c3 := HS3.out.rd.c3
            have fz := HS3.out.rd.fz
            have c5 := HS3.out.rd.c5
            cases e4 : isN ts ⟨#[125]⟩ s3
            · rcases e5 : r.st s3 with ⟨x5⟩ | ⟨a5, s5⟩
              · have HE : Hid (RR = .error x5) := by show RR = _; have := HM.out; unfold bsP at this; rw [e4] at this; simp only [Bool.false_eq_true, if_false, e5] at this; exact this.symm
                go_wp2_with (first | (go_at_call 96; refine ((Sm.begin HS3.out.rd).is _ false e4).mono ?_; rintro e w4 ⟨rfl, h4⟩; obtain ⟨h5, k5⟩ := HS3.out.both HK3.out h4; have HS4 : Hid (Sm rb ts tv en w v kv w4 v3 (K3 ++ []) s3) := h5; have HK4 : Hid (Km rb w w4 v3 (kv ++ (K3 ++ [])) (.slice ua ks.length uc) ks) := k5; clear h4 h5 k5 lt c1 c3 fz c5) | (go_at_call 46; refine (hr.st _ _ _ _ HS4.out.rd hpp (by omega)).mono ?_; rintro e w5 hh; obtain ⟨⟨n5, rfl⟩, F5, b5⟩ := hh.2 x5 e5; have HR : Hid (Fl rb w5 x5.1 x5.2) := F5; have HB : Hid (Rf rb w v w5) := Rf.of_rg HS4.out.rg b5; have HQ : Hid (IR (rb + 1) w5 (.slice ua ks.length uc) ks) := HK4.out.rf b5; clear F5 b5 hh) | (at_builtin; refine wpList_append_own_at _ rfl _ _ 69 rfl (rb + 1) 3 i0 (.int .i64 0) 1 8 Tryd.underlying69 hi0 hz0 hz1 hz2 rfl (by decide) (.slice ua ks.length uc) ks.length (icl ks) rfl (IR.alloc HQ.out _) ⟨w5.heap.size, 0, none⟩ 1 1 [.int .i64 n5] rfl rfl (fun j y hy => by have e : (w5.alloc (.cells #[.int .i64 n5] 3)).cell? ((⟨w5.heap.size, 0, none⟩ : Addr).add j) = (#[.int .i64 n5] : Array Value)[j]? := (by cases j <;> simp [go_sem, Addr.add]); rw [e, ← hy]; simp) (by simp [Value.oneCell']) (by unfold maxLen; first | omega | (simp; done) | (simp; omega)) (by first | omega | (simp; done) | (simp; omega)) (by have := HR.out.lt; simp; omega) ?_))
                intro u' w6 hown hgrow _ hat
                obtain ⟨ua', uc', hv'⟩ : ∃ a c, u' = .slice a (ks.length + 1) c := by
                  obtain ⟨_, ⟨h1, h0⟩ | ⟨g, cap, cur, h1, _⟩⟩ := hown
                  · omega
                  · exact ⟨_, _, h1⟩
                subst hv'
                have HR6 : Hid (Fl rb w6 x5.1 x5.2) := (HR.out.below ((Below.refl _ _).alloc (Nat.le_refl _) _)).grown hgrow (fun e => by have := (World.ownsRow.lt HQ.out rb e).1; omega)
                have HB6 : Hid (Rf rb w v w6) := (HB.out.next ((Below.refl _ _).alloc (Nat.le_refl _) _)).grown hgrow (fun g e => HK4.out.new g e)
                have ms1 := HS3.out.rd.msr
                have ms2 := HR6.out.msr
                clear hown hgrow hat
                go_wp2
                refine ⟨.inr ⟨⟨_, _, _, rfl⟩, x5, HR6, HB6, HE⟩, ?_⟩
                show msr rb _ < msr rb _
                rw [ms1, ms2]
                have := HS3.out.rd.tl
                omega
              · have o5 := hro.st e5
                have p5 : s5.ns.length ≤ 8 * s5.i := by have := o5.1.phi hpp; omega
                have i5 := o5.1.1
                have t5 := o5.1.2.1
                have d5 := o5.1.2.2.1
                have HM5 : Hid (bsP ts r k' (ks ++ [a5]) s5 = RR) := by show _ = _; have := HM.out; unfold bsP at this; rw [e4] at this; simp only [Bool.false_eq_true, if_false, e5] at this; exact this
                have hT5 := HS3.out.rd.tl
                go_wp2_with (first | (go_at_call 96; refine ((Sm.begin HS3.out.rd).is _ false e4).mono ?_; rintro e w4 ⟨rfl, h4⟩; obtain ⟨h5, k5⟩ := HS3.out.both HK3.out h4; have HS4 : Hid (Sm rb ts tv en w v kv w4 v3 (K3 ++ []) s3) := h5; have HK4 : Hid (Km rb w w4 v3 (kv ++ (K3 ++ [])) (.slice ua ks.length uc) ks) := k5; clear h4 h5 k5 lt c1 c3 fz c5) | (go_at_call 46; refine (hr.st _ _ _ _ HS4.out.rd hpp (by omega)).mono ?_; rintro e w5 hh; obtain ⟨rfl, v5, k5, h5⟩ := hh.1 a5 s5 e5; obtain ⟨h6, k6⟩ := HS4.out.both HK4.out h5; have HS5 : Hid (Sm rb ts tv en w v kv w5 v5 (K3 ++ [] ++ k5) s5) := h6; have HK5 : Hid (Km rb w w5 v5 (kv ++ (K3 ++ [] ++ k5)) (.slice ua ks.length uc) ks) := k6; clear h5 h6 k6 hh) | (at_builtin; refine wpList_append_own_at _ rfl _ _ 69 rfl (rb + 1) 3 i0 (.int .i64 0) 1 8 Tryd.underlying69 hi0 hz0 hz1 hz2 rfl (by decide) (.slice ua ks.length uc) ks.length (icl ks) rfl (IR.alloc HK5.out.own.row _) ⟨w5.heap.size, 0, none⟩ 1 1 [.int .i64 a5] rfl rfl (fun j y hy => by have e : (w5.alloc (.cells #[.int .i64 a5] 3)).cell? ((⟨w5.heap.size, 0, none⟩ : Addr).add j) = (#[.int .i64 a5] : Array Value)[j]? := (by cases j <;> simp [go_sem, Addr.add]); rw [e, ← hy]; simp) (by simp [Value.oneCell']) (by unfold maxLen; first | omega | (simp; done) | (simp; omega)) (by first | omega | (simp; done) | (simp; omega)) (by have := HS5.out.rd.lt; simp; omega) ?_))
                intro u' w6 hown hgrow _ hat
                obtain ⟨h6, k6⟩ := Km.grow HS5.out HK5.out hown hgrow hat
                have HS6 : Hid (Sm rb ts tv en w v kv w6 v5 _ s5) := h6
                have HK6 : Hid (Km rb w w6 v5 _ u' (ks ++ [a5])) := k6
                have ms1 := HS3.out.rd.msr
                have ms2 := HS6.out.rd.msr
                clear hown hgrow hat h6 k6
                obtain ⟨ua', uc', rfl⟩ := HK6.out.own.row.form
                go_wp2
                refine ⟨.inl ⟨k', ks ++ [a5], s5, v5, _, HS6, HK6, p5, (by show _ < _; omega), ⟨by omega, by simp; omega, by omega⟩, HM5⟩, ?_⟩
                show msr rb _ < msr rb _
                rw [ms1, ms2]
                omega
            · have HE : Hid (RR = .ok (ks, adv s3)) := by show RR = _; have := HM.out; unfold bsP at this; rw [e4] at this; simpa using this.symm
              obtain ⟨xo, hxo, hlt⟩ := isN_ltm e4
              go_wp2_with (first | (go_at_call 96; refine ((Sm.begin HS3.out.rd).is _ true e4).mono ?_; rintro e w4 ⟨rfl, h4⟩; obtain ⟨h5, k5⟩ := HS3.out.both HK3.out h4; have HS4 : Hid (Sm rb ts tv en w v kv w4 v3 (K3 ++ []) s3) := h5; have HK4 : Hid (Km rb w w4 v3 (kv ++ (K3 ++ [])) (.slice ua ks.length uc) ks) := k5; clear h4 h5 k5 lt c1 c3 fz c5) | (go_at_call 98; refine ((Sm.begin HS4.out.rd).want_yes _ e4).mono ?_; rintro e w5 ⟨rfl, h4⟩; obtain ⟨h5, k5⟩ := HS4.out.both HK4.out h4; have HS5 : Hid (Sm rb ts tv en w v kv w5 v3 (K3 ++ [] ++ []) (adv s3)) := h5; have HK5 : Hid (Km rb w w5 v3 (kv ++ (K3 ++ [] ++ [])) (.slice ua ks.length uc) ks) := k5; clear h4 h5 k5; have lt := HS5.out.rd.lt; have c5 := HS5.out.rd.c5; have fz := HS5.out.rd.fz; have wd := HS5.out.wrd))
              have hd : 1 ≤ (adv s3).d := by show 1 ≤ s3.d; omega
              obtain ⟨h5, k5⟩ := HS5.out.both HK5.out ((Sm.begin HS5.out.rd).shut hd)
              have HS6 : Hid _ := h5
              have HK6 : Hid _ := k5
              clear h5 k5
              go_wp2_with (go_at_call 47; refine (HS6.out.node HK6.out 21 eT 0 (by show s3.ns.length ≤ 100000; have := HS3.out.rd.tl; omega)).mono ?_; rintro e w7 ⟨rfl, v7, K7, h7⟩; have HS7 : Hid (Sm rb ts tv en w v kv _ _ _ _) := h7; clear h7)
              go_ret
              exact RmE.yes HS7.out (by rw [HB0.out, HE.out]; rfl)
          · have c3 := HR.out.c3
            have lt := HR.out.lt
            have ne := HR.out.ne
            go_wp2_with (first | (go_at_call 98; refine (l9Want_fl rb _ _ _ HR.out _).mono ?_; rintro e wf ⟨rfl, -, bf⟩; have HB : Hid (Rf rb w v wf) := HB.out.next bf; have HR : Hid (Fl rb wf _ _) := HR.out.below bf; have c3 := HR.out.c3; have lt := HR.out.lt; obtain ⟨dd, c5⟩ := HR.out.c5; have fz := HR.out.fz; clear bf) | (go_at_call 47; refine (l9Node_fl rb _ _ _ (HR.out.put5 _) _ _ _ _ _ _).mono ?_; rintro e wg ⟨rfl, bg⟩; have HB : Hid (Rf rb w v wg) := (HB.out.put _ _).next bg; have HR : Hid (Fl rb wg _ _) := (HR.out.put5 _).below bg; clear bg))
            go_ret
            exact RmE.no HR.out HB.out (by rw [HB0.out, HE.out]; rfl)
      · go_wp2_with (go_at_call 98; refine (HS1.out.want_no _ q2).mono ?_; rintro e w2 ⟨rfl, F2, b2⟩; have HR : Hid (Fl rb w2 _ _) := F2; have HB : Hid (Rf rb w v w2) := b2; clear F2 b2 HS1 lt c1 c3 c5 fz wi wd)
        go_loopw [3] (fun u wr => (∃ b m c, u = .slice b m c) ∧ Hid (Fl rb wr (fh ts en 2 (⟨(s).i, (s).d + 1, (s).ns⟩ : PS)).1 (fh ts en 2 (⟨(s).i, (s).d + 1, (s).ns⟩ : PS)).2) ∧ Hid (Rf rb w v wr)) (fun _ _ => 0)
        case atStart => exact ⟨⟨_, _, _, rfl⟩, HR.out.below ((Below.refl _ _).alloc (Nat.le_refl _) _), HB.out.next ((Below.refl _ _).alloc (Nat.le_refl _) _)⟩
        case round =>
          obtain ⟨⟨ub, um, uc, rfl⟩, HR, HB⟩ := hrel
          have c3 := HR.out.c3
          have lt := HR.out.lt
          have ne := HR.out.ne
          go_wp2_with (first | (go_at_call 98; refine (l9Want_fl rb _ _ _ HR.out _).mono ?_; rintro e wf ⟨rfl, -, bf⟩; have HB : Hid (Rf rb w v wf) := HB.out.next bf; have HR : Hid (Fl rb wf _ _) := HR.out.below bf; have c3 := HR.out.c3; have lt := HR.out.lt; obtain ⟨dd, c5⟩ := HR.out.c5; have fz := HR.out.fz; clear bf) | (go_at_call 47; refine (l9Node_fl rb _ _ _ (HR.out.put5 _) _ _ _ _ _ _).mono ?_; rintro e wg ⟨rfl, bg⟩; have HB : Hid (Rf rb w v wg) := (HB.out.put _ _).next bg; have HR : Hid (Fl rb wg _ _) := (HR.out.put5 _).below bg; clear bg))
          go_ret
          exact RmE.no HR.out HB.out (by simp only [blP, e1, e2])
    · skip
      go_wp2_with (go_at_call 150; refine (HS0.out.open_no (.inl q1)).mono ?_; rintro e w1 ⟨rfl, F1, b1⟩; clear lt c1 c3 c5 fz wi wd; have HR : Hid (Fl rb w1 _ _) := F1; have HB : Hid (Rf rb w v w1) := b1; have c3 := HR.out.c3; have lt := HR.out.lt; have ne := HR.out.ne; obtain ⟨dd, c5⟩ := HR.out.c5; have fz := HR.out.fz; clear F1 b1 HS0)
      try go_wp2_with (first | (go_at_call 47; refine (l9Node_fl rb _ _ _ (HR.out.below ((Below.refl _ _).alloc (Nat.le_refl _) _)) _ _ _ _ _ _).mono ?_; rintro e wf ⟨rfl, bf⟩; have HB : Hid (Rf rb w v wf) := (HB.out.next ((Below.refl _ _).alloc (Nat.le_refl _) _)).next bf; have HR : Hid (Fl rb wf _ _) := (HR.out.below ((Below.refl _ _).alloc (Nat.le_refl _) _)).below bf; have c3 := HR.out.c3; have lt := HR.out.lt; clear bf) | (go_at_call 98; refine (l9Want_fl rb _ _ _ HR.out _).mono ?_; rintro e wf ⟨rfl, -, bf⟩; have HB : Hid (Rf rb w v wf) := HB.out.next bf; have HR : Hid (Fl rb wf _ _) := HR.out.below bf; have c3 := HR.out.c3; have lt := HR.out.lt; clear bf) | (go_at_call 47; refine (l9Node_fl rb _ _ _ HR.out _ _ _ _ _ _).mono ?_; rintro e wf ⟨rfl, bf⟩; have HB : Hid (Rf rb w v wf) := HB.out.next bf; have HR : Hid (Fl rb wf _ _) := HR.out.below bf; have c3 := HR.out.c3; have lt := HR.out.lt; clear bf) | (go_at_call 99; refine (l9Expr_fl rb _ _ _ HR.out).mono ?_; rintro e wf ⟨⟨nf, rfl⟩, -, bf⟩; have HB : Hid (Rf rb w v wf) := HB.out.next bf; have HR : Hid (Fl rb wf _ _) := HR.out.below bf; have c3 := HR.out.c3; have lt := HR.out.lt; clear bf) | (go_at_call 100; refine (l9Block_fl rb _ _ _ HR.out).mono ?_; rintro e wf ⟨⟨nf, rfl⟩, -, bf⟩; have HB : Hid (Rf rb w v wf) := HB.out.next bf; have HR : Hid (Fl rb wf _ _) := HR.out.below bf; have c3 := HR.out.c3; have lt := HR.out.lt; clear bf))
      go_ret
      exact RmE.no HR.out HB.out (by first | (simp only [blP, e1, ↓reduceIte, Bool.false_eq_true, if_true, if_false, Bool.and_true, Bool.true_and, and_true, and_false, true_and, false_and]; done) | (simp only [blP, e1, ↓reduceIte, Bool.false_eq_true, if_true, if_false, Bool.and_true, Bool.true_and, and_true, and_false, true_and, false_and]; rfl) | (simp [blP, e1]; done) | (simp [blP, e1]; rfl))
end Go.Proofs.YtiglkhkfbgjjoaaDoor
