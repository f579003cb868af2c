/- - -/
import Derived.Test.YtiglkhkfbgjjoaaGreatDoorPMpK
import Derived.Test.YtiglkhkfbgjjoaaGreatDoorPPaY
namespace Go.Proofs.YtiglkhkfbgjjoaaGreatDoor
set_option maxRecDepth 20000
open Go.RowKit Go.PlainAid Go.Maps
set_option linter.unusedSimpArgs false
set_option linter.unusedVariables false
theorem Km.rf {rb : Nat} {w0 w1 w2 : World} {v1 : Value} {kv1 : List Value} {u : Value} {ks : List Int} (h : Km rb w0 w1 v1 kv1 u ks) (hr : Rf rb w1 v1 w2) : IR (rb + 1) w2 u ks := by
 have hl : ∀ g, u.ownBlock = some g -> rb < g /\ g < w1.heap.size := fun g e => by have := World.ownsRow.lt h.own.row g e; omega
 obtain ⟨h1, h2⟩ := h.own.row
 refine ⟨h1, ?_⟩
 rcases h2 with h2 | ⟨g, cap, cur, hv, hg, hc, r⟩
 · exact .inl h2
 · have e : u.ownBlock = some g := by rw [hv]; rfl
   have := hl g e
   exact .inr ⟨g, cap, cur, hv, hg, by rw [hr.block g this.2 (by omega) (h.own.ne g e)]; exact hc, r⟩
theorem Fl.grown {rb : Nat} {w w' : World} {c a : Int} {row : Option Nat} (h : Fl rb w c a) (hg : w.grownBy w' row) (hr : row ≠ some rb) : Fl rb w' c a := by
 have hb : w'.heap[rb]? = w.heap[rb]? := hg.block rb h.lt (fun e => hr e.symm)
 have e : ∀ i, w'.cell? ⟨rb, i, none⟩ = w.cell? ⟨rb, i, none⟩ := fun i => World.cell?_of_block (w := w) (a := ⟨rb, i, none⟩) hb
 obtain ⟨d, hd⟩ := h.c5
 exact ⟨Nat.lt_of_lt_of_le h.lt hg.size, by rw [e]; exact h.c3, by rw [e]; exact h.c4, ⟨d, by rw [e]; exact hd⟩, fun i => by rw [World.frozen?_of_block (w := w) (a := ⟨rb, i, none⟩) hb]; exact h.fz i, h.ne⟩
theorem Rf.grown {rb : Nat} {w w1 w2 : World} {v : Value} {row : Option Nat} (h : Rf rb w v w1) (hg : w1.grownBy w2 row) (hr : ∀ g, row = some g -> w.heap.size <= g) : Rf rb w v w2 :=
 ⟨hg.os.trans h.os, hg.tape.trans h.tape, hg.output.trans h.output, Nat.le_trans h.size hg.size, fun k hk h1 h2 => (hg.block k (Nat.lt_of_lt_of_le hk h.size) (fun e => by have := hr k e.symm; omega)).trans (h.block k hk h1 h2)⟩
theorem Sm.both {rb : Nat} {ts : List za} {tv : Value} {en : Nat} {w w1 w2 : World} {v v1 v2 : Value} {kv K k1 : List Value} {s1 s2 : PS} {u : Value} {ks : List Int} (h : Sm rb ts tv en w v kv w1 v1 K s1) (hk : Km rb w w1 v1 (kv ++ K) u ks) (h2 : Sm rb ts tv en w1 v1 (kv ++ K) w2 v2 k1 s2) : Sm rb ts tv en w v kv w2 v2 (K ++ k1) s2 /\ Km rb w w2 v2 (kv ++ (K ++ k1)) u ks :=
 ⟨h.e h2, by rw [<- List.append_assoc]; exact hk.keep h2⟩
def blF (R : Except (Int × Int) (List Int × PS)) : Except (Int × Int) (Int × PS) := match R with
 | .error x => .error x
 | .ok (ks, s3) => .ok (zb 21 eT 0 ks (zap s3))
set_option maxHeartbeats 4000000 in
theorem zno {rb : Nat} {ts : List za} {tv : Value} {en : Nat} {r : Rd} {n : Nat} (hr : RM rb ts tv en r n) (hro : zk ts r) (w : World) (v : Value) (kv : List Value) (s : PS) (h : Mdr rb ts tv en w v kv s) (hp : s.ns.length <= 8 * s.i) (hf : ts.length < s.i + (n + 1)) :
 Calls Tryz.prog 37 #[.pointer (some ⟨rb, 0, none⟩)] w (RmE rb ts tv en w v kv (blP ts en r s)) := by
 have HS0 : Hid (Sm rb ts tv en w v kv w v [] s) := Sm.begin h
 have hT : ts.length <= 3000 := h.tl
 have hI : s.i <= ts.length := h.il
 clear h
 have lt := HS0.out.rd.lt
 have c1 := HS0.out.rd.c1
 have c3 := HS0.out.rd.c3
 have fz := HS0.out.rd.fz
 have wi := HS0.out.wri
 have c5 := HS0.out.rd.c5
 have wd := HS0.out.wrd
 go_enter Tryz.func37, Tryz.ntmps37
 cases hx : ts[(s).i]? with
 | none =>
   rw [zt9 hx r]
   go_wp2_with (go_at_call 84; refine (HS0.out.open_no (.inr hx)).mono ?_; rintro e w1 ⟨rfl, F1, b1⟩; clear lt c1 c3 c5 fz wi wd; have HR : Hid (Fl rb w1 _ _) := F1; have HB : Hid (Rf rb w v w1) := b1; have c3 := HR.out.c3; have lt := HR.out.lt; have ne := HR.out.ne; obtain ⟨dd, c5⟩ := HR.out.c5; have fz := HR.out.fz; clear F1 b1 HS0)
   try go_wp2_with (first | (go_at_call 17; refine (zc rb _ _ _ (HR.out.below ((Below.refl _ _).alloc (Nat.le_refl _) _)) _ _ _ _ _ _).mono ?_; rintro e wf ⟨rfl, bf⟩; have HB : Hid (Rf rb w v wf) := (HB.out.next ((Below.refl _ _).alloc (Nat.le_refl _) _)).next bf; have HR : Hid (Fl rb wf _ _) := (HR.out.below ((Below.refl _ _).alloc (Nat.le_refl _) _)).below bf; have c3 := HR.out.c3; have lt := HR.out.lt; clear bf) | (go_at_call 35; refine (zm rb _ _ _ HR.out _).mono ?_; rintro e wf ⟨rfl, -, bf⟩; have HB : Hid (Rf rb w v wf) := HB.out.next bf; have HR : Hid (Fl rb wf _ _) := HR.out.below bf; have c3 := HR.out.c3; have lt := HR.out.lt; clear bf) | (go_at_call 17; refine (zc rb _ _ _ HR.out _ _ _ _ _ _).mono ?_; rintro e wf ⟨rfl, bf⟩; have HB : Hid (Rf rb w v wf) := HB.out.next bf; have HR : Hid (Fl rb wf _ _) := HR.out.below bf; have c3 := HR.out.c3; have lt := HR.out.lt; clear bf) | (go_at_call 36; refine (zt rb _ _ _ HR.out).mono ?_; rintro e wf ⟨⟨nf, rfl⟩, -, bf⟩; have HB : Hid (Rf rb w v wf) := HB.out.next bf; have HR : Hid (Fl rb wf _ _) := HR.out.below bf; have c3 := HR.out.c3; have lt := HR.out.lt; clear bf) | (go_at_call 37; refine (zo rb _ _ _ HR.out).mono ?_; rintro e wf ⟨⟨nf, rfl⟩, -, bf⟩; have HB : Hid (Rf rb w v wf) := HB.out.next bf; have HR : Hid (Fl rb wf _ _) := HR.out.below bf; have c3 := HR.out.c3; have lt := HR.out.lt; clear bf))
   go_ret
   exact RmE.no HR.out HB.out (rfl)
 | some xo =>
   rcases za2 ts en s with ⟨q1, e1⟩ | ⟨q1, e1⟩
   · skip
     have p1 : ((⟨(s).i, (s).d + 1, (s).ns⟩ : PS)).ns.length <= 8 * ((⟨(s).i, (s).d + 1, (s).ns⟩ : PS)).i := hp
     have i1 : ((⟨(s).i, (s).d + 1, (s).ns⟩ : PS)).i = (s).i := rfl
     go_wp2_with (go_at_call 84; refine (HS0.out.open_yes xo hx q1).mono ?_; rintro e w1 ⟨rfl, h1⟩; have HS1 : Hid (Sm rb ts tv en w v kv _ _ _ (⟨(s).i, (s).d + 1, (s).ns⟩ : PS)) := h1; clear h1 HS0 lt c1 c3 c5 fz wi wd; have lt := HS1.out.rd.lt; have c1 := HS1.out.rd.c1; have c3 := HS1.out.rd.c3; have fz := HS1.out.rd.fz; have wi := HS1.out.wri; have c5 := True.intro; have wd := True.intro; (try dsimp only at c1 wi))
     rcases zac ts en ⟨#[123]⟩ (⟨(s).i, (s).d + 1, (s).ns⟩ : PS) with ⟨q2, e2⟩ | ⟨q2, e2⟩
     · obtain ⟨i0, hi0, hz0, hz1, hz2⟩ := info_parts zb6
       have p2 : ((adv (⟨(s).i, (s).d + 1, (s).ns⟩ : PS))).ns.length <= 8 * ((adv (⟨(s).i, (s).d + 1, (s).ns⟩ : PS))).i := Nat.le_trans p1 (Nat.mul_le_mul_left 8 (Nat.le_succ _))
       have i2 : ((adv (⟨(s).i, (s).d + 1, (s).ns⟩ : PS))).i = s.i + 1 := rfl
       go_wp2_with (go_at_call 35; refine (HS1.out.want_yes _ q2).mono ?_; rintro e w2 ⟨rfl, h2⟩; have HS2 : Hid (Sm rb ts tv en w v kv w2 _ _ (adv (⟨(s).i, (s).d + 1, (s).ns⟩ : PS))) := h2; clear h2 HS1 lt c1 c3 c5 fz wi wd)
       obtain ⟨RR, hRR⟩ : ∃ R, R = bsP ts r (ts.length + 1) [] (adv (⟨(s).i, (s).d + 1, (s).ns⟩ : PS)) := ⟨_, rfl⟩
       have HRR : Hid (RR = bsP ts r (ts.length + 1) [] (adv (⟨(s).i, (s).d + 1, (s).ns⟩ : PS))) := hRR
       have HB0 : Hid (blP ts en r s = blF RR) := by show _ = _; rw [hRR]; simp only [blP, e1, e2]; rfl
       clear hRR
       go_loopw [3] (fun u wr => (∃ (k : Nat) (ks : List Int) (s1 : PS) (v1 : Value) (K : List Value), Hid (Sm rb ts tv en w v kv wr v1 K s1) /\ Hid (Km rb w wr v1 (kv ++ K) u ks) /\ Hid (s1.ns.length <= 8 * s1.i) /\ Hid (ts.length < s1.i + k) /\ Hid (s.i < s1.i /\ ks.length <= s1.i /\ s1.d = s.d + 1) /\ Hid (bsP ts r k ks s1 = RR)) \/ ((∃ b m c, u = .slice b m c) /\ ∃ x : Int × Int, Hid (Fl rb wr x.1 x.2) /\ Hid (Rf rb w v wr) /\ Hid (RR = .error x))) (fun _ wr => msr rb wr)
       case atStart => exact .inl ⟨_, [], _, _, _, HS2.out.below ((Below.refl _ _).alloc (Nat.le_refl _) _), Km.laid HS2.out [] (by simp), p2, (by show _ < _; omega), ⟨by omega, by simp, rfl⟩, HRR.out.symm⟩
       case round =>
        rcases hrel with ⟨k, ks, s3, v3, K3, HS3, HK3, HP, HF, HI, HM⟩ | ⟨⟨ub, um, uc, rfl⟩, x2, HR, HB, HE⟩
        · obtain ⟨ua, uc, rfl⟩ := HK3.out.own.row.form
          obtain ⟨hi1, hi2, hi3⟩ := HI.out
          have hil := HS3.out.rd.il
          have hpp := HP.out
          obtain ⟨k', rfl⟩ : ∃ k', k = k' + 1 := ⟨k - 1, by have := HF.out; omega⟩
          have hff := HF.out
          have lt := HS3.out.rd.lt
          have c1 := HS3.out.rd.c1
          have c3 := HS3.out.rd.c3
          have fz := HS3.out.rd.fz
          have c5 := HS3.out.rd.c5
          cases e4 : isN ts ⟨#[125]⟩ s3
          · rcases e5 : r.st s3 with ⟨x5⟩ | ⟨a5, s5⟩
            · have HE : Hid (RR = .error x5) := by show RR = _; have := HM.out; unfold bsP at this; rw [e4] at this; simp only [Bool.false_eq_true, if_false, e5] at this; exact this.symm
              go_wp2_with (first | (go_at_call 33; refine ((Sm.begin HS3.out.rd).is _ false e4).mono ?_; rintro e w4 ⟨rfl, h4⟩; obtain ⟨h5, k5⟩ := HS3.out.both HK3.out h4; have HS4 : Hid (Sm rb ts tv en w v kv w4 v3 (K3 ++ []) s3) := h5; have HK4 : Hid (Km rb w w4 v3 (kv ++ (K3 ++ [])) (.slice ua ks.length uc) ks) := k5; clear h4 h5 k5 lt c1 c3 fz c5) | (go_at_call 16; refine (hr.st _ _ _ _ HS4.out.rd hpp (by omega)).mono ?_; rintro e w5 hh; obtain ⟨⟨n5, rfl⟩, F5, b5⟩ := hh.2 x5 e5; have HR : Hid (Fl rb w5 x5.1 x5.2) := F5; have HB : Hid (Rf rb w v w5) := Rf.of_rg HS4.out.rg b5; have HQ : Hid (IR (rb + 1) w5 (.slice ua ks.length uc) ks) := HK4.out.rf b5; clear F5 b5 hh) | (at_builtin; refine wpList_append_own_at _ rfl _ _ 32 rfl (rb + 1) 3 i0 (.int .i64 0) 1 8 Tryz.underlying32 hi0 hz0 hz1 hz2 rfl (by decide) (.slice ua ks.length uc) ks.length (icl ks) rfl (IR.alloc HQ.out _) ⟨w5.heap.size, 0, none⟩ 1 1 [.int .i64 n5] rfl rfl (fun j y hy => by have e : (w5.alloc (.cells #[.int .i64 n5] 3)).cell? ((⟨w5.heap.size, 0, none⟩ : Addr).add j) = (#[.int .i64 n5] : Array Value)[j]? := (by cases j <;> simp [go_sem, Addr.add]); rw [e, <- hy]; simp) (by simp [Value.oneCell']) (by unfold maxLen; first | omega | (simp; done) | (simp; omega)) (by first | omega | (simp; done) | (simp; omega)) (by have := HR.out.lt; simp; omega) ?_))
              intro u' w6 hown hgrow _ hat
              obtain ⟨ua', uc', hv'⟩ : ∃ a c, u' = .slice a (ks.length + 1) c := by
               obtain ⟨_, ⟨h1, h0⟩ | ⟨g, cap, cur, h1, _⟩⟩ := hown
               · omega
               · exact ⟨_, _, h1⟩
              subst hv'
              have HR6 : Hid (Fl rb w6 x5.1 x5.2) := (HR.out.below ((Below.refl _ _).alloc (Nat.le_refl _) _)).grown hgrow (fun e => by have := (World.ownsRow.lt HQ.out rb e).1; omega)
              have HB6 : Hid (Rf rb w v w6) := (HB.out.next ((Below.refl _ _).alloc (Nat.le_refl _) _)).grown hgrow (fun g e => HK4.out.new g e)
              have ms1 := HS3.out.rd.msr
              have ms2 := HR6.out.msr
              clear hown hgrow hat
              go_wp2
              refine ⟨.inr ⟨⟨_, _, _, rfl⟩, x5, HR6, HB6, HE⟩, ?_⟩
              show msr rb _ < msr rb _
              rw [ms1, ms2]
              have := HS3.out.rd.tl
              omega
            · have o5 := hro.st e5
              have p5 : s5.ns.length <= 8 * s5.i := by have := o5.1.phi hpp; omega
              have i5 := o5.1.1
              have t5 := o5.1.2.1
              have d5 := o5.1.2.2.1
              have HM5 : Hid (bsP ts r k' (ks ++ [a5]) s5 = RR) := by show _ = _; have := HM.out; unfold bsP at this; rw [e4] at this; simp only [Bool.false_eq_true, if_false, e5] at this; exact this
              have hT5 := HS3.out.rd.tl
              go_wp2_with (first | (go_at_call 33; refine ((Sm.begin HS3.out.rd).is _ false e4).mono ?_; rintro e w4 ⟨rfl, h4⟩; obtain ⟨h5, k5⟩ := HS3.out.both HK3.out h4; have HS4 : Hid (Sm rb ts tv en w v kv w4 v3 (K3 ++ []) s3) := h5; have HK4 : Hid (Km rb w w4 v3 (kv ++ (K3 ++ [])) (.slice ua ks.length uc) ks) := k5; clear h4 h5 k5 lt c1 c3 fz c5) | (go_at_call 16; refine (hr.st _ _ _ _ HS4.out.rd hpp (by omega)).mono ?_; rintro e w5 hh; obtain ⟨rfl, v5, k5, h5⟩ := hh.1 a5 s5 e5; obtain ⟨h6, k6⟩ := HS4.out.both HK4.out h5; have HS5 : Hid (Sm rb ts tv en w v kv w5 v5 (K3 ++ [] ++ k5) s5) := h6; have HK5 : Hid (Km rb w w5 v5 (kv ++ (K3 ++ [] ++ k5)) (.slice ua ks.length uc) ks) := k6; clear h5 h6 k6 hh) | (at_builtin; refine wpList_append_own_at _ rfl _ _ 32 rfl (rb + 1) 3 i0 (.int .i64 0) 1 8 Tryz.underlying32 hi0 hz0 hz1 hz2 rfl (by decide) (.slice ua ks.length uc) ks.length (icl ks) rfl (IR.alloc HK5.out.own.row _) ⟨w5.heap.size, 0, none⟩ 1 1 [.int .i64 a5] rfl rfl (fun j y hy => by have e : (w5.alloc (.cells #[.int .i64 a5] 3)).cell? ((⟨w5.heap.size, 0, none⟩ : Addr).add j) = (#[.int .i64 a5] : Array Value)[j]? := (by cases j <;> simp [go_sem, Addr.add]); rw [e, <- hy]; simp) (by simp [Value.oneCell']) (by unfold maxLen; first | omega | (simp; done) | (simp; omega)) (by first | omega | (simp; done) | (simp; omega)) (by have := HS5.out.rd.lt; simp; omega) ?_))
              intro u' w6 hown hgrow _ hat
              obtain ⟨h6, k6⟩ := Km.grow HS5.out HK5.out hown hgrow hat
              have HS6 : Hid (Sm rb ts tv en w v kv w6 v5 _ s5) := h6
              have HK6 : Hid (Km rb w w6 v5 _ u' (ks ++ [a5])) := k6
              have ms1 := HS3.out.rd.msr
              have ms2 := HS6.out.rd.msr
              clear hown hgrow hat h6 k6
              obtain ⟨ua', uc', rfl⟩ := HK6.out.own.row.form
              go_wp2
              refine ⟨.inl ⟨k', ks ++ [a5], s5, v5, _, HS6, HK6, p5, (by show _ < _; omega), ⟨by omega, by simp; omega, by omega⟩, HM5⟩, ?_⟩
              show msr rb _ < msr rb _
              rw [ms1, ms2]
              omega
          · have HE : Hid (RR = .ok (ks, adv s3)) := by show RR = _; have := HM.out; unfold bsP at this; rw [e4] at this; simpa using this.symm
            obtain ⟨xo, hxo, hlt⟩ := zah e4
            go_wp2_with (first | (go_at_call 33; refine ((Sm.begin HS3.out.rd).is _ true e4).mono ?_; rintro e w4 ⟨rfl, h4⟩; obtain ⟨h5, k5⟩ := HS3.out.both HK3.out h4; have HS4 : Hid (Sm rb ts tv en w v kv w4 v3 (K3 ++ []) s3) := h5; have HK4 : Hid (Km rb w w4 v3 (kv ++ (K3 ++ [])) (.slice ua ks.length uc) ks) := k5; clear h4 h5 k5 lt c1 c3 fz c5) | (go_at_call 35; refine ((Sm.begin HS4.out.rd).want_yes _ e4).mono ?_; rintro e w5 ⟨rfl, h4⟩; obtain ⟨h5, k5⟩ := HS4.out.both HK4.out h4; have HS5 : Hid (Sm rb ts tv en w v kv w5 v3 (K3 ++ [] ++ []) (adv s3)) := h5; have HK5 : Hid (Km rb w w5 v3 (kv ++ (K3 ++ [] ++ [])) (.slice ua ks.length uc) ks) := k5; clear h4 h5 k5; have lt := HS5.out.rd.lt; have c5 := HS5.out.rd.c5; have fz := HS5.out.rd.fz; have wd := HS5.out.wrd))
            have hd : 1 <= (adv s3).d := by show 1 <= s3.d; omega
            obtain ⟨h5, k5⟩ := HS5.out.both HK5.out ((Sm.begin HS5.out.rd).shut hd)
            have HS6 : Hid _ := h5
            have HK6 : Hid _ := k5
            clear h5 k5
            go_wp2_with (go_at_call 17; refine (HS6.out.node HK6.out 21 eT 0 (by show s3.ns.length <= 100000; have := HS3.out.rd.tl; omega)).mono ?_; rintro e w7 ⟨rfl, v7, K7, h7⟩; have HS7 : Hid (Sm rb ts tv en w v kv _ _ _ _) := h7; clear h7)
            go_ret
            exact RmE.yes HS7.out (by rw [HB0.out, HE.out]; rfl)
        · have c3 := HR.out.c3
          have lt := HR.out.lt
          have ne := HR.out.ne
          go_wp2_with (first | (go_at_call 35; refine (zm rb _ _ _ HR.out _).mono ?_; rintro e wf ⟨rfl, -, bf⟩; have HB : Hid (Rf rb w v wf) := HB.out.next bf; have HR : Hid (Fl rb wf _ _) := HR.out.below bf; have c3 := HR.out.c3; have lt := HR.out.lt; obtain ⟨dd, c5⟩ := HR.out.c5; have fz := HR.out.fz; clear bf) | (go_at_call 17; refine (zc rb _ _ _ (HR.out.put5 _) _ _ _ _ _ _).mono ?_; rintro e wg ⟨rfl, bg⟩; have HB : Hid (Rf rb w v wg) := (HB.out.put _ _).next bg; have HR : Hid (Fl rb wg _ _) := (HR.out.put5 _).below bg; clear bg))
          go_ret
          exact RmE.no HR.out HB.out (by rw [HB0.out, HE.out]; rfl)
     · go_wp2_with (go_at_call 35; refine (HS1.out.want_no _ q2).mono ?_; rintro e w2 ⟨rfl, F2, b2⟩; have HR : Hid (Fl rb w2 _ _) := F2; have HB : Hid (Rf rb w v w2) := b2; clear F2 b2 HS1 lt c1 c3 c5 fz wi wd)
       go_loopw [3] (fun u wr => (∃ b m c, u = .slice b m c) /\ Hid (Fl rb wr (fh ts en 2 (⟨(s).i, (s).d + 1, (s).ns⟩ : PS)).1 (fh ts en 2 (⟨(s).i, (s).d + 1, (s).ns⟩ : PS)).2) /\ Hid (Rf rb w v wr)) (fun _ _ => 0)
       case atStart => exact ⟨⟨_, _, _, rfl⟩, HR.out.below ((Below.refl _ _).alloc (Nat.le_refl _) _), HB.out.next ((Below.refl _ _).alloc (Nat.le_refl _) _)⟩
       case round =>
        obtain ⟨⟨ub, um, uc, rfl⟩, HR, HB⟩ := hrel
        have c3 := HR.out.c3
        have lt := HR.out.lt
        have ne := HR.out.ne
        go_wp2_with (first | (go_at_call 35; refine (zm rb _ _ _ HR.out _).mono ?_; rintro e wf ⟨rfl, -, bf⟩; have HB : Hid (Rf rb w v wf) := HB.out.next bf; have HR : Hid (Fl rb wf _ _) := HR.out.below bf; have c3 := HR.out.c3; have lt := HR.out.lt; obtain ⟨dd, c5⟩ := HR.out.c5; have fz := HR.out.fz; clear bf) | (go_at_call 17; refine (zc rb _ _ _ (HR.out.put5 _) _ _ _ _ _ _).mono ?_; rintro e wg ⟨rfl, bg⟩; have HB : Hid (Rf rb w v wg) := (HB.out.put _ _).next bg; have HR : Hid (Fl rb wg _ _) := (HR.out.put5 _).below bg; clear bg))
        go_ret
        exact RmE.no HR.out HB.out (by simp only [blP, e1, e2])
   · skip
     go_wp2_with (go_at_call 84; refine (HS0.out.open_no (.inl q1)).mono ?_; rintro e w1 ⟨rfl, F1, b1⟩; clear lt c1 c3 c5 fz wi wd; have HR : Hid (Fl rb w1 _ _) := F1; have HB : Hid (Rf rb w v w1) := b1; have c3 := HR.out.c3; have lt := HR.out.lt; have ne := HR.out.ne; obtain ⟨dd, c5⟩ := HR.out.c5; have fz := HR.out.fz; clear F1 b1 HS0)
     try go_wp2_with (first | (go_at_call 17; refine (zc rb _ _ _ (HR.out.below ((Below.refl _ _).alloc (Nat.le_refl _) _)) _ _ _ _ _ _).mono ?_; rintro e wf ⟨rfl, bf⟩; have HB : Hid (Rf rb w v wf) := (HB.out.next ((Below.refl _ _).alloc (Nat.le_refl _) _)).next bf; have HR : Hid (Fl rb wf _ _) := (HR.out.below ((Below.refl _ _).alloc (Nat.le_refl _) _)).below bf; have c3 := HR.out.c3; have lt := HR.out.lt; clear bf) | (go_at_call 35; refine (zm rb _ _ _ HR.out _).mono ?_; rintro e wf ⟨rfl, -, bf⟩; have HB : Hid (Rf rb w v wf) := HB.out.next bf; have HR : Hid (Fl rb wf _ _) := HR.out.below bf; have c3 := HR.out.c3; have lt := HR.out.lt; clear bf) | (go_at_call 17; refine (zc rb _ _ _ HR.out _ _ _ _ _ _).mono ?_; rintro e wf ⟨rfl, bf⟩; have HB : Hid (Rf rb w v wf) := HB.out.next bf; have HR : Hid (Fl rb wf _ _) := HR.out.below bf; have c3 := HR.out.c3; have lt := HR.out.lt; clear bf) | (go_at_call 36; refine (zt rb _ _ _ HR.out).mono ?_; rintro e wf ⟨⟨nf, rfl⟩, -, bf⟩; have HB : Hid (Rf rb w v wf) := HB.out.next bf; have HR : Hid (Fl rb wf _ _) := HR.out.below bf; have c3 := HR.out.c3; have lt := HR.out.lt; clear bf) | (go_at_call 37; refine (zo rb _ _ _ HR.out).mono ?_; rintro e wf ⟨⟨nf, rfl⟩, -, bf⟩; have HB : Hid (Rf rb w v wf) := HB.out.next bf; have HR : Hid (Fl rb wf _ _) := HR.out.below bf; have c3 := HR.out.c3; have lt := HR.out.lt; clear bf))
     go_ret
     exact RmE.no HR.out HB.out (by first | (simp only [blP, e1, ↓reduceIte, Bool.false_eq_true, if_true, if_false, Bool.and_true, Bool.true_and, and_true, and_false, true_and, false_and]; done) | (simp only [blP, e1, ↓reduceIte, Bool.false_eq_true, if_true, if_false, Bool.and_true, Bool.true_and, and_true, and_false, true_and, false_and]; rfl) | (simp [blP, e1]; done) | (simp [blP, e1]; rfl))
structure SK (rb : Nat) (ts : List za) (tv : Value) (en : Nat) (w : World) (v : Value) (kv : List Value) (w1 : World) (v1 : Value) (K : List Value) (s1 : PS) (u : Value) (ks : List Int) : Prop where
 sm : Sm rb ts tv en w v kv w1 v1 K s1
 km : Km rb w w1 v1 (kv ++ K) u ks
structure FK (rb : Nat) (w : World) (v : Value) (w1 : World) (u : Value) (ks : List Int) (x : Int × Int) : Prop where
 fl : Fl rb w1 x.1 x.2
 rf : Rf rb w v w1
 ir : IR (rb + 1) w1 u ks
 new : ∀ g, u.ownBlock = some g -> w.heap.size <= g
section
variable {rb : Nat} {ts : List za} {tv : Value} {en : Nat} {w w1 w2 : World} {v v1 v2 : Value} {kv K : List Value} {s s1 s2 : PS} {u : Value} {ks : List Int} {x : Int × Int}
theorem SK.ext (h : SK rb ts tv en w v kv w1 v1 K s1 u ks) {k1 : List Value} (h2 : Sm rb ts tv en w1 v1 (kv ++ K) w2 v2 k1 s2) : SK rb ts tv en w v kv w2 v2 (K ++ k1) s2 u ks := ⟨(h.sm.both h.km h2).1, (h.sm.both h.km h2).2⟩
theorem SK.fk (h : SK rb ts tv en w v kv w1 v1 K s1 u ks) (hF : Fl rb w2 x.1 x.2) (hR : Rf rb w1 v1 w2) : FK rb w v w2 u ks x := ⟨hF, Rf.of_rg h.sm.rg hR, h.km.rf hR, h.km.new⟩
theorem FK.below (h : FK rb w v w1 u ks x) (b : Below w1.heap.size w1 w2) : FK rb w v w2 u ks x := ⟨h.fl.below b, h.rf.next b, h.ir.below b, h.new⟩
theorem SK.is (h : SK rb ts tv en w v kv w1 v1 K s1 u ks) (b : ByteArray) (q : Bool) (hq : isN ts b s1 = q) :
 Calls Tryz.prog 33 #[.pointer (some ⟨rb, 0, none⟩), .string b] w1 fun e w2 => e = .returned (.bool q) /\ ∃ K2, SK rb ts tv en w v kv w2 v1 K2 s1 u ks :=
 ((Sm.begin h.sm.rd).is b q hq).mono fun e w2 ⟨h1, h2⟩ => ⟨h1, _, h.ext h2⟩
theorem SK.want_yes (h : SK rb ts tv en w v kv w1 v1 K s1 u ks) (b : ByteArray) (hq : isN ts b s1 = true) :
 Calls Tryz.prog 35 #[.pointer (some ⟨rb, 0, none⟩), .string b] w1 fun e w2 => e = .returned (.tuple #[]) /\ ∃ K2, SK rb ts tv en w v kv w2 v1 K2 (adv s1) u ks :=
 ((Sm.begin h.sm.rd).want_yes b hq).mono fun e w2 ⟨h1, h2⟩ => ⟨h1, _, h.ext h2⟩
theorem SK.want_no (h : SK rb ts tv en w v kv w1 v1 K s1 u ks) (b : ByteArray) (hq : isN ts b s1 = false) :
 Calls Tryz.prog 35 #[.pointer (some ⟨rb, 0, none⟩), .string b] w1 fun e w2 => e = .returned (.tuple #[]) /\ FK rb w v w2 u ks (fh ts en 2 s1) :=
 ((Sm.begin h.sm.rd).want_no b hq).mono fun e w2 ⟨h1, h2, h3⟩ => ⟨h1, h.fk h2 h3⟩
theorem SK.name_yes (h : SK rb ts tv en w v kv w1 v1 K s1 u ks) (x : za) (hx : ts[s1.i]? = some x) (hk : x.k = 1) :
 Calls Tryz.prog 34 #[.pointer (some ⟨rb, 0, none⟩)] w1 fun e w2 => e = .returned (.string x.tx) /\ ∃ K2, SK rb ts tv en w v kv w2 v1 K2 (adv s1) u ks :=
 ((Sm.begin h.sm.rd).name_yes x hx hk).mono fun e w2 ⟨h1, h2⟩ => ⟨h1, _, h.ext h2⟩
theorem SK.name_no (h : SK rb ts tv en w v kv w1 v1 K s1 u ks) (hq : kdN ts 1 s1 = false) :
 Calls Tryz.prog 34 #[.pointer (some ⟨rb, 0, none⟩)] w1 fun e w2 => e = .returned (.string ⟨#[]⟩) /\ FK rb w v w2 u ks (fh ts en 2 s1) :=
 ((Sm.begin h.sm.rd).name_no hq).mono fun e w2 ⟨h1, h2, h3⟩ => ⟨h1, h.fk h2 h3⟩
theorem SK.node0 (h : SK rb ts tv en w v kv w1 v1 K s1 u ks) (k : Int) (t : ByteArray) (i : Int) (hn : s1.ns.length <= 100000) (hk8 : k ≠ 8 := by decide) :
 Calls Tryz.prog 17 #[.pointer (some ⟨rb, 0, none⟩), .agg #[.int .i64 k, .string t, .int .i64 i, .slice none 0 0]] w1 fun e w2 => e = .returned (.int .i64 (zb k t i [] s1).1) /\ ∃ v2 K2, SK rb ts tv en w v kv w2 v2 K2 (zb k t i [] s1).2 u ks :=
 ((Sm.begin h.sm.rd).node0 k t i hn hk8).mono fun e w2 ⟨h1, v2, K2, h2⟩ => ⟨h1, v2, _, h.ext h2⟩
theorem SK.node0' (h : SK rb ts tv en w v kv w1 v1 K s1 u ks) (k : Int) (t : ByteArray) (i : Int) (hn : s1.ns.length <= 100000) {a6 : Int} {s6 : PS} (hy : (a6, s6) = zb k t i [] s1) (hk8 : k ≠ 8 := by decide) :
 Calls Tryz.prog 17 #[.pointer (some ⟨rb, 0, none⟩), .agg #[.int .i64 k, .string t, .int .i64 i, .slice none 0 0]] w1 fun e w2 => e = .returned (.int .i64 a6) /\ ∃ v2 K2, SK rb ts tv en w v kv w2 v2 K2 s6 u ks := by
 have := h.node0 k t i hn hk8
 rw [<- hy] at this
 exact this
theorem SK.yes (h : SK rb ts tv en w v kv w1 v1 K s1 u ks) {f : Nat} {args : Array Value} {r : Except (Int × Int) (Int × PS)} (hc : Calls Tryz.prog f args w1 (RmE rb ts tv en w1 v1 (kv ++ K) r)) {n : Int} (hE : r = .ok (n, s2)) :
 Calls Tryz.prog f args w1 fun e w2 => e = .returned (.int .i64 n) /\ ∃ v2 K2, SK rb ts tv en w v kv w2 v2 K2 s2 u ks :=
 hc.mono fun e w2 h2 => by
  obtain ⟨he, v2, K2, h3⟩ := h2.1 n s2 hE
  exact ⟨he, v2, _, h.ext h3⟩
theorem SK.no (h : SK rb ts tv en w v kv w1 v1 K s1 u ks) {f : Nat} {args : Array Value} {r : Except (Int × Int) (Int × PS)} (hc : Calls Tryz.prog f args w1 (RmE rb ts tv en w1 v1 (kv ++ K) r)) {x : Int × Int} (hE : r = .error x) :
 Calls Tryz.prog f args w1 fun e w2 => (∃ n, e = .returned (.int .i64 n)) /\ FK rb w v w2 u ks x :=
 hc.mono fun e w2 h2 => by
  obtain ⟨he, h3, h4⟩ := h2.2 x hE
  exact ⟨he, h.fk h3 h4⟩
theorem SK.node (h : SK rb ts tv en w v kv w1 v1 K s1 u ks) (k : Int) (t : ByteArray) (i : Int) (hn : s1.ns.length <= 100000) (hks : k = 8 -> ks.length = 2 := by simp) :
 Calls Tryz.prog 17 #[.pointer (some ⟨rb, 0, none⟩), .agg #[.int .i64 k, .string t, .int .i64 i, u]] w1 fun e w2 => e = .returned (.int .i64 (zb k t i ks s1).1) /\ ∃ v2 K2, Sm rb ts tv en w v kv w2 v2 K2 (zb k t i ks s1).2 := h.sm.node h.km k t i hn hks
theorem SK.laid (h : Sm rb ts tv en w v kv w1 v1 K s1) (ks : List Int) (hk : ks.length <= 1048576) : SK rb ts tv en w v kv (w1.alloc (.cells (icl ks).toArray 3)) v1 K s1 (.slice (some ⟨w1.heap.size, 0, none⟩) ks.length ks.length) ks := ⟨h.below ((Below.refl _ _).alloc (Nat.le_refl _) _), Km.laid h ks hk⟩
theorem SK.laid' (h : Sm rb ts tv en w v kv w1 v1 K s1) (ks : List Int) (hk : ks.length <= 1048576) (g n : Nat) (hg : g = w1.heap.size) (hn : n = ks.length) : SK rb ts tv en w v kv (w1.alloc (.cells (icl ks).toArray 3)) v1 K s1 (.slice (some ⟨g, 0, none⟩) n n) ks := by
 subst hg hn
 exact SK.laid h ks hk
theorem SK.adv (h : SK rb ts tv en w v kv w1 v1 K s1 u ks) (hi : s1.i < ts.length) : ∃ K2, SK rb ts tv en w v kv (w1.setCell ⟨rb, 1, none⟩ (.int .i64 ((s1.i : Int) + 1))) v1 K2 (Go.Proofs.YtiglkhkfbgjjoaaGreatDoor.adv s1) u ks := ⟨_, h.ext ((Sm.begin h.sm.rd).adv hi)⟩
theorem SK.form (h : SK rb ts tv en w v kv w1 v1 K s1 u ks) : ∃ a c, u = .slice a ks.length c := h.km.own.row.form
theorem SK.formL (h : SK rb ts tv en w v kv w1 v1 K s1 u ks) : ∃ a L c, u = .slice a L c /\ L = ks.length := by
 obtain ⟨a, c, e⟩ := h.form
 exact ⟨a, _, c, e, rfl⟩
theorem FK.form (h : FK rb w v w1 u ks x) : ∃ a L c, u = .slice a L c /\ L = ks.length := by
 obtain ⟨a, c, e⟩ := h.ir.form
 exact ⟨a, _, c, e, rfl⟩
theorem zdh {ops : Array Oper} {rest : List Oper} {o : Oper} {a : Act} {Q : Exit -> Act -> World -> Prop} (hgd : o.guard = none) (sx y : Operand) (ho : o.op = .call { callee := .builtin .append, args := #[sx, y], argTypes := #[32, 32] })
 (h : SK rb ts tv en w v kv w1 v1 K s1 u ks) (n : Int) (g : Nat) (hg : g = w1.heap.size) (hs : a.eval sx = u) (hx : a.eval y = .slice (some ⟨g, 0, none⟩) 1 1) (hk : ks.length <= 100000)
 (hc : ∀ ua uc w2, SK rb ts tv en w v kv w2 v1 K s1 (.slice ua (ks.length + 1) uc) (ks ++ [n]) -> wpList Tryz.prog ops Q rest (a.put o.dst (.slice ua (ks.length + 1) uc)) w2) :
 wpList Tryz.prog ops Q (o :: rest) a (w1.alloc (.cells #[.int .i64 n] 3)) := by
 obtain ⟨i0, hi0, hz0, hz1, hz2⟩ := info_parts zb6
 subst hg
 refine wpList_append_own_at _ hgd sx y 32 ho (rb + 1) 3 i0 (.int .i64 0) 1 8 Tryz.underlying32 hi0 hz0 hz1 hz2 rfl (by decide) u ks.length (icl ks) hs (IR.alloc h.km.own.row _) ⟨w1.heap.size, 0, none⟩ 1 1 [.int .i64 n] hx rfl (cell_one_new _ _ _) (by simp [Value.oneCell']) (by unfold maxLen; omega) (by omega) (by have := h.sm.rd.lt; simp; omega) ?_
 intro u' w2 hown hgrow _ hat
 obtain ⟨ua, uc, rfl⟩ : ∃ a c, u' = .slice a (ks.length + 1) c := by
  obtain ⟨_, ⟨h1, h0⟩ | ⟨g, cap, cur, h1, _⟩⟩ := hown
  · omega
  · exact ⟨_, _, h1⟩
 obtain ⟨h6, k6⟩ := Km.grow h.sm h.km hown hgrow (by simpa using hat)
 exact hc ua uc w2 ⟨h6, k6⟩
theorem zb7 {ops : Array Oper} {rest : List Oper} {o : Oper} {a : Act} {Q : Exit -> Act -> World -> Prop} (hgd : o.guard = none) (sx y : Operand) (ho : o.op = .call { callee := .builtin .append, args := #[sx, y], argTypes := #[32, 32] })
 (h : FK rb w v w1 u ks x) (n : Int) (g : Nat) (hg : g = w1.heap.size) (hs : a.eval sx = u) (hx : a.eval y = .slice (some ⟨g, 0, none⟩) 1 1) (hk : ks.length <= 100000)
 (hc : ∀ ua uc w2, FK rb w v w2 (.slice ua (ks.length + 1) uc) (ks ++ [n]) x -> wpList Tryz.prog ops Q rest (a.put o.dst (.slice ua (ks.length + 1) uc)) w2) :
 wpList Tryz.prog ops Q (o :: rest) a (w1.alloc (.cells #[.int .i64 n] 3)) := by
 obtain ⟨i0, hi0, hz0, hz1, hz2⟩ := info_parts zb6
 subst hg
 refine wpList_append_own_at _ hgd sx y 32 ho (rb + 1) 3 i0 (.int .i64 0) 1 8 Tryz.underlying32 hi0 hz0 hz1 hz2 rfl (by decide) u ks.length (icl ks) hs (IR.alloc h.ir _) ⟨w1.heap.size, 0, none⟩ 1 1 [.int .i64 n] hx rfl (cell_one_new _ _ _) (by simp [Value.oneCell']) (by unfold maxLen; omega) (by omega) (by have := h.fl.lt; simp; omega) ?_
 intro u' w2 hown hgrow _ hat
 obtain ⟨ua, uc, rfl⟩ : ∃ a c, u' = .slice a (ks.length + 1) c := by
  obtain ⟨_, ⟨h1, h0⟩ | ⟨g, cap, cur, h1, _⟩⟩ := hown
  · omega
  · exact ⟨_, _, h1⟩
 refine hc ua uc w2 ⟨(h.fl.below ((Below.refl _ _).alloc (Nat.le_refl _) _)).grown hgrow (fun e => by have := (World.ownsRow.lt h.ir rb e).1; omega), (h.rf.next ((Below.refl _ _).alloc (Nat.le_refl _) _)).grown hgrow h.new, ?_, fun g e => ?_⟩
 · unfold IR
   rw [zfn, List.length_append]
   exact hown
 · rcases hat with h1 | h1
   · exact h.new g (h1 ▸ e)
   · rw [h1] at e
     injection e with e
     have := h.rf.size
     simp at e
     omega
end
section
variable (ts : List za) (en : Nat) (rd : PS -> Except (Int × Int) (Int × PS)) (e : ByteArray)
def lsG (k : Nat) (ks : List Int) (s : PS) : Except (Int × Int) (List Int × PS) := if isN ts e s then .ok (ks, adv s) else if ks = [] then lsL ts en rd e k [] s else match zaw ts en ⟨#[44]⟩ s with
 | .error x => .error x
 | .ok s2 => lsL ts en rd e k ks s2
theorem zm5 (n : Nat) (s : PS) : lsP ts en rd e n s = lsG ts en rd e n [] s := by
 unfold lsP lsG
 simp
theorem zge (k : Nat) (ks : List Int) (s : PS) : lsL ts en rd e (k + 1) ks s = match rd s with
 | .error x => .error x
 | .ok (v, s1) => lsG ts en rd e k (ks ++ [v]) s1 := by
 rw [lsL]
 cases rd s with
 | error x => rfl
 | ok y =>
   obtain ⟨v, s1⟩ := y
   simp only [lsG]
   split
   · rfl
   · rw [if_neg (by simp)]
     rfl
end
end Go.Proofs.YtiglkhkfbgjjoaaGreatDoor
