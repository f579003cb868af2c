/- - -/
import Derived.Test.YtiglkhkfbgjjoaaGreatDoorPMpN
namespace Go.Proofs.YtiglkhkfbgjjoaaGreatDoor
set_option maxRecDepth 20000
open Go.RowKit Go.PlainAid Go.Maps
set_option linter.unusedSimpArgs false
set_option linter.unusedVariables false
def taF (R : Except (Int × Int) (List Int × PS)) : Except (Int × Int) (Int × PS) := match R with
 | .error x => .error x
 | .ok (ks, s1) => .ok (zb 7 eT 0 ks s1)
def taP (ts : List za) (en : Nat) (r : Rd) (s : PS) : Except (Int × Int) (Int × PS) := taF (lsP ts en (fdP ts en r) ⟨#[125]⟩ (ts.length + 1) s)
set_option maxHeartbeats 4000000 in
theorem znh {rb : Nat} {ts : List za} {tv : Value} {en : Nat} {r : Rd} {n : Nat} (hr : RM rb ts tv en r n) (hro : zk ts r) (HF : ∀ (w : World) (v : Value) (kv : List Value) (s : PS), Mdr rb ts tv en w v kv s -> s.ns.length <= 8 * s.i -> ts.length < s.i + n -> Calls Tryz.prog 129 #[.pointer (some ⟨rb, 0, none⟩)] w (RmE rb ts tv en w v kv (fdP ts en r s))) (zfo : ∀ (rb : Nat) (w : World) (c a : Int) (h : Fl rb w c a), Calls Tryz.prog 129 #[.pointer (some ⟨rb, 0, none⟩)] w fun e w' => (∃ n, e = .returned (.int .i64 n)) /\ Fl rb w' c a /\ Below w.heap.size w w') (w : World) (v : Value) (kv : List Value) (s : PS) (h : Mdr rb ts tv en w v kv s) (hp : s.ns.length <= 8 * s.i) (hf : ts.length < s.i + (n)) :
 Calls Tryz.prog 127 #[.pointer (some ⟨rb, 0, none⟩)] w (RmE rb ts tv en w v kv (taP ts en r s)) := by
 have HS0 : Hid (Sm rb ts tv en w v kv w v [] s) := Sm.begin h
 have hT : ts.length <= 3000 := h.tl
 have hI : s.i <= ts.length := h.il
 clear h
 have lt := HS0.out.rd.lt
 have c1 := HS0.out.rd.c1
 have c3 := HS0.out.rd.c3
 have fz := HS0.out.rd.fz
 have wi := HS0.out.wri
 have c5 := HS0.out.rd.c5
 have wd := HS0.out.wrd
 go_enter Tryz.func127, Tryz.ntmps127
 go_wp2
 have HK : Hid (SK rb ts tv en w v kv _ _ _ _ _ _) := SK.laid HS0.out [] (by simp)
 clear lt c1 c3 c5 fz wi wd
 obtain ⟨RR, hRR⟩ : ∃ R, R = lsP ts en (fdP ts en r) ⟨#[125]⟩ (ts.length + 1) s := ⟨_, rfl⟩
 have HRR : Hid (lsG ts en (fdP ts en r) ⟨#[125]⟩ (ts.length + 1) [] s = RR) := by show _ = _; rw [hRR, zm5]
 have HB0 : Hid (taP ts en r s = taF RR) := by show _ = _; rw [hRR]; rfl
 clear hRR
 go_loopw [3] (fun u wr => (∃ (k : Nat) (ks : List Int) (s1 : PS) (v1 : Value) (K : List Value), Hid (SK rb ts tv en w v kv wr v1 K s1 u ks) /\ Hid (s1.ns.length <= 8 * s1.i) /\ Hid (ts.length < s1.i + k) /\ Hid ((s).i <= s1.i /\ ks.length <= s1.i) /\ Hid (lsG ts en (fdP ts en r) ⟨#[125]⟩ k ks s1 = RR)) \/ (∃ (ks : List Int) (x : Int × Int), Hid (FK rb w v wr u ks x) /\ Hid (ks.length <= 5000) /\ Hid (RR = .error x))) (fun _ wr => msr rb wr)
 case atStart => exact Or.inl ⟨_, [], _, _, _, HK, hp, (by show _ < _; omega), ⟨Nat.le_refl _, by simp⟩, HRR⟩
 case round =>
  rcases hrel with ⟨k, ks, s3, v3, K3, HK3, HP, HF3, HI, HM⟩ | ⟨ks, x2, HX, HN, HE⟩
  · obtain ⟨ua, L, uc, hu, hL⟩ := HK3.out.formL
    subst hu
    obtain ⟨hi1, hi2⟩ := HI.out
    have hil := HK3.out.sm.rd.il
    have hpp := HP.out
    have hff := HF3.out
    have HN : Hid (ks.length <= 4000) := by show _ <= _; have := HK3.out.sm.rd.tl; omega
    obtain ⟨k', rfl⟩ : ∃ k', k = k' + 1 := ⟨k - 1, by omega⟩
    have HK := HK3
    have lt := HK3.out.sm.rd.lt
    have c1 := HK3.out.sm.rd.c1
    have c3 := HK3.out.sm.rd.c3
    have fz := HK3.out.sm.rd.fz
    cases e4 : isN ts ⟨#[125]⟩ s3
    · by_cases hk0 : ks = []
      · subst hk0
        obtain rfl : L = 0 := by rw [hL]; rfl
        clear hL
        have HM1 : Hid ((match fdP ts en r s3 with | .error x => .error x | .ok (v, s1) => lsG ts en (fdP ts en r) ⟨#[125]⟩ k' ([] ++ [v]) s1) = RR) := by show _ = _; have := HM.out; unfold lsG at this; rw [e4] at this; simp only [Bool.false_eq_true, if_false, if_true] at this; rw [zge] at this; exact this
        rcases e6 : fdP ts en r s3 with ⟨x6⟩ | ⟨a6, s6⟩
        · have HE : Hid (RR = .error x6) := by show RR = _; have := HM1.out; rw [e6] at this; exact this.symm
          go_wp2_with (first | (go_at_call 33; refine (HK.out.is _ false e4).mono ?_; rintro e w4 ⟨rfl, K4, h4⟩; have HK : Hid (SK rb ts tv en w v kv w4 _ _ _ _ _) := h4; clear h4) | (go_at_call 129; refine (HK.out.no (HF _ _ _ _ HK.out.sm.rd hpp (by omega)) e6).mono ?_; rintro e w6 ⟨⟨n6, rfl⟩, h6⟩; have HX : Hid (FK rb w v w6 _ _ _) := h6; clear h6) | (at_builtin; refine zb7 rfl _ _ rfl HX.out n6 _ rfl rfl rfl (by first | omega | (simp; done) | (simp; omega) | (have := HN.out; simp at this ⊢; omega)) ?_; intro ua' uc' w7 h7; have HX : Hid (FK rb w v w7 _ _ _) := h7; have c3 := HX.out.fl.c3; have lt := HX.out.fl.lt; clear h7))
          have ms1 := HK3.out.sm.rd.msr
          have tl3 := HK3.out.sm.rd.tl
          have ms2 := HX.out.fl.msr
          have hN := HN.out
          skip
          refine ⟨Or.inr ⟨_, _, HX, (by show _ <= _; first | (simp; done) | (simp; omega)), HE⟩, ?_⟩
          show msr rb _ < msr rb _
          rw [ms1, ms2]
          omega
        · have o6 := zcr ts en hro e6
          have p6 : s6.ns.length <= 8 * s6.i := by have := o6.1.phi hpp; omega
          have i6 := o6.1.1
          have t6 := o6.1.2.1
          have d6 := o6.1.2.2.1
          have HM6 : Hid (lsG ts en (fdP ts en r) ⟨#[125]⟩ k' ([] ++ [a6]) s6 = RR) := by show _ = _; have := HM1.out; rw [e6] at this; exact this
          go_wp2_with (first | (go_at_call 33; refine (HK.out.is _ false e4).mono ?_; rintro e w4 ⟨rfl, K4, h4⟩; have HK : Hid (SK rb ts tv en w v kv w4 _ _ _ _ _) := h4; clear h4) | (go_at_call 129; refine (HK.out.yes (HF _ _ _ _ HK.out.sm.rd hpp (by omega)) e6).mono ?_; rintro e w6 ⟨rfl, v6, K6, h6⟩; have HK : Hid (SK rb ts tv en w v kv w6 _ _ _ _ _) := h6; clear h6) | (at_builtin; refine zdh rfl _ _ rfl HK.out a6 _ rfl rfl rfl (by first | omega | (simp; done) | (simp; omega) | (have := HN.out; simp at this ⊢; omega)) ?_; intro ua' uc' w7 h7; have HK : Hid (SK rb ts tv en w v kv w7 _ _ _ _ _) := h7; clear h7))
          have ms1 := HK3.out.sm.rd.msr
          have tl3 := HK3.out.sm.rd.tl
          have ms2 := HK.out.sm.rd.msr
          have hN := HN.out
          refine ⟨Or.inl ⟨k', [] ++ [a6], s6, _, _, HK, p6, (by show _ < _; omega), ⟨by omega, by first | (simp; done) | (simp; omega)⟩, HM6⟩, ?_⟩
          show msr rb _ < msr rb _
          rw [ms1, ms2]
          omega
      · have hq : (0 : Int) < (L : Int) := by have := List.length_pos_iff.2 hk0; have h2 : L = ks.length + 0 := (by rw [hL]; rfl); omega
        have HLL : Hid _ := hL
        clear hL
        rcases zac ts en ⟨#[44]⟩ s3 with ⟨q5, e5⟩ | ⟨q5, e5⟩
        · have HM1 : Hid ((match fdP ts en r (adv s3) with | .error x => .error x | .ok (v, s1) => lsG ts en (fdP ts en r) ⟨#[125]⟩ k' (ks ++ [v]) s1) = RR) := by show _ = _; have := HM.out; unfold lsG at this; rw [e4] at this; simp only [Bool.false_eq_true, if_false, hk0, e5] at this; rw [zge] at this; exact this
          have p4 : (adv s3).ns.length <= 8 * (adv s3).i := Nat.le_trans hpp (Nat.mul_le_mul_left 8 (Nat.le_succ _))
          have i4 : (adv s3).i = s3.i + 1 := rfl
          have hn4 : (adv s3).ns.length <= 8 * s3.i := hpp
          rcases e6 : fdP ts en r (adv s3) with ⟨x6⟩ | ⟨a6, s6⟩
          · have HE : Hid (RR = .error x6) := by show RR = _; have := HM1.out; rw [e6] at this; exact this.symm
            go_wp2_with (first | (go_at_call 33; refine (HK.out.is _ false e4).mono ?_; rintro e w4 ⟨rfl, K4, h4⟩; have HK : Hid (SK rb ts tv en w v kv w4 _ _ _ _ _) := h4; clear h4) | (go_at_call 35; refine (HK.out.want_yes _ q5).mono ?_; rintro e w5 ⟨rfl, K5, h5⟩; have HK : Hid (SK rb ts tv en w v kv w5 _ _ _ _ _) := h5; clear h5) | (go_at_call 129; refine (HK.out.no (HF _ _ _ _ HK.out.sm.rd p4 (by omega)) e6).mono ?_; rintro e w6 ⟨⟨n6, rfl⟩, h6⟩; have HX : Hid (FK rb w v w6 _ _ _) := h6; clear h6) | (at_builtin; refine zb7 rfl _ _ rfl HX.out n6 _ rfl rfl rfl (by first | omega | (simp; done) | (simp; omega) | (have := HN.out; simp at this ⊢; omega)) ?_; intro ua' uc' w7 h7; have HX : Hid (FK rb w v w7 _ _ _) := h7; have c3 := HX.out.fl.c3; have lt := HX.out.fl.lt; clear h7))
            have ms1 := HK3.out.sm.rd.msr
            have tl3 := HK3.out.sm.rd.tl
            have ms2 := HX.out.fl.msr
            have hN := HN.out
            skip
            refine ⟨Or.inr ⟨_, _, HX, (by show _ <= _; first | (simp; done) | (simp; omega)), HE⟩, ?_⟩
            show msr rb _ < msr rb _
            rw [ms1, ms2]
            omega
          · have o6 := zcr ts en hro e6
            have p6 : s6.ns.length <= 8 * s6.i := by have := o6.1.phi p4; omega
            have i6 := o6.1.1
            have t6 := o6.1.2.1
            have d6 := o6.1.2.2.1
            have HM6 : Hid (lsG ts en (fdP ts en r) ⟨#[125]⟩ k' (ks ++ [a6]) s6 = RR) := by show _ = _; have := HM1.out; rw [e6] at this; exact this
            go_wp2_with (first | (go_at_call 33; refine (HK.out.is _ false e4).mono ?_; rintro e w4 ⟨rfl, K4, h4⟩; have HK : Hid (SK rb ts tv en w v kv w4 _ _ _ _ _) := h4; clear h4) | (go_at_call 35; refine (HK.out.want_yes _ q5).mono ?_; rintro e w5 ⟨rfl, K5, h5⟩; have HK : Hid (SK rb ts tv en w v kv w5 _ _ _ _ _) := h5; clear h5) | (go_at_call 129; refine (HK.out.yes (HF _ _ _ _ HK.out.sm.rd p4 (by omega)) e6).mono ?_; rintro e w6 ⟨rfl, v6, K6, h6⟩; have HK : Hid (SK rb ts tv en w v kv w6 _ _ _ _ _) := h6; clear h6) | (at_builtin; refine zdh rfl _ _ rfl HK.out a6 _ rfl rfl rfl (by first | omega | (simp; done) | (simp; omega) | (have := HN.out; simp at this ⊢; omega)) ?_; intro ua' uc' w7 h7; have HK : Hid (SK rb ts tv en w v kv w7 _ _ _ _ _) := h7; clear h7))
            have ms1 := HK3.out.sm.rd.msr
            have tl3 := HK3.out.sm.rd.tl
            have ms2 := HK.out.sm.rd.msr
            have hN := HN.out
            refine ⟨Or.inl ⟨k', ks ++ [a6], s6, _, _, HK, p6, (by show _ < _; omega), ⟨by omega, by first | (simp; done) | (simp; omega)⟩, HM6⟩, ?_⟩
            show msr rb _ < msr rb _
            rw [ms1, ms2]
            omega
        · have HE : Hid (RR = .error (fh ts en 2 s3)) := by show RR = _; have := HM.out; unfold lsG at this; rw [e4] at this; simp only [Bool.false_eq_true, if_false, hk0, e5] at this; exact this.symm
          go_wp2_with (first | (go_at_call 33; refine (HK.out.is _ false e4).mono ?_; rintro e w4 ⟨rfl, K4, h4⟩; have HK : Hid (SK rb ts tv en w v kv w4 _ _ _ _ _) := h4; clear h4) | (go_at_call 35; refine (HK.out.want_no _ q5).mono ?_; rintro e w5 ⟨rfl, h5⟩; have HX : Hid (FK rb w v w5 _ _ _) := h5; have c3 := HX.out.fl.c3; have lt := HX.out.fl.lt; have ne := HX.out.fl.ne; clear h5) | (go_at_call 129; refine (zfo rb _ _ _ HX.out.fl).mono ?_; rintro e w6 ⟨⟨n6, rfl⟩, -, b6⟩; have HX : Hid (FK rb w v w6 _ _ _) := HX.out.below b6; have c3 := HX.out.fl.c3; have lt := HX.out.fl.lt; clear b6) | (at_builtin; refine zb7 rfl _ _ rfl HX.out n6 _ rfl rfl rfl (by first | omega | (simp; done) | (simp; omega) | (have := HN.out; simp at this ⊢; omega)) ?_; intro ua' uc' w7 h7; have HX : Hid (FK rb w v w7 _ _ _) := h7; have c3 := HX.out.fl.c3; have lt := HX.out.fl.lt; clear h7))
          have ms1 := HK3.out.sm.rd.msr
          have tl3 := HK3.out.sm.rd.tl
          have ms2 := HX.out.fl.msr
          have hN := HN.out
          skip
          refine ⟨Or.inr ⟨_, _, HX, (by show _ <= _; first | (simp; done) | (simp; omega)), HE⟩, ?_⟩
          show msr rb _ < msr rb _
          rw [ms1, ms2]
          omega
    · have HE : Hid (RR = .ok (ks, adv s3)) := by show RR = _; have := HM.out; unfold lsG at this; rw [e4] at this; simpa using this.symm
      obtain ⟨xo, hxo, hlt⟩ := zah e4
      have HLL : Hid _ := hL
      clear hL
      have p4 : (adv s3).ns.length <= 8 * (adv s3).i := Nat.le_trans hpp (Nat.mul_le_mul_left 8 (Nat.le_succ _))
      have i4 : (adv s3).i = s3.i + 1 := rfl
      have hT3 := HK3.out.sm.rd.tl
      have hn4 : (adv s3).ns.length <= 100000 := by show s3.ns.length <= 100000; omega
      go_wp2_with (first | (go_at_call 33; refine (HK.out.is _ true e4).mono ?_; rintro e w4 ⟨rfl, K4, h4⟩; have HK : Hid (SK rb ts tv en w v kv w4 _ _ _ _ _) := h4; clear h4) | (go_at_call 35; refine (HK.out.want_yes _ e4).mono ?_; rintro e w5 ⟨rfl, K5, h5⟩; have HK : Hid (SK rb ts tv en w v kv w5 _ _ _ _ _) := h5; clear h5) | (go_at_call 17; refine (HK.out.node 7 eT 0 hn4).mono ?_; rintro e w7 ⟨rfl, v7, K7, h7⟩; have HS7 : Hid (Sm rb ts tv en w v kv _ _ _ _) := h7; clear h7))
      go_ret
      exact RmE.yes HS7.out (by rw [HB0.out, HE.out]; rfl)
  · obtain ⟨ua, L, uc, hu, hL⟩ := HX.out.form
    subst hu
    have HLL : Hid _ := hL
    clear hL
    have c3 := HX.out.fl.c3
    have lt := HX.out.fl.lt
    have ne := HX.out.fl.ne
    go_wp2_with (first | (go_at_call 35; refine (zm rb _ _ _ HX.out.fl _).mono ?_; rintro e w6 ⟨rfl, -, b6⟩; have HX : Hid (FK rb w v w6 _ _ _) := HX.out.below b6; have c3 := HX.out.fl.c3; have lt := HX.out.fl.lt; clear b6) | (go_at_call 17; refine (zc rb _ _ _ HX.out.fl _ _ _ _ _ _).mono ?_; rintro e w6 ⟨rfl, b6⟩; have HX : Hid (FK rb w v w6 _ _ _) := HX.out.below b6; have c3 := HX.out.fl.c3; have lt := HX.out.fl.lt; clear b6))
    go_ret
    exact RmE.no HX.out.fl HX.out.rf (by rw [HB0.out, HE.out]; rfl)
def fnF (r : Rd) (R : Except (Int × Int) (List Int × PS)) : Except (Int × Int) (Int × PS) := match R with
 | .error x => .error x
 | .ok (ks, s2) => match r.bl s2 with
   | .error x => .error x
   | .ok (b, s3) => .ok (zb 6 eT 0 (ks ++ [b]) s3)
def fnP (ts : List za) (en : Nat) (r : Rd) (s : PS) : Except (Int × Int) (Int × PS) := match zaw ts en ⟨#[40]⟩ s with
 | .error x => .error x
 | .ok s1 => fnF r (lsP ts en (paP ts en) ⟨#[41]⟩ (ts.length + 1) s1)
set_option maxHeartbeats 4000000 in
theorem zsr {rb : Nat} {ts : List za} {tv : Value} {en : Nat} {r : Rd} {n : Nat} (hr : RM rb ts tv en r n) (hro : zk ts r) (w : World) (v : Value) (kv : List Value) (s : PS) (h : Mdr rb ts tv en w v kv s) (hp : s.ns.length <= 8 * s.i) (hf : ts.length < s.i + (n)) :
 Calls Tryz.prog 126 #[.pointer (some ⟨rb, 0, none⟩)] w (RmE rb ts tv en w v kv (fnP ts en r s)) := by
 have HS0 : Hid (Sm rb ts tv en w v kv w v [] s) := Sm.begin h
 have hT : ts.length <= 3000 := h.tl
 have hI : s.i <= ts.length := h.il
 clear h
 have lt := HS0.out.rd.lt
 have c1 := HS0.out.rd.c1
 have c3 := HS0.out.rd.c3
 have fz := HS0.out.rd.fz
 have wi := HS0.out.wri
 have c5 := HS0.out.rd.c5
 have wd := HS0.out.wrd
 go_enter Tryz.func126, Tryz.ntmps126
 go_upto_region 2 with fail
 have HK : Hid (SK rb ts tv en w v kv _ _ _ _ _ _) := SK.laid HS0.out [] (by simp)
 clear lt c1 c3 c5 fz wi wd
 rcases zac ts en ⟨#[40]⟩ s with ⟨q1, e1⟩ | ⟨q1, e1⟩
 · skip
   have p2 : (adv s).ns.length <= 8 * (adv s).i := Nat.le_trans hp (Nat.mul_le_mul_left 8 (Nat.le_succ _))
   have i2 : (adv s).i = s.i + 1 := rfl
   go_wp2_with (first | (go_at_call 35; refine (HK.out.want_yes _ q1).mono ?_; rintro e w5 ⟨rfl, K5, h5⟩; have HK : Hid (SK rb ts tv en w v kv w5 _ _ _ _ _) := h5; clear h5))
   obtain ⟨RR, hRR⟩ : ∃ R, R = lsP ts en (paP ts en) ⟨#[41]⟩ (ts.length + 1) (adv s) := ⟨_, rfl⟩
   have HRR : Hid (lsG ts en (paP ts en) ⟨#[41]⟩ (ts.length + 1) [] (adv s) = RR) := by show _ = _; rw [hRR, zm5]
   have HB0 : Hid (fnP ts en r s = fnF r RR) := by show _ = _; rw [hRR]; unfold fnP; rw [e1]
   clear hRR
   go_loopw [3] (fun u wr => (∃ (k : Nat) (ks : List Int) (s1 : PS) (v1 : Value) (K : List Value), Hid (SK rb ts tv en w v kv wr v1 K s1 u ks) /\ Hid (s1.ns.length <= 8 * s1.i) /\ Hid (ts.length < s1.i + k) /\ Hid (((adv s)).i <= s1.i /\ ks.length <= s1.i) /\ Hid (lsG ts en (paP ts en) ⟨#[41]⟩ k ks s1 = RR)) \/ (∃ (ks : List Int) (x : Int × Int), Hid (FK rb w v wr u ks x) /\ Hid (ks.length <= 5000) /\ Hid (RR = .error x))) (fun _ wr => msr rb wr)
   case atStart => exact Or.inl ⟨_, [], _, _, _, HK, p2, (by show _ < _; omega), ⟨Nat.le_refl _, by simp⟩, HRR⟩
   case round =>
    rcases hrel with ⟨k, ks, s3, v3, K3, HK3, HP, HF3, HI, HM⟩ | ⟨ks, x2, HX, HN, HE⟩
    · obtain ⟨ua, L, uc, hu, hL⟩ := HK3.out.formL
      subst hu
      obtain ⟨hi1, hi2⟩ := HI.out
      have hil := HK3.out.sm.rd.il
      have hpp := HP.out
      have hff := HF3.out
      have HN : Hid (ks.length <= 4000) := by show _ <= _; have := HK3.out.sm.rd.tl; omega
      obtain ⟨k', rfl⟩ : ∃ k', k = k' + 1 := ⟨k - 1, by omega⟩
      have HK := HK3
      have lt := HK3.out.sm.rd.lt
      have c1 := HK3.out.sm.rd.c1
      have c3 := HK3.out.sm.rd.c3
      have fz := HK3.out.sm.rd.fz
      cases e4 : isN ts ⟨#[41]⟩ s3
      · by_cases hk0 : ks = []
        · subst hk0
          obtain rfl : L = 0 := by rw [hL]; rfl
          clear hL
          have HM1 : Hid ((match paP ts en s3 with | .error x => .error x | .ok (v, s1) => lsG ts en (paP ts en) ⟨#[41]⟩ k' ([] ++ [v]) s1) = RR) := by show _ = _; have := HM.out; unfold lsG at this; rw [e4] at this; simp only [Bool.false_eq_true, if_false, if_true] at this; rw [zge] at this; exact this
          rcases zbp ts en s3 with ⟨x8, y8, z8, e8⟩ | ⟨q8, e8⟩
          · obtain ⟨⟨a6, s6⟩, hy⟩ : ∃ y, y = zb 22 x8.tx 0 [] (adv s3) := ⟨_, rfl⟩
            have e6 : paP ts en s3 = .ok (a6, s6) := by unfold paP; rw [e8, hy]
            have o6 := zcz ts en e6
            have p6 : s6.ns.length <= 8 * s6.i := by have := o6.1.phi hpp; omega
            have i6 := o6.1.1
            have t6 := o6.1.2.1
            have d6 := o6.1.2.2.1
            have hn8 : (adv s3).ns.length <= 100000 := by show (s3).ns.length <= 100000; omega
            have HM6 : Hid (lsG ts en (paP ts en) ⟨#[41]⟩ k' ([] ++ [a6]) s6 = RR) := by show _ = _; have := HM1.out; rw [e6] at this; exact this
            go_wp2_with (first | (go_at_call 33; refine (HK.out.is _ false e4).mono ?_; rintro e w4 ⟨rfl, K4, h4⟩; have HK : Hid (SK rb ts tv en w v kv w4 _ _ _ _ _) := h4; clear h4) | (go_at_call 34; refine (HK.out.name_yes x8 y8 z8).mono ?_; rintro e w6 ⟨rfl, K6, h6⟩; have HK : Hid (SK rb ts tv en w v kv w6 _ _ _ _ _) := h6; clear h6) | (go_at_call 17; refine (HK.out.node0' 22 x8.tx 0 hn8 hy).mono ?_; rintro e w6 ⟨rfl, v6, K6, h6⟩; have HK : Hid (SK rb ts tv en w v kv w6 _ _ _ _ _) := h6; clear h6) | (at_builtin; refine zdh rfl _ _ rfl HK.out a6 _ rfl rfl rfl (by first | omega | (simp; done) | (simp; omega) | (have := HN.out; simp at this ⊢; omega)) ?_; intro ua' uc' w7 h7; have HK : Hid (SK rb ts tv en w v kv w7 _ _ _ _ _) := h7; clear h7))
            have ms1 := HK3.out.sm.rd.msr
            have tl3 := HK3.out.sm.rd.tl
            have ms2 := HK.out.sm.rd.msr
            have hN := HN.out
            refine ⟨Or.inl ⟨k', [] ++ [a6], s6, _, _, HK, p6, (by show _ < _; omega), ⟨by omega, by first | (simp; done) | (simp; omega)⟩, HM6⟩, ?_⟩
            show msr rb _ < msr rb _
            rw [ms1, ms2]
            omega
          · have HE : Hid (RR = .error (fh ts en 2 s3)) := by show RR = _; have := HM1.out; unfold paP at this; rw [e8] at this; exact this.symm
            go_wp2_with (first | (go_at_call 33; refine (HK.out.is _ false e4).mono ?_; rintro e w4 ⟨rfl, K4, h4⟩; have HK : Hid (SK rb ts tv en w v kv w4 _ _ _ _ _) := h4; clear h4) | (go_at_call 34; refine (HK.out.name_no q8).mono ?_; rintro e w6 ⟨rfl, h6⟩; have HX : Hid (FK rb w v w6 _ _ _) := h6; have c3 := HX.out.fl.c3; have lt := HX.out.fl.lt; have ne := HX.out.fl.ne; clear h6) | (go_at_call 17; refine (zc rb _ _ _ HX.out.fl _ _ _ _ _ _).mono ?_; rintro e w6 ⟨rfl, b6⟩; have HX : Hid (FK rb w v w6 _ _ _) := HX.out.below b6; have c3 := HX.out.fl.c3; have lt := HX.out.fl.lt; clear b6) | (at_builtin; refine zb7 rfl _ _ rfl HX.out (-1) _ rfl rfl rfl (by first | omega | (simp; done) | (simp; omega) | (have := HN.out; simp at this ⊢; omega)) ?_; intro ua' uc' w7 h7; have HX : Hid (FK rb w v w7 _ _ _) := h7; have c3 := HX.out.fl.c3; have lt := HX.out.fl.lt; clear h7))
            have ms1 := HK3.out.sm.rd.msr
            have tl3 := HK3.out.sm.rd.tl
            have ms2 := HX.out.fl.msr
            have hN := HN.out
            skip
            refine ⟨Or.inr ⟨_, _, HX, (by show _ <= _; first | (simp; done) | (simp; omega)), HE⟩, ?_⟩
            show msr rb _ < msr rb _
            rw [ms1, ms2]
            omega
        · have hq : (0 : Int) < (L : Int) := by have := List.length_pos_iff.2 hk0; have h2 : L = ks.length + 0 := (by rw [hL]; rfl); omega
          have HLL : Hid _ := hL
          clear hL
          rcases zac ts en ⟨#[44]⟩ s3 with ⟨q5, e5⟩ | ⟨q5, e5⟩
          · have HM1 : Hid ((match paP ts en (adv s3) with | .error x => .error x | .ok (v, s1) => lsG ts en (paP ts en) ⟨#[41]⟩ k' (ks ++ [v]) s1) = RR) := by show _ = _; have := HM.out; unfold lsG at this; rw [e4] at this; simp only [Bool.false_eq_true, if_false, hk0, e5] at this; rw [zge] at this; exact this
            have p4 : (adv s3).ns.length <= 8 * (adv s3).i := Nat.le_trans hpp (Nat.mul_le_mul_left 8 (Nat.le_succ _))
            have i4 : (adv s3).i = s3.i + 1 := rfl
            have hn4 : (adv s3).ns.length <= 8 * s3.i := hpp
            rcases zbp ts en (adv s3) with ⟨x8, y8, z8, e8⟩ | ⟨q8, e8⟩
            · obtain ⟨⟨a6, s6⟩, hy⟩ : ∃ y, y = zb 22 x8.tx 0 [] (adv (adv s3)) := ⟨_, rfl⟩
              have e6 : paP ts en (adv s3) = .ok (a6, s6) := by unfold paP; rw [e8, hy]
              have o6 := zcz ts en e6
              have p6 : s6.ns.length <= 8 * s6.i := by have := o6.1.phi p4; omega
              have i6 := o6.1.1
              have t6 := o6.1.2.1
              have d6 := o6.1.2.2.1
              have hn8 : (adv (adv s3)).ns.length <= 100000 := by show ((adv s3)).ns.length <= 100000; omega
              have HM6 : Hid (lsG ts en (paP ts en) ⟨#[41]⟩ k' (ks ++ [a6]) s6 = RR) := by show _ = _; have := HM1.out; rw [e6] at this; exact this
              go_wp2_with (first | (go_at_call 33; refine (HK.out.is _ false e4).mono ?_; rintro e w4 ⟨rfl, K4, h4⟩; have HK : Hid (SK rb ts tv en w v kv w4 _ _ _ _ _) := h4; clear h4) | (go_at_call 35; refine (HK.out.want_yes _ q5).mono ?_; rintro e w5 ⟨rfl, K5, h5⟩; have HK : Hid (SK rb ts tv en w v kv w5 _ _ _ _ _) := h5; clear h5) | (go_at_call 34; refine (HK.out.name_yes x8 y8 z8).mono ?_; rintro e w6 ⟨rfl, K6, h6⟩; have HK : Hid (SK rb ts tv en w v kv w6 _ _ _ _ _) := h6; clear h6) | (go_at_call 17; refine (HK.out.node0' 22 x8.tx 0 hn8 hy).mono ?_; rintro e w6 ⟨rfl, v6, K6, h6⟩; have HK : Hid (SK rb ts tv en w v kv w6 _ _ _ _ _) := h6; clear h6) | (at_builtin; refine zdh rfl _ _ rfl HK.out a6 _ rfl rfl rfl (by first | omega | (simp; done) | (simp; omega) | (have := HN.out; simp at this ⊢; omega)) ?_; intro ua' uc' w7 h7; have HK : Hid (SK rb ts tv en w v kv w7 _ _ _ _ _) := h7; clear h7))
              have ms1 := HK3.out.sm.rd.msr
              have tl3 := HK3.out.sm.rd.tl
              have ms2 := HK.out.sm.rd.msr
              have hN := HN.out
              refine ⟨Or.inl ⟨k', ks ++ [a6], s6, _, _, HK, p6, (by show _ < _; omega), ⟨by omega, by first | (simp; done) | (simp; omega)⟩, HM6⟩, ?_⟩
              show msr rb _ < msr rb _
              rw [ms1, ms2]
              omega
            · have HE : Hid (RR = .error (fh ts en 2 (adv s3))) := by show RR = _; have := HM1.out; unfold paP at this; rw [e8] at this; exact this.symm
              go_wp2_with (first | (go_at_call 33; refine (HK.out.is _ false e4).mono ?_; rintro e w4 ⟨rfl, K4, h4⟩; have HK : Hid (SK rb ts tv en w v kv w4 _ _ _ _ _) := h4; clear h4) | (go_at_call 35; refine (HK.out.want_yes _ q5).mono ?_; rintro e w5 ⟨rfl, K5, h5⟩; have HK : Hid (SK rb ts tv en w v kv w5 _ _ _ _ _) := h5; clear h5) | (go_at_call 34; refine (HK.out.name_no q8).mono ?_; rintro e w6 ⟨rfl, h6⟩; have HX : Hid (FK rb w v w6 _ _ _) := h6; have c3 := HX.out.fl.c3; have lt := HX.out.fl.lt; have ne := HX.out.fl.ne; clear h6) | (go_at_call 17; refine (zc rb _ _ _ HX.out.fl _ _ _ _ _ _).mono ?_; rintro e w6 ⟨rfl, b6⟩; have HX : Hid (FK rb w v w6 _ _ _) := HX.out.below b6; have c3 := HX.out.fl.c3; have lt := HX.out.fl.lt; clear b6) | (at_builtin; refine zb7 rfl _ _ rfl HX.out (-1) _ rfl rfl rfl (by first | omega | (simp; done) | (simp; omega) | (have := HN.out; simp at this ⊢; omega)) ?_; intro ua' uc' w7 h7; have HX : Hid (FK rb w v w7 _ _ _) := h7; have c3 := HX.out.fl.c3; have lt := HX.out.fl.lt; clear h7))
              have ms1 := HK3.out.sm.rd.msr
              have tl3 := HK3.out.sm.rd.tl
              have ms2 := HX.out.fl.msr
              have hN := HN.out
              skip
              refine ⟨Or.inr ⟨_, _, HX, (by show _ <= _; first | (simp; done) | (simp; omega)), HE⟩, ?_⟩
              show msr rb _ < msr rb _
              rw [ms1, ms2]
              omega
          · have HE : Hid (RR = .error (fh ts en 2 s3)) := by show RR = _; have := HM.out; unfold lsG at this; rw [e4] at this; simp only [Bool.false_eq_true, if_false, hk0, e5] at this; exact this.symm
            go_wp2_with (first | (go_at_call 33; refine (HK.out.is _ false e4).mono ?_; rintro e w4 ⟨rfl, K4, h4⟩; have HK : Hid (SK rb ts tv en w v kv w4 _ _ _ _ _) := h4; clear h4) | (go_at_call 35; refine (HK.out.want_no _ q5).mono ?_; rintro e w5 ⟨rfl, h5⟩; have HX : Hid (FK rb w v w5 _ _ _) := h5; have c3 := HX.out.fl.c3; have lt := HX.out.fl.lt; have ne := HX.out.fl.ne; clear h5) | (go_at_call 34; refine (zoo rb _ _ _ HX.out.fl).mono ?_; rintro e w6 ⟨rfl, -, b6⟩; have HX : Hid (FK rb w v w6 _ _ _) := HX.out.below b6; have c3 := HX.out.fl.c3; have lt := HX.out.fl.lt; clear b6) | (go_at_call 17; refine (zc rb _ _ _ HX.out.fl _ _ _ _ _ _).mono ?_; rintro e w6 ⟨rfl, b6⟩; have HX : Hid (FK rb w v w6 _ _ _) := HX.out.below b6; have c3 := HX.out.fl.c3; have lt := HX.out.fl.lt; clear b6) | (at_builtin; refine zb7 rfl _ _ rfl HX.out (-1) _ rfl rfl rfl (by first | omega | (simp; done) | (simp; omega) | (have := HN.out; simp at this ⊢; omega)) ?_; intro ua' uc' w7 h7; have HX : Hid (FK rb w v w7 _ _ _) := h7; have c3 := HX.out.fl.c3; have lt := HX.out.fl.lt; clear h7))
            have ms1 := HK3.out.sm.rd.msr
            have tl3 := HK3.out.sm.rd.tl
            have ms2 := HX.out.fl.msr
            have hN := HN.out
            skip
            refine ⟨Or.inr ⟨_, _, HX, (by show _ <= _; first | (simp; done) | (simp; omega)), HE⟩, ?_⟩
            show msr rb _ < msr rb _
            rw [ms1, ms2]
            omega
      · have HE : Hid (RR = .ok (ks, adv s3)) := by show RR = _; have := HM.out; unfold lsG at this; rw [e4] at this; simpa using this.symm
        obtain ⟨xo, hxo, hlt⟩ := zah e4
        have HLL : Hid _ := hL
        clear hL
        have p4 : (adv s3).ns.length <= 8 * (adv s3).i := Nat.le_trans hpp (Nat.mul_le_mul_left 8 (Nat.le_succ _))
        have i4 : (adv s3).i = s3.i + 1 := rfl
        have hT3 := HK3.out.sm.rd.tl
        have hn4 : (adv s3).ns.length <= 100000 := by show s3.ns.length <= 100000; omega
        rcases e9 : r.bl (adv s3) with ⟨x9⟩ | ⟨a9, s9⟩
        · go_wp2_with (first | (go_at_call 33; refine (HK.out.is _ true e4).mono ?_; rintro e w4 ⟨rfl, K4, h4⟩; have HK : Hid (SK rb ts tv en w v kv w4 _ _ _ _ _) := h4; clear h4) | (go_at_call 35; refine (HK.out.want_yes _ e4).mono ?_; rintro e w5 ⟨rfl, K5, h5⟩; have HK : Hid (SK rb ts tv en w v kv w5 _ _ _ _ _) := h5; clear h5) | (go_at_call 37; refine (HK.out.no (hr.bl _ _ _ _ HK.out.sm.rd p4 (by omega)) e9).mono ?_; rintro e w6 ⟨⟨n6, rfl⟩, h6⟩; have HX : Hid (FK rb w v w6 _ _ _) := h6; have c3 := HX.out.fl.c3; have lt := HX.out.fl.lt; have ne := HX.out.fl.ne; clear h6) | (at_builtin; refine zb7 rfl _ _ rfl HX.out n6 _ rfl rfl rfl (by first | omega | (simp; done) | (simp; omega) | (have := HN.out; simp at this ⊢; omega)) ?_; intro ua' uc' w7 h7; have HX : Hid (FK rb w v w7 _ _ _) := h7; have c3 := HX.out.fl.c3; have lt := HX.out.fl.lt; clear h7) | (go_at_call 17; refine (zc rb _ _ _ HX.out.fl _ _ _ _ _ _).mono ?_; rintro e w6 ⟨rfl, b6⟩; have HX : Hid (FK rb w v w6 _ _ _) := HX.out.below b6; have c3 := HX.out.fl.c3; have lt := HX.out.fl.lt; clear b6))
          go_ret
          exact RmE.no HX.out.fl HX.out.rf (by rw [HB0.out, HE.out]; simp only [fnF, e9])
        · have o9 := hro.bl e9
          have p9 : s9.ns.length <= 8 * s9.i := by have := o9.1.phi p4; omega
          have t9 := o9.1.2.1
          go_wp2_with (first | (go_at_call 33; refine (HK.out.is _ true e4).mono ?_; rintro e w4 ⟨rfl, K4, h4⟩; have HK : Hid (SK rb ts tv en w v kv w4 _ _ _ _ _) := h4; clear h4) | (go_at_call 35; refine (HK.out.want_yes _ e4).mono ?_; rintro e w5 ⟨rfl, K5, h5⟩; have HK : Hid (SK rb ts tv en w v kv w5 _ _ _ _ _) := h5; clear h5) | (go_at_call 37; refine (HK.out.yes (hr.bl _ _ _ _ HK.out.sm.rd p4 (by omega)) e9).mono ?_; rintro e w6 ⟨rfl, v6, K6, h6⟩; have HK : Hid (SK rb ts tv en w v kv w6 _ _ _ _ _) := h6; clear h6) | (at_builtin; refine zdh rfl _ _ rfl HK.out a9 _ rfl rfl rfl (by first | omega | (simp; done) | (simp; omega) | (have := HN.out; simp at this ⊢; omega)) ?_; intro ua' uc' w7 h7; have HK : Hid (SK rb ts tv en w v kv w7 _ _ _ _ _) := h7; clear h7) | (go_at_call 17; refine (HK.out.node 6 eT 0 (by omega)).mono ?_; rintro e w7 ⟨rfl, v7, K7, h7⟩; have HS7 : Hid (Sm rb ts tv en w v kv _ _ _ _) := h7; clear h7))
          go_ret
          exact RmE.yes HS7.out (by rw [HB0.out, HE.out]; simp only [fnF, e9])
    · obtain ⟨ua, L, uc, hu, hL⟩ := HX.out.form
      subst hu
      have HLL : Hid _ := hL
      clear hL
      have c3 := HX.out.fl.c3
      have lt := HX.out.fl.lt
      have ne := HX.out.fl.ne
      go_wp2_with (first | (go_at_call 35; refine (zm rb _ _ _ HX.out.fl _).mono ?_; rintro e w6 ⟨rfl, -, b6⟩; have HX : Hid (FK rb w v w6 _ _ _) := HX.out.below b6; have c3 := HX.out.fl.c3; have lt := HX.out.fl.lt; clear b6) | (go_at_call 37; refine (zo rb _ _ _ HX.out.fl).mono ?_; rintro e w6 ⟨⟨n6, rfl⟩, -, b6⟩; have HX : Hid (FK rb w v w6 _ _ _) := HX.out.below b6; have c3 := HX.out.fl.c3; have lt := HX.out.fl.lt; clear b6) | (at_builtin; refine zb7 rfl _ _ rfl HX.out n6 _ rfl rfl rfl (by first | omega | (simp; done) | (simp; omega) | (have := HN.out; simp at this ⊢; omega)) ?_; intro ua' uc' w7 h7; have HX : Hid (FK rb w v w7 _ _ _) := h7; have c3 := HX.out.fl.c3; have lt := HX.out.fl.lt; clear h7) | (go_at_call 17; refine (zc rb _ _ _ HX.out.fl _ _ _ _ _ _).mono ?_; rintro e w6 ⟨rfl, b6⟩; have HX : Hid (FK rb w v w6 _ _ _) := HX.out.below b6; have c3 := HX.out.fl.c3; have lt := HX.out.fl.lt; clear b6))
      go_ret
      exact RmE.no HX.out.fl HX.out.rf (by rw [HB0.out, HE.out]; rfl)
 · skip
   go_wp2_with (first | (go_at_call 35; refine (HK.out.want_no _ q1).mono ?_; rintro e w5 ⟨rfl, h5⟩; have HX : Hid (FK rb w v w5 _ _ _) := h5; clear h5))
   go_loopw [3] (fun u wr => ∃ (ks : List Int), Hid (FK rb w v wr u ks (fh ts en 2 s)) /\ Hid (ks.length <= 5000)) (fun _ _ => 0)
   case atStart => exact ⟨_, HX, by show _ <= _; simp⟩
   case round =>
    obtain ⟨ks, HX, HN⟩ := hrel
    obtain ⟨ua, L, uc, hu, hL⟩ := HX.out.form
    subst hu
    have HLL : Hid _ := hL
    clear hL
    have c3 := HX.out.fl.c3
    have lt := HX.out.fl.lt
    have ne := HX.out.fl.ne
    go_wp2_with (first | (go_at_call 35; refine (zm rb _ _ _ HX.out.fl _).mono ?_; rintro e w6 ⟨rfl, -, b6⟩; have HX : Hid (FK rb w v w6 _ _ _) := HX.out.below b6; have c3 := HX.out.fl.c3; have lt := HX.out.fl.lt; clear b6) | (go_at_call 37; refine (zo rb _ _ _ HX.out.fl).mono ?_; rintro e w6 ⟨⟨n6, rfl⟩, -, b6⟩; have HX : Hid (FK rb w v w6 _ _ _) := HX.out.below b6; have c3 := HX.out.fl.c3; have lt := HX.out.fl.lt; clear b6) | (at_builtin; refine zb7 rfl _ _ rfl HX.out n6 _ rfl rfl rfl (by first | omega | (simp; done) | (simp; omega) | (have := HN.out; simp at this ⊢; omega)) ?_; intro ua' uc' w7 h7; have HX : Hid (FK rb w v w7 _ _ _) := h7; have c3 := HX.out.fl.c3; have lt := HX.out.fl.lt; clear h7) | (go_at_call 17; refine (zc rb _ _ _ HX.out.fl _ _ _ _ _ _).mono ?_; rintro e w6 ⟨rfl, b6⟩; have HX : Hid (FK rb w v w6 _ _ _) := HX.out.below b6; have c3 := HX.out.fl.c3; have lt := HX.out.fl.lt; clear b6))
    go_ret
    exact RmE.no HX.out.fl HX.out.rf (by unfold fnP; rw [e1])
end Go.Proofs.YtiglkhkfbgjjoaaGreatDoor
