/- - -/
import Derived.Test.YtiglkhkfbgjjoaaGreatDoorPPbC
namespace Go.Proofs.YtiglkhkfbgjjoaaGreatDoor
set_option maxRecDepth 20000
open Go.RowKit Go.PlainAid Go.Maps
set_option linter.unusedSimpArgs false
set_option linter.unusedVariables false
theorem zo1 : ∀ az w, (callFunc 124 az).run Tryz.prog w = .ok (.enter 124 az) w := enters_of Tryz.func124 (by kernel_rfl) rfl
theorem zo2 : ∀ az w, (callFunc 125 az).run Tryz.prog w = .ok (.enter 125 az) w := enters_of Tryz.func125 (by kernel_rfl) rfl
set_option maxHeartbeats 2000000 in
theorem zin {rb : Nat} {ts : List za} {tv : Value} {en : Nat} {r : Rd} {n : Nat} (hr : RP rb ts tv en r n) (hro : zk ts r) (HF : ∀ (w : World) (v : Value) (kv : List Value) (s : PS), Rdr rb ts tv en w v kv s -> s.ns.length <= 8 * s.i -> ts.length < s.i + (n) -> Calls Tryz.prog 125 #[.pointer (some ⟨rb, 0, none⟩)] w (RdE rb ts tv en w v kv (fdP ts en r s))) (w : World) (v : Value) (kv : List Value) (s : PS) (h : Rdr rb ts tv en w v kv s) (hp : s.ns.length <= 8 * s.i) (hf : ts.length < s.i + (n + 1)) :
 Calls Tryz.prog 119 #[.pointer (some ⟨rb, 0, none⟩)] w (RdE rb ts tv en w v kv (zu ts en r s)) := by
 have HS0 : Hid (St rb ts tv en w v kv w v [] s) := St.begin h
 have hT : ts.length <= 3000 := h.tl
 have hI : s.i <= ts.length := h.il
 obtain ⟨i0, hi, hz0, hz1, hz2⟩ := info_parts zb6
 have hmf : ∀ (fn : Fn) (first cap : Array Value) (w : World), (Instr.makeFunc fn first cap).run Tryz.prog w = .ok (.func fn first cap) w := fun _ _ _ _ => rfl
 clear h
 go_enter Tryz.func119, Tryz.ntmps119
 cases hx : ts[s.i]? with
 | none =>
   go_wp2_with (go_at_call 98; refine (HS0.out.kind 3 false (by unfold kdN; rw [hx])).mono ?_; rintro e w1 ⟨rfl, h1⟩; have HS1 : Hid (St rb ts tv en w v kv _ _ _ s) := h1; clear h1 HS0)
   go_wp2_with (go_at_call 98; refine (HS1.out.kind 4 false (by unfold kdN; rw [hx])).mono ?_; rintro e w2 ⟨rfl, h2⟩; have HS2 : Hid (St rb ts tv en w v kv _ _ _ s) := h2; clear h2 HS1)
   go_wp2_with (go_at_call 98; refine (HS2.out.kind 1 false (by unfold kdN; rw [hx])).mono ?_; rintro e w3 ⟨rfl, h3⟩; have HS3 : Hid (St rb ts tv en w v kv _ _ _ s) := h3; clear h3 HS2)
   go_wp2_with (go_at_call 69; refine (HS3.out.pass_no ⟨#[110, 105, 108]⟩ (by unfold isN; rw [hx])).mono ?_; rintro e w4 ⟨rfl, h4⟩; have HS4 : Hid (St rb ts tv en w v kv _ _ _ s) := h4; clear h4 HS3)
   go_wp2_with (go_at_call 69; refine (HS4.out.pass_no ⟨#[102, 97, 108, 115, 101]⟩ (by unfold isN; rw [hx])).mono ?_; rintro e w5 ⟨rfl, h5⟩; have HS5 : Hid (St rb ts tv en w v kv _ _ _ s) := h5; clear h5 HS4)
   go_wp2_with (go_at_call 69; refine (HS5.out.pass_no ⟨#[116, 114, 117, 101]⟩ (by unfold isN; rw [hx])).mono ?_; rintro e w6 ⟨rfl, h6⟩; have HS6 : Hid (St rb ts tv en w v kv _ _ _ s) := h6; clear h6 HS5)
   go_wp2_with (go_at_call 69; refine (HS6.out.pass_no ⟨#[102, 110]⟩ (by unfold isN; rw [hx])).mono ?_; rintro e w7 ⟨rfl, h7⟩; have HS7 : Hid (St rb ts tv en w v kv _ _ _ s) := h7; clear h7 HS6)
   go_wp2_with (go_at_call 69; refine (HS7.out.pass_no ⟨#[123]⟩ (by unfold isN; rw [hx])).mono ?_; rintro e w8 ⟨rfl, h8⟩; have HS8 : Hid (St rb ts tv en w v kv _ _ _ s) := h8; clear h8 HS7)
   go_wp2_with (go_at_call 69; refine (HS8.out.pass_no ⟨#[40]⟩ (by unfold isN; rw [hx])).mono ?_; rintro e w9 ⟨rfl, h9⟩; have HS9 : Hid (St rb ts tv en w v kv _ _ _ s) := h9; clear h9 HS8)
   go_wp2_with (go_at_call 99; refine (HS9.out.fault 2).mono ?_; rintro e w10 ⟨rfl, b9⟩; have HB : Hid (Below rb w w10) := b9; clear b9 HS9)
   exact ⟨rfl, RdE.no HB.out (by first | (simp only [zu, hx, ↓reduceIte, Bool.false_eq_true, if_true, if_false, Bool.and_true, Bool.true_and, and_true, and_false, true_and, false_and]; done) | simp [zu, hx])⟩
 | some x =>
   have hk : ∀ k, kdN ts k s = (x.k == k) := fun k => by unfold kdN; rw [hx]
   have hn : ∀ b, isN ts b s = isT x b := fun b => by unfold isN; rw [hx]
   have fx := zgs
   have fn := zsl
   by_cases ka3 : x.k = 3
   · skip
     go_wp2_with (go_at_call 98; refine (HS0.out.kind 3 true (by rw [hk, ka3]; rfl)).mono ?_; rintro e w1 ⟨rfl, h1⟩; have HS1 : Hid (St rb ts tv en w v kv _ _ _ s) := h1; clear h1 HS0)
     have p2 : ((adv s)).ns.length <= 8 * ((adv s)).i := Nat.le_trans hp (Nat.mul_le_mul_left 8 (Nat.le_succ _))
     have i2 : ((adv s)).i = (s).i + 1 := rfl
     go_wp2_with (go_at_call 100; refine (HS1.out.take x hx).mono ?_; rintro e w2 ⟨rfl, h2⟩; have HS2 : Hid (St rb ts tv en w v kv _ _ _ (adv s)) := h2; clear h2 HS1)
     go_wp2_with (go_at_call 31; refine (HS2.out.add0 3 eT x.n (by have := HS2.out.rd.il; omega)).mono ?_; rintro e w3 ⟨rfl, v3, K3, h3⟩; have HS3 : Hid (St rb ts tv en w v kv _ _ _ (zb 3 eT x.n [] (adv s)).2) := h3; clear h3 HS2)
     go_ret
     exact RdE.yes HS3.out (by first | (simp only [zu, hx, ka3, ↓reduceIte, Bool.false_eq_true, if_true, if_false, Bool.and_true, Bool.true_and, and_true, and_false, true_and, false_and]; done) | simp [zu, hx, ka3])
   · skip
     go_wp2_with (go_at_call 98; refine (HS0.out.kind 3 false (by rw [hk]; simpa using ka3)).mono ?_; rintro e w1 ⟨rfl, h1⟩; have HS1 : Hid (St rb ts tv en w v kv _ _ _ s) := h1; clear h1 HS0)
     by_cases ka4 : x.k = 4
     · skip
       go_wp2_with (go_at_call 98; refine (HS1.out.kind 4 true (by rw [hk, ka4]; rfl)).mono ?_; rintro e w2 ⟨rfl, h2⟩; have HS2 : Hid (St rb ts tv en w v kv _ _ _ s) := h2; clear h2 HS1)
       have p3 : ((adv s)).ns.length <= 8 * ((adv s)).i := Nat.le_trans hp (Nat.mul_le_mul_left 8 (Nat.le_succ _))
       have i3 : ((adv s)).i = (s).i + 1 := rfl
       go_wp2_with (go_at_call 100; refine (HS2.out.take x hx).mono ?_; rintro e w3 ⟨rfl, h3⟩; have HS3 : Hid (St rb ts tv en w v kv _ _ _ (adv s)) := h3; clear h3 HS2)
       go_wp2_with (go_at_call 31; refine (HS3.out.add0 4 x.tx 0 (by have := HS3.out.rd.il; omega)).mono ?_; rintro e w4 ⟨rfl, v4, K4, h4⟩; have HS4 : Hid (St rb ts tv en w v kv _ _ _ (zb 4 x.tx 0 [] (adv s)).2) := h4; clear h4 HS3)
       go_ret
       exact RdE.yes HS4.out (by first | (simp only [zu, hx, ka3, ka4, ↓reduceIte, Bool.false_eq_true, if_true, if_false, Bool.and_true, Bool.true_and, and_true, and_false, true_and, false_and]; done) | simp [zu, hx, ka3, ka4])
     · skip
       go_wp2_with (go_at_call 98; refine (HS1.out.kind 4 false (by rw [hk]; simpa using ka4)).mono ?_; rintro e w2 ⟨rfl, h2⟩; have HS2 : Hid (St rb ts tv en w v kv _ _ _ s) := h2; clear h2 HS1)
       by_cases ka1 : x.k = 1
       · skip
         go_wp2_with (go_at_call 98; refine (HS2.out.kind 1 true (by rw [hk, ka1]; rfl)).mono ?_; rintro e w3 ⟨rfl, h3⟩; have HS3 : Hid (St rb ts tv en w v kv _ _ _ s) := h3; clear h3 HS2)
         have p4 : ((adv s)).ns.length <= 8 * ((adv s)).i := Nat.le_trans hp (Nat.mul_le_mul_left 8 (Nat.le_succ _))
         have i4 : ((adv s)).i = (s).i + 1 := rfl
         go_wp2_with (go_at_call 100; refine (HS3.out.take x hx).mono ?_; rintro e w4 ⟨rfl, h4⟩; have HS4 : Hid (St rb ts tv en w v kv _ _ _ (adv s)) := h4; clear h4 HS3)
         go_wp2_with (go_at_call 31; refine (HS4.out.add0 5 x.tx 0 (by have := HS4.out.rd.il; omega)).mono ?_; rintro e w5 ⟨rfl, v5, K5, h5⟩; have HS5 : Hid (St rb ts tv en w v kv _ _ _ (zb 5 x.tx 0 [] (adv s)).2) := h5; clear h5 HS4)
         go_ret
         exact RdE.yes HS5.out (by first | (simp only [zu, hx, ka3, ka4, ka1, ↓reduceIte, Bool.false_eq_true, if_true, if_false, Bool.and_true, Bool.true_and, and_true, and_false, true_and, false_and]; done) | simp [zu, hx, ka3, ka4, ka1])
       · skip
         go_wp2_with (go_at_call 98; refine (HS2.out.kind 1 false (by rw [hk]; simpa using ka1)).mono ?_; rintro e w3 ⟨rfl, h3⟩; have HS3 : Hid (St rb ts tv en w v kv _ _ _ s) := h3; clear h3 HS2)
         cases c1 : isT x ⟨#[110, 105, 108]⟩
         · skip
           go_wp2_with (go_at_call 69; refine (HS3.out.pass_no ⟨#[110, 105, 108]⟩ (by rw [hn]; exact c1)).mono ?_; rintro e w4 ⟨rfl, h4⟩; have HS4 : Hid (St rb ts tv en w v kv _ _ _ s) := h4; clear h4 HS3)
           cases c2 : isT x ⟨#[102, 97, 108, 115, 101]⟩
           · skip
             go_wp2_with (go_at_call 69; refine (HS4.out.pass_no ⟨#[102, 97, 108, 115, 101]⟩ (by rw [hn]; exact c2)).mono ?_; rintro e w5 ⟨rfl, h5⟩; have HS5 : Hid (St rb ts tv en w v kv _ _ _ s) := h5; clear h5 HS4)
             cases c3 : isT x ⟨#[116, 114, 117, 101]⟩
             · skip
               go_wp2_with (go_at_call 69; refine (HS5.out.pass_no ⟨#[116, 114, 117, 101]⟩ (by rw [hn]; exact c3)).mono ?_; rintro e w6 ⟨rfl, h6⟩; have HS6 : Hid (St rb ts tv en w v kv _ _ _ s) := h6; clear h6 HS5)
               cases c4 : isT x ⟨#[102, 110]⟩
               · skip
                 go_wp2_with (go_at_call 69; refine (HS6.out.pass_no ⟨#[102, 110]⟩ (by rw [hn]; exact c4)).mono ?_; rintro e w7 ⟨rfl, h7⟩; have HS7 : Hid (St rb ts tv en w v kv _ _ _ s) := h7; clear h7 HS6)
                 cases c5 : isT x ⟨#[123]⟩
                 · skip
                   go_wp2_with (go_at_call 69; refine (HS7.out.pass_no ⟨#[123]⟩ (by rw [hn]; exact c5)).mono ?_; rintro e w8 ⟨rfl, h8⟩; have HS8 : Hid (St rb ts tv en w v kv _ _ _ s) := h8; clear h8 HS7)
                   cases c6 : isT x ⟨#[40]⟩
                   · skip
                     go_wp2_with (go_at_call 69; refine (HS8.out.pass_no ⟨#[40]⟩ (by rw [hn]; exact c6)).mono ?_; rintro e w9 ⟨rfl, h9⟩; have HS9 : Hid (St rb ts tv en w v kv _ _ _ s) := h9; clear h9 HS8)
                     go_wp2_with (go_at_call 99; refine (HS9.out.fault 2).mono ?_; rintro e w10 ⟨rfl, b9⟩; have HB : Hid (Below rb w w10) := b9; clear b9 HS9)
                     exact ⟨rfl, RdE.no HB.out (by first | (simp only [zu, hx, ka3, ka4, ka1, c1, c2, c3, c4, c5, c6, ↓reduceIte, Bool.false_eq_true, if_true, if_false, Bool.and_true, Bool.true_and, and_true, and_false, true_and, false_and]; done) | simp [zu, hx, ka3, ka4, ka1, c1, c2, c3, c4, c5, c6])⟩
                   · skip
                     have p9 : ((adv s)).ns.length <= 8 * ((adv s)).i := Nat.le_trans hp (Nat.mul_le_mul_left 8 (Nat.le_succ _))
                     have i9 : ((adv s)).i = (s).i + 1 := rfl
                     go_wp2_with (go_at_call 69; refine (HS8.out.pass_yes ⟨#[40]⟩ (by rw [hn]; exact c6)).mono ?_; rintro e w9 ⟨rfl, h9⟩; have HS9 : Hid (St rb ts tv en w v kv _ _ _ (adv s)) := h9; clear h9 HS8)
                     rcases e10 : r.wh (adv s) with ⟨x10⟩ | ⟨a10, s10⟩
                     · skip
                       go_wp2_with (go_at_call 74; refine (HS9.out.no (hr.wh _ _ _ _ HS9.out.rd p9 (by omega)) e10).mono ?_; rintro e w10 ⟨he, b10⟩; unfold pan at he; subst he; have HB : Hid (Below rb w w10) := b10; clear b10 HS9)
                       exact ⟨rfl, RdE.no HB.out (by first | (simp only [zu, hx, ka3, ka4, ka1, c1, c2, c3, c4, c5, c6, e10, ↓reduceIte, Bool.false_eq_true, if_true, if_false, Bool.and_true, Bool.true_and, and_true, and_false, true_and, false_and]; done) | simp [zu, hx, ka3, ka4, ka1, c1, c2, c3, c4, c5, c6, e10])⟩
                     · skip
                       have o10 := hro.wh e10
                       have p10 : s10.ns.length <= 8 * s10.i := by have := o10.1.phi p9; omega
                       have i10 := o10.1.1
                       have t10 := o10.1.2.1
                       go_wp2_with (go_at_call 74; refine (HS9.out.yes (hr.wh _ _ _ _ HS9.out.rd p9 (by omega)) e10).mono ?_; rintro e w10 ⟨rfl, v10, K10, h10⟩; have HS10 : Hid (St rb ts tv en w v kv _ _ _ s10) := h10; clear h10 HS9)
                       rcases zac ts en ⟨#[41]⟩ s10 with ⟨q11, e11⟩ | ⟨q11, e11⟩
                       · skip
                         have p11 : ((adv s10)).ns.length <= 8 * ((adv s10)).i := Nat.le_trans p10 (Nat.mul_le_mul_left 8 (Nat.le_succ _))
                         have i11 : ((adv s10)).i = (s10).i + 1 := rfl
                         go_wp2_with (go_at_call 71; refine (HS10.out.want_yes ⟨#[41]⟩ q11).mono ?_; rintro e w11 ⟨rfl, h11⟩; have HS11 : Hid (St rb ts tv en w v kv _ _ _ (adv s10)) := h11; clear h11 HS10)
                         go_ret
                         exact RdE.yes HS11.out (by first | (simp only [zu, hx, ka3, ka4, ka1, c1, c2, c3, c4, c5, c6, e10, e11, ↓reduceIte, Bool.false_eq_true, if_true, if_false, Bool.and_true, Bool.true_and, and_true, and_false, true_and, false_and]; done) | simp [zu, hx, ka3, ka4, ka1, c1, c2, c3, c4, c5, c6, e10, e11])
                       · skip
                         go_wp2_with (go_at_call 71; refine (HS10.out.want_no ⟨#[41]⟩ q11).mono ?_; rintro e w11 ⟨he, b11⟩; unfold pan at he; subst he; have HB : Hid (Below rb w w11) := b11; clear b11 HS10)
                         exact ⟨rfl, RdE.no HB.out (by first | (simp only [zu, hx, ka3, ka4, ka1, c1, c2, c3, c4, c5, c6, e10, e11, ↓reduceIte, Bool.false_eq_true, if_true, if_false, Bool.and_true, Bool.true_and, and_true, and_false, true_and, false_and]; done) | simp [zu, hx, ka3, ka4, ka1, c1, c2, c3, c4, c5, c6, e10, e11])⟩
                 · skip
                   have p8 : ((adv s)).ns.length <= 8 * ((adv s)).i := Nat.le_trans hp (Nat.mul_le_mul_left 8 (Nat.le_succ _))
                   have i8 : ((adv s)).i = (s).i + 1 := rfl
                   go_wp2_with (go_at_call 69; refine (HS7.out.pass_yes ⟨#[123]⟩ (by rw [hn]; exact c5)).mono ?_; rintro e w8 ⟨rfl, h8⟩; have HS8 : Hid (St rb ts tv en w v kv _ _ _ (adv s)) := h8; clear h8 HS7)
                   have HQ : Hid (Calls Tryz.prog 122 #[.pointer (some ⟨rb, 0, none⟩), .string ⟨#[125]⟩, .func (.func 125) #[.pointer (some ⟨rb, 0, none⟩)] #[]] w8 (LsE rb ts tv en w8 _ _ (lsP ts en (fdP ts en r) ⟨#[125]⟩ (ts.length + 1) (adv s)))) := zih HF (zcr ts en hro) ⟨#[125]⟩ _ _ _ _ HS8.out.rd p8 (by omega) zo2
                   rcases e9 : lsP ts en (fdP ts en r) ⟨#[125]⟩ (ts.length + 1) (adv s) with ⟨x9⟩ | ⟨ks, s9⟩
                   · skip
                     go_wp2_with (go_at_call 122; refine HQ.out.mono ?_; rintro e w9 hh; obtain ⟨he, b3⟩ := hh.2 _ e9; unfold pan at he; subst he; have HB : Hid (Below rb w w9) := HS8.out.low.trans b3; clear b3 hh)
                     exact ⟨rfl, RdE.no HB.out (by first | (simp only [zu, hx, ka3, ka4, ka1, c1, c2, c3, c4, c5, e9, ↓reduceIte, Bool.false_eq_true, if_true, if_false, Bool.and_true, Bool.true_and, and_true, and_false, true_and, false_and]; done) | simp [zu, hx, ka3, ka4, ka1, c1, c2, c3, c4, c5, e9])⟩
                   · skip
                     have o9 := ze5 ts en (zcr ts en hro) e9
                     have p9 : s9.ns.length <= 8 * s9.i := by have := o9.phi p8; omega
                     have i9 := o9.1
                     have t9 := o9.2.1
                     have hkl : ks.length <= s9.i := zio (zcr ts en hro) e9
                     go_wp2_with (go_at_call 122; refine HQ.out.mono ?_; rintro e w9 hh; obtain ⟨u, rfl, v9, kq, h3, kk3⟩ := hh.1 ks s9 e9; have HS9 : Hid (St rb ts tv en w v kv w9 v9 (_ ++ kq) s9) := HS8.out.e h3; have HK9 : Hid (Kd rb w w9 v9 (kv ++ (_ ++ kq)) u ks) := ⟨by rw [<- List.append_assoc]; exact kk3.own, fun g hg => Nat.le_trans HS8.out.rg.size (kk3.new g hg)⟩; clear h3 kk3 hh HQ HS8)
                     go_wp2_with (go_at_call 31; refine (HS9.out.addK HK9.out 7 eT 0 (by omega)).mono ?_; rintro e w10 ⟨rfl, v10, K10, h10⟩; have HS10 : Hid (St rb ts tv en w v kv _ _ _ (zb 7 eT 0 ks s9).2) := h10; clear h10)
                     go_ret
                     exact RdE.yes HS10.out (by first | (simp only [zu, hx, ka3, ka4, ka1, c1, c2, c3, c4, c5, e9, ↓reduceIte, Bool.false_eq_true, if_true, if_false, Bool.and_true, Bool.true_and, and_true, and_false, true_and, false_and]; done) | simp [zu, hx, ka3, ka4, ka1, c1, c2, c3, c4, c5, e9])
               · skip
                 have p7 : ((adv s)).ns.length <= 8 * ((adv s)).i := Nat.le_trans hp (Nat.mul_le_mul_left 8 (Nat.le_succ _))
                 have i7 : ((adv s)).i = (s).i + 1 := rfl
                 go_wp2_with (go_at_call 69; refine (HS6.out.pass_yes ⟨#[102, 110]⟩ (by rw [hn]; exact c4)).mono ?_; rintro e w7 ⟨rfl, h7⟩; have HS7 : Hid (St rb ts tv en w v kv _ _ _ (adv s)) := h7; clear h7 HS6)
                 rcases zac ts en ⟨#[40]⟩ (adv s) with ⟨q8, e8⟩ | ⟨q8, e8⟩
                 · skip
                   have p8 : ((adv (adv s))).ns.length <= 8 * ((adv (adv s))).i := Nat.le_trans p7 (Nat.mul_le_mul_left 8 (Nat.le_succ _))
                   have i8 : ((adv (adv s))).i = ((adv s)).i + 1 := rfl
                   go_wp2_with (go_at_call 71; refine (HS7.out.want_yes ⟨#[40]⟩ q8).mono ?_; rintro e w8 ⟨rfl, h8⟩; have HS8 : Hid (St rb ts tv en w v kv _ _ _ (adv (adv s))) := h8; clear h8 HS7)
                   have HQ : Hid (Calls Tryz.prog 122 #[.pointer (some ⟨rb, 0, none⟩), .string ⟨#[41]⟩, .func (.func 124) #[.pointer (some ⟨rb, 0, none⟩)] #[]] w8 (LsE rb ts tv en w8 _ _ (lsP ts en (paP ts en) ⟨#[41]⟩ (ts.length + 1) (adv (adv s))))) := zih (zkm hr hro) (fun h => (zcz ts en h).field ts) ⟨#[41]⟩ _ _ _ _ HS8.out.rd p8 (by omega) zo1
                   rcases e9 : lsP ts en (paP ts en) ⟨#[41]⟩ (ts.length + 1) (adv (adv s)) with ⟨x9⟩ | ⟨ks, s9⟩
                   · skip
                     go_wp2_with (go_at_call 122; refine HQ.out.mono ?_; rintro e w9 hh; obtain ⟨he, b3⟩ := hh.2 _ e9; unfold pan at he; subst he; have HB : Hid (Below rb w w9) := HS8.out.low.trans b3; clear b3 hh)
                     exact ⟨rfl, RdE.no HB.out (by first | (simp only [zu, hx, ka3, ka4, ka1, c1, c2, c3, c4, e8, e9, ↓reduceIte, Bool.false_eq_true, if_true, if_false, Bool.and_true, Bool.true_and, and_true, and_false, true_and, false_and]; done) | simp [zu, hx, ka3, ka4, ka1, c1, c2, c3, c4, e8, e9])⟩
                   · skip
                     have o9 := ze5 ts en (fun h => (zcz ts en h).field ts) e9
                     have p9 : s9.ns.length <= 8 * s9.i := by have := o9.phi p8; omega
                     have i9 := o9.1
                     have t9 := o9.2.1
                     have hkl : ks.length <= s9.i := zio (fun h => (zcz ts en h).field ts) e9
                     go_wp2_with (go_at_call 122; refine HQ.out.mono ?_; rintro e w9 hh; obtain ⟨u, rfl, v9, kq, h3, kk3⟩ := hh.1 ks s9 e9; have HS9 : Hid (St rb ts tv en w v kv w9 v9 (_ ++ kq) s9) := HS8.out.e h3; have HK9 : Hid (Kd rb w w9 v9 (kv ++ (_ ++ kq)) u ks) := ⟨by rw [<- List.append_assoc]; exact kk3.own, fun g hg => Nat.le_trans HS8.out.rg.size (kk3.new g hg)⟩; clear h3 kk3 hh HQ HS8)
                     rcases e10 : r.bl s9 with ⟨y⟩ | ⟨a10, s10⟩
                     · skip
                       go_wp2_with (go_at_call 75; refine (HS9.out.no (hr.bl _ _ _ _ HS9.out.rd p9 (by omega)) e10).mono ?_; rintro e w10 ⟨he, b10⟩; unfold pan at he; subst he; have HB : Hid (Below rb w w10) := b10; clear b10 HS9)
                       exact ⟨rfl, RdE.no HB.out (by first | (simp only [zu, hx, ka3, ka4, ka1, c1, c2, c3, c4, e8, e9, e10, ↓reduceIte, Bool.false_eq_true, if_true, if_false, Bool.and_true, Bool.true_and, and_true, and_false, true_and, false_and]; done) | simp [zu, hx, ka3, ka4, ka1, c1, c2, c3, c4, e8, e9, e10])⟩
                     · skip
                       have o10 := hro.bl e10
                       have p10 : s10.ns.length <= 8 * s10.i := by have := o10.1.phi p9; omega
                       have t10 := o10.1.2.1
                       have i10 := o10.1.1
                       go_wp2_with (first | (go_at_call 75; refine (hr.bl _ _ _ _ HS9.out.rd p9 (by omega)).mono ?_; rintro e w10 hh; obtain ⟨rfl, v10, kp, h4⟩ := hh.1 _ _ e10; obtain ⟨h5, k5⟩ := HS9.out.both HK9.out h4; have HS10 : Hid (St rb ts tv en w v kv w10 v10 _ s10) := h5; have HK10 : Hid (Kd rb w w10 v10 _ u ks) := k5; clear h4 h5 k5 hh HS9 HK9) | (at_builtin; refine wpList_append_own_at _ rfl _ _ 32 rfl (rb + 1) 3 i0 (.int .i64 0) 1 8 Tryz.underlying32 hi hz0 hz1 hz2 rfl (by decide) u ks.length (icl ks) rfl (IR.alloc HK10.out.own.row _) ⟨w10.heap.size, 0, none⟩ 1 1 [.int .i64 a10] rfl rfl (fun j y hy => by have e : (w10.alloc (.cells #[.int .i64 a10] 3)).cell? ((⟨w10.heap.size, 0, none⟩ : Addr).add j) = (#[.int .i64 a10] : Array Value)[j]? := (by cases j <;> simp [go_sem, Addr.add]); rw [e, <- hy]; simp) (by simp [Value.oneCell']) (by unfold maxLen; first | omega | (simp; done) | (simp; omega)) (by first | omega | (simp; done) | (simp; omega)) (by have := HS10.out.rd.lt; simp; omega) ?_))
                       intro u' w11 hown hgrow _ hat
                       obtain ⟨h4, kz⟩ := Kd.grow HS10.out HK10.out hown hgrow hat
                       have HS11 : Hid (St rb ts tv en w v kv w11 v10 _ s10) := h4
                       have HK11 : Hid (Kd rb w w11 v10 _ u' (ks ++ [a10])) := kz
                       clear h4 kz hown hgrow hat HS10 HK10
                       go_wp2_with (go_at_call 31; refine (HS11.out.addK HK11.out 6 eT 0 (by omega)).mono ?_; rintro e w12 ⟨rfl, v12, K12, h12⟩; have HS12 : Hid (St rb ts tv en w v kv _ _ _ (zb 6 eT 0 (ks ++ [a10]) s10).2) := h12; clear h12)
                       go_ret
                       exact RdE.yes HS12.out (by first | (simp only [zu, hx, ka3, ka4, ka1, c1, c2, c3, c4, e8, e9, e10, ↓reduceIte, Bool.false_eq_true, if_true, if_false, Bool.and_true, Bool.true_and, and_true, and_false, true_and, false_and]; done) | simp [zu, hx, ka3, ka4, ka1, c1, c2, c3, c4, e8, e9, e10])
                 · skip
                   go_wp2_with (go_at_call 71; refine (HS7.out.want_no ⟨#[40]⟩ q8).mono ?_; rintro e w8 ⟨he, b8⟩; unfold pan at he; subst he; have HB : Hid (Below rb w w8) := b8; clear b8 HS7)
                   exact ⟨rfl, RdE.no HB.out (by first | (simp only [zu, hx, ka3, ka4, ka1, c1, c2, c3, c4, e8, ↓reduceIte, Bool.false_eq_true, if_true, if_false, Bool.and_true, Bool.true_and, and_true, and_false, true_and, false_and]; done) | simp [zu, hx, ka3, ka4, ka1, c1, c2, c3, c4, e8])⟩
             · skip
               have p6 : ((adv s)).ns.length <= 8 * ((adv s)).i := Nat.le_trans hp (Nat.mul_le_mul_left 8 (Nat.le_succ _))
               have i6 : ((adv s)).i = (s).i + 1 := rfl
               go_wp2_with (go_at_call 69; refine (HS5.out.pass_yes ⟨#[116, 114, 117, 101]⟩ (by rw [hn]; exact c3)).mono ?_; rintro e w6 ⟨rfl, h6⟩; have HS6 : Hid (St rb ts tv en w v kv _ _ _ (adv s)) := h6; clear h6 HS5)
               go_wp2_with (go_at_call 31; refine (HS6.out.add0 2 eT 1 (by have := HS6.out.rd.il; omega)).mono ?_; rintro e w7 ⟨rfl, v7, K7, h7⟩; have HS7 : Hid (St rb ts tv en w v kv _ _ _ (zb 2 eT 1 [] (adv s)).2) := h7; clear h7 HS6)
               go_ret
               exact RdE.yes HS7.out (by first | (simp only [zu, hx, ka3, ka4, ka1, c1, c2, c3, ↓reduceIte, Bool.false_eq_true, if_true, if_false, Bool.and_true, Bool.true_and, and_true, and_false, true_and, false_and]; done) | simp [zu, hx, ka3, ka4, ka1, c1, c2, c3])
           · skip
             have p5 : ((adv s)).ns.length <= 8 * ((adv s)).i := Nat.le_trans hp (Nat.mul_le_mul_left 8 (Nat.le_succ _))
             have i5 : ((adv s)).i = (s).i + 1 := rfl
             go_wp2_with (go_at_call 69; refine (HS4.out.pass_yes ⟨#[102, 97, 108, 115, 101]⟩ (by rw [hn]; exact c2)).mono ?_; rintro e w5 ⟨rfl, h5⟩; have HS5 : Hid (St rb ts tv en w v kv _ _ _ (adv s)) := h5; clear h5 HS4)
             go_wp2_with (go_at_call 31; refine (HS5.out.add0 2 eT 0 (by have := HS5.out.rd.il; omega)).mono ?_; rintro e w6 ⟨rfl, v6, K6, h6⟩; have HS6 : Hid (St rb ts tv en w v kv _ _ _ (zb 2 eT 0 [] (adv s)).2) := h6; clear h6 HS5)
             go_ret
             exact RdE.yes HS6.out (by first | (simp only [zu, hx, ka3, ka4, ka1, c1, c2, ↓reduceIte, Bool.false_eq_true, if_true, if_false, Bool.and_true, Bool.true_and, and_true, and_false, true_and, false_and]; done) | simp [zu, hx, ka3, ka4, ka1, c1, c2])
         · skip
           have p4 : ((adv s)).ns.length <= 8 * ((adv s)).i := Nat.le_trans hp (Nat.mul_le_mul_left 8 (Nat.le_succ _))
           have i4 : ((adv s)).i = (s).i + 1 := rfl
           go_wp2_with (go_at_call 69; refine (HS3.out.pass_yes ⟨#[110, 105, 108]⟩ (by rw [hn]; exact c1)).mono ?_; rintro e w4 ⟨rfl, h4⟩; have HS4 : Hid (St rb ts tv en w v kv _ _ _ (adv s)) := h4; clear h4 HS3)
           go_wp2_with (go_at_call 31; refine (HS4.out.add0 1 eT 0 (by have := HS4.out.rd.il; omega)).mono ?_; rintro e w5 ⟨rfl, v5, K5, h5⟩; have HS5 : Hid (St rb ts tv en w v kv _ _ _ (zb 1 eT 0 [] (adv s)).2) := h5; clear h5 HS4)
           go_ret
           exact RdE.yes HS5.out (by first | (simp only [zu, hx, ka3, ka4, ka1, c1, ↓reduceIte, Bool.false_eq_true, if_true, if_false, Bool.and_true, Bool.true_and, and_true, and_false, true_and, false_and]; done) | simp [zu, hx, ka3, ka4, ka1, c1])
set_option maxHeartbeats 2000000 in
theorem zkk {rb : Nat} {ts : List za} {tv : Value} {en : Nat} {r : Rd} {n : Nat} (hr : RP rb ts tv en r n) (hro : zk ts r) (HN : ∀ (w : World) (v : Value) (kv : List Value) (s : PS), Rdr rb ts tv en w v kv s -> Calls Tryz.prog 128 #[.pointer (some ⟨rb, 0, none⟩)] w fun e w' => e = .returned (.bool (kdN ts 1 s && isN ts ⟨#[61]⟩ (adv s))) /\ Below w.heap.size w w') (w : World) (v : Value) (kv : List Value) (s : PS) (h : Rdr rb ts tv en w v kv s) (hp : s.ns.length <= 8 * s.i) (hf : ts.length < s.i + n) :
 Calls Tryz.prog 125 #[.pointer (some ⟨rb, 0, none⟩)] w (RdE rb ts tv en w v kv (fdP ts en r s)) := by
 have HS0 : Hid (St rb ts tv en w v kv w v [] s) := St.begin h
 have hT : ts.length <= 3000 := h.tl
 have hI : s.i <= ts.length := h.il
 clear h
 go_enter Tryz.func125, Tryz.ntmps125
 cases e1 : isN ts ⟨#[91]⟩ s
 · skip
   go_wp2_with (go_at_call 69; refine (HS0.out.pass_no ⟨#[91]⟩ e1).mono ?_; rintro e w1 ⟨rfl, h1⟩; have HS1 : Hid (St rb ts tv en w v kv _ _ _ s) := h1; clear h1 HS0)
   cases c2 : (kdN ts 1 s && isN ts ⟨#[61]⟩ (adv s))
   · skip
     go_wp2_with (go_at_call 128; refine (HN _ _ _ _ HS1.out.rd).mono ?_; rintro e w2 ⟨he, b6⟩; rw [c2] at he; subst he; have HS2 : Hid (St rb ts tv en w v kv _ _ _ s) := HS1.out.below b6; clear b6 HS1)
     rcases e3 : r.wh s with ⟨x3⟩ | ⟨a3, s3⟩
     · skip
       go_wp2_with (go_at_call 74; refine (HS2.out.no (hr.wh _ _ _ _ HS2.out.rd hp (by omega)) e3).mono ?_; rintro e w3 ⟨he, b3⟩; unfold pan at he; subst he; have HB : Hid (Below rb w w3) := b3; clear b3 HS2)
       exact ⟨rfl, RdE.no HB.out (by first | (simp only [fdP, zv, e1, c2, e3, ↓reduceIte, Bool.false_eq_true, if_true, if_false, Bool.and_true, Bool.true_and, and_true, and_false, true_and, false_and]; done) | simp [fdP, zv, e1, c2, e3])⟩
     · skip
       have o3 := hro.wh e3
       have p3 : s3.ns.length <= 8 * s3.i := by have := o3.1.phi hp; omega
       have i3 := o3.1.1
       have t3 := o3.1.2.1
       go_wp2_with (go_at_call 74; refine (HS2.out.yes (hr.wh _ _ _ _ HS2.out.rd hp (by omega)) e3).mono ?_; rintro e w3 ⟨rfl, v3, K3, h3⟩; have HS3 : Hid (St rb ts tv en w v kv _ _ _ s3) := h3; clear h3 HS2)
       go_wp2_with (go_at_call 31; refine (HS3.out.add [a3] 23 eT 0 (by simp) (by have := HS3.out.rd.il; omega) _ _ _ rfl rfl rfl).mono ?_; rintro e w4 ⟨rfl, v4, K4, h4⟩; have HS4 : Hid (St rb ts tv en w v kv _ _ _ (zb 23 eT 0 [a3] s3).2) := h4; clear h4 HS3)
       go_ret
       exact RdE.yes HS4.out (by first | (simp only [fdP, zv, e1, c2, e3, ↓reduceIte, Bool.false_eq_true, if_true, if_false, Bool.and_true, Bool.true_and, and_true, and_false, true_and, false_and]; done) | simp [fdP, zv, e1, c2, e3])
   · skip
     go_wp2_with (go_at_call 128; refine (HN _ _ _ _ HS1.out.rd).mono ?_; rintro e w2 ⟨he, b6⟩; rw [c2] at he; subst he; have HS2 : Hid (St rb ts tv en w v kv _ _ _ s) := HS1.out.below b6; clear b6 HS1)
     obtain ⟨x5, y5, z5, n5⟩ | ⟨n4, n5⟩ := zbp ts en s
     rotate_left
     · rw [n4] at c2; cases c2
     have k5 : ze1 ts en s = .ok (zb 4 x5.tx 0 [] (adv s)) := by unfold ze1; rw [n5]
     have t5 := (List.getElem?_eq_some_iff.1 y5).1
     go_wp2_with (go_at_call 123; refine (HS2.out.yes (zfp hr hro _ _ _ _ HS2.out.rd hp (by omega)) k5).mono ?_; rintro e w3 ⟨rfl, v3, K3, h3⟩; have HS3 : Hid (St rb ts tv en w v kv _ _ _ (zb 4 x5.tx 0 [] (adv s)).2) := h3; clear h3 HS2)
     have p3 : ((zb 4 x5.tx 0 [] (adv s)).2).ns.length <= 8 * ((zb 4 x5.tx 0 [] (adv s)).2).i := by simp [zb, adv]; omega
     have i3 : ((zb 4 x5.tx 0 [] (adv s)).2).i = s.i + 1 := rfl
     rcases zac ts en ⟨#[61]⟩ (zb 4 x5.tx 0 [] (adv s)).2 with ⟨q4, e4⟩ | ⟨q4, e4⟩
     · skip
       have p4 : ((adv (zb 4 x5.tx 0 [] (adv s)).2)).ns.length <= 8 * ((adv (zb 4 x5.tx 0 [] (adv s)).2)).i := Nat.le_trans p3 (Nat.mul_le_mul_left 8 (Nat.le_succ _))
       have i4 : ((adv (zb 4 x5.tx 0 [] (adv s)).2)).i = ((zb 4 x5.tx 0 [] (adv s)).2).i + 1 := rfl
       go_wp2_with (go_at_call 71; refine (HS3.out.want_yes ⟨#[61]⟩ q4).mono ?_; rintro e w4 ⟨rfl, h4⟩; have HS4 : Hid (St rb ts tv en w v kv _ _ _ (adv (zb 4 x5.tx 0 [] (adv s)).2)) := h4; clear h4 HS3)
       rcases e5 : r.wh (adv (zb 4 x5.tx 0 [] (adv s)).2) with ⟨x5⟩ | ⟨a5, s5⟩
       · skip
         go_wp2_with (go_at_call 74; refine (HS4.out.no (hr.wh _ _ _ _ HS4.out.rd p4 (by omega)) e5).mono ?_; rintro e w5 ⟨he, b5⟩; unfold pan at he; subst he; have HB : Hid (Below rb w w5) := b5; clear b5 HS4)
         exact ⟨rfl, RdE.no HB.out (by first | (simp only [fdP, zv, e1, c2, n5, e4, e5, ↓reduceIte, Bool.false_eq_true, if_true, if_false, Bool.and_true, Bool.true_and, and_true, and_false, true_and, false_and]; done) | simp [fdP, zv, e1, c2, n5, e4, e5])⟩
       · skip
         have o5 := hro.wh e5
         have p5 : s5.ns.length <= 8 * s5.i := by have := o5.1.phi p4; omega
         have i5 := o5.1.1
         have t5 := o5.1.2.1
         go_wp2_with (go_at_call 74; refine (HS4.out.yes (hr.wh _ _ _ _ HS4.out.rd p4 (by omega)) e5).mono ?_; rintro e w5 ⟨rfl, v5, K5, h5⟩; have HS5 : Hid (St rb ts tv en w v kv _ _ _ s5) := h5; clear h5 HS4)
         go_wp2_with (go_at_call 31; refine (HS5.out.add [(zb 4 x5.tx 0 [] (adv s)).1, a5] 24 eT 0 (by simp) (by have := HS5.out.rd.il; omega) _ _ _ rfl rfl rfl).mono ?_; rintro e w6 ⟨rfl, v6, K6, h6⟩; have HS6 : Hid (St rb ts tv en w v kv _ _ _ (zb 24 eT 0 [(zb 4 x5.tx 0 [] (adv s)).1, a5] s5).2) := h6; clear h6 HS5)
         go_ret
         exact RdE.yes HS6.out (by first | (simp only [fdP, zv, e1, c2, n5, e4, e5, ↓reduceIte, Bool.false_eq_true, if_true, if_false, Bool.and_true, Bool.true_and, and_true, and_false, true_and, false_and]; done) | simp [fdP, zv, e1, c2, n5, e4, e5])
     · skip
       go_wp2_with (go_at_call 71; refine (HS3.out.want_no ⟨#[61]⟩ q4).mono ?_; rintro e w4 ⟨he, b4⟩; unfold pan at he; subst he; have HB : Hid (Below rb w w4) := b4; clear b4 HS3)
       exact ⟨rfl, RdE.no HB.out (by first | (simp only [fdP, zv, e1, c2, n5, e4, ↓reduceIte, Bool.false_eq_true, if_true, if_false, Bool.and_true, Bool.true_and, and_true, and_false, true_and, false_and]; done) | simp [fdP, zv, e1, c2, n5, e4])⟩
 · skip
   have p1 : ((adv s)).ns.length <= 8 * ((adv s)).i := Nat.le_trans hp (Nat.mul_le_mul_left 8 (Nat.le_succ _))
   have i1 : ((adv s)).i = (s).i + 1 := rfl
   go_wp2_with (go_at_call 69; refine (HS0.out.pass_yes ⟨#[91]⟩ e1).mono ?_; rintro e w1 ⟨rfl, h1⟩; have HS1 : Hid (St rb ts tv en w v kv _ _ _ (adv s)) := h1; clear h1 HS0)
   rcases e2 : r.wh (adv s) with ⟨x2⟩ | ⟨a2, s2⟩
   · skip
     go_wp2_with (go_at_call 74; refine (HS1.out.no (hr.wh _ _ _ _ HS1.out.rd p1 (by omega)) e2).mono ?_; rintro e w2 ⟨he, b2⟩; unfold pan at he; subst he; have HB : Hid (Below rb w w2) := b2; clear b2 HS1)
     exact ⟨rfl, RdE.no HB.out (by first | (simp only [fdP, zv, e1, e2, ↓reduceIte, Bool.false_eq_true, if_true, if_false, Bool.and_true, Bool.true_and, and_true, and_false, true_and, false_and]; done) | simp [fdP, zv, e1, e2])⟩
   · skip
     have o2 := hro.wh e2
     have p2 : s2.ns.length <= 8 * s2.i := by have := o2.1.phi p1; omega
     have i2 := o2.1.1
     have t2 := o2.1.2.1
     go_wp2_with (go_at_call 74; refine (HS1.out.yes (hr.wh _ _ _ _ HS1.out.rd p1 (by omega)) e2).mono ?_; rintro e w2 ⟨rfl, v2, K2, h2⟩; have HS2 : Hid (St rb ts tv en w v kv _ _ _ s2) := h2; clear h2 HS1)
     rcases zac ts en ⟨#[93]⟩ s2 with ⟨q3, e3⟩ | ⟨q3, e3⟩
     · skip
       have p3 : ((adv s2)).ns.length <= 8 * ((adv s2)).i := Nat.le_trans p2 (Nat.mul_le_mul_left 8 (Nat.le_succ _))
       have i3 : ((adv s2)).i = (s2).i + 1 := rfl
       go_wp2_with (go_at_call 71; refine (HS2.out.want_yes ⟨#[93]⟩ q3).mono ?_; rintro e w3 ⟨rfl, h3⟩; have HS3 : Hid (St rb ts tv en w v kv _ _ _ (adv s2)) := h3; clear h3 HS2)
       rcases zac ts en ⟨#[61]⟩ (adv s2) with ⟨q4, e4⟩ | ⟨q4, e4⟩
       · skip
         have p4 : ((adv (adv s2))).ns.length <= 8 * ((adv (adv s2))).i := Nat.le_trans p3 (Nat.mul_le_mul_left 8 (Nat.le_succ _))
         have i4 : ((adv (adv s2))).i = ((adv s2)).i + 1 := rfl
         go_wp2_with (go_at_call 71; refine (HS3.out.want_yes ⟨#[61]⟩ q4).mono ?_; rintro e w4 ⟨rfl, h4⟩; have HS4 : Hid (St rb ts tv en w v kv _ _ _ (adv (adv s2))) := h4; clear h4 HS3)
         rcases e5 : r.wh (adv (adv s2)) with ⟨x5⟩ | ⟨a5, s5⟩
         · skip
           go_wp2_with (go_at_call 74; refine (HS4.out.no (hr.wh _ _ _ _ HS4.out.rd p4 (by omega)) e5).mono ?_; rintro e w5 ⟨he, b5⟩; unfold pan at he; subst he; have HB : Hid (Below rb w w5) := b5; clear b5 HS4)
           exact ⟨rfl, RdE.no HB.out (by first | (simp only [fdP, zv, e1, e2, e3, e4, e5, ↓reduceIte, Bool.false_eq_true, if_true, if_false, Bool.and_true, Bool.true_and, and_true, and_false, true_and, false_and]; done) | simp [fdP, zv, e1, e2, e3, e4, e5])⟩
         · skip
           have o5 := hro.wh e5
           have p5 : s5.ns.length <= 8 * s5.i := by have := o5.1.phi p4; omega
           have i5 := o5.1.1
           have t5 := o5.1.2.1
           go_wp2_with (go_at_call 74; refine (HS4.out.yes (hr.wh _ _ _ _ HS4.out.rd p4 (by omega)) e5).mono ?_; rintro e w5 ⟨rfl, v5, K5, h5⟩; have HS5 : Hid (St rb ts tv en w v kv _ _ _ s5) := h5; clear h5 HS4)
           go_wp2_with (go_at_call 31; refine (HS5.out.add [a2, a5] 24 eT 0 (by simp) (by have := HS5.out.rd.il; omega) _ _ _ rfl rfl rfl).mono ?_; rintro e w6 ⟨rfl, v6, K6, h6⟩; have HS6 : Hid (St rb ts tv en w v kv _ _ _ (zb 24 eT 0 [a2, a5] s5).2) := h6; clear h6 HS5)
           go_ret
           exact RdE.yes HS6.out (by first | (simp only [fdP, zv, e1, e2, e3, e4, e5, ↓reduceIte, Bool.false_eq_true, if_true, if_false, Bool.and_true, Bool.true_and, and_true, and_false, true_and, false_and]; done) | simp [fdP, zv, e1, e2, e3, e4, e5])
       · skip
         go_wp2_with (go_at_call 71; refine (HS3.out.want_no ⟨#[61]⟩ q4).mono ?_; rintro e w4 ⟨he, b4⟩; unfold pan at he; subst he; have HB : Hid (Below rb w w4) := b4; clear b4 HS3)
         exact ⟨rfl, RdE.no HB.out (by first | (simp only [fdP, zv, e1, e2, e3, e4, ↓reduceIte, Bool.false_eq_true, if_true, if_false, Bool.and_true, Bool.true_and, and_true, and_false, true_and, false_and]; done) | simp [fdP, zv, e1, e2, e3, e4])⟩
     · skip
       go_wp2_with (go_at_call 71; refine (HS2.out.want_no ⟨#[93]⟩ q3).mono ?_; rintro e w3 ⟨he, b3⟩; unfold pan at he; subst he; have HB : Hid (Below rb w w3) := b3; clear b3 HS2)
       exact ⟨rfl, RdE.no HB.out (by first | (simp only [fdP, zv, e1, e2, e3, ↓reduceIte, Bool.false_eq_true, if_true, if_false, Bool.and_true, Bool.true_and, and_true, and_false, true_and, false_and]; done) | simp [fdP, zv, e1, e2, e3])⟩
end Go.Proofs.YtiglkhkfbgjjoaaGreatDoor
