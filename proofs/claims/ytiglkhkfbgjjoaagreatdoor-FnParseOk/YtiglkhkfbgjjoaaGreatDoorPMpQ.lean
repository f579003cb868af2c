/- - -/
import Derived.Test.YtiglkhkfbgjjoaaGreatDoorPMpN
namespace Go.Proofs.YtiglkhkfbgjjoaaGreatDoor
set_option maxRecDepth 20000
open Go.RowKit Go.PlainAid Go.Maps
set_option linter.unusedSimpArgs false
set_option linter.unusedVariables false
def caF (ts : List za) (en : Nat) (r : Rd) (k : Nat) (a : Int) (R : Except (Int × Int) (List Int × PS)) : Except (Int × Int) (Int × PS) := match R with
 | .error x => .error x
 | .ok (ks, s1) => bhP ts en r k (zb 9 eT 0 (a :: ks) s1).1 (zb 9 eT 0 (a :: ks) s1).2
section
variable {ts : List za} {en : Nat} {r : Rd} {k : Nat} {a : Int} {s : PS}
theorem zsi (h1 : isN ts ⟨#[40]⟩ s = false) (h2 : isN ts ⟨#[91]⟩ s = false) (h3 : isN ts ⟨#[46]⟩ s = false) : bhP ts en r (k + 1) a s = .ok (a, s) := by
 rw [bhP, h1, h2, h3]
 rfl
theorem zsj (h1 : isN ts ⟨#[40]⟩ s = true) : bhP ts en r (k + 1) a s = caF ts en r k a (lsP ts en r.wh ⟨#[41]⟩ (ts.length + 1) (adv s)) := by
 rw [bhP, h1]
 rfl
theorem zt1 (h1 : isN ts ⟨#[40]⟩ s = false) (h2 : isN ts ⟨#[91]⟩ s = true) : bhP ts en r (k + 1) a s = match r.wh (adv s) with
 | .error x => .error x
 | .ok (b, s1) => match zaw ts en ⟨#[93]⟩ s1 with
   | .error x => .error x
   | .ok s2 => bhP ts en r k (zb 8 eT 0 [a, b] s2).1 (zb 8 eT 0 [a, b] s2).2 := by
 rw [bhP, h1, h2]
 rfl
theorem zt2 (h1 : isN ts ⟨#[40]⟩ s = false) (h2 : isN ts ⟨#[91]⟩ s = false) (h3 : isN ts ⟨#[46]⟩ s = true) : bhP ts en r (k + 1) a s = match zbf ts en (adv s) with
 | .error x => .error x
 | .ok (nm, s1) => bhP ts en r k (zb 8 eT 0 [a, (zb 4 nm 0 [] s1).1] (zb 4 nm 0 [] s1).2).1 (zb 8 eT 0 [a, (zb 4 nm 0 [] s1).1] (zb 4 nm 0 [] s1).2).2 := by
 rw [bhP, h1, h2, h3]
 rfl
end
set_option maxHeartbeats 4000000 in
theorem zlp {rb : Nat} {ts : List za} {tv : Value} {en : Nat} {r : Rd} {n : Nat} (hr : RM rb ts tv en r n) (hro : zk ts r) (HPR : ∀ (w : World) (v : Value) (kv : List Value) (s : PS), Mdr rb ts tv en w v kv s -> s.ns.length <= 8 * s.i -> ts.length < s.i + (n + 1) -> Calls Tryz.prog 121 #[.pointer (some ⟨rb, 0, none⟩)] w (RmE rb ts tv en w v kv (zu ts en r s))) (w : World) (v : Value) (kv : List Value) (s : PS) (h : Mdr rb ts tv en w v kv s) (hp : s.ns.length <= 8 * s.i) (hf : ts.length < s.i + (n + 1)) :
 Calls Tryz.prog 114 #[.pointer (some ⟨rb, 0, none⟩)] w (RmE rb ts tv en w v kv (zcn ts en r s)) := by
 have HS0 : Hid (Sm rb ts tv en w v kv w v [] s) := Sm.begin h
 have hT : ts.length <= 3000 := h.tl
 have hI : s.i <= ts.length := h.il
 clear h
 have lt := HS0.out.rd.lt
 have c1 := HS0.out.rd.c1
 have c3 := HS0.out.rd.c3
 have fz := HS0.out.rd.fz
 have wi := HS0.out.wri
 have c5 := HS0.out.rd.c5
 have wd := HS0.out.wrd
 go_enter Tryz.func114, Tryz.ntmps114
 rcases e1 : zu ts en r s with ⟨x1⟩ | ⟨a1, s1⟩
 · have hR : Hid (zcn ts en r s = .error x1) := by show _ = _; unfold zcn; rw [e1]
   go_wp2_with (go_at_call 121; refine (HS0.out.no (HPR _ _ _ _ HS0.out.rd hp (by omega)) e1).mono ?_; rintro e w1 ⟨⟨n1, rfl⟩, F1, b1⟩; clear lt c1 c3 c5 fz wi wd; have HR : Hid (Fl rb w1 x1.1 x1.2) := F1; have HB : Hid (Rf rb w v w1) := b1; clear F1 b1 HS0)
   go_loopw [3] (fun u wr => (∃ n, u = .int .i64 n) /\ Hid (Fl rb wr x1.1 x1.2) /\ Hid (Rf rb w v wr)) (fun _ _ => 0)
   case atStart => exact ⟨⟨_, rfl⟩, HR, HB⟩
   case round =>
    obtain ⟨⟨n2, rfl⟩, HR, HB⟩ := hrel
    have c3 := HR.out.c3
    have lt := HR.out.lt
    have ne := HR.out.ne
    go_wp2
    go_ret
    exact RmE.no HR.out HB.out hR.out
 · have o1 := zid ts en hro e1
   have p1 : s1.ns.length <= 8 * s1.i := by have := o1.1.phi hp; omega
   have i1 := o1.1.1
   have t1 := o1.1.2.1
   have hM : Hid (bhP ts en r (ts.length + 1) a1 s1 = zcn ts en r s) := by show _ = _; unfold zcn; rw [e1]
   go_wp2_with (go_at_call 121; refine (HS0.out.yes (HPR _ _ _ _ HS0.out.rd hp (by omega)) e1).mono ?_; rintro e w1 ⟨rfl, v1, K1, h1⟩; have HS1 : Hid (Sm rb ts tv en w v kv _ _ _ s1) := h1; clear h1 HS0 lt c1 c3 c5 fz wi wd)
   go_loopw [3] (fun u wr => (∃ (k : Nat) (a : Int) (s1 : PS) (v1 : Value) (K : List Value), u = .int .i64 a /\ Hid (Sm rb ts tv en w v kv wr v1 K s1) /\ Hid (s1.ns.length <= 8 * s1.i) /\ Hid (ts.length < s1.i + k) /\ Hid (s.i < s1.i) /\ Hid (bhP ts en r k a s1 = zcn ts en r s)) \/ ((∃ n, u = .int .i64 n) /\ ∃ x : Int × Int, Hid (Fl rb wr x.1 x.2) /\ Hid (Rf rb w v wr) /\ Hid (zcn ts en r s = .error x))) (fun _ wr => msr rb wr)
   case atStart => exact Or.inl ⟨_, _, _, _, _, rfl, HS1, p1, (by show _ < _; omega), i1, hM⟩
   case round =>
    rcases hrel with ⟨ko, a2, s2, v2, K2, rfl, HS2, HP2, HK2, HI2, HM2⟩ | ⟨⟨n2, rfl⟩, x2, HR, HB, HE⟩
    · obtain ⟨ko', rfl⟩ : ∃ k', ko = k' + 1 := ⟨ko - 1, by have := HK2.out; have := HS2.out.rd.il; omega⟩
      have hp2 := HP2.out
      have hk2 := HK2.out
      have hi2 := HI2.out
      have il2 := HS2.out.rd.il
      have hm := HM2.out
      have HS10 := HS2
      have lt := HS10.out.rd.lt
      have c1 := HS10.out.rd.c1
      have c3 := HS10.out.rd.c3
      have fz := HS10.out.rd.fz
      have wi := HS10.out.wri
      cases f1 : isN ts ⟨#[40]⟩ s2
      · cases f2 : isN ts ⟨#[91]⟩ s2
        · cases f3 : isN ts ⟨#[46]⟩ s2
          · rw [zsi f1 f2 f3] at hm
            go_wp2_with (go_at_call 33; refine (HS10.out.is ⟨#[40]⟩ false f1).mono ?_; rintro e w4 ⟨rfl, h4⟩; clear lt c1 c3 fz wi; have HS11 : Hid (Sm rb ts tv en w v kv _ _ _ s2) := h4; clear h4 HS10; have lt := HS11.out.rd.lt; have c1 := HS11.out.rd.c1; have c3 := HS11.out.rd.c3; have fz := HS11.out.rd.fz; have wi := HS11.out.wri)
            go_wp2_with (go_at_call 33; refine (HS11.out.is ⟨#[91]⟩ false f2).mono ?_; rintro e w4 ⟨rfl, h4⟩; clear lt c1 c3 fz wi; have HS12 : Hid (Sm rb ts tv en w v kv _ _ _ s2) := h4; clear h4 HS11; have lt := HS12.out.rd.lt; have c1 := HS12.out.rd.c1; have c3 := HS12.out.rd.c3; have fz := HS12.out.rd.fz; have wi := HS12.out.wri)
            go_wp2_with (go_at_call 33; refine (HS12.out.is ⟨#[46]⟩ false f3).mono ?_; rintro e w4 ⟨rfl, h4⟩; clear lt c1 c3 fz wi; have HS13 : Hid (Sm rb ts tv en w v kv _ _ _ s2) := h4; clear h4 HS12; have lt := HS13.out.rd.lt; have c1 := HS13.out.rd.c1; have c3 := HS13.out.rd.c3; have fz := HS13.out.rd.fz; have wi := HS13.out.wri)
            go_ret
            exact RmE.yes HS13.out hm.symm
          · skip
            obtain ⟨xo, hxo, hlt⟩ := zah f3
            rw [zt2 f1 f2 f3] at hm
            go_wp2_with (go_at_call 33; refine (HS10.out.is ⟨#[40]⟩ false f1).mono ?_; rintro e w4 ⟨rfl, h4⟩; clear lt c1 c3 fz wi; have HS11 : Hid (Sm rb ts tv en w v kv _ _ _ s2) := h4; clear h4 HS10; have lt := HS11.out.rd.lt; have c1 := HS11.out.rd.c1; have c3 := HS11.out.rd.c3; have fz := HS11.out.rd.fz; have wi := HS11.out.wri)
            go_wp2_with (go_at_call 33; refine (HS11.out.is ⟨#[91]⟩ false f2).mono ?_; rintro e w4 ⟨rfl, h4⟩; clear lt c1 c3 fz wi; have HS12 : Hid (Sm rb ts tv en w v kv _ _ _ s2) := h4; clear h4 HS11; have lt := HS12.out.rd.lt; have c1 := HS12.out.rd.c1; have c3 := HS12.out.rd.c3; have fz := HS12.out.rd.fz; have wi := HS12.out.wri)
            go_wp2_with (go_at_call 33; refine (HS12.out.is ⟨#[46]⟩ true f3).mono ?_; rintro e w4 ⟨rfl, h4⟩; clear lt c1 c3 fz wi; have HS13 : Hid (Sm rb ts tv en w v kv _ _ _ s2) := h4; clear h4 HS12; have lt := HS13.out.rd.lt; have c1 := HS13.out.rd.c1; have c3 := HS13.out.rd.c3; have fz := HS13.out.rd.fz; have wi := HS13.out.wri)
            have HS14 : Hid (Sm rb ts tv en w v kv _ _ _ (adv s2)) := HS13.out.adv hlt
            clear HS13 lt c1 c3 fz wi
            have pa : (adv s2).ns.length <= 8 * (adv s2).i := Nat.le_trans hp2 (Nat.mul_le_mul_left 8 (Nat.le_succ _))
            have ia : (adv s2).i = s2.i + 1 := rfl
            rcases zbp ts en (adv s2) with ⟨x5, y5, z5, e5⟩ | ⟨q5, e5⟩
            · have HMn : Hid (bhP ts en r ko' (zb 8 eT 0 [a2, (zb 4 x5.tx 0 [] (adv (adv s2))).1] (zb 4 x5.tx 0 [] (adv (adv s2))).2).1 (zb 8 eT 0 [a2, (zb 4 x5.tx 0 [] (adv (adv s2))).1] (zb 4 x5.tx 0 [] (adv (adv s2))).2).2 = zcn ts en r s) := by show _ = _; rw [<- hm, e5]
              have na : (adv (adv s2)).ns.length <= 8 * s2.i := hp2
              have pn : (zb 8 eT 0 [a2, (zb 4 x5.tx 0 [] (adv (adv s2))).1] (zb 4 x5.tx 0 [] (adv (adv s2))).2).2.ns.length <= 8 * (zb 8 eT 0 [a2, (zb 4 x5.tx 0 [] (adv (adv s2))).1] (zb 4 x5.tx 0 [] (adv (adv s2))).2).2.i := by show (((adv (adv s2)).ns ++ [_]) ++ [_]).length <= 8 * (s2.i + 1 + 1); simp; omega
              have nb : (zb 4 x5.tx 0 [] (adv (adv s2))).2.ns.length <= 100000 := by show ((adv (adv s2)).ns ++ [_]).length <= 100000; simp; omega
              have inn : (zb 8 eT 0 [a2, (zb 4 x5.tx 0 [] (adv (adv s2))).1] (zb 4 x5.tx 0 [] (adv (adv s2))).2).2.i = s2.i + 1 + 1 := rfl
              go_wp2_with (go_at_call 34; refine (HS14.out.name_yes x5 y5 z5).mono ?_; rintro e w4 ⟨rfl, h4⟩; have HS15 : Hid (Sm rb ts tv en w v kv _ _ _ (adv (adv s2))) := h4; clear h4 HS14; have lt := HS15.out.rd.lt; have c1 := HS15.out.rd.c1; have c3 := HS15.out.rd.c3; have fz := HS15.out.rd.fz; have wi := HS15.out.wri)
              go_wp2_with (go_at_call 17; refine (HS15.out.node0 4 x5.tx 0 (by omega)).mono ?_; rintro e w4 ⟨rfl, v4, K4, h4⟩; clear lt c1 c3 fz wi; have HS16 : Hid (Sm rb ts tv en w v kv _ _ _ (zb 4 x5.tx 0 [] (adv (adv s2))).2) := h4; clear h4 HS15; have c3 := HS16.out.rd.c3; have lt := HS16.out.rd.lt)
              go_wp2_with (go_at_call 17; refine (HS16.out.nodeN [a2, (zb 4 x5.tx 0 [] (adv (adv s2))).1] 8 eT 0 (by simp) nb _ _ _ (by simp) rfl rfl).mono ?_; rintro e w4 ⟨rfl, v4, K4, h4⟩; clear c3 lt; have HS17 : Hid (Sm rb ts tv en w v kv _ _ _ (zb 8 eT 0 [a2, (zb 4 x5.tx 0 [] (adv (adv s2))).1] (zb 4 x5.tx 0 [] (adv (adv s2))).2).2) := h4; clear h4 HS16; have c3 := HS17.out.rd.c3; have lt := HS17.out.rd.lt)
              have HS := HS17
              obtain ⟨sn, hsn⟩ : ∃ q, q = (zb 8 eT 0 [a2, (zb 4 x5.tx 0 [] (adv (adv s2))).1] (zb 4 x5.tx 0 [] (adv (adv s2))).2).2 := ⟨_, rfl⟩
              rw [<- hsn] at HS HMn pn inn
              have ms1 := HS2.out.rd.msr
              have ms2 := HS.out.rd.msr
              have iln := HS.out.rd.il
              first | refine ⟨Or.inl ⟨ko', _, _, _, _, rfl, HS, pn, (by show _ < _; omega), (by show _ < _; omega), HMn⟩, ?_⟩ | refine ⟨⟨_, _, _, _, _, _, _, _, _, _, _, _, _, _, _, _, _, _, _, _, _, _, _, _, _, _, _, _, _, _, _, _, _, _, _, _, _, _, _, _, _, _, _, _, _, _, _, _, _, _, _, _, _, _, _, _, _, _, _, _, _, _, _, _, _, _, _, _, _, _, _, _, _, _, _, _, _, _, _, _, _, _, _, _, _, _, _, _, _, _, _, _, _, Or.inl ⟨ko', _, _, _, _, rfl, HS, pn, (by show _ < _; omega), (by show _ < _; omega), HMn⟩, rfl⟩, ?_⟩
              show msr rb _ < msr rb _
              rw [ms1, ms2]
              omega
            · have HE : Hid (zcn ts en r s = .error (fh ts en 2 (adv s2))) := by show _ = _; rw [<- hm, e5]
              go_wp2_with (first | (go_at_call 34; refine (HS14.out.name_no q5).mono ?_; rintro e w4 ⟨rfl, F4, b4⟩; have HR : Hid (Fl rb w4 _ _) := F4; have HB : Hid (Rf rb w v w4) := b4; have c3 := HR.out.c3; have lt := HR.out.lt; have ne := HR.out.ne; clear F4 b4) | (go_at_call 17; refine (zc rb _ _ _ (HR.out.below ((Below.refl _ _).alloc (Nat.le_refl _) _)) _ _ _ _ _ _).mono ?_; rintro e wf ⟨rfl, bf⟩; have HB : Hid (Rf rb w v wf) := (HB.out.next ((Below.refl _ _).alloc (Nat.le_refl _) _)).next bf; have HR : Hid (Fl rb wf _ _) := (HR.out.below ((Below.refl _ _).alloc (Nat.le_refl _) _)).below bf; have c3 := HR.out.c3; have lt := HR.out.lt; clear bf) | (go_at_call 17; refine (zc rb _ _ _ HR.out _ _ _ _ _ _).mono ?_; rintro e wf ⟨rfl, bf⟩; have HB : Hid (Rf rb w v wf) := HB.out.next bf; have HR : Hid (Fl rb wf _ _) := HR.out.below bf; have c3 := HR.out.c3; have lt := HR.out.lt; clear bf))
              have ms1 := HS2.out.rd.msr
              have ms2 := HR.out.msr
              first | refine ⟨Or.inr ⟨⟨_, rfl⟩, _, HR, HB, HE⟩, ?_⟩ | refine ⟨⟨_, _, _, _, _, _, _, _, _, _, _, _, _, _, _, _, _, _, _, _, _, _, _, _, _, _, _, _, _, _, _, _, _, _, _, _, _, _, _, _, _, _, _, _, _, _, _, _, _, _, _, _, _, _, _, _, _, _, _, _, _, _, _, _, _, _, _, _, _, _, _, _, _, _, _, _, _, _, _, _, _, _, _, _, _, _, _, _, _, _, _, _, _, Or.inr ⟨⟨_, rfl⟩, _, HR, HB, HE⟩, rfl⟩, ?_⟩
              show msr rb _ < msr rb _
              rw [ms1, ms2]
              omega
        · skip
          obtain ⟨xo, hxo, hlt⟩ := zah f2
          rw [zt1 f1 f2] at hm
          go_wp2_with (go_at_call 33; refine (HS10.out.is ⟨#[40]⟩ false f1).mono ?_; rintro e w4 ⟨rfl, h4⟩; clear lt c1 c3 fz wi; have HS11 : Hid (Sm rb ts tv en w v kv _ _ _ s2) := h4; clear h4 HS10; have lt := HS11.out.rd.lt; have c1 := HS11.out.rd.c1; have c3 := HS11.out.rd.c3; have fz := HS11.out.rd.fz; have wi := HS11.out.wri)
          go_wp2_with (go_at_call 33; refine (HS11.out.is ⟨#[91]⟩ true f2).mono ?_; rintro e w4 ⟨rfl, h4⟩; clear lt c1 c3 fz wi; have HS12 : Hid (Sm rb ts tv en w v kv _ _ _ s2) := h4; clear h4 HS11; have lt := HS12.out.rd.lt; have c1 := HS12.out.rd.c1; have c3 := HS12.out.rd.c3; have fz := HS12.out.rd.fz; have wi := HS12.out.wri)
          have HS13 : Hid (Sm rb ts tv en w v kv _ _ _ (adv s2)) := HS12.out.adv hlt
          clear HS12 lt c1 c3 fz wi
          have pa : (adv s2).ns.length <= 8 * (adv s2).i := Nat.le_trans hp2 (Nat.mul_le_mul_left 8 (Nat.le_succ _))
          have ia : (adv s2).i = s2.i + 1 := rfl
          rcases e5 : r.wh (adv s2) with ⟨x5⟩ | ⟨b5, s5⟩
          · have HE : Hid (zcn ts en r s = .error x5) := by show _ = _; rw [<- hm, e5]
            go_wp2_with (first | (go_at_call 36; refine (HS13.out.no (hr.wh _ _ _ _ HS13.out.rd pa (by omega)) e5).mono ?_; rintro e w4 ⟨⟨n4, rfl⟩, F4, b4⟩; have HR : Hid (Fl rb w4 _ _) := F4; have HB : Hid (Rf rb w v w4) := b4; have c3 := HR.out.c3; have lt := HR.out.lt; have ne := HR.out.ne; clear F4 b4) | (go_at_call 35; refine (zm rb _ _ _ HR.out _).mono ?_; rintro e wf ⟨rfl, -, bf⟩; have HB : Hid (Rf rb w v wf) := HB.out.next bf; have HR : Hid (Fl rb wf _ _) := HR.out.below bf; have c3 := HR.out.c3; have lt := HR.out.lt; clear bf) | (go_at_call 17; refine (zc rb _ _ _ (HR.out.below ((Below.refl _ _).alloc (Nat.le_refl _) _)) _ _ _ _ _ _).mono ?_; rintro e wf ⟨rfl, bf⟩; have HB : Hid (Rf rb w v wf) := (HB.out.next ((Below.refl _ _).alloc (Nat.le_refl _) _)).next bf; have HR : Hid (Fl rb wf _ _) := (HR.out.below ((Below.refl _ _).alloc (Nat.le_refl _) _)).below bf; have c3 := HR.out.c3; have lt := HR.out.lt; clear bf))
            have ms1 := HS2.out.rd.msr
            have ms2 := HR.out.msr
            first | refine ⟨Or.inr ⟨⟨_, rfl⟩, _, HR, HB, HE⟩, ?_⟩ | refine ⟨⟨_, _, _, _, _, _, _, _, _, _, _, _, _, _, _, _, _, _, _, _, _, _, _, _, _, _, _, _, _, _, _, _, _, _, _, _, _, _, _, _, _, _, _, _, _, _, _, _, _, _, _, _, _, _, _, _, _, _, _, _, _, _, _, _, _, _, _, _, _, _, _, _, _, _, _, _, _, _, _, _, _, _, _, _, _, _, _, _, _, _, _, _, _, Or.inr ⟨⟨_, rfl⟩, _, HR, HB, HE⟩, rfl⟩, ?_⟩
            show msr rb _ < msr rb _
            rw [ms1, ms2]
            omega
          · have o5 := hro.wh e5
            have p5 : s5.ns.length <= 8 * s5.i := by have := o5.1.phi pa; omega
            have i5 := o5.1.1
            have t5 := o5.1.2.1
            go_wp2_with (go_at_call 36; refine (HS13.out.yes (hr.wh _ _ _ _ HS13.out.rd pa (by omega)) e5).mono ?_; rintro e w4 ⟨rfl, v4, K4, h4⟩; have HS14 : Hid (Sm rb ts tv en w v kv _ _ _ s5) := h4; clear h4 HS13; have lt := HS14.out.rd.lt; have c1 := HS14.out.rd.c1; have c3 := HS14.out.rd.c3; have fz := HS14.out.rd.fz; have wi := HS14.out.wri)
            rcases zac ts en ⟨#[93]⟩ s5 with ⟨q6, e6⟩ | ⟨q6, e6⟩
            · have pw : (adv s5).ns.length <= 8 * (adv s5).i := Nat.le_trans p5 (Nat.mul_le_mul_left 8 (Nat.le_succ _))
              have iw : (adv s5).i = s5.i + 1 := rfl
              have nw : (adv s5).ns.length <= 8 * s5.i := p5
              have HMn : Hid (bhP ts en r ko' (zb 8 eT 0 [a2, b5] (adv s5)).1 (zb 8 eT 0 [a2, b5] (adv s5)).2 = zcn ts en r s) := by show _ = _; rw [<- hm, e5]; simp only [e6]
              have pn : (zb 8 eT 0 [a2, b5] (adv s5)).2.ns.length <= 8 * (zb 8 eT 0 [a2, b5] (adv s5)).2.i := by show ((adv s5).ns ++ [_]).length <= 8 * (adv s5).i; simp; omega
              have inn : (zb 8 eT 0 [a2, b5] (adv s5)).2.i = s5.i + 1 := rfl
              go_wp2_with (go_at_call 35; refine (HS14.out.want_yes _ q6).mono ?_; rintro e w4 ⟨rfl, h4⟩; clear lt c1 c3 fz wi; have HS15 : Hid (Sm rb ts tv en w v kv _ _ _ (adv s5)) := h4; clear h4 HS14; have lt := HS15.out.rd.lt; have c1 := HS15.out.rd.c1; have c3 := HS15.out.rd.c3; have fz := HS15.out.rd.fz; have wi := HS15.out.wri)
              go_wp2_with (go_at_call 17; refine (HS15.out.nodeN [a2, b5] 8 eT 0 (by simp) (by omega) _ _ _ (by simp) rfl rfl).mono ?_; rintro e w4 ⟨rfl, v4, K4, h4⟩; clear lt c1 c3 fz wi; have HS16 : Hid (Sm rb ts tv en w v kv _ _ _ (zb 8 eT 0 [a2, b5] (adv s5)).2) := h4; clear h4 HS15; have c3 := HS16.out.rd.c3; have lt := HS16.out.rd.lt)
              have HS := HS16
              obtain ⟨sn, hsn⟩ : ∃ q, q = (zb 8 eT 0 [a2, b5] (adv s5)).2 := ⟨_, rfl⟩
              rw [<- hsn] at HS HMn pn inn
              have ms1 := HS2.out.rd.msr
              have ms2 := HS.out.rd.msr
              have iln := HS.out.rd.il
              first | refine ⟨Or.inl ⟨ko', _, _, _, _, rfl, HS, pn, (by show _ < _; omega), (by show _ < _; omega), HMn⟩, ?_⟩ | refine ⟨⟨_, _, _, _, _, _, _, _, _, _, _, _, _, _, _, _, _, _, _, _, _, _, _, _, _, _, _, _, _, _, _, _, _, _, _, _, _, _, _, _, _, _, _, _, _, _, _, _, _, _, _, _, _, _, _, _, _, _, _, _, _, _, _, _, _, _, _, _, _, _, _, _, _, _, _, _, _, _, _, _, _, _, _, _, _, _, _, _, _, _, _, _, _, Or.inl ⟨ko', _, _, _, _, rfl, HS, pn, (by show _ < _; omega), (by show _ < _; omega), HMn⟩, rfl⟩, ?_⟩
              show msr rb _ < msr rb _
              rw [ms1, ms2]
              omega
            · have HE : Hid (zcn ts en r s = .error (fh ts en 2 s5)) := by show _ = _; rw [<- hm, e5]; simp only [e6]
              go_wp2_with (first | (go_at_call 35; refine (HS14.out.want_no _ q6).mono ?_; rintro e w4 ⟨rfl, F4, b4⟩; clear lt c1 c3 fz wi; have HR : Hid (Fl rb w4 _ _) := F4; have HB : Hid (Rf rb w v w4) := b4; have c3 := HR.out.c3; have lt := HR.out.lt; have ne := HR.out.ne; clear F4 b4) | (go_at_call 17; refine (zc rb _ _ _ (HR.out.below ((Below.refl _ _).alloc (Nat.le_refl _) _)) _ _ _ _ _ _).mono ?_; rintro e wf ⟨rfl, bf⟩; have HB : Hid (Rf rb w v wf) := (HB.out.next ((Below.refl _ _).alloc (Nat.le_refl _) _)).next bf; have HR : Hid (Fl rb wf _ _) := (HR.out.below ((Below.refl _ _).alloc (Nat.le_refl _) _)).below bf; have c3 := HR.out.c3; have lt := HR.out.lt; clear bf))
              have ms1 := HS2.out.rd.msr
              have ms2 := HR.out.msr
              first | refine ⟨Or.inr ⟨⟨_, rfl⟩, _, HR, HB, HE⟩, ?_⟩ | refine ⟨⟨_, _, _, _, _, _, _, _, _, _, _, _, _, _, _, _, _, _, _, _, _, _, _, _, _, _, _, _, _, _, _, _, _, _, _, _, _, _, _, _, _, _, _, _, _, _, _, _, _, _, _, _, _, _, _, _, _, _, _, _, _, _, _, _, _, _, _, _, _, _, _, _, _, _, _, _, _, _, _, _, _, _, _, _, _, _, _, _, _, _, _, _, _, Or.inr ⟨⟨_, rfl⟩, _, HR, HB, HE⟩, rfl⟩, ?_⟩
              show msr rb _ < msr rb _
              rw [ms1, ms2]
              omega
      · skip
        obtain ⟨xo, hxo, hlt⟩ := zah f1
        rw [zsj f1] at hm
        go_wp2_with (go_at_call 33; refine (HS10.out.is ⟨#[40]⟩ true f1).mono ?_; rintro e w4 ⟨rfl, h4⟩; clear lt c1 c3 fz wi; have HS11 : Hid (Sm rb ts tv en w v kv _ _ _ s2) := h4; clear h4 HS10; have lt := HS11.out.rd.lt; have c1 := HS11.out.rd.c1; have c3 := HS11.out.rd.c3; have fz := HS11.out.rd.fz; have wi := HS11.out.wri)
        go_wp2
        have HS12 : Hid (Sm rb ts tv en w v kv _ _ _ (adv s2)) := HS11.out.adv hlt
        clear HS11 lt c1 c3 fz wi
        have pa : (adv s2).ns.length <= 8 * (adv s2).i := Nat.le_trans hp2 (Nat.mul_le_mul_left 8 (Nat.le_succ _))
        have ia : (adv s2).i = s2.i + 1 := rfl
        obtain ⟨RR, hRR⟩ : ∃ R, R = lsP ts en (r.wh) ⟨#[41]⟩ (ts.length + 1) (adv s2) := ⟨_, rfl⟩
        have HRR : Hid (lsG ts en (r.wh) ⟨#[41]⟩ (ts.length + 1) [] (adv s2) = RR) := by show _ = _; rw [hRR, zm5]
        have HB0 : Hid (zcn ts en r s = caF ts en r ko' a2 RR) := by show _ = _; rw [hRR, <- hm]
        clear hRR
        go_loopw [4] (fun u wr => (∃ (k : Nat) (ks : List Int) (s1 : PS) (v1 : Value) (K : List Value), Hid (SK rb ts tv en w v kv wr v1 K s1 u (a2 :: ks)) /\ Hid (s1.ns.length <= 8 * s1.i) /\ Hid (ts.length < s1.i + k) /\ Hid (((adv s2)).i <= s1.i /\ ks.length <= s1.i) /\ Hid (lsG ts en (r.wh) ⟨#[41]⟩ k ks s1 = RR)) \/ (∃ (ks : List Int) (x : Int × Int), Hid (FK rb w v wr u ks x) /\ Hid (ks.length <= 5000) /\ Hid (RR = .error x))) (fun _ wr => msr rb wr)
        case atStart => exact Or.inl ⟨_, [], _, _, _, (SK.laid' HS12.out [a2] (by simp) _ _ (by simp) rfl), pa, (by show _ < _; omega), ⟨Nat.le_refl _, by simp⟩, HRR⟩
        case round =>
         rcases hrel with ⟨k, ks, s3, v3, K3, HK3, HP, HF3, HI, HM⟩ | ⟨ks, x2, HX, HN, HE⟩
         · obtain ⟨ua, L, uc, hu, hL⟩ := HK3.out.formL
           subst hu
           obtain ⟨hi1, hi2⟩ := HI.out
           have hil := HK3.out.sm.rd.il
           have hpp := HP.out
           have hff := HF3.out
           have HN : Hid (ks.length <= 4000) := by show _ <= _; have := HK3.out.sm.rd.tl; omega
           obtain ⟨k', rfl⟩ : ∃ k', k = k' + 1 := ⟨k - 1, by omega⟩
           have HK := HK3
           have lt := HK3.out.sm.rd.lt
           have c1 := HK3.out.sm.rd.c1
           have c3 := HK3.out.sm.rd.c3
           have fz := HK3.out.sm.rd.fz
           cases e4 : isN ts ⟨#[41]⟩ s3
           · by_cases hk0 : ks = []
             · subst hk0
               obtain rfl : L = 1 := by rw [hL]; rfl
               clear hL
               have HM1 : Hid ((match r.wh s3 with | .error x => .error x | .ok (v, s1) => lsG ts en (r.wh) ⟨#[41]⟩ k' ([] ++ [v]) s1) = RR) := by show _ = _; have := HM.out; unfold lsG at this; rw [e4] at this; simp only [Bool.false_eq_true, if_false, if_true] at this; rw [zge] at this; exact this
               rcases e6 : r.wh s3 with ⟨x6⟩ | ⟨a6, s6⟩
               · have HE : Hid (RR = .error x6) := by show RR = _; have := HM1.out; rw [e6] at this; exact this.symm
                 go_wp2_with (first | (go_at_call 33; refine (HK.out.is _ false e4).mono ?_; rintro e w4 ⟨rfl, K4, h4⟩; have HK : Hid (SK rb ts tv en w v kv w4 _ _ _ _ _) := h4; clear h4) | (go_at_call 36; refine (HK.out.no (hr.wh _ _ _ _ HK.out.sm.rd hpp (by omega)) e6).mono ?_; rintro e w6 ⟨⟨n6, rfl⟩, h6⟩; have HX : Hid (FK rb w v w6 _ _ _) := h6; clear h6) | (at_builtin; refine zb7 rfl _ _ rfl HX.out n6 _ rfl rfl rfl (by first | omega | (simp; done) | (simp; omega) | (have := HN.out; simp at this ⊢; omega)) ?_; intro ua' uc' w7 h7; have HX : Hid (FK rb w v w7 _ _ _) := h7; have c3 := HX.out.fl.c3; have lt := HX.out.fl.lt; clear h7))
                 have ms1 := HK3.out.sm.rd.msr
                 have tl3 := HK3.out.sm.rd.tl
                 have ms2 := HX.out.fl.msr
                 have hN := HN.out
                 skip
                 refine ⟨Or.inr ⟨_, _, HX, (by show _ <= _; first | (simp; done) | (simp; omega)), HE⟩, ?_⟩
                 show msr rb _ < msr rb _
                 rw [ms1, ms2]
                 omega
               · have o6 := OkR.field ts (hro.wh e6)
                 have p6 : s6.ns.length <= 8 * s6.i := by have := o6.1.phi hpp; omega
                 have i6 := o6.1.1
                 have t6 := o6.1.2.1
                 have d6 := o6.1.2.2.1
                 have HM6 : Hid (lsG ts en (r.wh) ⟨#[41]⟩ k' ([] ++ [a6]) s6 = RR) := by show _ = _; have := HM1.out; rw [e6] at this; exact this
                 go_wp2_with (first | (go_at_call 33; refine (HK.out.is _ false e4).mono ?_; rintro e w4 ⟨rfl, K4, h4⟩; have HK : Hid (SK rb ts tv en w v kv w4 _ _ _ _ _) := h4; clear h4) | (go_at_call 36; refine (HK.out.yes (hr.wh _ _ _ _ HK.out.sm.rd hpp (by omega)) e6).mono ?_; rintro e w6 ⟨rfl, v6, K6, h6⟩; have HK : Hid (SK rb ts tv en w v kv w6 _ _ _ _ _) := h6; clear h6) | (at_builtin; refine zdh rfl _ _ rfl HK.out a6 _ rfl rfl rfl (by first | omega | (simp; done) | (simp; omega) | (have := HN.out; simp at this ⊢; omega)) ?_; intro ua' uc' w7 h7; have HK : Hid (SK rb ts tv en w v kv w7 _ _ _ _ _) := h7; clear h7))
                 have ms1 := HK3.out.sm.rd.msr
                 have tl3 := HK3.out.sm.rd.tl
                 have ms2 := HK.out.sm.rd.msr
                 have hN := HN.out
                 refine ⟨Or.inl ⟨k', [] ++ [a6], s6, _, _, HK, p6, (by show _ < _; omega), ⟨by omega, by first | (simp; done) | (simp; omega)⟩, HM6⟩, ?_⟩
                 show msr rb _ < msr rb _
                 rw [ms1, ms2]
                 omega
             · have hq : (1 : Int) < (L : Int) := by have := List.length_pos_iff.2 hk0; have h2 : L = ks.length + 1 := (by rw [hL]; rfl); omega
               have HLL : Hid _ := hL
               clear hL
               rcases zac ts en ⟨#[44]⟩ s3 with ⟨q5, e5⟩ | ⟨q5, e5⟩
               · have HM1 : Hid ((match r.wh (adv s3) with | .error x => .error x | .ok (v, s1) => lsG ts en (r.wh) ⟨#[41]⟩ k' (ks ++ [v]) s1) = RR) := by show _ = _; have := HM.out; unfold lsG at this; rw [e4] at this; simp only [Bool.false_eq_true, if_false, hk0, e5] at this; rw [zge] at this; exact this
                 have p4 : (adv s3).ns.length <= 8 * (adv s3).i := Nat.le_trans hpp (Nat.mul_le_mul_left 8 (Nat.le_succ _))
                 have i4 : (adv s3).i = s3.i + 1 := rfl
                 have hn4 : (adv s3).ns.length <= 8 * s3.i := hpp
                 rcases e6 : r.wh (adv s3) with ⟨x6⟩ | ⟨a6, s6⟩
                 · have HE : Hid (RR = .error x6) := by show RR = _; have := HM1.out; rw [e6] at this; exact this.symm
                   go_wp2_with (first | (go_at_call 33; refine (HK.out.is _ false e4).mono ?_; rintro e w4 ⟨rfl, K4, h4⟩; have HK : Hid (SK rb ts tv en w v kv w4 _ _ _ _ _) := h4; clear h4) | (go_at_call 35; refine (HK.out.want_yes _ q5).mono ?_; rintro e w5 ⟨rfl, K5, h5⟩; have HK : Hid (SK rb ts tv en w v kv w5 _ _ _ _ _) := h5; clear h5) | (go_at_call 36; refine (HK.out.no (hr.wh _ _ _ _ HK.out.sm.rd p4 (by omega)) e6).mono ?_; rintro e w6 ⟨⟨n6, rfl⟩, h6⟩; have HX : Hid (FK rb w v w6 _ _ _) := h6; clear h6) | (at_builtin; refine zb7 rfl _ _ rfl HX.out n6 _ rfl rfl rfl (by first | omega | (simp; done) | (simp; omega) | (have := HN.out; simp at this ⊢; omega)) ?_; intro ua' uc' w7 h7; have HX : Hid (FK rb w v w7 _ _ _) := h7; have c3 := HX.out.fl.c3; have lt := HX.out.fl.lt; clear h7))
                   have ms1 := HK3.out.sm.rd.msr
                   have tl3 := HK3.out.sm.rd.tl
                   have ms2 := HX.out.fl.msr
                   have hN := HN.out
                   skip
                   refine ⟨Or.inr ⟨_, _, HX, (by show _ <= _; first | (simp; done) | (simp; omega)), HE⟩, ?_⟩
                   show msr rb _ < msr rb _
                   rw [ms1, ms2]
                   omega
                 · have o6 := OkR.field ts (hro.wh e6)
                   have p6 : s6.ns.length <= 8 * s6.i := by have := o6.1.phi p4; omega
                   have i6 := o6.1.1
                   have t6 := o6.1.2.1
                   have d6 := o6.1.2.2.1
                   have HM6 : Hid (lsG ts en (r.wh) ⟨#[41]⟩ k' (ks ++ [a6]) s6 = RR) := by show _ = _; have := HM1.out; rw [e6] at this; exact this
                   go_wp2_with (first | (go_at_call 33; refine (HK.out.is _ false e4).mono ?_; rintro e w4 ⟨rfl, K4, h4⟩; have HK : Hid (SK rb ts tv en w v kv w4 _ _ _ _ _) := h4; clear h4) | (go_at_call 35; refine (HK.out.want_yes _ q5).mono ?_; rintro e w5 ⟨rfl, K5, h5⟩; have HK : Hid (SK rb ts tv en w v kv w5 _ _ _ _ _) := h5; clear h5) | (go_at_call 36; refine (HK.out.yes (hr.wh _ _ _ _ HK.out.sm.rd p4 (by omega)) e6).mono ?_; rintro e w6 ⟨rfl, v6, K6, h6⟩; have HK : Hid (SK rb ts tv en w v kv w6 _ _ _ _ _) := h6; clear h6) | (at_builtin; refine zdh rfl _ _ rfl HK.out a6 _ rfl rfl rfl (by first | omega | (simp; done) | (simp; omega) | (have := HN.out; simp at this ⊢; omega)) ?_; intro ua' uc' w7 h7; have HK : Hid (SK rb ts tv en w v kv w7 _ _ _ _ _) := h7; clear h7))
                   have ms1 := HK3.out.sm.rd.msr
                   have tl3 := HK3.out.sm.rd.tl
                   have ms2 := HK.out.sm.rd.msr
                   have hN := HN.out
                   refine ⟨Or.inl ⟨k', ks ++ [a6], s6, _, _, HK, p6, (by show _ < _; omega), ⟨by omega, by first | (simp; done) | (simp; omega)⟩, HM6⟩, ?_⟩
                   show msr rb _ < msr rb _
                   rw [ms1, ms2]
                   omega
               · have HE : Hid (RR = .error (fh ts en 2 s3)) := by show RR = _; have := HM.out; unfold lsG at this; rw [e4] at this; simp only [Bool.false_eq_true, if_false, hk0, e5] at this; exact this.symm
                 go_wp2_with (first | (go_at_call 33; refine (HK.out.is _ false e4).mono ?_; rintro e w4 ⟨rfl, K4, h4⟩; have HK : Hid (SK rb ts tv en w v kv w4 _ _ _ _ _) := h4; clear h4) | (go_at_call 35; refine (HK.out.want_no _ q5).mono ?_; rintro e w5 ⟨rfl, h5⟩; have HX : Hid (FK rb w v w5 _ _ _) := h5; have c3 := HX.out.fl.c3; have lt := HX.out.fl.lt; have ne := HX.out.fl.ne; clear h5) | (go_at_call 36; refine (zt rb _ _ _ HX.out.fl).mono ?_; rintro e w6 ⟨⟨n6, rfl⟩, -, b6⟩; have HX : Hid (FK rb w v w6 _ _ _) := HX.out.below b6; have c3 := HX.out.fl.c3; have lt := HX.out.fl.lt; clear b6) | (at_builtin; refine zb7 rfl _ _ rfl HX.out n6 _ rfl rfl rfl (by first | omega | (simp; done) | (simp; omega) | (have := HN.out; simp at this ⊢; omega)) ?_; intro ua' uc' w7 h7; have HX : Hid (FK rb w v w7 _ _ _) := h7; have c3 := HX.out.fl.c3; have lt := HX.out.fl.lt; clear h7))
                 have ms1 := HK3.out.sm.rd.msr
                 have tl3 := HK3.out.sm.rd.tl
                 have ms2 := HX.out.fl.msr
                 have hN := HN.out
                 skip
                 refine ⟨Or.inr ⟨_, _, HX, (by show _ <= _; first | (simp; done) | (simp; omega)), HE⟩, ?_⟩
                 show msr rb _ < msr rb _
                 rw [ms1, ms2]
                 omega
           · have HE : Hid (RR = .ok (ks, adv s3)) := by show RR = _; have := HM.out; unfold lsG at this; rw [e4] at this; simpa using this.symm
             obtain ⟨xo, hxo, hlt⟩ := zah e4
             have HLL : Hid _ := hL
             clear hL
             have p4 : (adv s3).ns.length <= 8 * (adv s3).i := Nat.le_trans hpp (Nat.mul_le_mul_left 8 (Nat.le_succ _))
             have i4 : (adv s3).i = s3.i + 1 := rfl
             have hT3 := HK3.out.sm.rd.tl
             have hn4 : (adv s3).ns.length <= 100000 := by show s3.ns.length <= 100000; omega
             go_wp2_with (first | (go_at_call 33; refine (HK.out.is _ true e4).mono ?_; rintro e w4 ⟨rfl, K4, h4⟩; have HK : Hid (SK rb ts tv en w v kv w4 _ _ _ _ _) := h4; clear h4) | (go_at_call 35; refine (HK.out.want_yes _ e4).mono ?_; rintro e w5 ⟨rfl, K5, h5⟩; have HK : Hid (SK rb ts tv en w v kv w5 _ _ _ _ _) := h5; clear h5) | (go_at_call 17; refine (HK.out.node 9 eT 0 hn4).mono ?_; rintro e w7 ⟨rfl, v7, K7, h7⟩; have HS : Hid (Sm rb ts tv en w v kv _ _ _ (zb 9 eT 0 (a2 :: ks) (adv s3)).2) := h7; clear h7))
             have HMn : Hid (bhP ts en r ko' (zb 9 eT 0 (a2 :: ks) (adv s3)).1 (zb 9 eT 0 (a2 :: ks) (adv s3)).2 = zcn ts en r s) := by show _ = _; rw [HB0.out, HE.out]; rfl
             have pn : (zb 9 eT 0 (a2 :: ks) (adv s3)).2.ns.length <= 8 * (zb 9 eT 0 (a2 :: ks) (adv s3)).2.i := by show ((adv s3).ns ++ [_]).length <= 8 * (adv s3).i; have hz : (adv s3).ns.length <= 8 * s3.i := hpp; simp; omega
             have inn : (zb 9 eT 0 (a2 :: ks) (adv s3)).2.i = s3.i + 1 := rfl
             have HS := HS
             obtain ⟨sn, hsn⟩ : ∃ q, q = (zb 9 eT 0 (a2 :: ks) (adv s3)).2 := ⟨_, rfl⟩
             rw [<- hsn] at HS HMn pn inn
             have ms1 := HS2.out.rd.msr
             have ms2 := HS.out.rd.msr
             have iln := HS.out.rd.il
             first | refine ⟨Or.inl ⟨ko', _, _, _, _, rfl, HS, pn, (by show _ < _; omega), (by show _ < _; omega), HMn⟩, ?_⟩ | refine ⟨⟨_, _, _, _, _, _, _, _, _, _, _, _, _, _, _, _, _, _, _, _, _, _, _, _, _, _, _, _, _, _, _, _, _, _, _, _, _, _, _, _, _, _, _, _, _, _, _, _, _, _, _, _, _, _, _, _, _, _, _, _, _, _, _, _, _, _, _, _, _, _, _, _, _, _, _, _, _, _, _, _, _, _, _, _, _, _, _, _, _, _, _, _, _, Or.inl ⟨ko', _, _, _, _, rfl, HS, pn, (by show _ < _; omega), (by show _ < _; omega), HMn⟩, rfl⟩, ?_⟩
             show msr rb _ < msr rb _
             rw [ms1, ms2]
             omega
         · obtain ⟨ua, L, uc, hu, hL⟩ := HX.out.form
           subst hu
           have HLL : Hid _ := hL
           clear hL
           have c3 := HX.out.fl.c3
           have lt := HX.out.fl.lt
           have ne := HX.out.fl.ne
           go_wp2_with (first | (go_at_call 35; refine (zm rb _ _ _ HX.out.fl _).mono ?_; rintro e w6 ⟨rfl, -, b6⟩; have HX : Hid (FK rb w v w6 _ _ _) := HX.out.below b6; have c3 := HX.out.fl.c3; have lt := HX.out.fl.lt; clear b6) | (go_at_call 17; refine (zc rb _ _ _ HX.out.fl _ _ _ _ _ _).mono ?_; rintro e w6 ⟨rfl, b6⟩; have HX : Hid (FK rb w v w6 _ _ _) := HX.out.below b6; have c3 := HX.out.fl.c3; have lt := HX.out.fl.lt; clear b6))
           have HR : Hid (Fl rb _ _ _) := HX.out.fl
           have HB : Hid (Rf rb w v _) := HX.out.rf
           have HE : Hid (zcn ts en r s = .error x2) := by show _ = _; rw [HB0.out, HE.out]; rfl
           have ms1 := HS2.out.rd.msr
           have ms2 := HR.out.msr
           first | refine ⟨Or.inr ⟨⟨_, rfl⟩, _, HR, HB, HE⟩, ?_⟩ | refine ⟨⟨_, _, _, _, _, _, _, _, _, _, _, _, _, _, _, _, _, _, _, _, _, _, _, _, _, _, _, _, _, _, _, _, _, _, _, _, _, _, _, _, _, _, _, _, _, _, _, _, _, _, _, _, _, _, _, _, _, _, _, _, _, _, _, _, _, _, _, _, _, _, _, _, _, _, _, _, _, _, _, _, _, _, _, _, _, _, _, _, _, _, _, _, _, Or.inr ⟨⟨_, rfl⟩, _, HR, HB, HE⟩, rfl⟩, ?_⟩
           show msr rb _ < msr rb _
           rw [ms1, ms2]
           omega
    · skip
      have c3 := HR.out.c3
      have lt := HR.out.lt
      have ne := HR.out.ne
      go_wp2
      go_ret
      exact RmE.no HR.out HB.out HE.out
end Go.Proofs.YtiglkhkfbgjjoaaGreatDoor
