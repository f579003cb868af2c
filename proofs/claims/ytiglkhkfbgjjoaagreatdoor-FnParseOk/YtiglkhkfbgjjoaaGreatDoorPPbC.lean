/- - -/
import Derived.Test.YtiglkhkfbgjjoaaGreatDoorPPbA
namespace Go.Proofs.YtiglkhkfbgjjoaaGreatDoor
set_option maxRecDepth 20000
open Go.RowKit Go.PlainAid Go.Maps
set_option linter.unusedSimpArgs false
set_option linter.unusedVariables false
theorem zo3 : ∀ az w, (callFunc 74 az).run Tryz.prog w = .ok (.enter 74 az) w := enters_of Tryz.func74 (by kernel_rfl) rfl
theorem Kd.parts {rb : Nat} {w0 w1 : World} {v1 : Value} {kv1 : List Value} {u : Value} {ks : List Int} (h : Kd rb w0 w1 v1 kv1 u ks) : (u = .slice none 0 0 /\ ks = []) \/ ∃ g c, u = .slice (some ⟨g, 0, none⟩) ks.length c /\ ∀ j y, (icl ks)[j]? = some y -> w1.cell? ((⟨g, 0, none⟩ : Addr).add j) = some y := by
 obtain ⟨h1, h2⟩ := h.own.row
 have hown := h.own.row
 rcases h2 with ⟨h2, h3⟩ | ⟨g, cap, cur, hv, _⟩
 · exact .inl ⟨h2, List.eq_nil_of_length_eq_zero h3⟩
 · refine .inr ⟨g, cap, hv, fun j y hy => ?_⟩
   subst hv
   have hj : j < ks.length := by have := (List.getElem?_eq_some_iff.1 hy).1; rw [zeh] at this; exact this
   have hc := World.ownsRow.cellAt hown j (by omega)
   rw [<- hy, <- hc]
   cases j <;> simp [Addr.add]
theorem zmm {ts : List za} {en : Nat} {rd : PS -> Except (Int × Int) (Int × PS)} (hr : ∀ {s v s'}, rd s = .ok (v, s') -> OkF ts s v s') (e : ByteArray) : ∀ (n : Nat) {ks ks' : List Int} {s s' : PS}, lsL ts en rd e n ks s = .ok (ks', s') -> ks'.length + s.i <= ks.length + s'.i
 | 0, ks, ks', s, s', h => by cases h
 | n + 1, ks, ks', s, s', h => by
   unfold lsL at h
   split at h
   · cases h
   · rename_i v s1 h1
     have a1 := (hr h1).1.1
     split at h
     · injection h with h
       simp only [Prod.mk.injEq] at h
       obtain ⟨rfl, rfl⟩ := h
       simp [adv]
       omega
     · split at h
       · cases h
       · rename_i s2 h2
         have := zmm hr e n h
         have := (zcq ts en h2).1
         simp at *
         omega
theorem zio {ts : List za} {en : Nat} {rd : PS -> Except (Int × Int) (Int × PS)} (hr : ∀ {s v s'}, rd s = .ok (v, s') -> OkF ts s v s') {e : ByteArray} {n : Nat} {ks : List Int} {s s' : PS} (h : lsP ts en rd e n s = .ok (ks, s')) : ks.length <= s'.i := by
 unfold lsP at h
 split at h
 · injection h with h
   simp only [Prod.mk.injEq] at h
   obtain ⟨rfl, _⟩ := h
   exact Nat.zero_le _
 · have := zmm hr e n h
   simp at this
   omega
set_option maxHeartbeats 4000000 in
theorem zfx {rb : Nat} {ts : List za} {tv : Value} {en : Nat} {r : Rd} {n : Nat} (hr : RP rb ts tv en r n) (hro : zk ts r) (a0 : Int) (w : World) (v : Value) (kv : List Value) (s : PS) (h : Rdr rb ts tv en w v kv s) (hp : s.ns.length <= 8 * s.i) (hf : ts.length < s.i + (n + 1)) :
 Calls Tryz.prog 118 #[.pointer (some ⟨rb, 0, none⟩), .int .i64 a0] w (RdE rb ts tv en w v kv (bhP ts en r (ts.length + 1) a0 s)) := by
 obtain ⟨i0, hi, hz0, hz1, hz2⟩ := info_parts zb6
 have hmf : ∀ (fn : Fn) (first cap : Array Value) (w : World), (Instr.makeFunc fn first cap).run Tryz.prog w = .ok (.func fn first cap) w := fun _ _ _ _ => rfl
 have HS0 : Hid (St rb ts tv en w v kv w v [] s) := St.begin h
 have hT : ts.length <= 3000 := h.tl
 have hI : s.i <= ts.length := h.il
 clear h
 go_enter Tryz.func118, Tryz.ntmps118
 go_wp2_with (fail)
 go_loopw [1] (fun q wr => ∃ (a : Int) (s' : PS) (v' : Value) (K' : List Value) (m : Nat), q = .int .i64 a /\ Hid (St rb ts tv en w v kv wr v' K' s') /\ Hid (bhP ts en r m a s' = bhP ts en r (ts.length + 1) a0 s) /\ s'.ns.length <= 8 * s'.i /\ ts.length < s'.i + m /\ s.i <= s'.i) (fun _ wr => ts.length - zca rb wr)
 case atStart => exact ⟨a0, s, v, [], ts.length + 1, rfl, HS0.out, rfl, hp, by omega, Nat.le_refl _⟩
 case round =>
  obtain ⟨a, s', v', K', m, rfl, HS1, HE, hp1, hf1, hi1⟩ := hrel
  have hI1 : s'.i <= ts.length := HS1.out.rd.il
  have hq1 : Hid (zca rb wr = s'.i) := zbm HS1.out.rd
  obtain ⟨m', rfl⟩ : ∃ m', m = m' + 1 := ⟨m - 1, by omega⟩
  have pa : (adv s').ns.length <= 8 * (adv s').i := Nat.le_trans hp1 (Nat.mul_le_mul_left 8 (Nat.le_succ _))
  have ia : (adv s').i = s'.i + 1 := rfl
  cases e1 : isN ts ⟨#[40]⟩ s'
  · go_wp2_with (go_at_call 69; refine (HS1.out.pass_no ⟨#[40]⟩ e1).mono ?_; rintro e w2 ⟨rfl, h2⟩; have HS2 : Hid (St rb ts tv en w v kv w2 v' K' s') := h2; clear h2 HS1)
    cases e2 : isN ts ⟨#[91]⟩ s'
    · go_wp2_with (go_at_call 69; refine (HS2.out.pass_no ⟨#[91]⟩ e2).mono ?_; rintro e w3 ⟨rfl, h3⟩; have HS3 : Hid (St rb ts tv en w v kv w3 v' K' s') := h3; clear h3 HS2)
      cases e3 : isN ts ⟨#[46]⟩ s'
      · go_wp2_with (go_at_call 69; refine (HS3.out.pass_no ⟨#[46]⟩ e3).mono ?_; rintro e w4 ⟨rfl, h4⟩; have HS4 : Hid (St rb ts tv en w v kv w4 v' K' s') := h4; clear h4 HS3)
        go_ret
        exact RdE.yes HS4.out (by rw [<- HE.out]; unfold bhP; simp only [e1, e2, e3, Bool.false_eq_true, ↓reduceIte])
      · go_wp2_with (go_at_call 69; refine (HS3.out.pass_yes ⟨#[46]⟩ e3).mono ?_; rintro e w4 ⟨rfl, h4⟩; have HS4 : Hid (St rb ts tv en w v kv w4 v' K' (adv s')) := h4; clear h4 HS3)
        rcases e5 : ze1 ts en (adv s') with ⟨x⟩ | ⟨b, s5⟩
        · go_wp2_with (go_at_call 123; refine (HS4.out.no (zfp hr hro _ _ _ _ HS4.out.rd pa (by omega)) e5).mono ?_; rintro e w5 ⟨he, b5⟩; unfold pan at he; subst he; have HB : Hid (Below rb w w5) := b5; clear b5)
          refine ⟨rfl, RdE.no HB.out ?_⟩
          rw [<- HE.out]
          unfold ze1 at e5
          unfold bhP
          simp only [e1, e2, e3, Bool.false_eq_true, ↓reduceIte]
          split at e5
          · rename_i y hy
            simp only [hy]
            exact e5
          · cases e5
        · obtain ⟨x5, y5, z5, n5⟩ | ⟨_, n5⟩ := zbp ts en (adv s')
          rotate_left
          · unfold ze1 at e5
            rw [n5] at e5
            cases e5
          have k5 : ze1 ts en (adv s') = .ok (zb 4 x5.tx 0 [] (adv (adv s'))) := by unfold ze1; rw [n5]
          rw [k5] at e5
          injection e5 with e5
          rw [Prod.ext_iff] at e5
          obtain ⟨rfl, rfl⟩ := e5
          have t5 := (List.getElem?_eq_some_iff.1 y5).1
          go_wp2_with (go_at_call 123; refine (HS4.out.yes (zfp hr hro _ _ _ _ HS4.out.rd pa (by omega)) k5).mono ?_; rintro e w5 ⟨rfl, v5, K5, h5⟩; have HS5 : Hid (St rb ts tv en w v kv w5 v5 K5 (zb 4 x5.tx 0 [] (adv (adv s'))).2) := h5; clear h5 HS4)
          go_wp2_with (go_at_call 31; refine (HS5.out.add [a, (zb 4 x5.tx 0 [] (adv (adv s'))).1] 8 eT 0 (by simp) (by simp [zb, adv]; omega) _ _ _ rfl rfl rfl).mono ?_; rintro e w6 ⟨rfl, v6, K6, h6⟩; have HS6 : Hid (St rb ts tv en w v kv w6 v6 K6 (zb 8 eT 0 [a, (zb 4 x5.tx 0 [] (adv (adv s'))).1] (zb 4 x5.tx 0 [] (adv (adv s'))).2).2) := h6; clear h6 HS5)
          have hq6 : Hid (zca rb w6 = s'.i + 1 + 1) := zbm HS6.out.rd
          go_wp2
          go_roundw
          case rel => exact ⟨_, _, v6, K6, m', rfl, HS6.out, (by show _ = _; rw [<- HE.out]; conv => rhs; unfold bhP; simp only [e1, e2, e3, n5, Bool.false_eq_true, ↓reduceIte]), (by simp [zb, adv]; omega), (by simp [zb, adv]; omega), (by simp [zb, adv]; omega)⟩
          case measure => rw [hq6.out, hq1.out]; omega
    · go_wp2_with (go_at_call 69; refine (HS2.out.pass_yes ⟨#[91]⟩ e2).mono ?_; rintro e w3 ⟨rfl, h3⟩; have HS3 : Hid (St rb ts tv en w v kv w3 v' K' (adv s')) := h3; clear h3 HS2)
      rcases e4 : r.wh (adv s') with ⟨x⟩ | ⟨b, s4⟩
      · go_wp2_with (go_at_call 74; refine (HS3.out.no (hr.wh _ _ _ _ HS3.out.rd pa (by omega)) e4).mono ?_; rintro e w4 ⟨he, b5⟩; unfold pan at he; subst he; have HB : Hid (Below rb w w4) := b5; clear b5)
        exact ⟨rfl, RdE.no HB.out (by rw [<- HE.out]; unfold bhP; simp only [e1, e2, e4, Bool.false_eq_true, ↓reduceIte])⟩
      · have o4 := hro.wh e4
        have p4 := o4.1.phi pa
        have i4 := o4.1.1
        have t4 := o4.1.2.1
        go_wp2_with (go_at_call 74; refine (HS3.out.yes (hr.wh _ _ _ _ HS3.out.rd pa (by omega)) e4).mono ?_; rintro e w4 ⟨rfl, v4, K4, h4⟩; have HS4 : Hid (St rb ts tv en w v kv w4 v4 K4 s4) := h4; clear h4 HS3)
        rcases zac ts en ⟨#[93]⟩ s4 with ⟨q5, e5⟩ | ⟨q5, e5⟩
        · go_wp2_with (go_at_call 71; refine (HS4.out.want_yes ⟨#[93]⟩ q5).mono ?_; rintro e w5 ⟨rfl, h5⟩; have HS5 : Hid (St rb ts tv en w v kv w5 v4 K4 (adv s4)) := h5; clear h5 HS4)
          have t5 := zar ts q5
          go_wp2_with (go_at_call 31; refine (HS5.out.add [a, b] 8 eT 0 (by simp) (by simp [adv]; omega) _ _ _ rfl rfl rfl).mono ?_; rintro e w6 ⟨rfl, v6, K6, h6⟩; have HS6 : Hid (St rb ts tv en w v kv w6 v6 K6 (zb 8 eT 0 [a, b] (adv s4)).2) := h6; clear h6 HS5)
          have hq6 : Hid (zca rb w6 = s4.i + 1) := zbm HS6.out.rd
          go_wp2
          go_roundw
          case rel => exact ⟨_, _, v6, K6, m', rfl, HS6.out, (by show _ = _; rw [<- HE.out]; conv => rhs; unfold bhP; simp only [e1, e2, e4, e5, Bool.false_eq_true, ↓reduceIte]), (by simp [zb, adv]; omega), (by simp [zb, adv]; omega), (by simp [zb, adv]; omega)⟩
          case measure => rw [hq6.out, hq1.out]; omega
        · go_wp2_with (go_at_call 71; refine (HS4.out.want_no ⟨#[93]⟩ q5).mono ?_; rintro e w5 ⟨he, b5⟩; unfold pan at he; subst he; have HB : Hid (Below rb w w5) := b5; clear b5)
          exact ⟨rfl, RdE.no HB.out (by rw [<- HE.out]; unfold bhP; simp only [e1, e2, e4, e5, Bool.false_eq_true, ↓reduceIte])⟩
  · go_wp2_with (go_at_call 69; refine (HS1.out.pass_yes ⟨#[40]⟩ e1).mono ?_; rintro e w2 ⟨rfl, h2⟩; have HS2 : Hid (St rb ts tv en w v kv w2 v' K' (adv s')) := h2; clear h2 HS1)
    have HSa : Hid (St rb ts tv en w v kv (w2.alloc (.cells #[.int .i64 a] 3)) v' K' (adv s')) := HS2.out.below ((Below.refl _ _).alloc (Nat.le_refl _) _)
    have HKa : Hid (Kd rb w (w2.alloc (.cells #[.int .i64 a] 3)) v' (kv ++ K') (.slice (some ⟨w2.heap.size, 0, none⟩) 1 1) [a]) := Kd.laid HS2.out [a] (by simp)
    have HQ : Hid (∀ W : World, W = w2.alloc (.cells #[.int .i64 a] 3) -> Calls Tryz.prog 122 #[.pointer (some ⟨rb, 0, none⟩), .string ⟨#[41]⟩, .func (.func 74) #[.pointer (some ⟨rb, 0, none⟩)] #[]] W (LsE rb ts tv en (w2.alloc (.cells #[.int .i64 a] 3)) v' (kv ++ K') (lsP ts en r.wh ⟨#[41]⟩ (ts.length + 1) (adv s')))) := fun W hW => by
     subst hW
     exact zih hr.wh (fun h => (hro.wh h).field ts) ⟨#[41]⟩ _ _ _ _ HSa.out.rd pa (by omega) zo3
    rcases e2 : lsP ts en r.wh ⟨#[41]⟩ (ts.length + 1) (adv s') with ⟨x⟩ | ⟨ks, s3⟩
    · go_wp2_with (go_at_call 122; refine (HQ.out _ rfl).mono ?_; rintro e w3 hh; obtain ⟨he, b3⟩ := hh.2 x e2; unfold pan at he; subst he; have HB : Hid (Below rb w w3) := HSa.out.low.trans b3; clear b3 hh)
      exact ⟨rfl, RdE.no HB.out (by rw [<- HE.out]; unfold bhP; simp only [e1, e2, ↓reduceIte])⟩
    · have o3 := ze5 ts en (fun h => (hro.wh h).field ts) e2
      have p3 := o3.phi pa
      have i3 := o3.1
      have t3 := o3.2.1
      have hkl : ks.length <= s3.i := zio (fun h => (hro.wh h).field ts) e2
      go_wp2_with (first | (go_at_call 122; refine (HQ.out _ rfl).mono ?_; rintro e w3 hh; obtain ⟨u, rfl, v3, k3, h3, kk3⟩ := hh.1 ks s3 e2; obtain ⟨h4, k4⟩ := HSa.out.both HKa.out h3; have HS3 : Hid (St rb ts tv en w v kv w3 v3 (K' ++ k3) s3) := h4; have HK3 : Hid (Kd rb w w3 v3 (kv ++ (K' ++ k3)) (.slice (some ⟨w2.heap.size, 0, none⟩) 1 1) [a]) := k4; have hpt := kk3.parts; clear h3 h4 k4 kk3 hh HSa HKa HQ HS2; rcases hpt with ⟨rfl, rfl⟩ | ⟨g3, c3, rfl, hc3⟩) | (at_builtin; refine wpList_append_own_none _ rfl _ _ 32 rfl (rb + 1) 3 i0 1 Tryz.underlying32 hi _ 1 (icl [a]) rfl HK3.out.own.row rfl ?_) | (at_builtin; refine wpList_append_own_at _ rfl _ _ 32 rfl (rb + 1) 3 i0 (.int .i64 0) 1 8 Tryz.underlying32 hi hz0 hz1 hz2 rfl (by decide) _ 1 (icl [a]) rfl HK3.out.own.row ⟨g3, 0, none⟩ ks.length c3 (icl ks) rfl (by rw [zeh, Nat.mul_one]) hc3 (by intro y hy; simp [icl] at hy; obtain ⟨z, _, rfl⟩ := hy; rfl) (by unfold maxLen; omega) (by omega) (by have := HS3.out.rd.lt; omega) ?_))
      · go_wp2_with (go_at_call 31; refine (HS3.out.addK HK3.out 9 eT 0 (by omega)).mono ?_; rintro e w6 ⟨rfl, v6, K6, h6⟩; have HS6 : Hid (St rb ts tv en w v kv w6 v6 K6 (zb 9 eT 0 [a] s3).2) := h6; clear h6 HS3 HK3)
        have hq6 : Hid (zca rb w6 = s3.i) := by have := zbm HS6.out.rd; exact this
        go_wp2
        go_roundw
        case rel => exact ⟨_, _, v6, K6, m', rfl, HS6.out, (by show _ = _; rw [<- HE.out]; conv => rhs; unfold bhP; simp only [e1, e2, Bool.false_eq_true, ↓reduceIte]), (by simp [zb]; omega), (by simp [zb]; omega), (by simp [zb]; omega)⟩
        case measure => rw [hq6.out, hq1.out]; omega
      · intro u' w4 hown hgrow _ hat
        obtain ⟨h4, k4⟩ := Kd.growN HS3.out HK3.out (zs := ks) hown hgrow hat
        have HS4 : Hid (St rb ts tv en w v kv w4 v3 (K' ++ k3) s3) := h4
        have HK4 : Hid (Kd rb w w4 v3 (kv ++ (K' ++ k3)) u' ([a] ++ ks)) := k4
        clear h4 k4 hown hgrow hat HS3 HK3 hc3
        go_wp2_with (go_at_call 31; refine (HS4.out.addK HK4.out 9 eT 0 (by omega)).mono ?_; rintro e w6 ⟨rfl, v6, K6, h6⟩; have HS6 : Hid (St rb ts tv en w v kv w6 v6 K6 (zb 9 eT 0 (a :: ks) s3).2) := h6; clear h6 HS4 HK4)
        have hq6 : Hid (zca rb w6 = s3.i) := by have := zbm HS6.out.rd; exact this
        go_wp2
        go_roundw
        case rel => exact ⟨_, _, v6, K6, m', rfl, HS6.out, (by show _ = _; rw [<- HE.out]; conv => rhs; unfold bhP; simp only [e1, e2, Bool.false_eq_true, ↓reduceIte]), (by simp [zb]; omega), (by simp [zb]; omega), (by simp [zb]; omega)⟩
        case measure => rw [hq6.out, hq1.out]; omega
theorem St.next {rb : Nat} {ts : List za} {tv : Value} {en : Nat} {w w1 : World} {v v1 : Value} {kv K : List Value} {s1 : PS} (h : St rb ts tv en w v kv w1 v1 K s1) (bs : List ByteArray) (q : Bool) (hq : zai ts bs s1 = q) (hl : bs.length <= 10) (A : Array Value) (n g : Nat) (hg : g = w1.heap.size) (hn : n = bs.length) (hA : A = (bs.map Value.string).toArray) :
 Calls Tryz.prog 97 #[.pointer (some ⟨rb, 0, none⟩), .slice (some ⟨g, 0, none⟩) n n] (w1.alloc (.cells A 9)) fun e w2 => e = .returned (.bool q) /\ St rb ts tv en w v kv w2 v1 K s1 :=
 (zfi rb ts tv en w1 v1 _ s1 h.rd A n g bs hl hg hn hA q hq).mono fun e w2 ⟨h1, h2⟩ => ⟨h1, h.below h2⟩
theorem zc7 (ts : List za) (b : ByteArray) (s : PS) : zai ts [b] s = isN ts b s := by simp [zai]
set_option maxHeartbeats 4000000 in
theorem zji {rb : Nat} {ts : List za} {tv : Value} {en : Nat} {r : Rd} {n : Nat} (hr : RP rb ts tv en r n) (hro : zk ts r) (HO : ∀ (w : World) (v : Value) (kv : List Value) (s : PS), Rdr rb ts tv en w v kv s -> s.ns.length <= 8 * s.i -> ts.length < s.i + (n + 1) -> Calls Tryz.prog 119 #[.pointer (some ⟨rb, 0, none⟩)] w (RdE rb ts tv en w v kv (zu ts en r s))) (w : World) (v : Value) (kv : List Value) (s : PS) (h : Rdr rb ts tv en w v kv s) (hp : s.ns.length <= 8 * s.i) (hf : ts.length < s.i + (n + 1)) :
 Calls Tryz.prog 111 #[.pointer (some ⟨rb, 0, none⟩)] w (RdE rb ts tv en w v kv (tnP ts en r s)) := by
 have HS0 : Hid (St rb ts tv en w v kv w v [] s) := St.begin h
 have hT : ts.length <= 3000 := h.tl
 have hI : s.i <= ts.length := h.il
 have hD : s.d <= 30 := h.dl
 clear h
 go_enter Tryz.func111, Tryz.ntmps111
 go_wp2_with (fail)
 go_loopw [3] (fun q wr => ∃ (j : Nat), q = .int .i64 (j : Int) /\ 1 <= j /\ j <= 4 /\ Hid (∃ v' K', St rb ts tv en w v kv wr v' K' s) /\ (1 < j -> isN ts ⟨#[45]⟩ s = false) /\ (2 < j -> isN ts ⟨#[110, 111, 116]⟩ s = false) /\ (3 < j -> isN ts ⟨#[35]⟩ s = false)) (fun q _ => 4 - (intOf q).toNat)
 case atStart => exact ⟨1, rfl, by omega, by omega, ⟨_, _, HS0.out⟩, by omega, by omega, by omega⟩
 case round =>
  obtain ⟨j, rfl, hj1, hj4, HX, n1, n2, n3⟩ := hrel
  obtain ⟨v1, K1, h1⟩ := HX.out
  have HS1 : Hid (St rb ts tv en w v kv wr v1 K1 s) := h1
  have lo := h1.rd.tb.lo
  have lrb := h1.rd.lt
  have lt1 : 1 < wr.heap.size := by omega
  have g1 : wr.cell? ⟨1, 1, none⟩ = some (.string ⟨#[45]⟩) := h1.rd.tb.turn 1 _ rfl
  have g2 : wr.cell? ⟨1, 2, none⟩ = some (.string ⟨#[110, 111, 116]⟩) := h1.rd.tb.turn 2 _ rfl
  have g3 : wr.cell? ⟨1, 3, none⟩ = some (.string ⟨#[35]⟩) := h1.rd.tb.turn 3 _ rfl
  clear h1 HX HS0
  obtain rfl | rfl | rfl | rfl : j = 1 \/ j = 2 \/ j = 3 \/ j = 4 := by omega
  · cases e1 : isN ts ⟨#[45]⟩ s
    · go_wp2_with (go_at_call 97; refine (HS1.out.next [⟨#[45]⟩] false (by rw [zc7]; exact e1) (by simp) _ _ _ rfl rfl rfl).mono ?_; rintro e w2 ⟨rfl, h2⟩; have HS2 : Hid (St rb ts tv en w v kv w2 v1 K1 s) := h2; clear h2 HS1)
      go_wp2
      go_roundw
      case rel => exact ⟨2, by go_num, by omega, by omega, ⟨_, _, HS2.out⟩, (fun _ => by first | exact e1 | trivial), by omega, by omega⟩
      case measure => simp [intOf]
    · have ht : zy ts s = 1 := by unfold zy; simp only [e1, Bool.false_eq_true, ↓reduceIte]
      have hlt := zar ts e1
      obtain ⟨x, hx⟩ : ∃ x, ts[s.i]? = some x := ⟨_, List.getElem?_eq_getElem hlt⟩
      go_wp2_with (go_at_call 97; refine (HS1.out.next [⟨#[45]⟩] true (by rw [zc7]; exact e1) (by simp) _ _ _ rfl rfl rfl).mono ?_; rintro e w2 ⟨rfl, h2⟩; have HS2 : Hid (St rb ts tv en w v kv w2 v1 K1 s) := h2; clear h2 HS1)
      rcases za2 ts en s with ⟨q2, e2⟩ | ⟨q2, e2⟩
      · go_wp2_with (go_at_call 101; refine (HS2.out.open_yes q2).mono ?_; rintro e w3 ⟨rfl, h3⟩; have HS3 : Hid (St rb ts tv en w v kv w3 v1 K1 ⟨s.i, s.d + 1, s.ns⟩) := h3; clear h3 HS2)
        go_wp2_with (go_at_call 100; refine (HS3.out.take x hx).mono ?_; rintro e w4 ⟨rfl, h4⟩; have HS4 : Hid (St rb ts tv en w v kv w4 v1 K1 (adv ⟨s.i, s.d + 1, s.ns⟩)) := h4; clear h4 HS3)
        have p4 : (adv ⟨s.i, s.d + 1, s.ns⟩).ns.length <= 8 * (adv ⟨s.i, s.d + 1, s.ns⟩).i := Nat.le_trans hp (Nat.mul_le_mul_left 8 (Nat.le_succ _))
        have i4 : (adv ⟨s.i, s.d + 1, s.ns⟩).i = s.i + 1 := rfl
        rcases e5 : r.tn (adv ⟨s.i, s.d + 1, s.ns⟩) with ⟨y⟩ | ⟨a, s5⟩
        · go_wp2_with (go_at_call 111; refine (HS4.out.no (hr.tn _ _ _ _ HS4.out.rd p4 (by omega)) e5).mono ?_; rintro e w5 ⟨he, b5⟩; unfold pan at he; subst he; have HB : Hid (Below rb w w5) := b5; clear b5)
          exact ⟨rfl, RdE.no HB.out (by unfold tnP; rw [ht]; simp only [e2, e5]; rfl)⟩
        · have o5 := hro.tn e5
          have p5 := o5.1.phi p4
          have t5 := o5.1.2.1
          have d5 : s5.d = s.d + 1 := o5.1.2.2.1
          go_wp2_with (go_at_call 111; refine (HS4.out.yes (hr.tn _ _ _ _ HS4.out.rd p4 (by omega)) e5).mono ?_; rintro e w5 ⟨rfl, v5, K5, h5⟩; have HS5 : Hid (St rb ts tv en w v kv w5 v5 K5 s5) := h5; clear h5 HS4)
          go_wp2_with (go_at_call 31; refine (HS5.out.add [a] 11 eT 1 (by simp) (by omega) _ _ _ rfl rfl rfl).mono ?_; rintro e w6 ⟨rfl, v6, K6, h6⟩; have HS6 : Hid (St rb ts tv en w v kv w6 v6 K6 (zb 11 eT 1 [a] s5).2) := h6; clear h6 HS5)
          go_wp2_with (go_at_call 103; refine (HS6.out.shut (by show 1 <= s5.d; omega)).mono ?_; rintro e w7 ⟨rfl, h7⟩; have HS7 : Hid (St rb ts tv en w v kv w7 v6 K6 (zap (zb 11 eT 1 [a] s5).2)) := h7; clear h7 HS6)
          go_ret
          exact RdE.yes HS7.out (by unfold tnP; rw [ht]; simp only [e2, e5]; rfl)
      · go_wp2_with (go_at_call 101; refine (HS2.out.open_no q2).mono ?_; rintro e w3 ⟨he, b5⟩; unfold pan at he; subst he; have HB : Hid (Below rb w w3) := b5; clear b5)
        exact ⟨rfl, RdE.no HB.out (by unfold tnP; rw [ht]; simp only [e2]; rfl)⟩
  · have f1 := n1 (by omega)
    cases e1 : isN ts ⟨#[110, 111, 116]⟩ s
    · go_wp2_with (go_at_call 97; refine (HS1.out.next [⟨#[110, 111, 116]⟩] false (by rw [zc7]; exact e1) (by simp) _ _ _ rfl rfl rfl).mono ?_; rintro e w2 ⟨rfl, h2⟩; have HS2 : Hid (St rb ts tv en w v kv w2 v1 K1 s) := h2; clear h2 HS1)
      go_wp2
      go_roundw
      case rel => exact ⟨3, by go_num, by omega, by omega, ⟨_, _, HS2.out⟩, (fun _ => by first | exact f1 | trivial), (fun _ => by first | exact e1 | trivial), by omega⟩
      case measure => simp [intOf]
    · have ht : zy ts s = 2 := by unfold zy; simp only [f1, e1, Bool.false_eq_true, ↓reduceIte]
      have hlt := zar ts e1
      obtain ⟨x, hx⟩ : ∃ x, ts[s.i]? = some x := ⟨_, List.getElem?_eq_getElem hlt⟩
      go_wp2_with (go_at_call 97; refine (HS1.out.next [⟨#[110, 111, 116]⟩] true (by rw [zc7]; exact e1) (by simp) _ _ _ rfl rfl rfl).mono ?_; rintro e w2 ⟨rfl, h2⟩; have HS2 : Hid (St rb ts tv en w v kv w2 v1 K1 s) := h2; clear h2 HS1)
      rcases za2 ts en s with ⟨q2, e2⟩ | ⟨q2, e2⟩
      · go_wp2_with (go_at_call 101; refine (HS2.out.open_yes q2).mono ?_; rintro e w3 ⟨rfl, h3⟩; have HS3 : Hid (St rb ts tv en w v kv w3 v1 K1 ⟨s.i, s.d + 1, s.ns⟩) := h3; clear h3 HS2)
        go_wp2_with (go_at_call 100; refine (HS3.out.take x hx).mono ?_; rintro e w4 ⟨rfl, h4⟩; have HS4 : Hid (St rb ts tv en w v kv w4 v1 K1 (adv ⟨s.i, s.d + 1, s.ns⟩)) := h4; clear h4 HS3)
        have p4 : (adv ⟨s.i, s.d + 1, s.ns⟩).ns.length <= 8 * (adv ⟨s.i, s.d + 1, s.ns⟩).i := Nat.le_trans hp (Nat.mul_le_mul_left 8 (Nat.le_succ _))
        have i4 : (adv ⟨s.i, s.d + 1, s.ns⟩).i = s.i + 1 := rfl
        rcases e5 : r.tn (adv ⟨s.i, s.d + 1, s.ns⟩) with ⟨y⟩ | ⟨a, s5⟩
        · go_wp2_with (go_at_call 111; refine (HS4.out.no (hr.tn _ _ _ _ HS4.out.rd p4 (by omega)) e5).mono ?_; rintro e w5 ⟨he, b5⟩; unfold pan at he; subst he; have HB : Hid (Below rb w w5) := b5; clear b5)
          exact ⟨rfl, RdE.no HB.out (by unfold tnP; rw [ht]; simp only [e2, e5]; rfl)⟩
        · have o5 := hro.tn e5
          have p5 := o5.1.phi p4
          have t5 := o5.1.2.1
          have d5 : s5.d = s.d + 1 := o5.1.2.2.1
          go_wp2_with (go_at_call 111; refine (HS4.out.yes (hr.tn _ _ _ _ HS4.out.rd p4 (by omega)) e5).mono ?_; rintro e w5 ⟨rfl, v5, K5, h5⟩; have HS5 : Hid (St rb ts tv en w v kv w5 v5 K5 s5) := h5; clear h5 HS4)
          go_wp2_with (go_at_call 31; refine (HS5.out.add [a] 11 eT 2 (by simp) (by omega) _ _ _ rfl rfl rfl).mono ?_; rintro e w6 ⟨rfl, v6, K6, h6⟩; have HS6 : Hid (St rb ts tv en w v kv w6 v6 K6 (zb 11 eT 2 [a] s5).2) := h6; clear h6 HS5)
          go_wp2_with (go_at_call 103; refine (HS6.out.shut (by show 1 <= s5.d; omega)).mono ?_; rintro e w7 ⟨rfl, h7⟩; have HS7 : Hid (St rb ts tv en w v kv w7 v6 K6 (zap (zb 11 eT 2 [a] s5).2)) := h7; clear h7 HS6)
          go_ret
          exact RdE.yes HS7.out (by unfold tnP; rw [ht]; simp only [e2, e5]; rfl)
      · go_wp2_with (go_at_call 101; refine (HS2.out.open_no q2).mono ?_; rintro e w3 ⟨he, b5⟩; unfold pan at he; subst he; have HB : Hid (Below rb w w3) := b5; clear b5)
        exact ⟨rfl, RdE.no HB.out (by unfold tnP; rw [ht]; simp only [e2]; rfl)⟩
  · have f1 := n1 (by omega)
    have f2 := n2 (by omega)
    cases e1 : isN ts ⟨#[35]⟩ s
    · go_wp2_with (go_at_call 97; refine (HS1.out.next [⟨#[35]⟩] false (by rw [zc7]; exact e1) (by simp) _ _ _ rfl rfl rfl).mono ?_; rintro e w2 ⟨rfl, h2⟩; have HS2 : Hid (St rb ts tv en w v kv w2 v1 K1 s) := h2; clear h2 HS1)
      go_wp2
      go_roundw
      case rel => exact ⟨4, by go_num, by omega, by omega, ⟨_, _, HS2.out⟩, (fun _ => by first | exact f1 | trivial), (fun _ => by first | exact f2 | trivial), (fun _ => by first | exact e1 | trivial)⟩
      case measure => simp [intOf]
    · have ht : zy ts s = 3 := by unfold zy; simp only [f1, f2, e1, Bool.false_eq_true, ↓reduceIte]
      have hlt := zar ts e1
      obtain ⟨x, hx⟩ : ∃ x, ts[s.i]? = some x := ⟨_, List.getElem?_eq_getElem hlt⟩
      go_wp2_with (go_at_call 97; refine (HS1.out.next [⟨#[35]⟩] true (by rw [zc7]; exact e1) (by simp) _ _ _ rfl rfl rfl).mono ?_; rintro e w2 ⟨rfl, h2⟩; have HS2 : Hid (St rb ts tv en w v kv w2 v1 K1 s) := h2; clear h2 HS1)
      rcases za2 ts en s with ⟨q2, e2⟩ | ⟨q2, e2⟩
      · go_wp2_with (go_at_call 101; refine (HS2.out.open_yes q2).mono ?_; rintro e w3 ⟨rfl, h3⟩; have HS3 : Hid (St rb ts tv en w v kv w3 v1 K1 ⟨s.i, s.d + 1, s.ns⟩) := h3; clear h3 HS2)
        go_wp2_with (go_at_call 100; refine (HS3.out.take x hx).mono ?_; rintro e w4 ⟨rfl, h4⟩; have HS4 : Hid (St rb ts tv en w v kv w4 v1 K1 (adv ⟨s.i, s.d + 1, s.ns⟩)) := h4; clear h4 HS3)
        have p4 : (adv ⟨s.i, s.d + 1, s.ns⟩).ns.length <= 8 * (adv ⟨s.i, s.d + 1, s.ns⟩).i := Nat.le_trans hp (Nat.mul_le_mul_left 8 (Nat.le_succ _))
        have i4 : (adv ⟨s.i, s.d + 1, s.ns⟩).i = s.i + 1 := rfl
        rcases e5 : r.tn (adv ⟨s.i, s.d + 1, s.ns⟩) with ⟨y⟩ | ⟨a, s5⟩
        · go_wp2_with (go_at_call 111; refine (HS4.out.no (hr.tn _ _ _ _ HS4.out.rd p4 (by omega)) e5).mono ?_; rintro e w5 ⟨he, b5⟩; unfold pan at he; subst he; have HB : Hid (Below rb w w5) := b5; clear b5)
          exact ⟨rfl, RdE.no HB.out (by unfold tnP; rw [ht]; simp only [e2, e5]; rfl)⟩
        · have o5 := hro.tn e5
          have p5 := o5.1.phi p4
          have t5 := o5.1.2.1
          have d5 : s5.d = s.d + 1 := o5.1.2.2.1
          go_wp2_with (go_at_call 111; refine (HS4.out.yes (hr.tn _ _ _ _ HS4.out.rd p4 (by omega)) e5).mono ?_; rintro e w5 ⟨rfl, v5, K5, h5⟩; have HS5 : Hid (St rb ts tv en w v kv w5 v5 K5 s5) := h5; clear h5 HS4)
          go_wp2_with (go_at_call 31; refine (HS5.out.add [a] 11 eT 3 (by simp) (by omega) _ _ _ rfl rfl rfl).mono ?_; rintro e w6 ⟨rfl, v6, K6, h6⟩; have HS6 : Hid (St rb ts tv en w v kv w6 v6 K6 (zb 11 eT 3 [a] s5).2) := h6; clear h6 HS5)
          go_wp2_with (go_at_call 103; refine (HS6.out.shut (by show 1 <= s5.d; omega)).mono ?_; rintro e w7 ⟨rfl, h7⟩; have HS7 : Hid (St rb ts tv en w v kv w7 v6 K6 (zap (zb 11 eT 3 [a] s5).2)) := h7; clear h7 HS6)
          go_ret
          exact RdE.yes HS7.out (by unfold tnP; rw [ht]; simp only [e2, e5]; rfl)
      · go_wp2_with (go_at_call 101; refine (HS2.out.open_no q2).mono ?_; rintro e w3 ⟨he, b5⟩; unfold pan at he; subst he; have HB : Hid (Below rb w w3) := b5; clear b5)
        exact ⟨rfl, RdE.no HB.out (by unfold tnP; rw [ht]; simp only [e2]; rfl)⟩
  · have f1 := n1 (by omega)
    have f2 := n2 (by omega)
    have f3 := n3 (by omega)
    have ht : zy ts s = 0 := by unfold zy; simp only [f1, f2, f3, Bool.false_eq_true, ↓reduceIte]
    rcases e2 : zu ts en r s with ⟨y⟩ | ⟨a, s2⟩
    · go_wp2_with (go_at_call 119; refine (HS1.out.no (HO _ _ _ _ HS1.out.rd hp (by omega)) e2).mono ?_; rintro e w5 ⟨he, b5⟩; unfold pan at he; subst he; have HB : Hid (Below rb w w5) := b5; clear b5)
      exact ⟨rfl, RdE.no HB.out (by unfold tnP; rw [ht]; simp only [e2]; rfl)⟩
    · have o2 := zid ts en hro e2
      have p2 : s2.ns.length <= 8 * s2.i := by have := o2.1.phi hp; omega
      have i2 := o2.1.1
      go_wp2_with (go_at_call 119; refine (HS1.out.yes (HO _ _ _ _ HS1.out.rd hp (by omega)) e2).mono ?_; rintro e w2 ⟨rfl, v2, K2, h2⟩; have HS2 : Hid (St rb ts tv en w v kv w2 v2 K2 s2) := h2; clear h2 HS1)
      rcases e3 : bhP ts en r (ts.length + 1) a s2 with ⟨y⟩ | ⟨b, s3⟩
      · go_wp2_with (go_at_call 118; refine (HS2.out.no (zfx hr hro a _ _ _ _ HS2.out.rd p2 (by omega)) e3).mono ?_; rintro e w5 ⟨he, b5⟩; unfold pan at he; subst he; have HB : Hid (Below rb w w5) := b5; clear b5)
        exact ⟨rfl, RdE.no HB.out (by unfold tnP; rw [ht]; simp only [e2, e3]; rfl)⟩
      · go_wp2_with (go_at_call 118; refine (HS2.out.yes (zfx hr hro a _ _ _ _ HS2.out.rd p2 (by omega)) e3).mono ?_; rintro e w3 ⟨rfl, v3, K3, h3⟩; have HS3 : Hid (St rb ts tv en w v kv w3 v3 K3 s3) := h3; clear h3 HS2)
        go_ret
        exact RdE.yes HS3.out (by unfold tnP; rw [ht]; simp only [e2, e3]; rfl)
end Go.Proofs.YtiglkhkfbgjjoaaGreatDoor
