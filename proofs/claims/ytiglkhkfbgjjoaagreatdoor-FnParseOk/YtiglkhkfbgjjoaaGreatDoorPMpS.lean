/- - -/
import Derived.Test.YtiglkhkfbgjjoaaGreatDoorPMpN
import Derived.Deep.CutRange
namespace Go.Proofs.YtiglkhkfbgjjoaaGreatDoor
set_option maxRecDepth 20000
open Go.RowKit Go.PlainAid Go.Maps
set_option linter.unusedSimpArgs false
set_option linter.unusedVariables false
set_option maxHeartbeats 1000000 in
theorem znj (rb : Nat) (w : World) (c a : Int) (h : Fl rb w c a) :
 Calls Tryz.prog 82 #[.pointer (some ⟨rb, 0, none⟩)] w fun e w' => e = .returned (.int .i64 0) /\ ∃ m, w' = w.drewN m := by
 have lt := h.lt
 have c3 := h.c3
 have ne := h.ne
 clear h
 go_enter Tryz.func82, Tryz.ntmps82
 go_wp2
 go_quiet (fail)
 go_wp2
 go_ret
 exact ⟨rfl, _, rfl⟩
set_option maxHeartbeats 1000000 in
theorem zlu (rb : Nat) (ts : List za) (tv : Value) (en : Nat) (w : World) (v : Value) (kv : List Value) (s : PS) (h : Mdr rb ts tv en w v kv s) (hx : ts[s.i]? = none) :
 Calls Tryz.prog 82 #[.pointer (some ⟨rb, 0, none⟩)] w fun e w' => e = .returned (.int .i64 0) /\ ∃ m, w' = w.drewN m := by
 have hi : (ts.length : Int) <= (s.i : Int) := by have := List.getElem?_eq_none_iff.1 hx; omega
 have hs3 : s.i <= 3000 := by have := h.tl; have := h.il; omega
 have hl3 : ts.length <= 3000 := h.tl
 have HR : Hid (Mdr rb ts tv en w v kv s) := h
 have lt := h.lt
 have c0 := h.c0
 have c1 := h.c1
 have c3 := h.c3
 have fz := h.fz
 obtain ⟨ta, tc, rfl⟩ := h.tform
 clear h hx
 generalize s.i = si at *
 go_enter Tryz.func82, Tryz.ntmps82
 go_wp2
 go_quiet (fail)
 go_wp2
 go_ret
 exact ⟨rfl, _, rfl⟩
set_option maxHeartbeats 1000000 in
theorem zlv (rb : Nat) (ts : List za) (tv : Value) (en : Nat) (w : World) (v : Value) (kv : List Value) (s : PS) (h : Mdr rb ts tv en w v kv s) (x : za) (hx : ts[s.i]? = some x) :
 Calls Tryz.prog 82 #[.pointer (some ⟨rb, 0, none⟩)] w fun e w' => e = .returned (.int .i64 x.k) /\ ∃ m, w' = w.drewN m := by
 have hi : (s.i : Int) < (ts.length : Int) := by obtain ⟨hl, _⟩ := List.getElem?_eq_some_iff.1 hx; omega
 have hs3 : s.i <= 3000 := by have := h.tl; have := h.il; omega
 have hl3 : ts.length <= 3000 := h.tl
 have HR : Hid (Mdr rb ts tv en w v kv s) := h
 have lt := h.lt
 have c0 := h.c0
 have c1 := h.c1
 have c3 := h.c3
 have fz := h.fz
 obtain ⟨g, ct, rfl, lg, lgw, hsl, t0, t1, t2, t3⟩ := h.tok hx
 clear h hx t1 t2 t3
 obtain ⟨si, sd, sn⟩ := s
 dsimp only at *
 go_enter Tryz.func82, Tryz.ntmps82
 go_wp2
 go_quiet (fail)
 go_upto_region 3 with fail
 go_quiet (fail)
 go_wp2
 go_ret
 exact ⟨rfl, _, by rw [World.drewN_drewN]⟩
theorem znk (rb : Nat) (ts : List za) (tv : Value) (en : Nat) (w : World) (v : Value) (kv : List Value) (s : PS) (h : Mdr rb ts tv en w v kv s) : Calls Tryz.prog 82 #[.pointer (some ⟨rb, 0, none⟩)] w fun e w' => e = .returned (.int .i64 (kdO ts s)) /\ ∃ m, w' = w.drewN m := by
 cases hx : ts[s.i]? with
 | none =>
   have e : kdO ts s = 0 := by unfold kdO; rw [hx]
   rw [e]
   exact zlu rb ts tv en w v kv s h hx
 | some x =>
   have e : kdO ts s = x.k := by unfold kdO; rw [hx]
   rw [e]
   exact zlv rb ts tv en w v kv s h x hx
theorem Fl.drew {rb : Nat} {w : World} {c a : Int} (h : Fl rb w c a) (n : Nat) : Fl rb (w.drewN n) c a := h.below (below_drewN (Below.refl _ _) _)
set_option maxHeartbeats 1000000 in
theorem zfo (rb : Nat) (w : World) (c a : Int) (h : Fl rb w c a) :
 Calls Tryz.prog 129 #[.pointer (some ⟨rb, 0, none⟩)] w fun e w' => (∃ n, e = .returned (.int .i64 n)) /\ Fl rb w' c a /\ Below w.heap.size w w' := by
 have HR : Hid (Fl rb w c a) := h
 have HB : Hid (Below w.heap.size w w) := Below.refl _ _
 have c3 := h.c3
 have lt := h.lt
 have ne := h.ne
 clear h
 go_enter Tryz.func129, Tryz.ntmps129
 go_wp2_with (go_at_call 33; refine (zgf rb _ c a HR.out _).mono ?_; rintro e w1 ⟨rfl, b1⟩; have HB : Hid (Below w.heap.size w w1) := zg HB.out b1; have HR : Hid (Fl rb w1 c a) := HR.out.below b1; clear b1 c3 lt)
 go_quiet (first | (go_at_call 82; exact Calls.quiet_of (znj rb _ c a (HR.out.drew _))))
 obtain ⟨w2, hw2⟩ : ∃ V, V = w1.drewN nq := ⟨_, rfl⟩
 have HR2 : Hid (Fl rb w2 c a) := by show Fl rb w2 c a; rw [hw2]; exact HR.out.drew _
 have HB2 : Hid (Below w.heap.size w w2) := by show Below _ _ _; rw [hw2]; exact below_drewN HB.out _
 rw [<- hw2]
 clear hw2 HR HB
 go_wp2_with (first | (go_at_call 36; refine (zt rb _ c a HR2.out).mono ?_; rintro e w3 ⟨⟨n3, rfl⟩, F3, b3⟩; have HB : Hid (Below w.heap.size w w3) := zg HB2.out b3; have HR : Hid (Fl rb w3 c a) := F3; clear F3 b3) | (go_at_call 17; refine (zc rb _ c a (HR.out.below ((Below.refl _ _).alloc (Nat.le_refl _) _)) _ _ _ _ _ _).mono ?_; rintro e w4 ⟨rfl, b4⟩; have HB4 : Hid (Below w.heap.size w w4) := zg (zg HB.out ((Below.refl _ _).alloc (Nat.le_refl _) _)) b4; have HR4 : Hid (Fl rb w4 c a) := (HR.out.below ((Below.refl _ _).alloc (Nat.le_refl _) _)).below b4; clear b4))
 go_ret
 exact ⟨⟨_, rfl⟩, HR4.out, HB4.out⟩
theorem Mdr.tokj {rb : Nat} {ts : List za} {tv : Value} {en : Nat} {w : World} {v : Value} {kv : List Value} {s : PS} (h : Mdr rb ts tv en w v kv s) {j : Nat} {x : za} (hx : ts[j]? = some x) : ∃ g c, tv = .slice (some ⟨g, 0, none⟩) ts.length c /\ g < rb /\ g < w.heap.size /\ j < ts.length /\ w.cell? ⟨g, j * 4, none⟩ = some (.int .i64 x.k) /\ w.cell? ⟨g, j * 4 + 1, none⟩ = some (.int .i64 (x.at_ : Int)) /\ w.cell? ⟨g, j * 4 + 2, none⟩ = some (.string x.tx) /\ w.cell? ⟨g, j * 4 + 3, none⟩ = some (.int .i64 x.n) := by
 obtain ⟨hi, he⟩ := List.getElem?_eq_some_iff.1 hx
 have hown : w.ownsRow 0 68 4 tv ts.length (zw ts) := h.tk
 have hl := zct ts
 obtain ⟨t0, t1, t2, t3⟩ := zc0 (X := ts) (j := j) hi
 rw [he] at t0 t1 t2 t3
 obtain ⟨_, ⟨_, h0⟩ | ⟨g, cap, cur, rfl, _⟩⟩ := hown
 · omega
 have lg := h.tlt g rfl
 have c := fun j (hj : j < ts.length * 4) => h.tk.cellAt j hj
 exact ⟨g, cap, rfl, lg, Nat.lt_trans lg h.lt, hi, (c _ (by omega)).trans t0, (c _ (by omega)).trans t1, (c _ (by omega)).trans t2, (c _ (by omega)).trans t3⟩
theorem Mdr.drew {rb : Nat} {ts : List za} {tv : Value} {en : Nat} {w : World} {v : Value} {kv : List Value} {s : PS} (h : Mdr rb ts tv en w v kv s) (n : Nat) : Mdr rb ts tv en (w.drewN n) v kv s := h.below (below_drewN (Below.refl _ _) _)
section
variable {ts : List za} {en : Nat} {r : Rd} {s : PS} {x : za}
theorem zdc (h1 : isN ts ⟨#[91]⟩ s = false) (hq : false = (kdN ts 1 s && isN ts ⟨#[61]⟩ (adv s))) : fdP ts en r s = match r.wh s with
 | .error x => .error x
 | .ok (e, s1) => .ok (zb 23 eT 0 [e] s1) := by
 unfold fdP
 rw [h1, <- hq]
 rfl
theorem zd4 (h1 : isN ts ⟨#[91]⟩ s = false) (hx : ts[s.i]? = some x) (hk : x.k = 1) (h2 : isN ts ⟨#[61]⟩ (adv s) = true) : fdP ts en r s = match r.wh (zb 4 x.tx 0 [] (adv (adv s))).2 with
 | .error x => .error x
 | .ok (e, s2) => .ok (zb 24 eT 0 [(zb 4 x.tx 0 [] (adv (adv s))).1, e] s2) := by
 have hkd : kdN ts 1 s = true := by unfold kdN; rw [hx]; simp [hk]
 have hn : zbf ts en s = .ok (x.tx, adv s) := by unfold zbf; rw [hx]; simp [hk]
 have hw : zaw ts en ⟨#[61]⟩ (zb 4 x.tx 0 [] (adv s)).2 = .ok (adv (zb 4 x.tx 0 [] (adv s)).2) := by
  unfold zaw
  rw [show isN ts ⟨#[61]⟩ (zb 4 x.tx 0 [] (adv s)).2 = true from h2]
  rfl
 unfold fdP
 rw [h1, hkd, h2]
 simp only [Bool.false_eq_true, if_false, Bool.and_self, if_true]
 rw [hn]
 simp only [zv]
 rw [hw]
 rfl
theorem zss {y : za} (hy : ts[(adv s).i]? = some y) (hk : y.k = 5) : isN ts ⟨#[61]⟩ (adv s) = (y.tx.toList == (⟨#[61]⟩ : ByteArray).toList) := by unfold isN isT; rw [hy]; simp [hk]
theorem zst {y : za} (hW : ∀ x ∈ ts, x.k = 2 -> (x.tx.toList == (⟨#[61]⟩ : ByteArray).toList) = false) (hy : ts[(adv s).i]? = some y) (hk : ¬ y.k = 5) : isN ts ⟨#[61]⟩ (adv s) = false := by
 unfold isN isT
 rw [hy]
 by_cases h2 : y.k = 2
 · have := hW y (List.mem_of_getElem? hy) h2
   simp only [this, Bool.and_false]
 · simp [hk, h2]
end
set_option maxHeartbeats 4000000 in
theorem zni {rb : Nat} {ts : List za} {tv : Value} {en : Nat} {r : Rd} {n : Nat} (hr : RM rb ts tv en r n) (hro : zk ts r) (hW : ∀ x ∈ ts, x.k = 2 -> (x.tx.toList == (⟨#[61]⟩ : ByteArray).toList) = false) (w : World) (v : Value) (kv : List Value) (s : PS) (h : Mdr rb ts tv en w v kv s) (hp : s.ns.length <= 8 * s.i) (hf : ts.length < s.i + (n)) :
 Calls Tryz.prog 129 #[.pointer (some ⟨rb, 0, none⟩)] w (RmE rb ts tv en w v kv (fdP ts en r s)) := by
 have HS0 : Hid (Sm rb ts tv en w v kv w v [] s) := Sm.begin h
 have hT : ts.length <= 3000 := h.tl
 have hI : s.i <= ts.length := h.il
 clear h
 have lt := HS0.out.rd.lt
 have c1 := HS0.out.rd.c1
 have c3 := HS0.out.rd.c3
 have fz := HS0.out.rd.fz
 have wi := HS0.out.wri
 have c5 := HS0.out.rd.c5
 have wd := HS0.out.wrd
 go_enter Tryz.func129, Tryz.ntmps129
 cases e1 : isN ts ⟨#[91]⟩ s
 · skip
   go_wp2_with (go_at_call 33; refine (HS0.out.is ⟨#[91]⟩ false e1).mono ?_; rintro e w1 ⟨rfl, h1⟩; have HS1 : Hid (Sm rb ts tv en w v kv _ _ _ s) := h1; clear h1 HS0 lt c1 c3 c5 fz wi wd; have lt := HS1.out.rd.lt; have c1 := HS1.out.rd.c1; have c3 := HS1.out.rd.c3; have fz := HS1.out.rd.fz; have wi := HS1.out.wri; have c5 := HS1.out.rd.c5; have wd := HS1.out.wrd)
   obtain ⟨q, hq⟩ : ∃ q, q = (kdN ts 1 s && isN ts ⟨#[61]⟩ (adv s)) := ⟨_, rfl⟩
   have HQ : Hid (q = (kdN ts 1 s && isN ts ⟨#[61]⟩ (adv s))) := hq
   have HR : Hid (Mdr rb ts tv en w1 v (kv ++ []) s) := HS1.out.rd
   clear c5 wd
   go_upto_region 8 with fail
   go_cut [77] from 32 to 76 (fun s77 wc => s77 = .bool q /\ Hid (∃ m, wc = w1.drewN m))
   case first =>
    have c0 := HR.out.c0
    obtain ⟨kd, hkd⟩ : ∃ k, k = kdO ts s := ⟨_, rfl⟩
    have HKq : Hid (∀ n, Calls Tryz.prog 82 #[.pointer (some ⟨rb, 0, none⟩)] (w1.drewN n) fun e w' => e = .returned (.int .i64 kd) /\ ∃ m, w' = (w1.drewN n).drewN m) := by intro n; rw [hkd]; exact znk rb ts _ en _ _ _ s (HR.out.drew _)
    by_cases k1 : kd = 1
    · have hK : kdN ts 1 s = true := by unfold kdN; unfold kdO at hkd; cases hx : ts[s.i]? with | none => rw [hx] at hkd; simp at hkd; omega | some x => rw [hx] at hkd; simp at hkd; simp [<- hkd, k1]
      subst k1
      have wj : IntKind.i64.wrap ((s.i : Int) + 1) = ((s.i + 1 : Nat) : Int) := wr1 (by omega)
      rw [hK, Bool.true_and] at hq
      obtain ⟨j, hj⟩ : ∃ j, j = s.i + 1 := ⟨_, rfl⟩
      rw [<- hj] at wj
      have HJ : Hid (j = s.i + 1) := hj
      cases hy : ts[(adv s).i]? with
      | none =>
        have hq0 : q = false := by rw [hq]; exact ze9 hy _
        have hl : decide (j < ts.length) = false := by have := List.getElem?_eq_none_iff.1 hy; have e : (adv s).i = s.i + 1 := rfl; exact decide_eq_false (by omega)
        obtain ⟨ta, tc, htv⟩ := HR.out.tform
        subst htv
        clear hq hj hy wi
        have HKD : Hid (1 = kdO ts s) := hkd
        clear hkd
        generalize s.i = si at c1 wj
        go_quiet (first | (go_at_call 82; exact Calls.quiet_of (HKq.out _)))
        go_wp2_with fail
        go_meet
        exact ⟨by rw [hq0], _, rfl⟩
      | some y =>
        obtain ⟨g, ct, htv, lg, lgw, hsl, t0, t1, t2, t3⟩ := HR.out.tokj hy
        have hjl : (j : Int) < (ts.length : Int) := by have e : (adv s).i = s.i + 1 := rfl; omega
        rw [show (adv s).i = j from hj.symm] at t0 t1 t2 t3
        subst htv
        have HKD : Hid (1 = kdO ts s) := hkd
        clear hkd hj wi hsl t1 t3
        by_cases y5 : y.k = 5
        · have hq1 : q = (y.tx.toList == (⟨#[61]⟩ : ByteArray).toList) := by rw [hq]; exact zss hy y5
          rw [y5] at t0
          clear hq hy y5
          generalize s.i = si at c1 wj
          go_quiet (first | (go_at_call 82; exact Calls.quiet_of (HKq.out _)))
          go_wp2_with fail
          go_meet
          exact ⟨by rw [hq1]; simp [ByteArray.toList_eq], _, rfl⟩
        · have hq0 : q = false := by rw [hq]; exact zst hW hy y5
          have d5 : (y.k == 5) = false := by simp [y5]
          clear hq hy y5
          generalize s.i = si at c1 wj
          generalize y.k = yk at t0 d5
          go_quiet (first | (go_at_call 82; exact Calls.quiet_of (HKq.out _)))
          go_wp2_with fail
          go_meet
          exact ⟨by rw [hq0], _, rfl⟩
    · have hK : kdN ts 1 s = false := by unfold kdN; unfold kdO at hkd; cases hx : ts[s.i]? with | none => rfl | some x => rw [hx] at hkd; simp at hkd; simp [<- hkd, k1]
      have hq0 : q = false := by rw [hq, hK]; rfl
      have d1 : (kd == 1) = false := by simp [k1]
      have HKD : Hid (kd = kdO ts s) := hkd
      obtain ⟨ta, tc, htv⟩ := HR.out.tform
      subst htv
      clear hq hkd k1 wi
      generalize s.i = si at c1
      go_quiet (first | (go_at_call 82; exact Calls.quiet_of (HKq.out _)))
      go_wp2_with fail
      go_meet
      exact ⟨by rw [hq0], _, rfl⟩
   case rest =>
   rename World => w2
   obtain ⟨rfl, hm⟩ := hcut
   have HS2 : Hid (Sm rb ts tv en w v kv w2 v [] s) := by obtain ⟨m, rfl⟩ := hm; exact HS1.out.below (below_drewN (Below.refl _ _) _)
   clear hm HR HS1 lt c1 c3 fz wi hq
   have lt := HS2.out.rd.lt
   have c1 := HS2.out.rd.c1
   have c3 := HS2.out.rd.c3
   have fz := HS2.out.rd.fz
   have wi := HS2.out.wri
   have c5 := HS2.out.rd.c5
   have wd := HS2.out.wrd
   cases q with
   | false =>
     rcases e3 : r.wh s with ⟨x3⟩ | ⟨a3, s3⟩
     · skip
       go_wp2_with (go_at_call 36; refine (HS2.out.no (hr.wh _ _ _ _ HS2.out.rd hp (by omega)) e3).mono ?_; rintro e w3 ⟨⟨n3, rfl⟩, F3, b3⟩; clear lt c1 c3 c5 fz wi wd; have HR : Hid (Fl rb w3 _ _) := F3; have HB : Hid (Rf rb w v w3) := b3; have c3 := HR.out.c3; have lt := HR.out.lt; have ne := HR.out.ne; obtain ⟨dd, c5⟩ := HR.out.c5; have fz := HR.out.fz; clear F3 b3 HS2)
       try go_wp2_with (first | (go_at_call 17; refine (zc rb _ _ _ (HR.out.below ((Below.refl _ _).alloc (Nat.le_refl _) _)) _ _ _ _ _ _).mono ?_; rintro e wf ⟨rfl, bf⟩; have HB : Hid (Rf rb w v wf) := (HB.out.next ((Below.refl _ _).alloc (Nat.le_refl _) _)).next bf; have HR : Hid (Fl rb wf _ _) := (HR.out.below ((Below.refl _ _).alloc (Nat.le_refl _) _)).below bf; have c3 := HR.out.c3; have lt := HR.out.lt; clear bf) | (go_at_call 35; refine (zm rb _ _ _ HR.out _).mono ?_; rintro e wf ⟨rfl, -, bf⟩; have HB : Hid (Rf rb w v wf) := HB.out.next bf; have HR : Hid (Fl rb wf _ _) := HR.out.below bf; have c3 := HR.out.c3; have lt := HR.out.lt; clear bf) | (go_at_call 17; refine (zc rb _ _ _ HR.out _ _ _ _ _ _).mono ?_; rintro e wf ⟨rfl, bf⟩; have HB : Hid (Rf rb w v wf) := HB.out.next bf; have HR : Hid (Fl rb wf _ _) := HR.out.below bf; have c3 := HR.out.c3; have lt := HR.out.lt; clear bf) | (go_at_call 36; refine (zt rb _ _ _ HR.out).mono ?_; rintro e wf ⟨⟨nf, rfl⟩, -, bf⟩; have HB : Hid (Rf rb w v wf) := HB.out.next bf; have HR : Hid (Fl rb wf _ _) := HR.out.below bf; have c3 := HR.out.c3; have lt := HR.out.lt; clear bf) | (go_at_call 37; refine (zo rb _ _ _ HR.out).mono ?_; rintro e wf ⟨⟨nf, rfl⟩, -, bf⟩; have HB : Hid (Rf rb w v wf) := HB.out.next bf; have HR : Hid (Fl rb wf _ _) := HR.out.below bf; have c3 := HR.out.c3; have lt := HR.out.lt; clear bf))
       go_ret
       exact RmE.no HR.out HB.out (by first | (simp only [zdc e1 HQ.out, e3, ↓reduceIte, Bool.false_eq_true, if_true, if_false, Bool.and_true, Bool.true_and, and_true, and_false, true_and, false_and]; done) | (simp only [zdc e1 HQ.out, e3, ↓reduceIte, Bool.false_eq_true, if_true, if_false, Bool.and_true, Bool.true_and, and_true, and_false, true_and, false_and]; rfl) | (simp [zdc e1 HQ.out, e3]; done) | (simp [zdc e1 HQ.out, e3]; rfl))
     · skip
       have o3 := hro.wh e3
       have p3 : s3.ns.length <= 8 * s3.i := by have := o3.1.phi hp; omega
       have i3 := o3.1.1
       have t3 := o3.1.2.1
       go_wp2_with (go_at_call 36; refine (HS2.out.yes (hr.wh _ _ _ _ HS2.out.rd hp (by omega)) e3).mono ?_; rintro e w3 ⟨rfl, v3, K3, h3⟩; have HS3 : Hid (Sm rb ts tv en w v kv _ _ _ s3) := h3; clear h3 HS2 lt c1 c3 c5 fz wi wd; have lt := HS3.out.rd.lt; have c1 := HS3.out.rd.c1; have c3 := HS3.out.rd.c3; have fz := HS3.out.rd.fz; have wi := HS3.out.wri; have c5 := HS3.out.rd.c5; have wd := HS3.out.wrd)
       go_wp2_with (go_at_call 17; refine (HS3.out.nodeN [a3] 23 eT 0 (by simp) (by have := HS3.out.rd.il; omega) _ _ _ (by simp) rfl rfl).mono ?_; rintro e w4 ⟨rfl, v4, K4, h4⟩; have HS4 : Hid (Sm rb ts tv en w v kv _ _ _ (zb 23 eT 0 [a3] s3).2) := h4; clear h4 HS3 lt c1 c3 c5 fz wi wd; have lt := HS4.out.rd.lt; have c1 := HS4.out.rd.c1; have c3 := HS4.out.rd.c3; have fz := HS4.out.rd.fz; have wi := HS4.out.wri; have c5 := True.intro; have wd := True.intro; (try dsimp only at c1 wi))
       go_ret
       exact RmE.yes HS4.out (by first | (simp only [zdc e1 HQ.out, e3, ↓reduceIte, Bool.false_eq_true, if_true, if_false, Bool.and_true, Bool.true_and, and_true, and_false, true_and, false_and]; done) | (simp only [zdc e1 HQ.out, e3, ↓reduceIte, Bool.false_eq_true, if_true, if_false, Bool.and_true, Bool.true_and, and_true, and_false, true_and, false_and]; rfl) | (simp [zdc e1 HQ.out, e3]; done) | (simp [zdc e1 HQ.out, e3]; rfl))
   | true =>
     have hqq := HQ.out
     rw [eq_comm, Bool.and_eq_true] at hqq
     obtain ⟨hk1, h2⟩ := hqq
     obtain ⟨x3, hx3, hk3⟩ : ∃ x, ts[s.i]? = some x /\ x.k = 1 := by unfold kdN at hk1; cases hx : ts[s.i]? with | none => rw [hx] at hk1; cases hk1 | some x => rw [hx] at hk1; exact ⟨x, rfl, by simpa using hk1⟩
     obtain ⟨xo, hxo, hlo⟩ := zah h2
     have i3 : (adv s).i = s.i + 1 := rfl
     have p3 : (adv s).ns.length <= 8 * (adv s).i := Nat.le_trans hp (Nat.mul_le_mul_left 8 (Nat.le_succ _))
     go_wp2_with (go_at_call 34; refine (HS2.out.name_yes x3 hx3 hk3).mono ?_; rintro e w3 ⟨rfl, h3⟩; have HS3 : Hid (Sm rb ts tv en w v kv _ _ _ (adv s)) := h3; clear h3 HS2 lt c1 c3 c5 fz wi wd; have lt := HS3.out.rd.lt; have c1 := HS3.out.rd.c1; have c3 := HS3.out.rd.c3; have fz := HS3.out.rd.fz; have wi := HS3.out.wri; have c5 := True.intro; have wd := True.intro; (try dsimp only at c1 wi))
     have HS4 : Hid (Sm rb ts tv en w v kv _ _ _ (adv (adv s))) := HS3.out.adv hlo
     have p4 : ((adv (adv s))).ns.length <= 8 * ((adv (adv s))).i := Nat.le_trans p3 (Nat.mul_le_mul_left 8 (Nat.le_succ _))
     have i4 : ((adv (adv s))).i = ((adv s)).i + 1 := rfl
     have hnn : (adv (adv s)).ns.length <= 8 * s.i := hp
     go_wp2_with (go_at_call 17; refine (HS4.out.node0 4 x3.tx 0 (by have := HS4.out.rd.il; omega)).mono ?_; rintro e w5 ⟨rfl, v5, K5, h5⟩; have HS5 : Hid (Sm rb ts tv en w v kv _ _ _ (zb 4 x3.tx 0 [] (adv (adv s))).2) := h5; clear h5 HS4 lt c1 c3 c5 fz wi wd HS3; have lt := HS5.out.rd.lt; have c1 := HS5.out.rd.c1; have c3 := HS5.out.rd.c3; have fz := HS5.out.rd.fz; have wi := HS5.out.wri; have c5 := True.intro; have wd := True.intro; (try dsimp only at c1 wi))
     have pk : (zb 4 x3.tx 0 [] (adv (adv s))).2.ns.length <= 8 * (zb 4 x3.tx 0 [] (adv (adv s))).2.i := by show ((adv (adv s)).ns ++ [_]).length <= 8 * (s.i + 1 + 1); simp; omega
     have ik : (zb 4 x3.tx 0 [] (adv (adv s))).2.i = s.i + 1 + 1 := rfl
     rcases e6 : r.wh (zb 4 x3.tx 0 [] (adv (adv s))).2 with ⟨x6⟩ | ⟨a6, s6⟩
     · skip
       go_wp2_with (go_at_call 36; refine (HS5.out.no (hr.wh _ _ _ _ HS5.out.rd pk (by omega)) e6).mono ?_; rintro e w6 ⟨⟨n6, rfl⟩, F6, b6⟩; clear lt c1 c3 c5 fz wi wd; have HR : Hid (Fl rb w6 _ _) := F6; have HB : Hid (Rf rb w v w6) := b6; have c3 := HR.out.c3; have lt := HR.out.lt; have ne := HR.out.ne; obtain ⟨dd, c5⟩ := HR.out.c5; have fz := HR.out.fz; clear F6 b6 HS5)
       try go_wp2_with (first | (go_at_call 17; refine (zc rb _ _ _ (HR.out.below ((Below.refl _ _).alloc (Nat.le_refl _) _)) _ _ _ _ _ _).mono ?_; rintro e wf ⟨rfl, bf⟩; have HB : Hid (Rf rb w v wf) := (HB.out.next ((Below.refl _ _).alloc (Nat.le_refl _) _)).next bf; have HR : Hid (Fl rb wf _ _) := (HR.out.below ((Below.refl _ _).alloc (Nat.le_refl _) _)).below bf; have c3 := HR.out.c3; have lt := HR.out.lt; clear bf) | (go_at_call 35; refine (zm rb _ _ _ HR.out _).mono ?_; rintro e wf ⟨rfl, -, bf⟩; have HB : Hid (Rf rb w v wf) := HB.out.next bf; have HR : Hid (Fl rb wf _ _) := HR.out.below bf; have c3 := HR.out.c3; have lt := HR.out.lt; clear bf) | (go_at_call 17; refine (zc rb _ _ _ HR.out _ _ _ _ _ _).mono ?_; rintro e wf ⟨rfl, bf⟩; have HB : Hid (Rf rb w v wf) := HB.out.next bf; have HR : Hid (Fl rb wf _ _) := HR.out.below bf; have c3 := HR.out.c3; have lt := HR.out.lt; clear bf) | (go_at_call 36; refine (zt rb _ _ _ HR.out).mono ?_; rintro e wf ⟨⟨nf, rfl⟩, -, bf⟩; have HB : Hid (Rf rb w v wf) := HB.out.next bf; have HR : Hid (Fl rb wf _ _) := HR.out.below bf; have c3 := HR.out.c3; have lt := HR.out.lt; clear bf) | (go_at_call 37; refine (zo rb _ _ _ HR.out).mono ?_; rintro e wf ⟨⟨nf, rfl⟩, -, bf⟩; have HB : Hid (Rf rb w v wf) := HB.out.next bf; have HR : Hid (Fl rb wf _ _) := HR.out.below bf; have c3 := HR.out.c3; have lt := HR.out.lt; clear bf))
       go_ret
       exact RmE.no HR.out HB.out (by first | (simp only [zd4 e1 hx3 hk3 h2, e6, ↓reduceIte, Bool.false_eq_true, if_true, if_false, Bool.and_true, Bool.true_and, and_true, and_false, true_and, false_and]; done) | (simp only [zd4 e1 hx3 hk3 h2, e6, ↓reduceIte, Bool.false_eq_true, if_true, if_false, Bool.and_true, Bool.true_and, and_true, and_false, true_and, false_and]; rfl) | (simp [zd4 e1 hx3 hk3 h2, e6]; done) | (simp [zd4 e1 hx3 hk3 h2, e6]; rfl))
     · skip
       have o6 := hro.wh e6
       have p6 : s6.ns.length <= 8 * s6.i := by have := o6.1.phi pk; omega
       have i6 := o6.1.1
       have t6 := o6.1.2.1
       go_wp2_with (go_at_call 36; refine (HS5.out.yes (hr.wh _ _ _ _ HS5.out.rd pk (by omega)) e6).mono ?_; rintro e w6 ⟨rfl, v6, K6, h6⟩; have HS6 : Hid (Sm rb ts tv en w v kv _ _ _ s6) := h6; clear h6 HS5 lt c1 c3 c5 fz wi wd; have lt := HS6.out.rd.lt; have c1 := HS6.out.rd.c1; have c3 := HS6.out.rd.c3; have fz := HS6.out.rd.fz; have wi := HS6.out.wri; have c5 := HS6.out.rd.c5; have wd := HS6.out.wrd)
       go_wp2_with (go_at_call 17; refine (HS6.out.nodeN [(zb 4 x3.tx 0 [] (adv (adv s))).1, a6] 24 eT 0 (by simp) (by have := HS6.out.rd.il; omega) _ _ _ (by simp) rfl rfl).mono ?_; rintro e w7 ⟨rfl, v7, K7, h7⟩; have HS7 : Hid (Sm rb ts tv en w v kv _ _ _ (zb 24 eT 0 [(zb 4 x3.tx 0 [] (adv (adv s))).1, a6] s6).2) := h7; clear h7 HS6 lt c1 c3 c5 fz wi wd; have lt := HS7.out.rd.lt; have c1 := HS7.out.rd.c1; have c3 := HS7.out.rd.c3; have fz := HS7.out.rd.fz; have wi := HS7.out.wri; have c5 := True.intro; have wd := True.intro; (try dsimp only at c1 wi))
       go_ret
       exact RmE.yes HS7.out (by first | (simp only [zd4 e1 hx3 hk3 h2, e6, ↓reduceIte, Bool.false_eq_true, if_true, if_false, Bool.and_true, Bool.true_and, and_true, and_false, true_and, false_and]; done) | (simp only [zd4 e1 hx3 hk3 h2, e6, ↓reduceIte, Bool.false_eq_true, if_true, if_false, Bool.and_true, Bool.true_and, and_true, and_false, true_and, false_and]; rfl) | (simp [zd4 e1 hx3 hk3 h2, e6]; done) | (simp [zd4 e1 hx3 hk3 h2, e6]; rfl))
 · skip
   go_wp2_with (go_at_call 33; refine (HS0.out.is ⟨#[91]⟩ true e1).mono ?_; rintro e w1 ⟨rfl, h1⟩; have HS1 : Hid (Sm rb ts tv en w v kv _ _ _ s) := h1; clear h1 HS0 lt c1 c3 c5 fz wi wd; have lt := HS1.out.rd.lt; have c1 := HS1.out.rd.c1; have c3 := HS1.out.rd.c3; have fz := HS1.out.rd.fz; have wi := HS1.out.wri; have c5 := HS1.out.rd.c5; have wd := HS1.out.wrd)
   obtain ⟨xo, hxo, hlo⟩ := zah e1
   have HS2 : Hid (Sm rb ts tv en w v kv _ _ _ (adv s)) := HS1.out.adv hlo
   have p2 : ((adv s)).ns.length <= 8 * ((adv s)).i := Nat.le_trans hp (Nat.mul_le_mul_left 8 (Nat.le_succ _))
   have i2 : ((adv s)).i = (s).i + 1 := rfl
   rcases e3 : r.wh (adv s) with ⟨x3⟩ | ⟨a3, s3⟩
   · skip
     go_wp2_with (go_at_call 36; refine (HS2.out.no (hr.wh _ _ _ _ HS2.out.rd p2 (by omega)) e3).mono ?_; rintro e w3 ⟨⟨n3, rfl⟩, F3, b3⟩; clear lt c1 c3 c5 fz wi wd HS1; have HR : Hid (Fl rb w3 _ _) := F3; have HB : Hid (Rf rb w v w3) := b3; have c3 := HR.out.c3; have lt := HR.out.lt; have ne := HR.out.ne; obtain ⟨dd, c5⟩ := HR.out.c5; have fz := HR.out.fz; clear F3 b3 HS2)
     try go_wp2_with (first | (go_at_call 17; refine (zc rb _ _ _ (HR.out.below ((Below.refl _ _).alloc (Nat.le_refl _) _)) _ _ _ _ _ _).mono ?_; rintro e wf ⟨rfl, bf⟩; have HB : Hid (Rf rb w v wf) := (HB.out.next ((Below.refl _ _).alloc (Nat.le_refl _) _)).next bf; have HR : Hid (Fl rb wf _ _) := (HR.out.below ((Below.refl _ _).alloc (Nat.le_refl _) _)).below bf; have c3 := HR.out.c3; have lt := HR.out.lt; clear bf) | (go_at_call 35; refine (zm rb _ _ _ HR.out _).mono ?_; rintro e wf ⟨rfl, -, bf⟩; have HB : Hid (Rf rb w v wf) := HB.out.next bf; have HR : Hid (Fl rb wf _ _) := HR.out.below bf; have c3 := HR.out.c3; have lt := HR.out.lt; clear bf) | (go_at_call 17; refine (zc rb _ _ _ HR.out _ _ _ _ _ _).mono ?_; rintro e wf ⟨rfl, bf⟩; have HB : Hid (Rf rb w v wf) := HB.out.next bf; have HR : Hid (Fl rb wf _ _) := HR.out.below bf; have c3 := HR.out.c3; have lt := HR.out.lt; clear bf) | (go_at_call 36; refine (zt rb _ _ _ HR.out).mono ?_; rintro e wf ⟨⟨nf, rfl⟩, -, bf⟩; have HB : Hid (Rf rb w v wf) := HB.out.next bf; have HR : Hid (Fl rb wf _ _) := HR.out.below bf; have c3 := HR.out.c3; have lt := HR.out.lt; clear bf) | (go_at_call 37; refine (zo rb _ _ _ HR.out).mono ?_; rintro e wf ⟨⟨nf, rfl⟩, -, bf⟩; have HB : Hid (Rf rb w v wf) := HB.out.next bf; have HR : Hid (Fl rb wf _ _) := HR.out.below bf; have c3 := HR.out.c3; have lt := HR.out.lt; clear bf))
     go_ret
     exact RmE.no HR.out HB.out (by first | (simp only [fdP, zv, e1, e3, ↓reduceIte, Bool.false_eq_true, if_true, if_false, Bool.and_true, Bool.true_and, and_true, and_false, true_and, false_and]; done) | (simp only [fdP, zv, e1, e3, ↓reduceIte, Bool.false_eq_true, if_true, if_false, Bool.and_true, Bool.true_and, and_true, and_false, true_and, false_and]; rfl) | (simp [fdP, zv, e1, e3]; done) | (simp [fdP, zv, e1, e3]; rfl))
   · skip
     have o3 := hro.wh e3
     have p3 : s3.ns.length <= 8 * s3.i := by have := o3.1.phi p2; omega
     have i3 := o3.1.1
     have t3 := o3.1.2.1
     go_wp2_with (go_at_call 36; refine (HS2.out.yes (hr.wh _ _ _ _ HS2.out.rd p2 (by omega)) e3).mono ?_; rintro e w3 ⟨rfl, v3, K3, h3⟩; have HS3 : Hid (Sm rb ts tv en w v kv _ _ _ s3) := h3; clear h3 HS2 lt c1 c3 c5 fz wi wd HS1; have lt := HS3.out.rd.lt; have c1 := HS3.out.rd.c1; have c3 := HS3.out.rd.c3; have fz := HS3.out.rd.fz; have wi := HS3.out.wri; have c5 := HS3.out.rd.c5; have wd := HS3.out.wrd)
     rcases zac ts en ⟨#[93]⟩ s3 with ⟨q4, e4⟩ | ⟨q4, e4⟩
     · skip
       have p4 : ((adv s3)).ns.length <= 8 * ((adv s3)).i := Nat.le_trans p3 (Nat.mul_le_mul_left 8 (Nat.le_succ _))
       have i4 : ((adv s3)).i = (s3).i + 1 := rfl
       go_wp2_with (go_at_call 35; refine (HS3.out.want_yes ⟨#[93]⟩ q4).mono ?_; rintro e w4 ⟨rfl, h4⟩; have HS4 : Hid (Sm rb ts tv en w v kv _ _ _ (adv s3)) := h4; clear h4 HS3 lt c1 c3 c5 fz wi wd; have lt := HS4.out.rd.lt; have c1 := HS4.out.rd.c1; have c3 := HS4.out.rd.c3; have fz := HS4.out.rd.fz; have wi := HS4.out.wri; have c5 := True.intro; have wd := True.intro; (try dsimp only at c1 wi))
       rcases zac ts en ⟨#[61]⟩ (adv s3) with ⟨q5, e5⟩ | ⟨q5, e5⟩
       · skip
         have p5 : ((adv (adv s3))).ns.length <= 8 * ((adv (adv s3))).i := Nat.le_trans p4 (Nat.mul_le_mul_left 8 (Nat.le_succ _))
         have i5 : ((adv (adv s3))).i = ((adv s3)).i + 1 := rfl
         go_wp2_with (go_at_call 35; refine (HS4.out.want_yes ⟨#[61]⟩ q5).mono ?_; rintro e w5 ⟨rfl, h5⟩; have HS5 : Hid (Sm rb ts tv en w v kv _ _ _ (adv (adv s3))) := h5; clear h5 HS4 lt c1 c3 c5 fz wi wd; have lt := HS5.out.rd.lt; have c1 := HS5.out.rd.c1; have c3 := HS5.out.rd.c3; have fz := HS5.out.rd.fz; have wi := HS5.out.wri; have c5 := True.intro; have wd := True.intro; (try dsimp only at c1 wi))
         rcases e6 : r.wh (adv (adv s3)) with ⟨x6⟩ | ⟨a6, s6⟩
         · skip
           go_wp2_with (go_at_call 36; refine (HS5.out.no (hr.wh _ _ _ _ HS5.out.rd p5 (by omega)) e6).mono ?_; rintro e w6 ⟨⟨n6, rfl⟩, F6, b6⟩; clear lt c1 c3 c5 fz wi wd; have HR : Hid (Fl rb w6 _ _) := F6; have HB : Hid (Rf rb w v w6) := b6; have c3 := HR.out.c3; have lt := HR.out.lt; have ne := HR.out.ne; obtain ⟨dd, c5⟩ := HR.out.c5; have fz := HR.out.fz; clear F6 b6 HS5)
           try go_wp2_with (first | (go_at_call 17; refine (zc rb _ _ _ (HR.out.below ((Below.refl _ _).alloc (Nat.le_refl _) _)) _ _ _ _ _ _).mono ?_; rintro e wf ⟨rfl, bf⟩; have HB : Hid (Rf rb w v wf) := (HB.out.next ((Below.refl _ _).alloc (Nat.le_refl _) _)).next bf; have HR : Hid (Fl rb wf _ _) := (HR.out.below ((Below.refl _ _).alloc (Nat.le_refl _) _)).below bf; have c3 := HR.out.c3; have lt := HR.out.lt; clear bf) | (go_at_call 35; refine (zm rb _ _ _ HR.out _).mono ?_; rintro e wf ⟨rfl, -, bf⟩; have HB : Hid (Rf rb w v wf) := HB.out.next bf; have HR : Hid (Fl rb wf _ _) := HR.out.below bf; have c3 := HR.out.c3; have lt := HR.out.lt; clear bf) | (go_at_call 17; refine (zc rb _ _ _ HR.out _ _ _ _ _ _).mono ?_; rintro e wf ⟨rfl, bf⟩; have HB : Hid (Rf rb w v wf) := HB.out.next bf; have HR : Hid (Fl rb wf _ _) := HR.out.below bf; have c3 := HR.out.c3; have lt := HR.out.lt; clear bf) | (go_at_call 36; refine (zt rb _ _ _ HR.out).mono ?_; rintro e wf ⟨⟨nf, rfl⟩, -, bf⟩; have HB : Hid (Rf rb w v wf) := HB.out.next bf; have HR : Hid (Fl rb wf _ _) := HR.out.below bf; have c3 := HR.out.c3; have lt := HR.out.lt; clear bf) | (go_at_call 37; refine (zo rb _ _ _ HR.out).mono ?_; rintro e wf ⟨⟨nf, rfl⟩, -, bf⟩; have HB : Hid (Rf rb w v wf) := HB.out.next bf; have HR : Hid (Fl rb wf _ _) := HR.out.below bf; have c3 := HR.out.c3; have lt := HR.out.lt; clear bf))
           go_ret
           exact RmE.no HR.out HB.out (by first | (simp only [fdP, zv, e1, e3, e4, e5, e6, ↓reduceIte, Bool.false_eq_true, if_true, if_false, Bool.and_true, Bool.true_and, and_true, and_false, true_and, false_and]; done) | (simp only [fdP, zv, e1, e3, e4, e5, e6, ↓reduceIte, Bool.false_eq_true, if_true, if_false, Bool.and_true, Bool.true_and, and_true, and_false, true_and, false_and]; rfl) | (simp [fdP, zv, e1, e3, e4, e5, e6]; done) | (simp [fdP, zv, e1, e3, e4, e5, e6]; rfl))
         · skip
           have o6 := hro.wh e6
           have p6 : s6.ns.length <= 8 * s6.i := by have := o6.1.phi p5; omega
           have i6 := o6.1.1
           have t6 := o6.1.2.1
           go_wp2_with (go_at_call 36; refine (HS5.out.yes (hr.wh _ _ _ _ HS5.out.rd p5 (by omega)) e6).mono ?_; rintro e w6 ⟨rfl, v6, K6, h6⟩; have HS6 : Hid (Sm rb ts tv en w v kv _ _ _ s6) := h6; clear h6 HS5 lt c1 c3 c5 fz wi wd; have lt := HS6.out.rd.lt; have c1 := HS6.out.rd.c1; have c3 := HS6.out.rd.c3; have fz := HS6.out.rd.fz; have wi := HS6.out.wri; have c5 := HS6.out.rd.c5; have wd := HS6.out.wrd)
           go_wp2_with (go_at_call 17; refine (HS6.out.nodeN [a3, a6] 24 eT 0 (by simp) (by have := HS6.out.rd.il; omega) _ _ _ (by simp) rfl rfl).mono ?_; rintro e w7 ⟨rfl, v7, K7, h7⟩; have HS7 : Hid (Sm rb ts tv en w v kv _ _ _ (zb 24 eT 0 [a3, a6] s6).2) := h7; clear h7 HS6 lt c1 c3 c5 fz wi wd; have lt := HS7.out.rd.lt; have c1 := HS7.out.rd.c1; have c3 := HS7.out.rd.c3; have fz := HS7.out.rd.fz; have wi := HS7.out.wri; have c5 := True.intro; have wd := True.intro; (try dsimp only at c1 wi))
           go_ret
           exact RmE.yes HS7.out (by first | (simp only [fdP, zv, e1, e3, e4, e5, e6, ↓reduceIte, Bool.false_eq_true, if_true, if_false, Bool.and_true, Bool.true_and, and_true, and_false, true_and, false_and]; done) | (simp only [fdP, zv, e1, e3, e4, e5, e6, ↓reduceIte, Bool.false_eq_true, if_true, if_false, Bool.and_true, Bool.true_and, and_true, and_false, true_and, false_and]; rfl) | (simp [fdP, zv, e1, e3, e4, e5, e6]; done) | (simp [fdP, zv, e1, e3, e4, e5, e6]; rfl))
       · skip
         go_wp2_with (go_at_call 35; refine (HS4.out.want_no ⟨#[61]⟩ q5).mono ?_; rintro e w5 ⟨rfl, F5, b5⟩; clear lt c1 c3 c5 fz wi wd; have HR : Hid (Fl rb w5 _ _) := F5; have HB : Hid (Rf rb w v w5) := b5; have c3 := HR.out.c3; have lt := HR.out.lt; have ne := HR.out.ne; obtain ⟨dd, c5⟩ := HR.out.c5; have fz := HR.out.fz; clear F5 b5 HS4)
         try go_wp2_with (first | (go_at_call 17; refine (zc rb _ _ _ (HR.out.below ((Below.refl _ _).alloc (Nat.le_refl _) _)) _ _ _ _ _ _).mono ?_; rintro e wf ⟨rfl, bf⟩; have HB : Hid (Rf rb w v wf) := (HB.out.next ((Below.refl _ _).alloc (Nat.le_refl _) _)).next bf; have HR : Hid (Fl rb wf _ _) := (HR.out.below ((Below.refl _ _).alloc (Nat.le_refl _) _)).below bf; have c3 := HR.out.c3; have lt := HR.out.lt; clear bf) | (go_at_call 35; refine (zm rb _ _ _ HR.out _).mono ?_; rintro e wf ⟨rfl, -, bf⟩; have HB : Hid (Rf rb w v wf) := HB.out.next bf; have HR : Hid (Fl rb wf _ _) := HR.out.below bf; have c3 := HR.out.c3; have lt := HR.out.lt; clear bf) | (go_at_call 17; refine (zc rb _ _ _ HR.out _ _ _ _ _ _).mono ?_; rintro e wf ⟨rfl, bf⟩; have HB : Hid (Rf rb w v wf) := HB.out.next bf; have HR : Hid (Fl rb wf _ _) := HR.out.below bf; have c3 := HR.out.c3; have lt := HR.out.lt; clear bf) | (go_at_call 36; refine (zt rb _ _ _ HR.out).mono ?_; rintro e wf ⟨⟨nf, rfl⟩, -, bf⟩; have HB : Hid (Rf rb w v wf) := HB.out.next bf; have HR : Hid (Fl rb wf _ _) := HR.out.below bf; have c3 := HR.out.c3; have lt := HR.out.lt; clear bf) | (go_at_call 37; refine (zo rb _ _ _ HR.out).mono ?_; rintro e wf ⟨⟨nf, rfl⟩, -, bf⟩; have HB : Hid (Rf rb w v wf) := HB.out.next bf; have HR : Hid (Fl rb wf _ _) := HR.out.below bf; have c3 := HR.out.c3; have lt := HR.out.lt; clear bf))
         go_ret
         exact RmE.no HR.out HB.out (by first | (simp only [fdP, zv, e1, e3, e4, e5, ↓reduceIte, Bool.false_eq_true, if_true, if_false, Bool.and_true, Bool.true_and, and_true, and_false, true_and, false_and]; done) | (simp only [fdP, zv, e1, e3, e4, e5, ↓reduceIte, Bool.false_eq_true, if_true, if_false, Bool.and_true, Bool.true_and, and_true, and_false, true_and, false_and]; rfl) | (simp [fdP, zv, e1, e3, e4, e5]; done) | (simp [fdP, zv, e1, e3, e4, e5]; rfl))
     · skip
       go_wp2_with (go_at_call 35; refine (HS3.out.want_no ⟨#[93]⟩ q4).mono ?_; rintro e w4 ⟨rfl, F4, b4⟩; clear lt c1 c3 c5 fz wi wd; have HR : Hid (Fl rb w4 _ _) := F4; have HB : Hid (Rf rb w v w4) := b4; have c3 := HR.out.c3; have lt := HR.out.lt; have ne := HR.out.ne; obtain ⟨dd, c5⟩ := HR.out.c5; have fz := HR.out.fz; clear F4 b4 HS3)
       try go_wp2_with (first | (go_at_call 17; refine (zc rb _ _ _ (HR.out.below ((Below.refl _ _).alloc (Nat.le_refl _) _)) _ _ _ _ _ _).mono ?_; rintro e wf ⟨rfl, bf⟩; have HB : Hid (Rf rb w v wf) := (HB.out.next ((Below.refl _ _).alloc (Nat.le_refl _) _)).next bf; have HR : Hid (Fl rb wf _ _) := (HR.out.below ((Below.refl _ _).alloc (Nat.le_refl _) _)).below bf; have c3 := HR.out.c3; have lt := HR.out.lt; clear bf) | (go_at_call 35; refine (zm rb _ _ _ HR.out _).mono ?_; rintro e wf ⟨rfl, -, bf⟩; have HB : Hid (Rf rb w v wf) := HB.out.next bf; have HR : Hid (Fl rb wf _ _) := HR.out.below bf; have c3 := HR.out.c3; have lt := HR.out.lt; clear bf) | (go_at_call 17; refine (zc rb _ _ _ HR.out _ _ _ _ _ _).mono ?_; rintro e wf ⟨rfl, bf⟩; have HB : Hid (Rf rb w v wf) := HB.out.next bf; have HR : Hid (Fl rb wf _ _) := HR.out.below bf; have c3 := HR.out.c3; have lt := HR.out.lt; clear bf) | (go_at_call 36; refine (zt rb _ _ _ HR.out).mono ?_; rintro e wf ⟨⟨nf, rfl⟩, -, bf⟩; have HB : Hid (Rf rb w v wf) := HB.out.next bf; have HR : Hid (Fl rb wf _ _) := HR.out.below bf; have c3 := HR.out.c3; have lt := HR.out.lt; clear bf) | (go_at_call 37; refine (zo rb _ _ _ HR.out).mono ?_; rintro e wf ⟨⟨nf, rfl⟩, -, bf⟩; have HB : Hid (Rf rb w v wf) := HB.out.next bf; have HR : Hid (Fl rb wf _ _) := HR.out.below bf; have c3 := HR.out.c3; have lt := HR.out.lt; clear bf))
       go_ret
       exact RmE.no HR.out HB.out (by first | (simp only [fdP, zv, e1, e3, e4, ↓reduceIte, Bool.false_eq_true, if_true, if_false, Bool.and_true, Bool.true_and, and_true, and_false, true_and, false_and]; done) | (simp only [fdP, zv, e1, e3, e4, ↓reduceIte, Bool.false_eq_true, if_true, if_false, Bool.and_true, Bool.true_and, and_true, and_false, true_and, false_and]; rfl) | (simp [fdP, zv, e1, e3, e4]; done) | (simp [fdP, zv, e1, e3, e4]; rfl))
end Go.Proofs.YtiglkhkfbgjjoaaGreatDoor
