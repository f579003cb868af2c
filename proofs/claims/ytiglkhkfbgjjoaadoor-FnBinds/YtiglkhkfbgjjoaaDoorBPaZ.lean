/- The program's reader: the readers that go straight on. -/
import Derived.Test.YtiglkhkfbgjjoaaDoorProg
import Derived.Test.YtiglkhkfbgjjoaaDoorBPaW
import Derived.Test.YtiglkhkfbgjjoaaDoorBPaY
namespace Go.Proofs.YtiglkhkfbgjjoaaDoor
set_option maxRecDepth 20000
open Go.RowKit Go.PlainAid Go.Maps
set_option linter.unusedSimpArgs false
set_option linter.unusedVariables false

set_option maxHeartbeats 2000000 in
theorem readWhole_at {rb : Nat} {ts : List TokD} {tv : Value} {en : Nat} {r : Rd} {n : Nat} (hr : RP rb ts tv en r n) (hro : RdOk ts r) (HL : ∀ (l : Nat), 1 ≤ l → l ≤ 7 → ∀ (w : World) (v : Value) (kv : List Value) (s : PS), Rdr rb ts tv en w v kv s → s.ns.length ≤ 8 * s.i → ts.length < s.i + (n + 1) → Calls Tryd.prog 173 #[.pointer (some ⟨rb, 0, none⟩), .int .i64 (l : Int)] w (RdE rb ts tv en w v kv (lvP ts en r l s))) (w : World) (v : Value) (kv : List Value) (s : PS) (h : Rdr rb ts tv en w v kv s) (hp : s.ns.length ≤ 8 * s.i) (hf : ts.length < s.i + (n + 1)) :
    Calls Tryd.prog 145 #[.pointer (some ⟨rb, 0, none⟩)] w (RdE rb ts tv en w v kv (whP ts en r s)) := by
  have HS0 : Hid (St rb ts tv en w v kv w v [] s) := St.begin h
  have hT : ts.length ≤ 3000 := h.tl
  have hI : s.i ≤ ts.length := h.il
  clear h
  go_enter Tryd.func145, Tryd.ntmps145
  rcases open_cases ts en s with ⟨q1, e1⟩ | ⟨q1, e1⟩
  · skip
    have p1 : (⟨(s).i, (s).d + 1, (s).ns⟩ : PS).ns.length ≤ 8 * (⟨(s).i, (s).d + 1, (s).ns⟩ : PS).i := hp
    have i1 : (⟨(s).i, (s).d + 1, (s).ns⟩ : PS).i = (s).i := rfl
    go_wp2_with (go_at_call 172; refine (HS0.out.open_yes q1).mono ?_; rintro e w1 ⟨rfl, h1⟩; have HS1 : Hid (St rb ts tv en w v kv _ _ _ (⟨(s).i, (s).d + 1, (s).ns⟩ : PS)) := h1; clear h1 HS0)
    rcases e2 : lvP ts en r 1 (⟨(s).i, (s).d + 1, (s).ns⟩ : PS) with ⟨x2⟩ | ⟨a2, s2⟩
    · skip
      go_wp2_with (go_at_call 173; refine (HS1.out.no (HL 1 (by decide) (by decide) _ _ _ _ HS1.out.rd p1 (by omega)) e2).mono ?_; rintro e w2 ⟨he, b2⟩; unfold pan at he; subst he; have HB : Hid (Below rb w w2) := b2; clear b2 HS1)
      exact ⟨rfl, RdE.no HB.out (by simp only [whP, e1, e2, ↓reduceIte, Bool.false_eq_true, if_true, if_false, Bool.and_true, Bool.true_and, and_true, and_false, true_and, false_and])⟩
    · skip
      have o2 := lvP_ok ts en hro e2
      have p2 : s2.ns.length ≤ 8 * s2.i := by have := o2.1.phi p1; omega
      have i2 := o2.1.1
      have t2 := o2.1.2.1
      go_wp2_with (go_at_call 173; refine (HS1.out.yes (HL 1 (by decide) (by decide) _ _ _ _ HS1.out.rd p1 (by omega)) e2).mono ?_; rintro e w2 ⟨rfl, v2, K2, h2⟩; have HS2 : Hid (St rb ts tv en w v kv _ _ _ s2) := h2; clear h2 HS1)
      go_wp2_with (go_at_call 174; refine (HS2.out.shut (by have d : s2.d = s.d + 1 := o2.1.2.2.1; omega)).mono ?_; rintro e w3 ⟨rfl, h3⟩; have HS3 : Hid (St rb ts tv en w v kv _ _ _ (shutP s2)) := h3; clear h3 HS2)
      go_ret
      exact RdE.yes HS3.out (by simp only [whP, e1, e2, ↓reduceIte, Bool.false_eq_true, if_true, if_false, Bool.and_true, Bool.true_and, and_true, and_false, true_and, false_and])
  · skip
    go_wp2_with (go_at_call 172; refine (HS0.out.open_no q1).mono ?_; rintro e w1 ⟨he, b1⟩; unfold pan at he; subst he; have HB : Hid (Below rb w w1) := b1; clear b1 HS0)
    exact ⟨rfl, RdE.no HB.out (by simp only [whP, e1, ↓reduceIte, Bool.false_eq_true, if_true, if_false, Bool.and_true, Bool.true_and, and_true, and_false, true_and, false_and])⟩
def ifP (ts : List TokD) (r : Rd) (s : PS) : Except (Int × Int) (Int × PS) := match r.wh s with
  | .error x => .error x
  | .ok (e, s1) => match r.bl s1 with
    | .error x => .error x
    | .ok (b, s2) => if isN ts ⟨#[101, 108, 115, 101]⟩ s2 then match r.bl (adv s2) with
        | .error x => .error x
        | .ok (c, s3) => .ok (addP 17 eT 0 [e, b, c] s3)
      else .ok (addP 17 eT 0 [e, b] s2)
theorem ifP_ok (ts : List TokD) {r : Rd} (hr : RdOk ts r) {s s' : PS} {v : Int} (h : ifP ts r s = .ok (v, s')) : OkR ts s v s' := by
  have fin : ∀ {k : Int} {t : ByteArray} {i : Int} {ks : List Int} {s1 : PS} {m : Nat}, 8 ≤ m → Adv ts m s s1 → (Except.ok (addP k t i ks s1) : Except (Int × Int) (Int × PS)) = .ok (v, s') → OkR ts s v s' := fun hm hs h => by
    injection h with h
    rw [Prod.ext_iff] at h
    obtain ⟨rfl, rfl⟩ := h
    exact hs.add ts _ _ _ _ hm
  unfold ifP at h
  split at h
  · cases h
  rename_i e s1 h1
  split at h
  · cases h
  rename_i b s2 h2
  have ha := ((hr.wh h1).1.trans ts (hr.bl h2).1)
  split at h
  · rename_i hc
    split at h
    · cases h
    rename_i c s3 h3
    exact fin (by omega) ((ha.trans ts (adv_of_isN ts hc)).trans ts (hr.bl h3).1) h
  · exact fin (by omega) ha h
set_option maxHeartbeats 2000000 in
theorem readIf_at {rb : Nat} {ts : List TokD} {tv : Value} {en : Nat} {r : Rd} {n : Nat} (hr : RP rb ts tv en r n) (hro : RdOk ts r) (w : World) (v : Value) (kv : List Value) (s : PS) (h : Rdr rb ts tv en w v kv s) (hp : s.ns.length ≤ 8 * s.i) (hf : ts.length < s.i + (n)) :
    Calls Tryd.prog 144 #[.pointer (some ⟨rb, 0, none⟩)] w (RdE rb ts tv en w v kv (ifP ts r s)) := by
  have HS0 : Hid (St rb ts tv en w v kv w v [] s) := St.begin h
  have hT : ts.length ≤ 3000 := h.tl
  have hI : s.i ≤ ts.length := h.il
  obtain ⟨i0, hi, hz0, hz1, hz2⟩ := info_parts infoInt
  clear h
  go_enter Tryd.func144, Tryd.ntmps144
  rcases e1 : r.wh s with ⟨x1⟩ | ⟨a1, s1⟩
  · skip
    go_wp2_with (go_at_call 145; refine (HS0.out.no (hr.wh _ _ _ _ HS0.out.rd hp (by omega)) e1).mono ?_; rintro e w1 ⟨he, b1⟩; unfold pan at he; subst he; have HB : Hid (Below rb w w1) := b1; clear b1 HS0)
    exact ⟨rfl, RdE.no HB.out (by simp only [ifP, e1, ↓reduceIte, Bool.false_eq_true, if_true, if_false, Bool.and_true, Bool.true_and, and_true, and_false, true_and, false_and])⟩
  · skip
    have o1 := hro.wh e1
    have p1 : s1.ns.length ≤ 8 * s1.i := by have := o1.1.phi hp; omega
    have i1 := o1.1.1
    have t1 := o1.1.2.1
    go_wp2_with (go_at_call 145; refine (HS0.out.yes (hr.wh _ _ _ _ HS0.out.rd hp (by omega)) e1).mono ?_; rintro e w1 ⟨rfl, v1, K1, h1⟩; have HS1 : Hid (St rb ts tv en w v kv _ _ _ s1) := h1; clear h1 HS0)
    rcases e2 : r.bl s1 with ⟨x2⟩ | ⟨a2, s2⟩
    · skip
      go_wp2_with (go_at_call 146; refine (HS1.out.no (hr.bl _ _ _ _ HS1.out.rd p1 (by omega)) e2).mono ?_; rintro e w2 ⟨he, b2⟩; unfold pan at he; subst he; have HB : Hid (Below rb w w2) := b2; clear b2 HS1)
      exact ⟨rfl, RdE.no HB.out (by simp only [ifP, e1, e2, ↓reduceIte, Bool.false_eq_true, if_true, if_false, Bool.and_true, Bool.true_and, and_true, and_false, true_and, false_and])⟩
    · skip
      have o2 := hro.bl e2
      have p2 : s2.ns.length ≤ 8 * s2.i := by have := o2.1.phi p1; omega
      have i2 := o2.1.1
      have t2 := o2.1.2.1
      go_wp2_with (go_at_call 146; refine (HS1.out.yes (hr.bl _ _ _ _ HS1.out.rd p1 (by omega)) e2).mono ?_; rintro e w2 ⟨rfl, v2, K2, h2⟩; have HS2 : Hid (St rb ts tv en w v kv _ _ _ s2) := h2; clear h2 HS1)
      have HSa : Hid (St rb ts tv en w v kv (w2.alloc (.cells #[.int .i64 a1, .int .i64 a2] 3)) v2 K2 s2) := HS2.out.below ((Below.refl _ _).alloc (Nat.le_refl _) _)
      have HKa : Hid (Kd rb w (w2.alloc (.cells #[.int .i64 a1, .int .i64 a2] 3)) v2 (kv ++ K2) (.slice (some ⟨w2.heap.size, 0, none⟩) 2 2) [a1, a2]) := Kd.laid HS2.out [a1, a2] (by simp)
      cases e3 : isN ts ⟨#[101, 108, 115, 101]⟩ s2
      · go_wp2_with (go_at_call 140; refine ((St.begin HSa.out.rd).pass_no _ e3).mono ?_; rintro e w3 ⟨rfl, h5⟩; obtain ⟨h6, k6⟩ := HSa.out.both HKa.out h5; have HS3 : Hid (St rb ts tv en w v kv w3 v2 (K2 ++ []) s2) := h6; have HK3 : Hid (Kd rb w w3 v2 (kv ++ (K2 ++ [])) (.slice (some ⟨w2.heap.size, 0, none⟩) 2 2) [a1, a2]) := k6; clear h5 h6 k6 HSa HKa HS2)
        go_wp2_with (go_at_call 94; refine (HS3.out.addK HK3.out 17 eT 0 (by omega)).mono ?_; rintro e w4 ⟨rfl, v4, K4, h4⟩; have HS4 : Hid (St rb ts tv en w v kv _ _ _ _) := h4; clear h4)
        go_ret
        exact RdE.yes HS4.out (by simp only [ifP, e1, e2, e3, ↓reduceIte, Bool.false_eq_true])
      · have p3 : (adv s2).ns.length ≤ 8 * (adv s2).i := by show s2.ns.length ≤ 8 * (s2.i + 1); omega
        have i3 : (adv s2).i = s2.i + 1 := rfl
        go_wp2_with (go_at_call 140; refine ((St.begin HSa.out.rd).pass_yes _ e3).mono ?_; rintro e w3 ⟨rfl, h5⟩; obtain ⟨h6, k6⟩ := HSa.out.both HKa.out h5; have HS3 : Hid (St rb ts tv en w v kv w3 v2 (K2 ++ []) (adv s2)) := h6; have HK3 : Hid (Kd rb w w3 v2 (kv ++ (K2 ++ [])) (.slice (some ⟨w2.heap.size, 0, none⟩) 2 2) [a1, a2]) := k6; clear h5 h6 k6 HSa HKa HS2)
        rcases e4 : r.bl (adv s2) with ⟨x⟩ | ⟨a4, s4⟩
        · go_wp2_with (go_at_call 146; refine (HS3.out.no (hr.bl _ _ _ _ HS3.out.rd p3 (by omega)) e4).mono ?_; rintro e w4 ⟨he, b4⟩; unfold pan at he; subst he; have HB : Hid (Below rb w w4) := b4; clear b4)
          exact ⟨rfl, RdE.no HB.out (by simp only [ifP, e1, e2, e3, e4, ↓reduceIte])⟩
        · have o4 := hro.bl e4
          have p4 : s4.ns.length ≤ 8 * s4.i := by have := o4.1.phi p3; omega
          have t4 := o4.1.2.1
          go_wp2_with (first | (go_at_call 146; refine (hr.bl _ _ _ _ HS3.out.rd p3 (by omega)).mono ?_; rintro e w4 hh; obtain ⟨rfl, v4, k4, h4⟩ := hh.1 a4 s4 e4; obtain ⟨h5, k5⟩ := HS3.out.both HK3.out h4; have HS4 : Hid (St rb ts tv en w v kv w4 v4 (K2 ++ [] ++ k4) s4) := h5; have HK4 : Hid (Kd rb w w4 v4 (kv ++ (K2 ++ [] ++ k4)) (.slice (some ⟨w2.heap.size, 0, none⟩) 2 2) [a1, a2]) := k5; clear h4 h5 k5 hh HS3 HK3) | (at_builtin; refine wpList_append_own_at _ rfl _ _ 69 rfl (rb + 1) 3 i0 (.int .i64 0) 1 8 Tryd.underlying69 hi hz0 hz1 hz2 rfl (by decide) (.slice (some ⟨w2.heap.size, 0, none⟩) 2 2) [a1, a2].length (icl [a1, a2]) rfl (IR.alloc HK4.out.own.row _) ⟨w4.heap.size, 0, none⟩ 1 1 [.int .i64 a4] rfl rfl (fun j y hy => by have e : (w4.alloc (.cells #[.int .i64 a4] 3)).cell? ((⟨w4.heap.size, 0, none⟩ : Addr).add j) = (#[.int .i64 a4] : Array Value)[j]? := (by cases j <;> simp [go_sem, Addr.add]); rw [e, ← hy]; simp) (by simp [Value.oneCell']) (by unfold maxLen; first | omega | (simp; done) | (simp; omega)) (by first | omega | (simp; done) | (simp; omega)) (by have := HS4.out.rd.lt; simp; omega) ?_))
          intro u' w5 hown hgrow _ hat
          obtain ⟨h4, k4⟩ := Kd.grow HS4.out HK4.out hown hgrow hat
          have HS5 : Hid (St rb ts tv en w v kv w5 v4 _ s4) := h4
          have HK5 : Hid (Kd rb w w5 v4 _ u' ([a1, a2] ++ [a4])) := k4
          clear h4 k4 hown hgrow hat HS4 HK4
          go_wp2_with (go_at_call 94; refine (HS5.out.addK HK5.out 17 eT 0 (by omega)).mono ?_; rintro e w6 ⟨rfl, v6, K6, h6⟩; have HS6 : Hid (St rb ts tv en w v kv _ _ _ _) := h6; clear h6)
          go_ret
          exact RdE.yes HS6.out (by simp only [ifP, e1, e2, e3, e4, ↓reduceIte]; rfl)
end Go.Proofs.YtiglkhkfbgjjoaaDoor
