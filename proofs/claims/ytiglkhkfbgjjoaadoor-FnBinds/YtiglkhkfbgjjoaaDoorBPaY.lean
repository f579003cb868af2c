/- The program's reader: what stands between commas. -/
import Derived.Test.YtiglkhkfbgjjoaaDoorProg
import Derived.Test.YtiglkhkfbgjjoaaDoorBPaX
namespace Go.Proofs.YtiglkhkfbgjjoaaDoor
set_option maxRecDepth 20000
open Go.RowKit Go.PlainAid Go.Maps
set_option linter.unusedSimpArgs false
set_option linter.unusedVariables false

/-- What 'list' answers. -/
def LsE (rb : Nat) (ts : List TokD) (tv : Value) (en : Nat) (w : World) (v : Value) (kv : List Value) (r : Except (Int × Int) (List Int × PS)) (e : Ending) (w' : World) : Prop :=
  (∀ ks s', r = .ok (ks, s') → ∃ u, e = .returned u ∧ ∃ v' K, St rb ts tv en w v kv w' v' K s' ∧ Kd rb w w' v' (kv ++ K) u ks) ∧ (∀ x, r = .error x → e = pan x.1 x.2 ∧ Below rb w w')
section
variable {rb : Nat} {ts : List TokD} {tv : Value} {en : Nat} {w w1 : World} {v v1 : Value} {kv K : List Value} {s1 : PS}
theorem LsE.yes {r : Except (Int × Int) (List Int × PS)} {ks : List Int} {u : Value} (h : St rb ts tv en w v kv w1 v1 K s1) (hk : Kd rb w w1 v1 (kv ++ K) u ks) (hE : r = .ok (ks, s1)) : LsE rb ts tv en w v kv r (.returned u) w1 := by
  subst hE
  exact ⟨fun n' s' e => by injection e with e; injection e with e1 e2; subst e1 e2; exact ⟨_, rfl, _, _, h, hk⟩, fun x e => by cases e⟩
theorem LsE.no {r : Except (Int × Int) (List Int × PS)} {x : Int × Int} (h : Below rb w w1) (hE : r = .error x) : LsE rb ts tv en w v kv r (pan x.1 x.2) w1 := by
  subst hE
  exact ⟨fun n' s' e => (by cases e), fun x' e => by injection e with e; subst e; exact ⟨rfl, h⟩⟩
end
theorem St.both {rb : Nat} {ts : List TokD} {tv : Value} {en : Nat} {w w1 w2 : World} {v v1 v2 : Value} {kv K k : List Value} {s1 s2 : PS} {u : Value} {ks : List Int} (h : St rb ts tv en w v kv w1 v1 K s1) (hk : Kd rb w w1 v1 (kv ++ K) u ks) (h2 : St rb ts tv en w1 v1 (kv ++ K) w2 v2 k s2) : St rb ts tv en w v kv w2 v2 (K ++ k) s2 ∧ Kd rb w w2 v2 (kv ++ (K ++ k)) u ks :=
  ⟨h.e h2, by rw [← List.append_assoc]; exact hk.keep h2⟩
/-- Where the reader stands, read in the world. -/
def posW (rb : Nat) (w : World) : Nat := (intOf ((w.cell? ⟨rb, 1, none⟩).getD (.int .i64 0))).toNat
theorem posW_at {rb : Nat} {ts : List TokD} {tv : Value} {en : Nat} {w : World} {v : Value} {kv : List Value} {s : PS} (h : Rdr rb ts tv en w v kv s) : posW rb w = s.i := by
  unfold posW
  rw [h.c1]
  simp [intOf]
set_option maxHeartbeats 2000000 in
theorem list_at {rb : Nat} {ts : List TokD} {tv : Value} {en : Nat} {n F : Nat} {rd : PS → Except (Int × Int) (Int × PS)} (hrd : ∀ (w : World) (v : Value) (kv : List Value) (s : PS), Rdr rb ts tv en w v kv s → s.ns.length ≤ 8 * s.i → ts.length < s.i + n → Calls Tryd.prog F #[.pointer (some ⟨rb, 0, none⟩)] w (RdE rb ts tv en w v kv (rd s))) (hok : ∀ {s : PS} {a : Int} {s' : PS}, rd s = .ok (a, s') → OkF ts s a s') (b : ByteArray) (w : World) (v : Value) (kv : List Value) (s : PS) (h : Rdr rb ts tv en w v kv s) (hp : s.ns.length ≤ 8 * s.i) (hf : ts.length < s.i + n) (hen : ∀ az w, (callFunc F az).run Tryd.prog w = .ok (.enter F az) w) :
    Calls Tryd.prog 196 #[.pointer (some ⟨rb, 0, none⟩), .string b, .func (.func F) #[.pointer (some ⟨rb, 0, none⟩)] #[]] w (LsE rb ts tv en w v kv (lsP ts en rd b (ts.length + 1) s)) := by
  obtain ⟨i0, hi, hz0, hz1, hz2⟩ := info_parts infoInt
  have HS0 : Hid (St rb ts tv en w v kv w v [] s) := St.begin h
  have hT : ts.length ≤ 3000 := h.tl
  have hI : s.i ≤ ts.length := h.il
  clear h
  go_enter Tryd.func196, Tryd.ntmps196
  cases e1 : isN ts b s
  · go_wp2_with (go_at_call 140; refine (HS0.out.pass_no b e1).mono ?_; rintro e w1 ⟨rfl, h1⟩; have HS1 : Hid (St rb ts tv en w v kv _ _ _ s) := h1; clear h1 HS0)
    go_loopw [7] (fun u wr => ∃ (ks : List Int) (s' : PS) (v' : Value) (K' : List Value) (m : Nat), Hid (St rb ts tv en w v kv wr v' K' s') ∧ Hid (Kd rb w wr v' (kv ++ K') u ks) ∧ Hid (lsL ts en rd b m ks s' = lsP ts en rd b (ts.length + 1) s) ∧ s'.ns.length ≤ 8 * s'.i ∧ ts.length < s'.i + m ∧ s.i ≤ s'.i ∧ ks.length ≤ s'.i) (fun _ wr => ts.length - posW rb wr)
    case atStart => exact ⟨[], s, v, [], ts.length + 1, HS1.out, Kd.zero _ _ _ _ _, (by show _ = _; unfold lsP; rw [e1]; rfl), hp, by omega, Nat.le_refl _, Nat.zero_le _⟩
    case round =>
      obtain ⟨ks, s', v', K', m, HS2, HK, HE, hp2, hf2, hi2, hkl⟩ := hrel
      have hI2 : s'.i ≤ ts.length := HS2.out.rd.il
      have hq2 : Hid (posW rb wr = s'.i) := posW_at HS2.out.rd
      obtain ⟨m', rfl⟩ : ∃ m', m = m' + 1 := ⟨m - 1, by omega⟩
      rcases hx : rd s' with ⟨x⟩ | ⟨a, s2⟩
      · go_wp2_with (refine (HS2.out.no (hrd _ _ _ _ HS2.out.rd hp2 (by omega)) hx).mono ?_; rintro e w3 ⟨he, b3⟩; unfold pan at he; subst he; have HB : Hid (Below rb w w3) := b3; clear b3 HS2)
        exact ⟨rfl, LsE.no HB.out (by rw [← HE.out]; unfold lsL; rw [hx])⟩
      · have o3 := hok hx
        have p3 : s2.ns.length ≤ 8 * s2.i := by have := o3.1.phi hp2; omega
        have i3 := o3.1.1
        have t3 := o3.1.2.1
        have hu := HK.out.own.row
        go_wp2_with (first | (refine (hrd _ _ _ _ HS2.out.rd hp2 (by omega)).mono ?_; rintro e w3 hh; obtain ⟨rfl, v3, k3, h3⟩ := hh.1 a s2 hx; obtain ⟨h4, k4⟩ := HS2.out.both HK.out h3; have HS3 : Hid (St rb ts tv en w v kv w3 v3 (K' ++ k3) s2) := h4; have HK3 : Hid (Kd rb w w3 v3 (kv ++ (K' ++ k3)) u7 ks) := k4; clear h4 k4 h3 hh HS2 HK) | (at_builtin; refine wpList_append_own_at _ rfl _ _ 69 rfl (rb + 1) 3 i0 (.int .i64 0) 1 8 Tryd.underlying69 hi hz0 hz1 hz2 rfl (by decide) u7 ks.length (icl ks) rfl (IR.alloc HK3.out.own.row _) ⟨w3.heap.size, 0, none⟩ 1 1 [.int .i64 a] rfl rfl (fun j y hy => by have e : (w3.alloc (.cells #[.int .i64 a] 3)).cell? ((⟨w3.heap.size, 0, none⟩ : Addr).add j) = (#[.int .i64 a] : Array Value)[j]? := (by cases j <;> simp [go_sem, Addr.add]); rw [e, ← hy]; simp) (by simp [Value.oneCell']) (by unfold maxLen; omega) (by omega) (by have := HS3.out.rd.lt; simp; omega) ?_))
        intro u' w4 hown hgrow _ hat
        obtain ⟨h4, k4⟩ := Kd.grow HS3.out HK3.out hown hgrow hat
        have HS4 : Hid (St rb ts tv en w v kv w4 v3 (K' ++ k3) s2) := h4
        have HK4 : Hid (Kd rb w w4 v3 (kv ++ (K' ++ k3)) u' (ks ++ [a])) := k4
        clear h4 k4 hown hgrow hat HS3 HK3 hu
        cases e5 : isN ts b s2
        · go_wp2_with (go_at_call 140; refine ((St.begin HS4.out.rd).pass_no b e5).mono ?_; rintro e w5 ⟨rfl, h5⟩; obtain ⟨h6, k6⟩ := HS4.out.both HK4.out h5; have HS5 : Hid (St rb ts tv en w v kv w5 v3 (K' ++ k3 ++ []) s2) := h6; have HK5 : Hid (Kd rb w w5 v3 (kv ++ (K' ++ k3 ++ [])) u' (ks ++ [a])) := k6; clear h5 h6 k6 HS4 HK4)
          rcases want_cases ts en ⟨#[44]⟩ s2 with ⟨q6, e6⟩ | ⟨q6, e6⟩
          · go_wp2_with (go_at_call 142; refine ((St.begin HS5.out.rd).want_yes ⟨#[44]⟩ q6).mono ?_; rintro e w6 ⟨rfl, h7⟩; obtain ⟨h8, k8⟩ := HS5.out.both HK5.out h7; have HS6 : Hid (St rb ts tv en w v kv w6 v3 (K' ++ k3 ++ [] ++ []) (adv s2)) := h8; have HK6 : Hid (Kd rb w w6 v3 (kv ++ (K' ++ k3 ++ [] ++ [])) u' (ks ++ [a])) := k8; clear h7 h8 k8 HS5 HK5)
            have hq6 : Hid (posW rb w6 = s2.i + 1) := posW_at HS6.out.rd
            have hi6 : s2.i < ts.length := isN_lt ts q6
            go_roundw
            case rel => exact ⟨ks ++ [a], adv s2, v3, _, m', HS6.out, HK6.out, (by show _ = _; rw [← HE.out]; conv => rhs; unfold lsL; simp only [hx, e5, e6, Bool.false_eq_true, ↓reduceIte]), (by show s2.ns.length ≤ 8 * (s2.i + 1); omega), (by show ts.length < s2.i + 1 + m'; omega), (by show s.i ≤ s2.i + 1; omega), (by rw [List.length_append]; show ks.length + 1 ≤ s2.i + 1; omega)⟩
            case measure => rw [hq6.out, hq2.out]; omega
          · go_wp2_with (go_at_call 142; refine (HS5.out.want_no ⟨#[44]⟩ q6).mono ?_; rintro e w6 ⟨he, b3⟩; unfold pan at he; subst he; have HB : Hid (Below rb w w6) := b3; clear b3 HS5)
            exact ⟨rfl, LsE.no HB.out (by rw [← HE.out]; unfold lsL; simp only [hx, e5, e6, Bool.false_eq_true, ↓reduceIte])⟩
        · go_wp2_with (go_at_call 140; refine ((St.begin HS4.out.rd).pass_yes b e5).mono ?_; rintro e w5 ⟨rfl, h5⟩; obtain ⟨h6, k6⟩ := HS4.out.both HK4.out h5; have HS5 : Hid (St rb ts tv en w v kv w5 v3 (K' ++ k3 ++ []) (adv s2)) := h6; have HK5 : Hid (Kd rb w w5 v3 (kv ++ (K' ++ k3 ++ [])) u' (ks ++ [a])) := k6; clear h5 h6 k6 HS4 HK4)
          go_ret
          exact LsE.yes HS5.out HK5.out (by rw [← HE.out]; unfold lsL; simp only [hx, e5, ↓reduceIte])
  · go_wp2_with (go_at_call 140; refine (HS0.out.pass_yes b e1).mono ?_; rintro e w1 ⟨rfl, h1⟩; have HS1 : Hid (St rb ts tv en w v kv _ _ _ (adv s)) := h1; clear h1 HS0)
    go_ret
    exact LsE.yes HS1.out (Kd.zero _ _ _ _ _) (by unfold lsP; rw [e1]; rfl)
end Go.Proofs.YtiglkhkfbgjjoaaDoor
