/- The program's readLevel; its readers at every fuel. -/
import Derived.Test.YtiglkhkfbgjjoaaDoorProg
import Derived.Test.YtiglkhkfbgjjoaaDoorBPbL
namespace Go.Proofs.YtiglkhkfbgjjoaaDoor
set_option maxRecDepth 20000
open Go.RowKit Go.PlainAid Go.Maps
set_option linter.unusedSimpArgs false
set_option linter.unusedVariables false

theorem opAt_le (ts : List TokD) (s : PS) : (opAt ts s).1 ≤ 6 := by
  unfold opAt
  cases ts[s.i]? with
  | none => simp
  | some x =>
    simp only
    rcases opT_cases x with e | ⟨_, p, hp, _, e⟩
    · rw [e]; simp
    · rw [e]
      simp only [opsT, List.mem_cons, List.not_mem_nil, or_false] at hp
      rcases hp with rfl | rfl | rfl | rfl | rfl | rfl | rfl | rfl | rfl | rfl | rfl | rfl <;> decide
theorem St.level {rb : Nat} {ts : List TokD} {tv : Value} {en : Nat} {w w1 : World} {v v1 : Value} {kv K : List Value} {s1 : PS} (h : St rb ts tv en w v kv w1 v1 K s1) (l : Nat) (h1 : 1 ≤ l) (h7 : l ≤ 7) (z : Nat) (hz : (if l ≤ (opAt ts s1).1 then (opAt ts s1).1 else 0) = z) :
    Calls Tryd.prog 182 #[.pointer (some ⟨rb, 0, none⟩), .int .i64 (l : Int)] w1 fun e w2 => e = .returned (.int .i64 (z : Int)) ∧ St rb ts tv en w v kv w2 v1 K s1 := by
  rw [← lvN_op ts l s1 h1] at hz
  subst hz
  obtain rfl | rfl | rfl | rfl | rfl | rfl | rfl : l = 1 ∨ l = 2 ∨ l = 3 ∨ l = 4 ∨ l = 5 ∨ l = 6 ∨ l = 7 := by omega
  · exact h.level1
  · exact h.level2
  · exact h.level3
  · exact h.level4
  · exact h.level5
  · exact h.level6
  · exact h.level7
set_option maxHeartbeats 4000000 in
theorem readLevel_at {rb : Nat} {ts : List TokD} {tv : Value} {en : Nat} {r : Rd} {n : Nat} (hr : RP rb ts tv en r n) (hro : RdOk ts r) (l : Nat) (hl1 : 1 ≤ l) (hl7 : l ≤ 7) (w : World) (v : Value) (kv : List Value) (s : PS) (h : Rdr rb ts tv en w v kv s) (hp : s.ns.length ≤ 8 * s.i) (hf : ts.length < s.i + (n + 1)) :
    Calls Tryd.prog 173 #[.pointer (some ⟨rb, 0, none⟩), .int .i64 (l : Int)] w (RdE rb ts tv en w v kv (lvP ts en r l s)) := by
  have HS0 : Hid (St rb ts tv en w v kv w v [] s) := St.begin h
  have HTn : Hid (Calls Tryd.prog 181 #[.pointer (some ⟨rb, 0, none⟩)] w (RdE rb ts tv en w v (kv ++ []) (tnP ts en r s))) := turned_of hr hro w v (kv ++ []) s HS0.out.rd hp hf
  have HR : Hid (RP rb ts tv en r n) := hr
  have HRO : Hid (RdOk ts r) := hro
  have hT : ts.length ≤ 3000 := h.tl
  have hI : s.i ≤ ts.length := h.il
  clear h hr hro
  rcases e1 : tnP ts en r s with ⟨y⟩ | ⟨a0, s1⟩
  · have HE : Hid (lvP ts en r l s = .error y) := by show lvP ts en r l s = _; unfold lvP; rw [e1]
    rw [e1] at HTn
    go_enter Tryd.func173, Tryd.ntmps173
    go_wp2_with (go_at_call 181; refine (HS0.out.no HTn.out rfl).mono ?_; rintro e w5 ⟨he, b5⟩; unfold pan at he; subst he; have HB : Hid (Below rb w w5) := b5; clear b5)
    exact ⟨rfl, RdE.no HB.out HE.out⟩
  have o1 := tnP_ok ts en HRO.out e1
  have p1 := o1.1.phi hp
  have t1 := o1.1.2.1
  have j1 := o1.1.1
  have HE : Hid (lvP ts en r l s = casP ts r l 6 a0 s1) := by show lvP ts en r l s = _; unfold lvP; rw [e1]
  rw [e1] at HTn
  clear o1 e1
  go_enter Tryd.func173, Tryd.ntmps173
  go_wp2_with (go_at_call 181; refine (HS0.out.yes HTn.out rfl).mono ?_; rintro e w1 ⟨rfl, v1, K1, h1⟩; have HS1 : Hid (St rb ts tv en w v kv w1 v1 K1 s1) := h1; clear h1 HS0 HTn)
  go_loopw [5, 6] (fun p q wr => ∃ (a : Int) (g : Nat) (s' : PS) (v' : Value) (K' : List Value), p = .int .i64 a ∧ q = .int .i64 (g : Int) ∧ g ≤ 6 ∧ Hid (St rb ts tv en w v kv wr v' K' s') ∧ Hid (lvP ts en r l s = casP ts r l g a s') ∧ s'.ns.length ≤ 8 * s'.i ∧ s.i < s'.i) (fun _ _ wr => ts.length - posW rb wr)
  case atStart => exact ⟨a0, 6, s1, v1, K1, rfl, by go_num, by omega, HS1.out, HE.out, by omega, j1⟩
  case round =>
    clear HS1 HE
    obtain ⟨a, g, s', v', K', rfl, rfl, hg6, HS2, HE, hp2, hi2⟩ := hrel
    have hI2 : s'.i ≤ ts.length := HS2.out.rd.il
    have hq2 : Hid (posW rb wr = s'.i) := posW_at HS2.out.rd
    have hg6' : (g : Int) ≤ 6 := by omega
    obtain ⟨L, hL⟩ : ∃ L, (opAt ts s').1 = L := ⟨_, rfl⟩
    have hL6 := opAt_le ts s'
    rw [hL] at hL6
    by_cases c1 : l ≤ L
    rotate_left
    · have HV : Hid (lvP ts en r l s = .ok (a, s')) := HE.out.trans (cas_none g fun h h1 h2 h3 => by omega)
      have HZ : Hid ((if l ≤ (opAt ts s').1 then (opAt ts s').1 else 0) = 0) := by show (if l ≤ (opAt ts s').1 then (opAt ts s').1 else 0) = 0; rw [hL, if_neg c1]
      go_wp2_with (go_at_call 182; refine (HS2.out.level l hl1 hl7 0 HZ.out).mono ?_; rintro e w2 ⟨rfl, h2⟩; have HS3 : Hid (St rb ts tv en w v kv w2 v' K' s') := h2; clear h2 HS2)
      go_ret
      exact RdE.yes HS3.out HV.out
    have HZ : Hid ((if l ≤ (opAt ts s').1 then (opAt ts s').1 else 0) = L) := by show (if l ≤ (opAt ts s').1 then (opAt ts s').1 else 0) = L; rw [hL, if_pos c1]
    have hL1 : 1 ≤ L := by omega
    have z0 : ((L : Int) == 0) = false := by simp; omega
    by_cases c2 : L ≤ g
    rotate_left
    · have c2' : (g : Int) < (L : Int) := by omega
      have HV : Hid (lvP ts en r l s = .ok (a, s')) := HE.out.trans (cas_none g fun h h1 h2 h3 => by omega)
      go_wp2_with (go_at_call 182; refine (HS2.out.level l hl1 hl7 L HZ.out).mono ?_; rintro e w2 ⟨rfl, h2⟩; have HS3 : Hid (St rb ts tv en w v kv w2 v' K' s') := h2; clear h2 HS2)
      go_ret
      exact RdE.yes HS3.out HV.out
    have c2' : (L : Int) ≤ (g : Int) := by omega
    have hlt : s'.i < ts.length := opAt_lt ts (by rw [hL]; omega)
    obtain ⟨x, hx⟩ : ∃ x, ts[s'.i]? = some x := ⟨_, List.getElem?_eq_getElem hlt⟩
    have hox : opAt ts s' = opT x := by unfold opAt; rw [hx]
    have HX : Hid ((opT x).1 ≠ 0) := by show (opT x).1 ≠ 0; rw [← hox, hL]; omega
    have HE2 : Hid (lvP ts en r l s = match r.lv (L + 1) (adv s') with
      | .error x => .error x
      | .ok (b, s1) => casP ts r l (if L = 3 then 2 else L) (addP (opT x).2.1 eT (opT x).2.2 [a, b] s1).1 (addP (opT x).2.1 eT (opT x).2.2 [a, b] s1).2) := by
      rw [← hox]
      exact HE.out.trans (cas_step HRO.out c1 hL1 c2 hL hI2)
    have hfx := field_tx x.k (x.at_ : Int) x.n x.tx
    clear HE hox
    have pa : (adv s').ns.length ≤ 8 * (adv s').i := Nat.le_trans hp2 (Nat.mul_le_mul_left 8 (Nat.le_succ _))
    have ia : (adv s').i = s'.i + 1 := rfl
    go_wp2_with (go_at_call 182; refine (HS2.out.level l hl1 hl7 L HZ.out).mono ?_; rintro e w2 ⟨rfl, h2⟩; have HS3 : Hid (St rb ts tv en w v kv w2 v' K' s') := h2; clear h2 HS2)
    go_wp2_with (go_at_call 171; refine (HS3.out.take x hx).mono ?_; rintro e w3 ⟨rfl, h3⟩; have HS4 : Hid (St rb ts tv en w v kv w3 v' K' (adv s')) := h3; clear h3 HS3)
    have hLs : ((L : Int) + 1) = ((L + 1 : Nat) : Int) := by omega
    have HCl : Hid (Calls Tryd.prog 173 #[.pointer (some ⟨rb, 0, none⟩), .int .i64 ((L : Int) + 1)] w3 (RdE rb ts tv en w3 v' (kv ++ K') (r.lv (L + 1) (adv s')))) := by
      show Calls _ _ _ _ _
      rw [hLs]
      exact HR.out.lv (L + 1) (by omega) (by omega) _ _ _ _ HS4.out.rd pa (by omega)
    clear hLs
    rcases e5 : r.lv (L + 1) (adv s') with ⟨y⟩ | ⟨b, s5⟩
    · rw [e5] at HE2 HCl
      go_wp2_with (go_at_call 173; refine (HS4.out.no HCl.out rfl).mono ?_; rintro e w5 ⟨he, b5⟩; unfold pan at he; subst he; have HB : Hid (Below rb w w5) := b5; clear b5)
      exact ⟨rfl, RdE.no HB.out HE2.out⟩
    have o5 := HRO.out.lv e5
    have p5 := o5.1.phi pa
    have t5 := o5.1.2.1
    have j5 := o5.1.1
    rw [e5] at HE2 HCl
    clear o5 e5
    have HN5 : Hid (s5.ns.length ≤ 100000) := by show s5.ns.length ≤ 100000; omega
    have HE3 : Hid (lvP ts en r l s = casP ts r l (if L = 3 then 2 else L) (addP (opT x).2.1 eT (opT x).2.2 [a, b] s5).1 (addP (opT x).2.1 eT (opT x).2.2 [a, b] s5).2) := HE2.out
    have i6 : (addP (opT x).2.1 eT (opT x).2.2 [a, b] s5).2.i = s5.i := rfl
    have n6 : (addP (opT x).2.1 eT (opT x).2.2 [a, b] s5).2.ns.length = s5.ns.length + 1 := by simp [addP]
    clear HE2
    go_wp2_with (go_at_call 173; refine (HS4.out.yes HCl.out rfl).mono ?_; rintro e w5 ⟨rfl, v5, K5, h5⟩; have HS5 : Hid (St rb ts tv en w v kv w5 v5 K5 s5) := h5; clear h5 HS4 HCl)
    have HC6 : Hid (Calls _ _ _ _ _) := HS5.out.op x HX.out a b HN5.out
    generalize (addP (opT x).2.1 eT (opT x).2.2 [a, b] s5).1 = a6 at HE3 HC6
    generalize (addP (opT x).2.1 eT (opT x).2.2 [a, b] s5).2 = s6 at HE3 HC6 i6 n6
    by_cases c3 : L = 3
    · subst c3
      go_wp2_with (go_at_call 183; refine HC6.out.mono ?_; rintro e w6 ⟨rfl, v6, K6, h6⟩; have HS6 : Hid (St rb ts tv en w v kv w6 v6 K6 s6) := h6; clear h6 HS5 HC6)
      have hq6 : Hid (posW rb w6 = s6.i) := posW_at HS6.out.rd
      go_wp2
      go_roundw
      case rel => exact ⟨_, 2, s6, v6, K6, rfl, by go_num, by omega, HS6.out, HE3.out, by omega, by omega⟩
      case measure => rw [hq6.out, hq2.out]; omega
    · have c3' : ((L : Int) == 3) = false := by simp; omega
      have HE4 : Hid (lvP ts en r l s = casP ts r l L a6 s6) := by
        have := HE3.out
        rw [if_neg c3] at this
        exact this
      clear HE3
      go_wp2_with (go_at_call 183; refine HC6.out.mono ?_; rintro e w6 ⟨rfl, v6, K6, h6⟩; have HS6 : Hid (St rb ts tv en w v kv w6 v6 K6 s6) := h6; clear h6 HS5 HC6)
      have hq6 : Hid (posW rb w6 = s6.i) := posW_at HS6.out.rd
      go_wp2
      go_roundw
      case rel => exact ⟨_, L, s6, v6, K6, rfl, rfl, by omega, HS6.out, HE4.out, by omega, by omega⟩
      case measure => rw [hq6.out, hq2.out]; omega
theorem RP.all (rb : Nat) (ts : List TokD) (tv : Value) (en : Nat) : ∀ n, RP rb ts tv en (rds ts en n) n
  | 0 => RP.zero _ _ _ _ _
  | n + 1 => (RP.all rb ts tv en n).step (rds_ok ts en n) (readLevel_at (RP.all rb ts tv en n) (rds_ok ts en n))
end Go.Proofs.YtiglkhkfbgjjoaaDoor
