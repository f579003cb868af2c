/- - -/
import Derived.Test.YtiglkhkfbgjjoaaGreatDoorPPbI
namespace Go.Proofs.YtiglkhkfbgjjoaaGreatDoor
set_option maxRecDepth 20000
open Go.RowKit Go.PlainAid Go.Maps
set_option linter.unusedSimpArgs false
set_option linter.unusedVariables false
def zg0 (ts : List za) (r : Rd) (s : PS) : Except (Int × Int) (Int × PS) := match tpP ts r (ts.length + 1) [] s with
 | .error x => .error x
 | .ok (ks, s') => .ok (zb 21 eT 0 ks s')
theorem St.ended {rb : Nat} {ts : List za} {tv : Value} {en : Nat} {w w1 : World} {v v1 : Value} {kv K : List Value} {s1 : PS} (h : St rb ts tv en w v kv w1 v1 K s1) (q : Bool) (hq : decide (s1.i = ts.length) = q) :
 Calls Tryz.prog 29 #[.pointer (some ⟨rb, 0, none⟩)] w1 fun e w2 => e = .returned (.bool q) /\ St rb ts tv en w v kv w2 v1 K s1 :=
 (zcg rb ts tv en w1 v1 _ s1 h.rd q hq).mono fun e w2 ⟨h1, h2⟩ => ⟨h1, h.below h2⟩
set_option maxHeartbeats 2000000 in
theorem zho {rb : Nat} {ts : List za} {tv : Value} {en : Nat} {r : Rd} {n : Nat} (hr : RP rb ts tv en r n) (hro : zk ts r) (w : World) (v : Value) (kv : List Value) (s : PS) (h : Rdr rb ts tv en w v kv s) (hp : s.ns.length <= 8 * s.i) (hf : ts.length < s.i + n) :
 Calls Tryz.prog 14 #[.pointer (some ⟨rb, 0, none⟩)] w (RdE rb ts tv en w v kv (zg0 ts r s)) := by
 obtain ⟨i0, hi, hz0, hz1, hz2⟩ := info_parts zb6
 have HS0 : Hid (St rb ts tv en w v kv w v [] s) := St.begin h
 have hT : ts.length <= 3000 := h.tl
 have hI : s.i <= ts.length := h.il
 clear h
 go_enter Tryz.func14, Tryz.ntmps14
 go_wp2_with (fail)
 go_loopw [3] (fun u wr => ∃ (ks : List Int) (s' : PS) (v' : Value) (K' : List Value) (m : Nat), Hid (St rb ts tv en w v kv wr v' K' s') /\ Hid (Kd rb w wr v' (kv ++ K') u ks) /\ Hid (tpP ts r m ks s' = tpP ts r (ts.length + 1) [] s) /\ s'.ns.length <= 8 * s'.i /\ ts.length < s'.i + m /\ s.i <= s'.i /\ ks.length <= s'.i) (fun _ wr => ts.length - zca rb wr)
 case atStart => exact ⟨[], s, v, [], ts.length + 1, HS0.out, Kd.zero _ _ _ _ _, rfl, hp, by omega, Nat.le_refl _, Nat.zero_le _⟩
 case round =>
  obtain ⟨ks, s', v', K', m, HSa, HKa, HE, hp2, hf2, hi2, hkl⟩ := hrel
  have hI2 : s'.i <= ts.length := HSa.out.rd.il
  have hq2 : Hid (zca rb wr = s'.i) := zbm HSa.out.rd
  obtain ⟨m', rfl⟩ : ∃ m', m = m' + 1 := ⟨m - 1, by omega⟩
  by_cases he : s'.i = ts.length
  · have e5 : decide (s'.i = ts.length) = true := by simp [he]
    have HEQ : Hid (s'.i = ts.length) := he
    clear he
    go_wp2_with (go_at_call 29; refine ((St.begin HSa.out.rd).ended true e5).mono ?_; rintro e w5 ⟨rfl, h5⟩; obtain ⟨h6, k6⟩ := HSa.out.both HKa.out h5; have HS5 : Hid (St rb ts tv en w v kv w5 v' (K' ++ []) s') := h6; have HK5 : Hid (Kd rb w w5 v' (kv ++ (K' ++ [])) u3 ks) := k6; clear h5 h6 k6 HSa HKa)
    go_wp2_with (go_at_call 31; refine (HS5.out.addK HK5.out 21 eT 0 (by omega)).mono ?_; rintro e w7 ⟨rfl, v7, K7, h7⟩; have HS7 : Hid (St rb ts tv en w v kv _ _ _ _) := h7; clear h7)
    go_ret
    exact RdE.yes HS7.out (by unfold zg0; rw [<- HE.out]; unfold tpP; rw [if_pos HEQ.out])
  · have e5 : decide (s'.i = ts.length) = false := by simp [he]
    have HEQ : Hid (¬ s'.i = ts.length) := he
    go_wp2_with (go_at_call 29; refine ((St.begin HSa.out.rd).ended false e5).mono ?_; rintro e w5 ⟨rfl, h5⟩; obtain ⟨h6, k6⟩ := HSa.out.both HKa.out h5; have HS5 : Hid (St rb ts tv en w v kv w5 v' (K' ++ []) s') := h6; have HK5 : Hid (Kd rb w w5 v' (kv ++ (K' ++ [])) u3 ks) := k6; clear h5 h6 k6 HSa HKa)
    rcases hx : r.st s' with ⟨x⟩ | ⟨a, s2⟩
    · go_wp2_with (go_at_call 30; refine (HS5.out.no (hr.st _ _ _ _ HS5.out.rd hp2 (by omega)) hx).mono ?_; rintro e w6 ⟨he, b3⟩; unfold pan at he; subst he; have HB : Hid (Below rb w w6) := b3; clear b3)
      exact ⟨rfl, RdE.no HB.out (by unfold zg0; rw [<- HE.out]; unfold tpP; rw [if_neg HEQ.out, hx])⟩
    · have o3 := hro.st hx
      have p3 : s2.ns.length <= 8 * s2.i := by have := o3.1.phi hp2; omega
      have i3 := o3.1.1
      have t3 := o3.1.2.1
      go_wp2_with (first | (go_at_call 30; refine (hr.st _ _ _ _ HS5.out.rd hp2 (by omega)).mono ?_; rintro e w6 hh; obtain ⟨rfl, v6, k6, h6⟩ := hh.1 a s2 hx; obtain ⟨h7, k7⟩ := HS5.out.both HK5.out h6; have HS6 : Hid (St rb ts tv en w v kv w6 v6 (K' ++ [] ++ k6) s2) := h7; have HK6 : Hid (Kd rb w w6 v6 (kv ++ (K' ++ [] ++ k6)) u3 ks) := k7; clear h6 h7 k7 hh HS5 HK5) | (at_builtin; refine wpList_append_own_at _ rfl _ _ 32 rfl (rb + 1) 3 i0 (.int .i64 0) 1 8 Tryz.underlying32 hi hz0 hz1 hz2 rfl (by decide) u3 ks.length (icl ks) rfl (IR.alloc HK6.out.own.row _) ⟨w6.heap.size, 0, none⟩ 1 1 [.int .i64 a] rfl rfl (fun j y hy => by have e : (w6.alloc (.cells #[.int .i64 a] 3)).cell? ((⟨w6.heap.size, 0, none⟩ : Addr).add j) = (#[.int .i64 a] : Array Value)[j]? := (by cases j <;> simp [go_sem, Addr.add]); rw [e, <- hy]; simp) (by simp [Value.oneCell']) (by unfold maxLen; first | omega | (simp; done) | (simp; omega)) (by first | omega | (simp; done) | (simp; omega)) (by have := HS6.out.rd.lt; simp; omega) ?_))
      intro u' w7 hown hgrow _ hat
      obtain ⟨h4, k4⟩ := Kd.grow HS6.out HK6.out hown hgrow hat
      have HS7 : Hid (St rb ts tv en w v kv w7 v6 _ s2) := h4
      have HK7 : Hid (Kd rb w w7 v6 _ u' (ks ++ [a])) := k4
      clear h4 k4 hown hgrow hat HS6 HK6
      have hq7 : Hid (zca rb w7 = s2.i) := zbm HS7.out.rd
      go_wp2
      go_roundw
      case rel => exact ⟨ks ++ [a], s2, v6, _, m', HS7.out, HK7.out, (by show _ = _; rw [<- HE.out]; conv => rhs; unfold tpP; rw [if_neg HEQ.out, hx]), p3, by omega, by omega, (by rw [List.length_append]; show ks.length + 1 <= s2.i; omega)⟩
      case measure => rw [hq7.out, hq2.out]; omega
theorem zi6 {rb : Nat} {ts : List za} {tv : Value} {en : Nat} {r : Rd} {n : Nat} (hr : RP rb ts tv en r n) (hro : zk ts r) : ∀ (w : World) (v : Value) (kv : List Value) (s : PS), Rdr rb ts tv en w v kv s -> s.ns.length <= 8 * s.i -> ts.length < s.i + (n + 1) -> Calls Tryz.prog 111 #[.pointer (some ⟨rb, 0, none⟩)] w (RdE rb ts tv en w v kv (tnP ts en r s)) :=
 zji hr hro (zin hr hro (zkk hr hro (zk2 rb ts tv en)))
theorem RP.step {rb : Nat} {ts : List za} {tv : Value} {en : Nat} {r : Rd} {n : Nat} (hr : RP rb ts tv en r n) (hro : zk ts r) (HL : ∀ (l : Nat), 1 <= l -> l <= 7 -> ∀ (w : World) (v : Value) (kv : List Value) (s : PS), Rdr rb ts tv en w v kv s -> s.ns.length <= 8 * s.i -> ts.length < s.i + (n + 1) -> Calls Tryz.prog 102 #[.pointer (some ⟨rb, 0, none⟩), .int .i64 (l : Int)] w (RdE rb ts tv en w v kv (lvP ts en r l s))) : RP rb ts tv en (znf ts en r) (n + 1) :=
 ⟨zf4 hr hro HL, HL, zi6 hr hro, zkl hr hro, zgv hr hro (znm hr hro (zf4 hr hro HL))⟩
theorem RP.zero (rb : Nat) (ts : List za) (tv : Value) (en : Nat) (r : Rd) : RP rb ts tv en r 0 :=
 ⟨fun w v kv s h _ hf => absurd h.il (by omega), fun l _ _ w v kv s h _ hf => absurd h.il (by omega), fun w v kv s h _ hf => absurd h.il (by omega), fun w v kv s h _ hf => absurd h.il (by omega), fun w v kv s h _ hf => absurd h.il (by omega)⟩
end Go.Proofs.YtiglkhkfbgjjoaaGreatDoor
