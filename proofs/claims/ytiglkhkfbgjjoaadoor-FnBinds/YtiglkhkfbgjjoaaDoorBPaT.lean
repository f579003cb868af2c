/- The program's reader: pass, want, take, wantName, open, shut. -/
import Derived.Test.YtiglkhkfbgjjoaaDoorProg
import Derived.Test.YtiglkhkfbgjjoaaDoorBPaS
namespace Go.Proofs.YtiglkhkfbgjjoaaDoor
set_option maxRecDepth 20000
open Go.RowKit Go.PlainAid Go.Maps
set_option linter.unusedSimpArgs false
set_option linter.unusedVariables false

theorem isKindNext_at (rb : Nat) (ts : List TokD) (tv : Value) (en : Nat) (w : World) (v : Value) (kv : List Value) (s : PS) (h : Rdr rb ts tv en w v kv s) (k : Int) (q : Bool) (hq : kdN ts k s = q) :
    Calls Tryd.prog 169 #[.pointer (some ⟨rb, 0, none⟩), .int .i64 k] w fun e w' => e = .returned (.bool q) ∧ Below w.heap.size w w' := by
  subst hq
  cases hx : ts[s.i]? with
  | none =>
    have e : kdN ts k s = false := by unfold kdN; rw [hx]
    rw [e]
    exact isKindNext_end rb ts tv en w v kv s h k hx
  | some x =>
    have e : kdN ts k s = (x.k == k) := by unfold kdN; rw [hx]
    rw [e]
    exact isKindNext_tok rb ts tv en w v kv s h k x hx
theorem isN_some {ts : List TokD} {b : ByteArray} {s : PS} (h : isN ts b s = true) : s.i < ts.length := by
  unfold isN at h
  cases hx : ts[s.i]? with
  | none => rw [hx] at h; exact absurd h (by simp)
  | some x => exact (List.getElem?_eq_some_iff.1 hx).1
theorem field_tx (a b d : Int) (c : ByteArray) (w : World) : (Instr.field 32 (.agg #[.int .i64 a, .int .i64 b, .string c, .int .i64 d]) 2).run Tryd.prog w = .ok (.string c) w := by kernel_rfl
theorem field_n (a b d : Int) (c : ByteArray) (w : World) : (Instr.field 32 (.agg #[.int .i64 a, .int .i64 b, .string c, .int .i64 d]) 3).run Tryd.prog w = .ok (.int .i64 d) w := by kernel_rfl
/-- The reader at s', with the same nodes and rows. -/
def RdU (rb : Nat) (ts : List TokD) (tv : Value) (en : Nat) (w : World) (v : Value) (kv : List Value) (s' : PS) (r : Value) (e : Ending) (w' : World) : Prop := e = .returned r ∧ Rdr rb ts tv en w' v kv s' ∧ Rg rb w v w' v []
/-- The reader panics. -/
def RdX (rb : Nat) (w : World) (x : Int × Int) (e : Ending) (w' : World) : Prop := e = pan x.1 x.2 ∧ Below rb w w'
set_option maxHeartbeats 1000000 in
theorem pass_no (rb : Nat) (ts : List TokD) (tv : Value) (en : Nat) (w : World) (v : Value) (kv : List Value) (s : PS) (h : Rdr rb ts tv en w v kv s) (b : ByteArray) (hq : isN ts b s = false) :
    Calls Tryd.prog 140 #[.pointer (some ⟨rb, 0, none⟩), .string b] w (RdU rb ts tv en w v kv s (.bool false)) := by
  have HR : Hid (Rdr rb ts tv en w v kv s) := h
  clear h
  go_enter Tryd.func140, Tryd.ntmps140
  go_wp2_with (go_at_call 168; refine ((isNext_new rb ts tv en _ v kv s HR.out _ _ _ [b] (by simp) (by first | rfl | simp) (by first | rfl | simp) (by first | rfl | simp) false (by simpa [isNL] using hq))).mono ?_; rintro e w6 ⟨rfl, b6'⟩; have HB : Hid (Below w.heap.size w w6) := b6'; clear b6')
  go_ret
  exact ⟨rfl, HR.out.below HB.out, Rg.of_below HB.out⟩
set_option maxHeartbeats 1000000 in
theorem pass_yes (rb : Nat) (ts : List TokD) (tv : Value) (en : Nat) (w : World) (v : Value) (kv : List Value) (s : PS) (h : Rdr rb ts tv en w v kv s) (b : ByteArray) (hq : isN ts b s = true) :
    Calls Tryd.prog 140 #[.pointer (some ⟨rb, 0, none⟩), .string b] w (RdU rb ts tv en w v kv (adv s) (.bool true)) := by
  have HR : Hid (Rdr rb ts tv en w v kv s) := h
  have hl := isN_some hq
  have hs3 : (s.i : Int) ≤ 3000 := by have := h.tl; omega
  clear h
  go_enter Tryd.func140, Tryd.ntmps140
  go_wp2_with (go_at_call 168; refine ((isNext_new rb ts tv en _ v kv s HR.out _ _ _ [b] (by simp) (by first | rfl | simp) (by first | rfl | simp) (by first | rfl | simp) true (by simpa [isNL] using hq))).mono ?_; rintro e w6 ⟨rfl, b6'⟩; have HB : Hid (Below w.heap.size w w6) := b6'; have HR6 : Hid (Rdr rb ts tv en w6 v kv s) := HR.out.below b6'; have d1 := HR6.out.c1; have l6 := HR6.out.lt; have f6 := HR6.out.fz 1; clear b6')
  have e1 : ((s.i + 1 : Nat) : Int) = (s.i : Int) + 1 := by omega
  go_ret
  have R := HR6.out.put1 (s.i + 1) (by omega)
  rw [e1] at R
  exact ⟨rfl, R.1, (Rg.of_below HB.out).trans R.2⟩
set_option maxHeartbeats 1000000 in
theorem want_yes (rb : Nat) (ts : List TokD) (tv : Value) (en : Nat) (w : World) (v : Value) (kv : List Value) (s : PS) (h : Rdr rb ts tv en w v kv s) (b : ByteArray) (hq : isN ts b s = true) :
    Calls Tryd.prog 142 #[.pointer (some ⟨rb, 0, none⟩), .string b] w (RdU rb ts tv en w v kv (adv s) (.tuple #[])) := by
  have HR : Hid (Rdr rb ts tv en w v kv s) := h
  clear h
  go_enter Tryd.func142, Tryd.ntmps142
  go_wp2_with (go_at_call 140; refine (pass_yes rb ts tv en _ v kv s HR.out b hq).mono ?_; rintro e w6 ⟨rfl, r6, g6⟩; have HR6 : Hid (Rdr rb ts tv en w6 v kv (adv s)) := r6; have HG : Hid (Rg rb w v w6 v []) := g6; clear r6 g6)
  go_end0
  exact ⟨rfl, HR6.out, HG.out⟩
set_option maxHeartbeats 1000000 in
theorem want_no (rb : Nat) (ts : List TokD) (tv : Value) (en : Nat) (w : World) (v : Value) (kv : List Value) (s : PS) (h : Rdr rb ts tv en w v kv s) (b : ByteArray) (hq : isN ts b s = false) :
    Calls Tryd.prog 142 #[.pointer (some ⟨rb, 0, none⟩), .string b] w (RdX rb w (fh ts en 2 s)) := by
  have HR : Hid (Rdr rb ts tv en w v kv s) := h
  clear h
  go_enter Tryd.func142, Tryd.ntmps142
  go_wp2_with (first | (go_at_call 140; refine (pass_no rb ts tv en _ v kv s HR.out b hq).mono ?_; rintro e w6 ⟨rfl, r6, g6⟩; have HR6 : Hid (Rdr rb ts tv en w6 v kv s) := r6; have HG : Hid (Rg rb w v w6 v []) := g6; clear r6 g6) | (go_at_call 170; refine (faultHere_at rb ts tv en _ v kv s HR6.out 2).mono ?_; rintro e w7 ⟨rfl, b7'⟩; have HB7 : Hid (Below w6.heap.size w6 w7) := b7'; clear b7'))
  exact ⟨rfl, rfl, (HG.out.low HR.out).trans (HB7.out.mono (Nat.le_of_lt HR6.out.lt))⟩
set_option maxHeartbeats 1000000 in
theorem open_no (rb : Nat) (ts : List TokD) (tv : Value) (en : Nat) (w : World) (v : Value) (kv : List Value) (s : PS) (h : Rdr rb ts tv en w v kv s) (hd : s.d = 30) :
    Calls Tryd.prog 172 #[.pointer (some ⟨rb, 0, none⟩)] w (RdX rb w (fh ts en 3 s)) := by
  have HR : Hid (Rdr rb ts tv en w v kv s) := h
  have d3 : w.cell? ⟨rb, 3, none⟩ = some (.int .i64 30) := by rw [h.c3, hd]; rfl
  have l3 := h.lt
  clear h
  go_enter Tryd.func172, Tryd.ntmps172
  go_wp2_with (go_at_call 170; refine (faultHere_at rb ts tv en _ v kv s HR.out 3).mono ?_; rintro e w7 ⟨rfl, b7'⟩; have HB7 : Hid (Below w.heap.size w w7) := b7'; clear b7')
  exact ⟨rfl, rfl, HB7.out.mono (Nat.le_of_lt HR.out.lt)⟩
set_option maxHeartbeats 1000000 in
theorem open_yes (rb : Nat) (ts : List TokD) (tv : Value) (en : Nat) (w : World) (v : Value) (kv : List Value) (s : PS) (h : Rdr rb ts tv en w v kv s) (hd : ¬ s.d = 30) :
    Calls Tryd.prog 172 #[.pointer (some ⟨rb, 0, none⟩)] w (RdU rb ts tv en w v kv ⟨s.i, s.d + 1, s.ns⟩ (.tuple #[])) := by
  have HR : Hid (Rdr rb ts tv en w v kv s) := h
  have d3 := h.c3
  have f3 := h.fz 3
  have l3 := h.lt
  have hd1 : ¬ ((s.d : Int) = 30) := by omega
  have hd2 : (s.d : Int) ≤ 30 := by have := h.dl; omega
  have R := h.put3 (s.d + 1) (by have := h.dl; omega)
  rw [show ((s.d + 1 : Nat) : Int) = (s.d : Int) + 1 by omega] at R
  have HX : Hid (Rdr rb ts tv en (w.setCell ⟨rb, 3, none⟩ (.int .i64 ((s.d : Int) + 1))) v kv ⟨s.i, s.d + 1, s.ns⟩ ∧ Rg rb w v (w.setCell ⟨rb, 3, none⟩ (.int .i64 ((s.d : Int) + 1))) v []) := R
  clear h R
  go_enter Tryd.func172, Tryd.ntmps172
  go_wp2
  go_end0
  exact ⟨rfl, HX.out.1, HX.out.2⟩
set_option maxHeartbeats 1000000 in
theorem shut_at (rb : Nat) (ts : List TokD) (tv : Value) (en : Nat) (w : World) (v : Value) (kv : List Value) (s : PS) (h : Rdr rb ts tv en w v kv s) (hd : 1 ≤ s.d) :
    Calls Tryd.prog 174 #[.pointer (some ⟨rb, 0, none⟩)] w (RdU rb ts tv en w v kv (shutP s) (.tuple #[])) := by
  have d3 := h.c3
  have f3 := h.fz 3
  have l3 := h.lt
  have hd1 : (1 : Int) ≤ (s.d : Int) := by omega
  have hd2 : (s.d : Int) ≤ 30 := by have := h.dl; omega
  have R := h.put3 (s.d - 1) (by have := h.dl; omega)
  rw [show ((s.d - 1 : Nat) : Int) = (s.d : Int) - 1 by omega] at R
  have HX : Hid (Rdr rb ts tv en (w.setCell ⟨rb, 3, none⟩ (.int .i64 ((s.d : Int) - 1))) v kv (shutP s) ∧ Rg rb w v (w.setCell ⟨rb, 3, none⟩ (.int .i64 ((s.d : Int) - 1))) v []) := R
  clear h R
  go_enter Tryd.func174, Tryd.ntmps174
  go_wp2
  go_end0
  exact ⟨rfl, HX.out.1, HX.out.2⟩
set_option maxHeartbeats 1000000 in
theorem take_at (rb : Nat) (ts : List TokD) (tv : Value) (en : Nat) (w : World) (v : Value) (kv : List Value) (s : PS) (h : Rdr rb ts tv en w v kv s) (x : TokD) (hx : ts[s.i]? = some x) :
    Calls Tryd.prog 171 #[.pointer (some ⟨rb, 0, none⟩)] w (RdU rb ts tv en w v kv (adv s) (.agg #[.int .i64 x.k, .int .i64 (x.at_ : Int), .string x.tx, .int .i64 x.n])) := by
  obtain ⟨gt, ct, rfl, lg, lgw, hsl, t0, t1, t2, t3⟩ := h.tok hx
  have R := h.put1 (s.i + 1) (by omega)
  rw [show ((s.i + 1 : Nat) : Int) = (s.i : Int) + 1 by omega] at R
  have hs3 : (s.i : Int) ≤ 3000 := by have := h.tl; omega
  have hl3 : ts.length ≤ 3000 := h.tl
  obtain ⟨si, sd, sn⟩ := s
  have hsl : si < ts.length := hsl
  have hs3 : (si : Int) ≤ 3000 := hs3
  have c0 := h.c0
  have c1 : w.cell? ⟨rb, 1, none⟩ = some (.int .i64 (si : Int)) := h.c1
  have lt := h.lt
  have fz := h.fz 1
  have t0 : w.cell? ⟨gt, si * 4, none⟩ = some (.int .i64 x.k) := t0
  have t1 : w.cell? ⟨gt, si * 4 + 1, none⟩ = some (.int .i64 (x.at_ : Int)) := t1
  have t2 : w.cell? ⟨gt, si * 4 + 2, none⟩ = some (.string x.tx) := t2
  have t3 : w.cell? ⟨gt, si * 4 + 3, none⟩ = some (.int .i64 x.n) := t3
  clear h
  have HX := (show Hid _ from R)
  clear R
  have hne : ¬ gt = rb := by omega
  go_enter Tryd.func171, Tryd.ntmps171
  go_wp2
  go_region
  go_wp2
  have hb := below_drewN ((Below.refl (w.setCell ⟨rb, 1, none⟩ (.int .i64 ((si : Int) + 1))).heap.size (w.setCell ⟨rb, 1, none⟩ (.int .i64 ((si : Int) + 1)))).alloc (Nat.le_refl _) (.cells #[.int .i64 x.k, .int .i64 (x.at_ : Int), .string x.tx, .int .i64 x.n] 32)) 1
  refine bodyPost_ret (v := .agg #[.int .i64 x.k, .int .i64 (x.at_ : Int), .string x.tx, .int .i64 x.n]) (by simp [results, Tryd.results171, go_sem]) rfl ⟨rfl, HX.out.1.below hb, HX.out.2.trans (Rg.of_below hb)⟩
set_option maxHeartbeats 1000000 in
theorem wantName_yes (rb : Nat) (ts : List TokD) (tv : Value) (en : Nat) (w : World) (v : Value) (kv : List Value) (s : PS) (h : Rdr rb ts tv en w v kv s) (x : TokD) (hx : ts[s.i]? = some x) (hk : x.k = 1) :
    Calls Tryd.prog 141 #[.pointer (some ⟨rb, 0, none⟩)] w (RdU rb ts tv en w v kv (adv s) (.string x.tx)) := by
  have HR : Hid (Rdr rb ts tv en w v kv s) := h
  have hq : kdN ts 1 s = true := by unfold kdN; rw [hx]; simp [hk]
  have ff := fun w => field_tx x.k (x.at_ : Int) x.n x.tx w
  clear h hk
  go_enter Tryd.func141, Tryd.ntmps141
  go_wp2_with (first | (go_at_call 169; refine (isKindNext_at rb ts tv en _ v kv s HR.out 1 true hq).mono ?_; rintro e w6 ⟨rfl, b6'⟩; have HB : Hid (Below w.heap.size w w6) := b6'; have HR6 : Hid (Rdr rb ts tv en w6 v kv s) := HR.out.below b6'; clear b6') | (go_at_call 171; refine (take_at rb ts tv en _ v kv s HR6.out x hx).mono ?_; rintro e w7 ⟨rfl, r7, g7⟩; have HR7 : Hid (Rdr rb ts tv en w7 v kv (adv s)) := r7; have HG : Hid (Rg rb w6 v w7 v []) := g7; clear r7 g7))
  go_ret
  exact ⟨rfl, HR7.out, (Rg.of_below HB.out).trans HG.out⟩
set_option maxHeartbeats 1000000 in
theorem wantName_no (rb : Nat) (ts : List TokD) (tv : Value) (en : Nat) (w : World) (v : Value) (kv : List Value) (s : PS) (h : Rdr rb ts tv en w v kv s) (hq : kdN ts 1 s = false) :
    Calls Tryd.prog 141 #[.pointer (some ⟨rb, 0, none⟩)] w (RdX rb w (fh ts en 2 s)) := by
  have HR : Hid (Rdr rb ts tv en w v kv s) := h
  clear h
  go_enter Tryd.func141, Tryd.ntmps141
  go_wp2_with (first | (go_at_call 169; refine (isKindNext_at rb ts tv en _ v kv s HR.out 1 false hq).mono ?_; rintro e w6 ⟨rfl, b6'⟩; have HB : Hid (Below w.heap.size w w6) := b6'; have HR6 : Hid (Rdr rb ts tv en w6 v kv s) := HR.out.below b6'; clear b6') | (go_at_call 170; refine (faultHere_at rb ts tv en _ v kv s HR6.out 2).mono ?_; rintro e w7 ⟨rfl, b7'⟩; have HB7 : Hid (Below w6.heap.size w6 w7) := b7'; clear b7'))
  exact ⟨rfl, rfl, (HB.out.mono (Nat.le_of_lt HR.out.lt)).trans (HB7.out.mono (Nat.le_of_lt HR6.out.lt))⟩
end Go.Proofs.YtiglkhkfbgjjoaaDoor
