/- - -/
import Derived.Test.YtiglkhkfbgjjoaaGreatDoorPPaS
namespace Go.Proofs.YtiglkhkfbgjjoaaGreatDoor
set_option maxRecDepth 20000
open Go.RowKit Go.PlainAid Go.Maps
set_option linter.unusedSimpArgs false
set_option linter.unusedVariables false
theorem zcj (rb : Nat) (ts : List za) (tv : Value) (en : Nat) (w : World) (v : Value) (kv : List Value) (s : PS) (h : Rdr rb ts tv en w v kv s) (k : Int) (q : Bool) (hq : kdN ts k s = q) :
 Calls Tryz.prog 98 #[.pointer (some ⟨rb, 0, none⟩), .int .i64 k] w fun e w' => e = .returned (.bool q) /\ Below w.heap.size w w' := by
 subst hq
 cases hx : ts[s.i]? with
 | none =>
   have e : kdN ts k s = false := by unfold kdN; rw [hx]
   rw [e]
   exact zia rb ts tv en w v kv s h k hx
 | some x =>
   have e : kdN ts k s = (x.k == k) := by unfold kdN; rw [hx]
   rw [e]
   exact zib rb ts tv en w v kv s h k x hx
theorem zqd {ts : List za} {b : ByteArray} {s : PS} (h : isN ts b s = true) : s.i < ts.length := by
 unfold isN at h
 cases hx : ts[s.i]? with
 | none => rw [hx] at h; exact absurd h (by simp)
 | some x => exact (List.getElem?_eq_some_iff.1 hx).1
theorem zgs (a b d : Int) (c : ByteArray) (w : World) : (Instr.field 68 (.agg #[.int .i64 a, .int .i64 b, .string c, .int .i64 d]) 2).run Tryz.prog w = .ok (.string c) w := by kernel_rfl
theorem zsl (a b d : Int) (c : ByteArray) (w : World) : (Instr.field 68 (.agg #[.int .i64 a, .int .i64 b, .string c, .int .i64 d]) 3).run Tryz.prog w = .ok (.int .i64 d) w := by kernel_rfl
def RdU (rb : Nat) (ts : List za) (tv : Value) (en : Nat) (w : World) (v : Value) (kv : List Value) (s' : PS) (r : Value) (e : Ending) (w' : World) : Prop := e = .returned r /\ Rdr rb ts tv en w' v kv s' /\ Rg rb w v w' v []
def RdX (rb : Nat) (w : World) (x : Int × Int) (e : Ending) (w' : World) : Prop := e = pan x.1 x.2 /\ Below rb w w'
set_option maxHeartbeats 1000000 in
theorem pass_no (rb : Nat) (ts : List za) (tv : Value) (en : Nat) (w : World) (v : Value) (kv : List Value) (s : PS) (h : Rdr rb ts tv en w v kv s) (b : ByteArray) (hq : isN ts b s = false) :
 Calls Tryz.prog 69 #[.pointer (some ⟨rb, 0, none⟩), .string b] w (RdU rb ts tv en w v kv s (.bool false)) := by
 have HR : Hid (Rdr rb ts tv en w v kv s) := h
 clear h
 go_enter Tryz.func69, Tryz.ntmps69
 go_wp2_with (go_at_call 97; refine ((zfi rb ts tv en _ v kv s HR.out _ _ _ [b] (by simp) (by first | rfl | simp) (by first | rfl | simp) (by first | rfl | simp) false (by simpa [zai] using hq))).mono ?_; rintro e w6 ⟨rfl, b6'⟩; have HB : Hid (Below w.heap.size w w6) := b6'; clear b6')
 go_ret
 exact ⟨rfl, HR.out.below HB.out, Rg.of_below HB.out⟩
set_option maxHeartbeats 1000000 in
theorem pass_yes (rb : Nat) (ts : List za) (tv : Value) (en : Nat) (w : World) (v : Value) (kv : List Value) (s : PS) (h : Rdr rb ts tv en w v kv s) (b : ByteArray) (hq : isN ts b s = true) :
 Calls Tryz.prog 69 #[.pointer (some ⟨rb, 0, none⟩), .string b] w (RdU rb ts tv en w v kv (adv s) (.bool true)) := by
 have HR : Hid (Rdr rb ts tv en w v kv s) := h
 have hl := zqd hq
 have hs3 : (s.i : Int) <= 3000 := by have := h.tl; omega
 clear h
 go_enter Tryz.func69, Tryz.ntmps69
 go_wp2_with (go_at_call 97; refine ((zfi rb ts tv en _ v kv s HR.out _ _ _ [b] (by simp) (by first | rfl | simp) (by first | rfl | simp) (by first | rfl | simp) true (by simpa [zai] using hq))).mono ?_; rintro e w6 ⟨rfl, b6'⟩; have HB : Hid (Below w.heap.size w w6) := b6'; have HR6 : Hid (Rdr rb ts tv en w6 v kv s) := HR.out.below b6'; have d1 := HR6.out.c1; have l6 := HR6.out.lt; have f6 := HR6.out.fz 1; clear b6')
 have e1 : ((s.i + 1 : Nat) : Int) = (s.i : Int) + 1 := by omega
 go_ret
 have R := HR6.out.put1 (s.i + 1) (by omega)
 rw [e1] at R
 exact ⟨rfl, R.1, (Rg.of_below HB.out).trans R.2⟩
set_option maxHeartbeats 1000000 in
theorem want_yes (rb : Nat) (ts : List za) (tv : Value) (en : Nat) (w : World) (v : Value) (kv : List Value) (s : PS) (h : Rdr rb ts tv en w v kv s) (b : ByteArray) (hq : isN ts b s = true) :
 Calls Tryz.prog 71 #[.pointer (some ⟨rb, 0, none⟩), .string b] w (RdU rb ts tv en w v kv (adv s) (.tuple #[])) := by
 have HR : Hid (Rdr rb ts tv en w v kv s) := h
 clear h
 go_enter Tryz.func71, Tryz.ntmps71
 go_wp2_with (go_at_call 69; refine (pass_yes rb ts tv en _ v kv s HR.out b hq).mono ?_; rintro e w6 ⟨rfl, r6, g6⟩; have HR6 : Hid (Rdr rb ts tv en w6 v kv (adv s)) := r6; have HG : Hid (Rg rb w v w6 v []) := g6; clear r6 g6)
 go_end0
 exact ⟨rfl, HR6.out, HG.out⟩
set_option maxHeartbeats 1000000 in
theorem want_no (rb : Nat) (ts : List za) (tv : Value) (en : Nat) (w : World) (v : Value) (kv : List Value) (s : PS) (h : Rdr rb ts tv en w v kv s) (b : ByteArray) (hq : isN ts b s = false) :
 Calls Tryz.prog 71 #[.pointer (some ⟨rb, 0, none⟩), .string b] w (RdX rb w (fh ts en 2 s)) := by
 have HR : Hid (Rdr rb ts tv en w v kv s) := h
 clear h
 go_enter Tryz.func71, Tryz.ntmps71
 go_wp2_with (first | (go_at_call 69; refine (pass_no rb ts tv en _ v kv s HR.out b hq).mono ?_; rintro e w6 ⟨rfl, r6, g6⟩; have HR6 : Hid (Rdr rb ts tv en w6 v kv s) := r6; have HG : Hid (Rg rb w v w6 v []) := g6; clear r6 g6) | (go_at_call 99; refine (zdi rb ts tv en _ v kv s HR6.out 2).mono ?_; rintro e w7 ⟨rfl, b7'⟩; have HB7 : Hid (Below w6.heap.size w6 w7) := b7'; clear b7'))
 exact ⟨rfl, rfl, (HG.out.low HR.out).trans (HB7.out.mono (Nat.le_of_lt HR6.out.lt))⟩
set_option maxHeartbeats 1000000 in
theorem open_no (rb : Nat) (ts : List za) (tv : Value) (en : Nat) (w : World) (v : Value) (kv : List Value) (s : PS) (h : Rdr rb ts tv en w v kv s) (hd : s.d = 30) :
 Calls Tryz.prog 101 #[.pointer (some ⟨rb, 0, none⟩)] w (RdX rb w (fh ts en 3 s)) := by
 have HR : Hid (Rdr rb ts tv en w v kv s) := h
 have d3 : w.cell? ⟨rb, 3, none⟩ = some (.int .i64 30) := by rw [h.c3, hd]; rfl
 have l3 := h.lt
 clear h
 go_enter Tryz.func101, Tryz.ntmps101
 go_wp2_with (go_at_call 99; refine (zdi rb ts tv en _ v kv s HR.out 3).mono ?_; rintro e w7 ⟨rfl, b7'⟩; have HB7 : Hid (Below w.heap.size w w7) := b7'; clear b7')
 exact ⟨rfl, rfl, HB7.out.mono (Nat.le_of_lt HR.out.lt)⟩
set_option maxHeartbeats 1000000 in
theorem open_yes (rb : Nat) (ts : List za) (tv : Value) (en : Nat) (w : World) (v : Value) (kv : List Value) (s : PS) (h : Rdr rb ts tv en w v kv s) (hd : ¬ s.d = 30) :
 Calls Tryz.prog 101 #[.pointer (some ⟨rb, 0, none⟩)] w (RdU rb ts tv en w v kv ⟨s.i, s.d + 1, s.ns⟩ (.tuple #[])) := by
 have HR : Hid (Rdr rb ts tv en w v kv s) := h
 have d3 := h.c3
 have f3 := h.fz 3
 have l3 := h.lt
 have hd1 : ¬ ((s.d : Int) = 30) := by omega
 have hd2 : (s.d : Int) <= 30 := by have := h.dl; omega
 have R := h.put3 (s.d + 1) (by have := h.dl; omega)
 rw [show ((s.d + 1 : Nat) : Int) = (s.d : Int) + 1 by omega] at R
 have HX : Hid (Rdr rb ts tv en (w.setCell ⟨rb, 3, none⟩ (.int .i64 ((s.d : Int) + 1))) v kv ⟨s.i, s.d + 1, s.ns⟩ /\ Rg rb w v (w.setCell ⟨rb, 3, none⟩ (.int .i64 ((s.d : Int) + 1))) v []) := R
 clear h R
 go_enter Tryz.func101, Tryz.ntmps101
 go_wp2
 go_end0
 exact ⟨rfl, HX.out.1, HX.out.2⟩
set_option maxHeartbeats 1000000 in
theorem zsm (rb : Nat) (ts : List za) (tv : Value) (en : Nat) (w : World) (v : Value) (kv : List Value) (s : PS) (h : Rdr rb ts tv en w v kv s) (hd : 1 <= s.d) :
 Calls Tryz.prog 103 #[.pointer (some ⟨rb, 0, none⟩)] w (RdU rb ts tv en w v kv (zap s) (.tuple #[])) := by
 have d3 := h.c3
 have f3 := h.fz 3
 have l3 := h.lt
 have hd1 : (1 : Int) <= (s.d : Int) := by omega
 have hd2 : (s.d : Int) <= 30 := by have := h.dl; omega
 have R := h.put3 (s.d - 1) (by have := h.dl; omega)
 rw [show ((s.d - 1 : Nat) : Int) = (s.d : Int) - 1 by omega] at R
 have HX : Hid (Rdr rb ts tv en (w.setCell ⟨rb, 3, none⟩ (.int .i64 ((s.d : Int) - 1))) v kv (zap s) /\ Rg rb w v (w.setCell ⟨rb, 3, none⟩ (.int .i64 ((s.d : Int) - 1))) v []) := R
 clear h R
 go_enter Tryz.func103, Tryz.ntmps103
 go_wp2
 go_end0
 exact ⟨rfl, HX.out.1, HX.out.2⟩
set_option maxHeartbeats 1000000 in
theorem zmf (rb : Nat) (ts : List za) (tv : Value) (en : Nat) (w : World) (v : Value) (kv : List Value) (s : PS) (h : Rdr rb ts tv en w v kv s) (x : za) (hx : ts[s.i]? = some x) :
 Calls Tryz.prog 100 #[.pointer (some ⟨rb, 0, none⟩)] w (RdU rb ts tv en w v kv (adv s) (.agg #[.int .i64 x.k, .int .i64 (x.at_ : Int), .string x.tx, .int .i64 x.n])) := by
 obtain ⟨gt, ct, rfl, lg, lgw, hsl, t0, t1, t2, t3⟩ := h.tok hx
 have R := h.put1 (s.i + 1) (by omega)
 rw [show ((s.i + 1 : Nat) : Int) = (s.i : Int) + 1 by omega] at R
 have hs3 : (s.i : Int) <= 3000 := by have := h.tl; omega
 have hl3 : ts.length <= 3000 := h.tl
 obtain ⟨si, sd, sn⟩ := s
 have hsl : si < ts.length := hsl
 have hs3 : (si : Int) <= 3000 := hs3
 have c0 := h.c0
 have c1 : w.cell? ⟨rb, 1, none⟩ = some (.int .i64 (si : Int)) := h.c1
 have lt := h.lt
 have fz := h.fz 1
 have t0 : w.cell? ⟨gt, si * 4, none⟩ = some (.int .i64 x.k) := t0
 have t1 : w.cell? ⟨gt, si * 4 + 1, none⟩ = some (.int .i64 (x.at_ : Int)) := t1
 have t2 : w.cell? ⟨gt, si * 4 + 2, none⟩ = some (.string x.tx) := t2
 have t3 : w.cell? ⟨gt, si * 4 + 3, none⟩ = some (.int .i64 x.n) := t3
 clear h
 have HX := (show Hid _ from R)
 clear R
 have hne : ¬ gt = rb := by omega
 go_enter Tryz.func100, Tryz.ntmps100
 go_wp2
 go_region
 go_wp2
 have hb := below_drewN ((Below.refl (w.setCell ⟨rb, 1, none⟩ (.int .i64 ((si : Int) + 1))).heap.size (w.setCell ⟨rb, 1, none⟩ (.int .i64 ((si : Int) + 1)))).alloc (Nat.le_refl _) (.cells #[.int .i64 x.k, .int .i64 (x.at_ : Int), .string x.tx, .int .i64 x.n] 68)) 1
 refine bodyPost_ret (v := .agg #[.int .i64 x.k, .int .i64 (x.at_ : Int), .string x.tx, .int .i64 x.n]) (by simp [results, Tryz.results100, go_sem]) rfl ⟨rfl, HX.out.1.below hb, HX.out.2.trans (Rg.of_below hb)⟩
set_option maxHeartbeats 1000000 in
theorem zj8 (rb : Nat) (ts : List za) (tv : Value) (en : Nat) (w : World) (v : Value) (kv : List Value) (s : PS) (h : Rdr rb ts tv en w v kv s) (x : za) (hx : ts[s.i]? = some x) (hk : x.k = 1) :
 Calls Tryz.prog 70 #[.pointer (some ⟨rb, 0, none⟩)] w (RdU rb ts tv en w v kv (adv s) (.string x.tx)) := by
 have HR : Hid (Rdr rb ts tv en w v kv s) := h
 have hq : kdN ts 1 s = true := by unfold kdN; rw [hx]; simp [hk]
 have ff := fun w => zgs x.k (x.at_ : Int) x.n x.tx w
 clear h hk
 go_enter Tryz.func70, Tryz.ntmps70
 go_wp2_with (first | (go_at_call 98; refine (zcj rb ts tv en _ v kv s HR.out 1 true hq).mono ?_; rintro e w6 ⟨rfl, b6'⟩; have HB : Hid (Below w.heap.size w w6) := b6'; have HR6 : Hid (Rdr rb ts tv en w6 v kv s) := HR.out.below b6'; clear b6') | (go_at_call 100; refine (zmf rb ts tv en _ v kv s HR6.out x hx).mono ?_; rintro e w7 ⟨rfl, r7, g7⟩; have HR7 : Hid (Rdr rb ts tv en w7 v kv (adv s)) := r7; have HG : Hid (Rg rb w6 v w7 v []) := g7; clear r7 g7))
 go_ret
 exact ⟨rfl, HR7.out, (Rg.of_below HB.out).trans HG.out⟩
set_option maxHeartbeats 1000000 in
theorem zlr (rb : Nat) (ts : List za) (tv : Value) (en : Nat) (w : World) (v : Value) (kv : List Value) (s : PS) (h : Rdr rb ts tv en w v kv s) (hq : kdN ts 1 s = false) :
 Calls Tryz.prog 70 #[.pointer (some ⟨rb, 0, none⟩)] w (RdX rb w (fh ts en 2 s)) := by
 have HR : Hid (Rdr rb ts tv en w v kv s) := h
 clear h
 go_enter Tryz.func70, Tryz.ntmps70
 go_wp2_with (first | (go_at_call 98; refine (zcj rb ts tv en _ v kv s HR.out 1 false hq).mono ?_; rintro e w6 ⟨rfl, b6'⟩; have HB : Hid (Below w.heap.size w w6) := b6'; have HR6 : Hid (Rdr rb ts tv en w6 v kv s) := HR.out.below b6'; clear b6') | (go_at_call 99; refine (zdi rb ts tv en _ v kv s HR6.out 2).mono ?_; rintro e w7 ⟨rfl, b7'⟩; have HB7 : Hid (Below w6.heap.size w6 w7) := b7'; clear b7'))
 exact ⟨rfl, rfl, (HB.out.mono (Nat.le_of_lt HR.out.lt)).trans (HB7.out.mono (Nat.le_of_lt HR6.out.lt))⟩
theorem zj7 : (Tryz.prog.info? 34).map (fun i => (i.zero, i.size, i.bytes)) = some (some (.agg #[.int .i64 0, .string ⟨#[]⟩, .int .i64 0, .slice none 0 0]), 4, 56) := by kernel_rfl
theorem Rg.more {rb : Nat} {w w' : World} {v v' : Value} {k1 : List Value} (h : Rg rb w v w' v' k1) {u : Value} (hu : ∀ g, u.ownBlock = some g -> w.heap.size <= g) : Rg rb w v w' v' (k1 ++ [u]) :=
 ⟨h.os, h.tape, h.output, h.size, h.block, h.row, fun y g hy hg => by
  rcases List.mem_append.1 hy with h1 | h1
  · exact h.kid y g h1 hg
  · rw [List.mem_singleton.1 h1] at hg
    exact hu g hg⟩
structure Own (rb : Nat) (w : World) (v : Value) (kv : List Value) (u : Value) (ks : List Int) : Prop where
 row : IR (rb + 1) w u ks
 ne : ∀ g, u.ownBlock = some g -> v.ownBlock ≠ some g
 nd : ∀ (y : Value) (g : Nat), y ∈ kv -> y.ownBlock = some g -> u.ownBlock ≠ some g
theorem Own.nil (rb : Nat) (w : World) (v : Value) (kv : List Value) : Own rb w v kv (.slice none 0 0) [] := ⟨IR.nil _ _, fun g h => by simp [Value.ownBlock] at h, fun y g _ _ h => by simp [Value.ownBlock] at h⟩
theorem zha {rb : Nat} {ts : List za} {tv : Value} {en : Nat} {w : World} {v : Value} {kv : List Value} {s : PS} (h : Rdr rb ts tv en w v kv s) {y : Value} {g : Nat} (hy : y ∈ kv) (hg : y.ownBlock = some g) : rb < g /\ g < w.heap.size := by
 obtain ⟨j, hj, he⟩ := List.getElem_of_mem hy
 have hk : kv[j]? = some y := by rw [List.getElem?_eq_getElem hj, he]
 have hn : s.ns[j]? = some (s.ns[j]'(by have := h.nd.len; omega)) := List.getElem?_eq_getElem _
 have := World.ownsRow.lt (h.nd.kid j _ y hn hk) g hg
 omega
theorem Rdr.addn {rb : Nat} {ts : List za} {tv : Value} {en : Nat} {w w1 : World} {v v' : Value} {kv : List Value} {s : PS} (h : Rdr rb ts tv en w v kv s) (x : KnL) (u : Value) (hu : Own rb w v kv u x.ks) (hks : x.k = 8 -> x.ks.length <= 10) (hown : w1.ownsRow (rb + 1) 34 4 v' (s.ns.length + 1) (knC s.ns kv ++ [.int .i64 x.k, .string x.t, .int .i64 x.i, u])) (hg : w.grownBy w1 v.ownBlock) (hrow : ∀ r, v'.ownBlock = some r -> v.ownBlock = some r \/ w.heap.size <= r) :
 Rdr rb ts tv en (w1.setCell ⟨rb, 4, none⟩ v') v' (kv ++ [u]) ⟨s.i, s.d, s.ns ++ [x]⟩ /\ Rg rb w v (w1.setCell ⟨rb, 4, none⟩ v') v' [] := by
 have hb : w1.heap[rb]? = w.heap[rb]? := hg.block rb h.lt (fun e => h.notv (Nat.le_refl _) e.symm)
 have hc : ∀ i, w1.cell? ⟨rb, i, none⟩ = w.cell? ⟨rb, i, none⟩ := fun i => World.cell?_of_block (w := w) (a := ⟨rb, i, none⟩) hb
 have o : ∀ i, i ≠ 4 -> (w1.setCell ⟨rb, 4, none⟩ v').cell? ⟨rb, i, none⟩ = w.cell? ⟨rb, i, none⟩ := fun i hi => by
  rw [World.cell?_setCell_other _ _ _ _ (fun e => by have := congrArg Addr.off e; simp at this; omega), hc]
 have hs : ∀ k, k ≠ rb -> (w1.setCell ⟨rb, 4, none⟩ v').heap[k]? = w1.heap[k]? := fun k hk => Below.heap_setCell w1 ⟨rb, 4, none⟩ v' k hk
 have hgs : w1.grownBy (w1.setCell ⟨rb, 4, none⟩ v') (some rb) := ⟨rfl, rfl, rfl, by simp, fun k _ hk => hs k (fun e => hk (by rw [e]))⟩
 have kp : ∀ (y : Value) (zs : List Int), IR (rb + 1) w y zs -> (∀ g, y.ownBlock = some g -> v.ownBlock ≠ some g) -> IR (rb + 1) (w1.setCell ⟨rb, 4, none⟩ v') y zs := fun y zs hy hn => by
  refine World.ownsRow.kept (World.ownsRow.kept hy hg ?_) hgs ?_
  · cases hq : y.ownBlock with
    | none => exact .inl rfl
    | some g => exact .inr (fun e => hn g hq e.symm)
  · cases hq : y.ownBlock with
    | none => exact .inl rfl
    | some g => exact .inr (fun e => by have := (World.ownsRow.lt hy g hq).1; injection e with e; omega)
 have hlen := h.nd.len
 have at1 : ∀ (j : Nat) (y : Value), (kv ++ [u])[j]? = some y -> kv[j]? = some y \/ (j = kv.length /\ y = u) := fun j y hy => by
  rcases Nat.lt_or_ge j kv.length with hj | hj
  · rw [List.getElem?_append_left hj] at hy
    exact .inl hy
  · rw [List.getElem?_append_right hj] at hy
    rcases Nat.eq_or_lt_of_le hj with e | e
    · subst e
      simp at hy
      exact .inr ⟨rfl, hy.symm⟩
    · rw [List.getElem?_eq_none (by simp; omega)] at hy
      cases hy
 refine ⟨⟨by simpa using Nat.lt_of_lt_of_le h.lt hg.size, by rw [o 0 (by omega)]; exact h.c0, by rw [o 1 (by omega)]; exact h.c1, by rw [o 2 (by omega)]; exact h.c2, by rw [o 3 (by omega)]; exact h.c3, World.cell?_setCell_same' _ _ _ (by rw [hc, h.c4]; rfl), fun i => ?_, ?_, h.tlt, h.il, h.tl, h.dl, h.tb.below ⟨hg.os, hg.tape, hg.output, by simpa using hg.size, fun k hk => (hs k (by omega)).trans (hg.block k (Nat.lt_trans hk h.lt) (fun e => h.notv (Nat.le_of_lt hk) e.symm))⟩, (fun y hy => (List.mem_append.1 hy).elim (h.kl y) (fun h1 => by rw [List.mem_singleton.1 h1]; exact hks)), ⟨?_, ?_, ?_, ?_, ?_⟩⟩, ⟨hg.os, hg.tape, hg.output, by simpa using hg.size, fun k hk hp hr => ?_, hrow, fun _ _ h => by simp at h⟩⟩
 · have : w1.frozen? ⟨rb, i, none⟩ = w.frozen? ⟨rb, i, none⟩ := World.frozen?_of_block (w := w) (a := ⟨rb, i, none⟩) hb
   simp [go_sem, this, h.fz]
 · refine World.ownsRow.kept (World.ownsRow.kept h.tk hg ?_) hgs ?_
   · cases hq : tv.ownBlock with
     | none => exact .inl rfl
     | some g => exact .inr (fun e => h.notv (Nat.le_of_lt (h.tlt g hq)) e.symm)
   · cases hq : tv.ownBlock with
     | none => exact .inl rfl
     | some g => exact .inr (fun e => by have := h.tlt g hq; injection e with e; omega)
 · simp [hlen]
 · rw [zfj hlen, List.length_append]
   exact World.ownsRow.kept hown hgs (.inr (fun e => by have := (World.ownsRow.lt hown rb e).1; omega))
 · intro j y z hy hz
   rcases at1 j z hz with h1 | ⟨rfl, rfl⟩
   · have hj : j < s.ns.length := by have := (List.getElem?_eq_some_iff.1 h1).1; omega
     rw [List.getElem?_append_left hj] at hy
     exact kp z y.ks (h.nd.kid j y z hy h1) (fun g e => h.nd.ne j z g h1 e)
   · rw [<- hlen, List.getElem?_append_right (Nat.le_refl _)] at hy
     simp at hy
     subst hy
     exact kp z x.ks hu.row hu.ne
 · intro j z g hz hzg hv
   have hz2 : (v.ownBlock ≠ some g) /\ g < w.heap.size := by
    rcases at1 j z hz with h1 | ⟨rfl, rfl⟩
    · exact ⟨h.nd.ne j z g h1 hzg, (zha h (List.mem_of_getElem? h1) hzg).2⟩
    · exact ⟨hu.ne g hzg, (World.ownsRow.lt hu.row g hzg).2⟩
   rcases hrow g hv with h1 | h1
   · exact hz2.1 h1
   · omega
 · intro i j y z g hy hz hij hyg hzg
   rcases at1 i y hy with h1 | ⟨rfl, rfl⟩
   · rcases at1 j z hz with h2 | ⟨rfl, rfl⟩
     · exact h.nd.nd i j y z g h1 h2 hij hyg hzg
     · exact hu.nd y g (List.mem_of_getElem? h1) hyg hzg
   · rcases at1 j z hz with h2 | ⟨rfl, rfl⟩
     · exact hu.nd z g (List.mem_of_getElem? h2) hzg hyg
     · exact hij rfl
 · rw [hs k hp]
   exact hg.block k hk (fun e => hr e.symm)
def RdA (rb : Nat) (ts : List za) (tv : Value) (en : Nat) (w : World) (v : Value) (kv : List Value) (s' : PS) (n : Int) (e : Ending) (w' : World) : Prop := e = .returned (.int .i64 n) /\ ∃ v', Rdr rb ts tv en w' v' kv s' /\ Rg rb w v w' v' []
set_option maxHeartbeats 1000000 in
theorem zh9 (rb : Nat) (ts : List za) (tv : Value) (en : Nat) (w : World) (v : Value) (kv : List Value) (s : PS) (k : Int) (t : ByteArray) (i : Int) (u : Value) (ks : List Int) (h : Rdr rb ts tv en w v kv s) (hu : Own rb w v kv u ks) (hn : s.ns.length <= 100000) (hks : k = 8 -> ks.length <= 10) :
 Calls Tryz.prog 31 #[.pointer (some ⟨rb, 0, none⟩), .int .i64 k, .string t, .int .i64 i, u] w (RdA rb ts tv en w v (kv ++ [u]) (zb k t i ks s).2 (zb k t i ks s).1) := by
 obtain ⟨i0, hi, hz0, hz1, hz2⟩ := info_parts zj7
 obtain ⟨ua, uc, rfl⟩ := hu.row.form
 have a0 : Below w.heap.size w (w.alloc (.cells #[.int .i64 k, .string t, .int .i64 i, .slice ua ks.length uc] 34)) := (Below.refl _ _).alloc (Nat.le_refl _) _
 have HA : Hid (Rdr rb ts tv en (w.alloc (.cells #[.int .i64 k, .string t, .int .i64 i, .slice ua ks.length uc] 34)) v kv s) := h.below a0
 have A0 : Hid (Below w.heap.size w (w.alloc (.cells #[.int .i64 k, .string t, .int .i64 i, .slice ua ks.length uc] 34))) := a0
 have HU : Hid (Own rb (w.alloc (.cells #[.int .i64 k, .string t, .int .i64 i, .slice ua ks.length uc] 34)) v kv (.slice ua ks.length uc) ks) := ⟨hu.row.below a0, hu.ne, hu.nd⟩
 have c4 := h.c4
 have lt := h.lt
 have hkl : (knC s.ns kv).length = s.ns.length * 4 := zic h.nd.len
 have hcc : ∀ j y, ([.int .i64 k, .string t, .int .i64 i, .slice ua ks.length uc] : List Value)[j]? = some y -> (w.alloc (.cells #[.int .i64 k, .string t, .int .i64 i, .slice ua ks.length uc] 34)).cell? ((⟨w.heap.size, 0, none⟩ : Addr).add j) = some y := fun j y hy => by
  have : (w.alloc (.cells #[.int .i64 k, .string t, .int .i64 i, .slice ua ks.length uc] 34)).cell? ((⟨w.heap.size, 0, none⟩ : Addr).add j) = (#[.int .i64 k, .string t, .int .i64 i, .slice ua ks.length uc] : Array Value)[j]? := by cases j <;> simp [go_sem, Addr.add]
  rw [this, <- hy]
  simp
 have HC := (show Hid _ from hcc)
 clear h hu a0 hcc
 go_enter Tryz.func31, Tryz.ntmps31
 go_wp2_with (at_builtin; refine wpList_append_own_at _ rfl _ _ 25 rfl (rb + 1) 34 i0 _ 4 56 Tryz.underlying25 hi hz0 hz1 hz2 rfl (by decide) v s.ns.length (knC s.ns kv) rfl HA.out.nd.own ⟨w.heap.size, 0, none⟩ 1 1 [.int .i64 k, .string t, .int .i64 i, .slice ua ks.length uc] rfl rfl HC.out (by simp [Value.oneCell']) (by unfold maxLen; omega) (by omega) (by have := HA.out.lt; omega) ?_)
 intro v' w1 hown hgrow _ hat
 obtain ⟨a8, c8, hv8⟩ : ∃ a c, v' = .slice a (s.ns.length + 1) c := by
  obtain ⟨_, ⟨h1, h0⟩ | ⟨g, cap, cur, h1, _⟩⟩ := hown
  · omega
  · exact ⟨_, _, h1⟩
 subst hv8
 have R := HA.out.addn ⟨k, t, i, ks⟩ (.slice ua ks.length uc) HU.out hks hown hgrow (fun r hr => by
  rcases hat with h | h
  · exact .inl (h ▸ hr)
  · rw [h] at hr
    injection hr with hr
    exact .inr (Nat.le_of_eq (by first | exact hr | (simp at hr ⊢; omega))))
 have hb : w1.heap[rb]? = (w.alloc (.cells #[.int .i64 k, .string t, .int .i64 i, .slice ua ks.length uc] 34)).heap[rb]? := hgrow.block rb HA.out.lt (fun e => HA.out.notv (Nat.le_refl _) e.symm)
 have d1 : w1.cell? ⟨rb, 4, none⟩ = some v := by rw [World.cell?_of_block (a := ⟨rb, 4, none⟩) hb]; exact HA.out.c4
 have f1 : ∀ i, w1.frozen? ⟨rb, i, none⟩ = false := fun i => by rw [World.frozen?_of_block (a := ⟨rb, i, none⟩) hb]; exact HA.out.fz i
 have l1 : rb < w1.heap.size := Nat.lt_of_lt_of_le HA.out.lt hgrow.size
 have RR := (show Hid _ from R)
 clear R hown hgrow hat hb HA HU HC c4
 have hn' : (s.ns.length : Int) <= 100000 := by omega
 go_wp2
 go_ret
 exact ⟨by simp [zb], _, RR.out.1, (Rg.of_below A0.out).trans RR.out.2⟩
theorem zsk (rb : Nat) (ts : List za) (tv : Value) (en : Nat) (w : World) (v : Value) (kv : List Value) (s : PS) (h : Rdr rb ts tv en w v kv s) (A : Array Value) (n : Nat) (g : Nat) (ks : List Int) (hg : g = w.heap.size) (hA : A = (icl ks).toArray) (hl : n = ks.length) (hk : ks.length <= 10) (hn : s.ns.length <= 100000) (k : Int) (t : ByteArray) (i : Int) :
 Calls Tryz.prog 31 #[.pointer (some ⟨rb, 0, none⟩), .int .i64 k, .string t, .int .i64 i, .slice (some ⟨g, 0, none⟩) n n] (w.alloc (.cells A 3)) (RdA rb ts tv en w v (kv ++ [.slice (some ⟨g, 0, none⟩) n n]) (zb k t i ks s).2 (zb k t i ks s).1) := by
 subst hg hA hl
 have a0 : Below w.heap.size w (w.alloc (.cells (icl ks).toArray 3)) := (Below.refl _ _).alloc (Nat.le_refl _) _
 have hr := IR.new (B := rb + 1) (w := w) ks (by have := h.lt; omega) (by omega)
 refine (zh9 rb ts tv en _ v kv s k t i _ ks (h.below a0) ⟨hr, fun g hg e => ?_, fun y g hy hg e => ?_⟩ hn (fun _ => hk)).mono ?_
 · have := (World.ownsRow.lt h.nd.own g e).2
   simp [Value.ownBlock] at hg
   omega
 · have := (zha h hy hg).2
   simp [Value.ownBlock] at e
   omega
 · rintro e w' ⟨rfl, v', h1, h2⟩
   exact ⟨rfl, v', h1, (Rg.of_below a0).trans h2⟩
section
variable (rb : Nat) (ts : List za) (tv : Value) (en : Nat)
structure St (w : World) (v : Value) (kv : List Value) (w1 : World) (v1 : Value) (K : List Value) (s1 : PS) : Prop where
 lt : rb < w.heap.size
 ov : ∀ k, v.ownBlock = some k -> rb < k
 rd : Rdr rb ts tv en w1 v1 (kv ++ K) s1
 rg : Rg rb w v w1 v1 K
def RdE (w : World) (v : Value) (kv : List Value) (r : Except (Int × Int) (Int × PS)) (e : Ending) (w' : World) : Prop :=
 (∀ n s', r = .ok (n, s') -> e = .returned (.int .i64 n) /\ ∃ v' K, St rb ts tv en w v kv w' v' K s') /\ (∀ x, r = .error x -> e = pan x.1 x.2 /\ Below rb w w')
structure RP (r : Rd) (n : Nat) : Prop where
 wh : ∀ (w : World) (v : Value) (kv : List Value) (s : PS), Rdr rb ts tv en w v kv s -> s.ns.length <= 8 * s.i -> ts.length < s.i + n -> Calls Tryz.prog 74 #[.pointer (some ⟨rb, 0, none⟩)] w (RdE rb ts tv en w v kv (r.wh s))
 lv : ∀ (l : Nat), 1 <= l -> l <= 7 -> ∀ (w : World) (v : Value) (kv : List Value) (s : PS), Rdr rb ts tv en w v kv s -> s.ns.length <= 8 * s.i -> ts.length < s.i + n -> Calls Tryz.prog 102 #[.pointer (some ⟨rb, 0, none⟩), .int .i64 (l : Int)] w (RdE rb ts tv en w v kv (r.lv l s))
 tn : ∀ (w : World) (v : Value) (kv : List Value) (s : PS), Rdr rb ts tv en w v kv s -> s.ns.length <= 8 * s.i -> ts.length < s.i + n -> Calls Tryz.prog 111 #[.pointer (some ⟨rb, 0, none⟩)] w (RdE rb ts tv en w v kv (r.tn s))
 bl : ∀ (w : World) (v : Value) (kv : List Value) (s : PS), Rdr rb ts tv en w v kv s -> s.ns.length <= 8 * s.i -> ts.length < s.i + n -> Calls Tryz.prog 75 #[.pointer (some ⟨rb, 0, none⟩)] w (RdE rb ts tv en w v kv (r.bl s))
 st : ∀ (w : World) (v : Value) (kv : List Value) (s : PS), Rdr rb ts tv en w v kv s -> s.ns.length <= 8 * s.i -> ts.length < s.i + n -> Calls Tryz.prog 30 #[.pointer (some ⟨rb, 0, none⟩)] w (RdE rb ts tv en w v kv (r.st s))
end
section
variable {rb : Nat} {ts : List za} {tv : Value} {en : Nat} {w w1 w2 : World} {v v1 v2 : Value} {kv K : List Value} {s s1 s2 : PS}
theorem St.begin (h : Rdr rb ts tv en w v kv s) : St rb ts tv en w v kv w v [] s := ⟨h.lt, fun k e => (World.ownsRow.lt h.nd.own k e).1, by rw [List.append_nil]; exact h, Rg.refl _ _ _⟩
theorem RdE.yes {r : Except (Int × Int) (Int × PS)} {n : Int} (h : St rb ts tv en w v kv w1 v1 K s1) (hE : r = .ok (n, s1)) : RdE rb ts tv en w v kv r (.returned (.int .i64 n)) w1 := by
 subst hE
 exact ⟨fun n' s' e => by injection e with e; injection e with e1 e2; subst e1 e2; exact ⟨rfl, _, _, h⟩, fun x e => by cases e⟩
theorem RdE.no {r : Except (Int × Int) (Int × PS)} {x : Int × Int} (h : Below rb w w1) (hE : r = .error x) : RdE rb ts tv en w v kv r (pan x.1 x.2) w1 := by
 subst hE
 exact ⟨fun n' s' e => (by cases e), fun x' e => by injection e with e; subst e; exact ⟨rfl, h⟩⟩
theorem St.low (h : St rb ts tv en w v kv w1 v1 K s1) : Below rb w w1 :=
 ⟨h.rg.os, h.rg.tape, h.rg.output, h.rg.size, fun k hk => h.rg.block k (Nat.lt_trans hk h.lt) (by omega) (fun e => by have := h.ov k e; omega)⟩
theorem St.u (h : St rb ts tv en w v kv w1 v1 K s1) (h1 : Rdr rb ts tv en w2 v1 (kv ++ K) s2) (h2 : Rg rb w1 v1 w2 v1 []) : St rb ts tv en w v kv w2 v1 K s2 :=
 ⟨h.lt, h.ov, h1, by simpa using h.rg.trans h2⟩
theorem St.below (h : St rb ts tv en w v kv w1 v1 K s1) (hb : Below w1.heap.size w1 w2) : St rb ts tv en w v kv w2 v1 K s1 := h.u (h.rd.below hb) (Rg.of_below hb)
theorem St.e (h : St rb ts tv en w v kv w1 v1 K s1) {k1 : List Value} (h1 : St rb ts tv en w1 v1 (kv ++ K) w2 v2 k1 s2) : St rb ts tv en w v kv w2 v2 (K ++ k1) s2 :=
 ⟨h.lt, h.ov, by rw [<- List.append_assoc]; exact h1.rd, h.rg.trans h1.rg⟩
theorem St.pass_yes (h : St rb ts tv en w v kv w1 v1 K s1) (b : ByteArray) (hq : isN ts b s1 = true) :
 Calls Tryz.prog 69 #[.pointer (some ⟨rb, 0, none⟩), .string b] w1 fun e w2 => e = .returned (.bool true) /\ St rb ts tv en w v kv w2 v1 K (adv s1) :=
 (Go.Proofs.YtiglkhkfbgjjoaaGreatDoor.pass_yes rb ts tv en w1 v1 _ s1 h.rd b hq).mono fun e w2 ⟨h1, h2, h3⟩ => ⟨h1, h.u h2 h3⟩
theorem St.pass_no (h : St rb ts tv en w v kv w1 v1 K s1) (b : ByteArray) (hq : isN ts b s1 = false) :
 Calls Tryz.prog 69 #[.pointer (some ⟨rb, 0, none⟩), .string b] w1 fun e w2 => e = .returned (.bool false) /\ St rb ts tv en w v kv w2 v1 K s1 :=
 (Go.Proofs.YtiglkhkfbgjjoaaGreatDoor.pass_no rb ts tv en w1 v1 _ s1 h.rd b hq).mono fun e w2 ⟨h1, h2, h3⟩ => ⟨h1, h.u h2 h3⟩
theorem St.want_yes (h : St rb ts tv en w v kv w1 v1 K s1) (b : ByteArray) (hq : isN ts b s1 = true) :
 Calls Tryz.prog 71 #[.pointer (some ⟨rb, 0, none⟩), .string b] w1 fun e w2 => e = .returned (.tuple #[]) /\ St rb ts tv en w v kv w2 v1 K (adv s1) :=
 (Go.Proofs.YtiglkhkfbgjjoaaGreatDoor.want_yes rb ts tv en w1 v1 _ s1 h.rd b hq).mono fun e w2 ⟨h1, h2, h3⟩ => ⟨h1, h.u h2 h3⟩
theorem St.want_no (h : St rb ts tv en w v kv w1 v1 K s1) (b : ByteArray) (hq : isN ts b s1 = false) :
 Calls Tryz.prog 71 #[.pointer (some ⟨rb, 0, none⟩), .string b] w1 fun e w2 => e = pan (fh ts en 2 s1).1 (fh ts en 2 s1).2 /\ Below rb w w2 :=
 (Go.Proofs.YtiglkhkfbgjjoaaGreatDoor.want_no rb ts tv en w1 v1 _ s1 h.rd b hq).mono fun e w2 ⟨h1, h2⟩ => ⟨h1, h.low.trans h2⟩
theorem St.name_yes (h : St rb ts tv en w v kv w1 v1 K s1) (x : za) (hx : ts[s1.i]? = some x) (hk : x.k = 1) :
 Calls Tryz.prog 70 #[.pointer (some ⟨rb, 0, none⟩)] w1 fun e w2 => e = .returned (.string x.tx) /\ St rb ts tv en w v kv w2 v1 K (adv s1) :=
 (zj8 rb ts tv en w1 v1 _ s1 h.rd x hx hk).mono fun e w2 ⟨h1, h2, h3⟩ => ⟨h1, h.u h2 h3⟩
theorem St.name_no (h : St rb ts tv en w v kv w1 v1 K s1) (hq : kdN ts 1 s1 = false) :
 Calls Tryz.prog 70 #[.pointer (some ⟨rb, 0, none⟩)] w1 fun e w2 => e = pan (fh ts en 2 s1).1 (fh ts en 2 s1).2 /\ Below rb w w2 :=
 (zlr rb ts tv en w1 v1 _ s1 h.rd hq).mono fun e w2 ⟨h1, h2⟩ => ⟨h1, h.low.trans h2⟩
theorem St.take (h : St rb ts tv en w v kv w1 v1 K s1) (x : za) (hx : ts[s1.i]? = some x) :
 Calls Tryz.prog 100 #[.pointer (some ⟨rb, 0, none⟩)] w1 fun e w2 => e = .returned (.agg #[.int .i64 x.k, .int .i64 (x.at_ : Int), .string x.tx, .int .i64 x.n]) /\ St rb ts tv en w v kv w2 v1 K (adv s1) :=
 (zmf rb ts tv en w1 v1 _ s1 h.rd x hx).mono fun e w2 ⟨h1, h2, h3⟩ => ⟨h1, h.u h2 h3⟩
theorem St.kind (h : St rb ts tv en w v kv w1 v1 K s1) (k : Int) (q : Bool) (hq : kdN ts k s1 = q) :
 Calls Tryz.prog 98 #[.pointer (some ⟨rb, 0, none⟩), .int .i64 k] w1 fun e w2 => e = .returned (.bool q) /\ St rb ts tv en w v kv w2 v1 K s1 :=
 (zcj rb ts tv en w1 v1 _ s1 h.rd k q hq).mono fun e w2 ⟨h1, h2⟩ => ⟨h1, h.below h2⟩
theorem St.open_yes (h : St rb ts tv en w v kv w1 v1 K s1) (hd : ¬ s1.d = 30) :
 Calls Tryz.prog 101 #[.pointer (some ⟨rb, 0, none⟩)] w1 fun e w2 => e = .returned (.tuple #[]) /\ St rb ts tv en w v kv w2 v1 K ⟨s1.i, s1.d + 1, s1.ns⟩ :=
 (Go.Proofs.YtiglkhkfbgjjoaaGreatDoor.open_yes rb ts tv en w1 v1 _ s1 h.rd hd).mono fun e w2 ⟨h1, h2, h3⟩ => ⟨h1, h.u h2 h3⟩
theorem St.open_no (h : St rb ts tv en w v kv w1 v1 K s1) (hd : s1.d = 30) :
 Calls Tryz.prog 101 #[.pointer (some ⟨rb, 0, none⟩)] w1 fun e w2 => e = pan (fh ts en 3 s1).1 (fh ts en 3 s1).2 /\ Below rb w w2 :=
 (Go.Proofs.YtiglkhkfbgjjoaaGreatDoor.open_no rb ts tv en w1 v1 _ s1 h.rd hd).mono fun e w2 ⟨h1, h2⟩ => ⟨h1, h.low.trans h2⟩
theorem St.shut (h : St rb ts tv en w v kv w1 v1 K s1) (hd : 1 <= s1.d) :
 Calls Tryz.prog 103 #[.pointer (some ⟨rb, 0, none⟩)] w1 fun e w2 => e = .returned (.tuple #[]) /\ St rb ts tv en w v kv w2 v1 K (zap s1) :=
 (zsm rb ts tv en w1 v1 _ s1 h.rd hd).mono fun e w2 ⟨h1, h2, h3⟩ => ⟨h1, h.u h2 h3⟩
theorem St.fault (h : St rb ts tv en w v kv w1 v1 K s1) (c : Int) :
 Calls Tryz.prog 99 #[.pointer (some ⟨rb, 0, none⟩), .int .i64 c] w1 fun e w2 => e = .returned (.agg #[.int .i64 (fh ts en c s1).1, .int .i64 (fh ts en c s1).2]) /\ Below rb w w2 :=
 (zdi rb ts tv en w1 v1 _ s1 h.rd c).mono fun e w2 ⟨h1, h2⟩ => ⟨h1, h.low.trans (h2.mono (Nat.le_of_lt h.rd.lt))⟩
theorem St.add (h : St rb ts tv en w v kv w1 v1 K s1) (ks : List Int) (k : Int) (t : ByteArray) (i : Int) (hk : ks.length <= 10) (hn : s1.ns.length <= 100000) (A : Array Value) (n g : Nat) (hg : g = w1.heap.size) (hA : A = (icl ks).toArray) (hl : n = ks.length) :
 Calls Tryz.prog 31 #[.pointer (some ⟨rb, 0, none⟩), .int .i64 k, .string t, .int .i64 i, .slice (some ⟨g, 0, none⟩) n n] (w1.alloc (.cells A 3)) fun e w2 => e = .returned (.int .i64 (zb k t i ks s1).1) /\ ∃ v2 K2, St rb ts tv en w v kv w2 v2 K2 (zb k t i ks s1).2 :=
 (zsk rb ts tv en w1 v1 _ s1 h.rd A n g ks hg hA hl (by omega) hn k t i).mono fun e w2 ⟨h1, v2, h2, h3⟩ => ⟨h1, v2, K ++ [.slice (some ⟨g, 0, none⟩) n n], h.lt, h.ov, by rw [<- List.append_assoc]; exact h2, by
   have g1 : Rg rb w v w2 v2 K := by simpa using h.rg.trans h3
   refine g1.more (fun g' e => ?_)
   simp [Value.ownBlock] at e
   have := h.rg.size
   omega⟩
theorem St.add0 (h : St rb ts tv en w v kv w1 v1 K s1) (k : Int) (t : ByteArray) (i : Int) (hn : s1.ns.length <= 100000) :
 Calls Tryz.prog 31 #[.pointer (some ⟨rb, 0, none⟩), .int .i64 k, .string t, .int .i64 i, .slice none 0 0] w1 fun e w2 => e = .returned (.int .i64 (zb k t i [] s1).1) /\ ∃ v2 K2, St rb ts tv en w v kv w2 v2 K2 (zb k t i [] s1).2 :=
 (zh9 rb ts tv en w1 v1 _ s1 k t i _ [] h.rd (Own.nil _ _ _ _) hn (by simp)).mono fun e w2 ⟨h1, v2, h2, h3⟩ => ⟨h1, v2, K ++ [.slice none 0 0], h.lt, h.ov, by rw [<- List.append_assoc]; exact h2, by
   have g1 : Rg rb w v w2 v2 K := by simpa using h.rg.trans h3
   exact g1.more (fun g' e => by simp [Value.ownBlock] at e)⟩
theorem St.yes (h : St rb ts tv en w v kv w1 v1 K s1) {f : Nat} {az : Array Value} {r : Except (Int × Int) (Int × PS)} {n : Int} (hc : Calls Tryz.prog f az w1 (RdE rb ts tv en w1 v1 (kv ++ K) r)) (hr : r = .ok (n, s2)) :
 Calls Tryz.prog f az w1 fun e w2 => e = .returned (.int .i64 n) /\ ∃ v2 K2, St rb ts tv en w v kv w2 v2 K2 s2 :=
 hc.mono fun e w2 hh => by
  obtain ⟨h1, v2, k1, h2⟩ := hh.1 n s2 hr
  exact ⟨h1, v2, _, h.e h2⟩
theorem St.no (h : St rb ts tv en w v kv w1 v1 K s1) {f : Nat} {az : Array Value} {r : Except (Int × Int) (Int × PS)} {x : Int × Int} (hc : Calls Tryz.prog f az w1 (RdE rb ts tv en w1 v1 (kv ++ K) r)) (hr : r = .error x) :
 Calls Tryz.prog f az w1 fun e w2 => e = pan x.1 x.2 /\ Below rb w w2 :=
 hc.mono fun e w2 hh => by
  obtain ⟨h1, h2⟩ := hh.2 x hr
  exact ⟨h1, h.low.trans h2⟩
theorem zac (ts : List za) (en : Nat) (b : ByteArray) (s : PS) : (isN ts b s = true /\ zaw ts en b s = .ok (adv s)) \/ (isN ts b s = false /\ zaw ts en b s = .error (fh ts en 2 s)) := by
 unfold zaw
 cases h : isN ts b s <;> simp
theorem zbp (ts : List za) (en : Nat) (s : PS) : (∃ x, ts[s.i]? = some x /\ x.k = 1 /\ zbf ts en s = .ok (x.tx, adv s)) \/ (kdN ts 1 s = false /\ zbf ts en s = .error (fh ts en 2 s)) := by
 unfold zbf kdN
 cases h : ts[s.i]? with
 | none => simp
 | some x =>
   by_cases hk : x.k = 1
   · left
     exact ⟨x, rfl, hk, by simp [hk]⟩
   · right
     simp [hk]
theorem za2 (ts : List za) (en : Nat) (s : PS) : (¬ s.d = 30 /\ zco ts en s = .ok ⟨s.i, s.d + 1, s.ns⟩) \/ (s.d = 30 /\ zco ts en s = .error (fh ts en 3 s)) := by
 unfold zco
 by_cases h : s.d = 30 <;> simp [h]
theorem Adv.phi {ts : List za} {k : Nat} {s s' : PS} (h : Adv ts k s s') (hp : s.ns.length <= 8 * s.i) : s'.ns.length + k <= 8 * s'.i := by
 have := h.2.2.2.2
 omega
end
end Go.Proofs.YtiglkhkfbgjjoaaGreatDoor
