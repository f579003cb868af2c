/- - -/
import Derived.Maps.OwnSet
import Derived.Test.YtmckcnmlhgpnhaaGreatWImpC
import Derived.Maps.AppendAt
namespace Go.Proofs.YtmckcnmlhgpnhaaGreat
set_option maxRecDepth 20000
open Go.RowKit Go.Maps
set_option linter.unusedSimpArgs false
set_option linter.unusedVariables false
theorem zxs : Keyed Tryz.prog 3 := int_keyed Tryz.underlying3
theorem zx2 (w : World) : (zeroValue 3).run Tryz.prog w = .ok (.int .i64 0) w := by kernel_rfl
def zb7 (w : World) (B n : Nat) (h : Int -> Bool) : Prop :=
 ∃ D : DataW Unit, w.ownsMap Tryz.prog 3 (plainElem Tryz.prog 3) B n D /\ ∀ x : Int, (Lit.int .i64 x).wf = true -> Maps.has D (.int .i64 x) = h x
theorem wfI {x : Int} (h0 : -9223372036854775808 <= x) (h1 : x <= 9223372036854775807) : (Lit.int .i64 x).wf = true := WalkArith.wf_i64 ⟨h0, h1⟩
theorem zb7.made (w : World) : zb7 (w.alloc (.map #[] 0)) w.heap.size 0 (fun _ => false) :=
 ⟨.map [], World.ownsMap_made _ _ _ _, fun x _ => rfl⟩
theorem zb7.lt {w : World} {B n : Nat} {h : Int -> Bool} (m : zb7 w B n h) : B < w.heap.size := by
 obtain ⟨D, hD, _⟩ := m
 exact hD.lt
theorem zb7.of_block {w w' : World} {B n : Nat} {h : Int -> Bool} (m : zb7 w B n h) (e : w'.heap[B]? = w.heap[B]?) : zb7 w' B n h := by
 obtain ⟨D, ⟨es, clock, hb, r⟩, hh⟩ := m
 exact ⟨D, ⟨es, clock, e.trans hb, r⟩, hh⟩
theorem zb7.look {w : World} {B n : Nat} {h : Int -> Bool} (m : zb7 w B n h) {x : Int} (hx : (Lit.int .i64 x).wf = true) :
 ∃ c, (Instr.lookup 165 (.map (some B)) (.int .i64 x) true).run Tryz.prog w = .ok (.tuple #[.int .i64 c, .bool (h x)]) w := by
 obtain ⟨D, hD, hh⟩ := m
 obtain ⟨v, ps, hr, hv⟩ := hD.look_ok zxs Tryz.underlying165 (zx2 w) (plainElem_int Tryz.underlying3 (by decide)) (keyOf_int_mk Tryz.underlying3 hx)
 obtain ⟨c, rfl, _, _⟩ := plainElem_int_inv Tryz.underlying3 hv
 exact ⟨c, by rw [hr, hh x hx]⟩
theorem zb7.put {w : World} {B n : Nat} {h : Int -> Bool} (m : zb7 w B n h) (hn : n < 1048576) {x y : Int} (hx : (Lit.int .i64 x).wf = true) (hy : (Lit.int .i64 y).wf = true) :
 ∃ w', (Instr.mapUpdate 165 (.map (some B)) (.int .i64 x) (.int .i64 y)).run Tryz.prog w = .ok () w' /\ zb7 w' B (n + 1) (fun z => decide (z = x) || h z) /\ w.grownBy w' (some B) := by
 obtain ⟨D, hD, hh⟩ := m
 obtain ⟨w', hr, hD', hg⟩ := hD.update zxs Tryz.underlying165 (by unfold maxLen; omega) (keyOf_int_mk Tryz.underlying3 hx) (plainElem_int Tryz.underlying3 hy)
 refine ⟨w', hr, ⟨_, hD', fun z hz => ?_⟩, hg⟩
 by_cases e : z = x
 · subst e
   rw [has_put_same hD.isMap (by trivial)]
   simp
 · rw [has_put_other (fun g => e (by cases g; rfl)), hh z hz]
   simp [e]
theorem ziw {w w' : World} {B : Nat} (h : w.grownBy w' (some B)) : zz B (B + 1) w w' :=
 ⟨h.os, h.tape, h.output, h.size, fun k hk hr => h.block k hk (fun e => by cases e; omega)⟩
open Go.RowKit
theorem zcq {b off cw : Nat} {ws : List Int} {w : World} (hb : b < w.heap.size) (hc : ∀ i, i < ws.length -> w.cell? ⟨b, off + i, none⟩ = some (.int .u64 (za ws i))) : Sl w (.slice (some ⟨b, off, none⟩) ws.length cw) ws := ⟨_, _, rfl, .inr ⟨b, off, rfl, hb, hc⟩⟩
set_option maxHeartbeats 2000000 in
theorem zih (b off cw : Nat) (ws : List Int) (smz toh top : Int) (cyc : Bool) (sn old cpz sr : Int) (ar : Option Addr) (cr : Nat) (rs : List (Int × Int)) (sv bl cl bs bc : Nat) (vp : Value) (lead : Nat -> Int) (x : Int) (p q : Nat) (w : World) (lsv : sv < w.heap.size) (KS : ∀ i, w.cell? ⟨sv, i, none⟩ = (#[.slice (some ⟨b, off, none⟩) ws.length cw, .int .i64 smz, .int .i64 toh, .int .i64 top, .bool cyc, .int .i64 sn, .int .i64 old, .int .i64 cpz, .int .i64 sr, .slice ar rs.length cr, .slice (some ⟨bl, 0, none⟩) ws.length cl, vp, .map (some bs), .map (some bc)] : Array Value)[i]?) (lbl : bl < w.heap.size) (hl : ∀ i, i < ws.length -> w.cell? ⟨bl, i, none⟩ = some (.int .i64 (lead i))) (hb : b < w.heap.size) (hc : ∀ i, i < ws.length -> w.cell? ⟨b, off + i, none⟩ = some (.int .u64 (za ws i))) (hn : ws.length <= 1048576) (hw : zg ws) (hx : x = p) (hp : p < ws.length) (hq : lead p = q) (hq1 : q < ws.length) :
 Calls Tryz.prog 164 #[.pointer (some ⟨sv, 0, none⟩), .int .i64 x] w fun e w' => e = .returned (.int .i64 (rdS (za ws q) + 1)) /\ Below w.heap.size w w' := by
 have x0 : 0 <= x := by omega
 have x1 : x < (ws.length : Int) := by omega
 have x2 : x.toNat = p := by omega
 have HQ : Hid (lead p = (q : Int)) := hq
 have hlp := hl p hp
 have hs : Sl w (.slice (some ⟨b, off, none⟩) ws.length cw) ws := zcq hb hc
 have KP : ∀ W, Below w.heap.size w W -> (Below w.heap.size w W /\ (∀ i, W.cell? ⟨sv, i, none⟩ = (#[.slice (some ⟨b, off, none⟩) ws.length cw, .int .i64 smz, .int .i64 toh, .int .i64 top, .bool cyc, .int .i64 sn, .int .i64 old, .int .i64 cpz, .int .i64 sr, .slice ar rs.length cr, .slice (some ⟨bl, 0, none⟩) ws.length cl, vp, .map (some bs), .map (some bc)] : Array Value)[i]?) /\ W.cell? ⟨bl, p, none⟩ = some (.int .i64 (lead p))) := fun W hW => ⟨hW, ze KS hW lsv, by rw [hW.cell (p := ⟨bl, p, none⟩) lbl]; exact hlp⟩
 clear hx hq hl hc
 go_enter Tryz.func164, Tryz.ntmps164
 go_wp2
 have b1' := (Below.refl w.heap.size w).drew
 go_region_held3 (fun W => Below w.heap.size w W /\ (∀ i, W.cell? ⟨sv, i, none⟩ = (#[.slice (some ⟨b, off, none⟩) ws.length cw, .int .i64 smz, .int .i64 toh, .int .i64 top, .bool cyc, .int .i64 sn, .int .i64 old, .int .i64 cpz, .int .i64 sr, .slice ar rs.length cr, .slice (some ⟨bl, 0, none⟩) ws.length cl, vp, .map (some bs), .map (some bc)] : Array Value)[i]?) /\ W.cell? ⟨bl, p, none⟩ = some (.int .i64 (lead p))) (first | exact KP _ (by assumption) | exact KP _ b1') (first | (go_at_call 51; refine (zj6 _ _ _ _ _ _ _ _ _ _ _ _ _ _ _ q _ HQ.out (hs.below (And.left (by assumption))) hn hw hq1).mono ?_; rintro e w' ⟨rfl, hb⟩; have hB3 := zc (w := w) (And.left (by assumption)) hb; clear hb))
 all_goals
  go_wp2
  go_ret
  exact ⟨rfl, by assumption⟩
set_option maxHeartbeats 2000000 in
theorem zcw (b off cw : Nat) (ws : List Int) (smz toh top : Int) (cyc : Bool) (sn old cpz sr : Int) (ar : Option Addr) (cr : Nat) (rs : List (Int × Int)) (sv bl cl bs bc : Nat) (vp : Value) (lead : Nat -> Int) (x F : Int) (w : World) (lsv : sv < w.heap.size) (KS : ∀ i, w.cell? ⟨sv, i, none⟩ = (#[.slice (some ⟨b, off, none⟩) ws.length cw, .int .i64 smz, .int .i64 toh, .int .i64 top, .bool cyc, .int .i64 sn, .int .i64 old, .int .i64 cpz, .int .i64 sr, .slice ar rs.length cr, .slice (some ⟨bl, 0, none⟩) ws.length cl, vp, .map (some bs), .map (some bc)] : Array Value)[i]?) (lbl : bl < w.heap.size) (hl : ∀ i, i < ws.length -> w.cell? ⟨bl, i, none⟩ = some (.int .i64 (lead i))) (hb : b < w.heap.size) (hc : ∀ i, i < ws.length -> w.cell? ⟨b, off + i, none⟩ = some (.int .u64 (za ws i))) (hn : ws.length <= 1048576) (hw : zg ws) (t0 : 0 <= toh) (t1 : toh <= 1) (s0 : 256 <= smz) (s1 : smz <= 4000) (hF : toh * smz + 1 = F) (hT : top <= ws.length) :
 Calls Tryz.prog 165 #[.pointer (some ⟨sv, 0, none⟩), .int .i64 x] w fun e w' => e = .returned (.bool (decide (F <= x /\ x < top) && (lead x.toNat == x))) /\ Below w.heap.size w w' := by
 have HF : Hid (toh * smz + 1 = F) := hF
 have hF1 : 1 <= F := by
  have hh : toh = 0 \/ toh = 1 := by omega
  rcases hh with rfl | rfl <;> omega
 clear hF
 by_cases hu : F <= x /\ x < top
 · have du : decide (F <= x /\ x < top) = true := decide_eq_true hu
   rw [du, Bool.true_and]
   have x0 : 0 <= x := by omega
   have x1 : x < (ws.length : Int) := by omega
   have hlp : ∀ W, Below w.heap.size w W -> W.cell? ⟨bl, x.toNat, none⟩ = some (.int .i64 (lead x.toNat)) := fun W hW => by rw [hW.cell (p := ⟨bl, x.toNat, none⟩) lbl]; exact hl x.toNat (by omega)
   clear hl hc hu
   go_enter Tryz.func165, Tryz.ntmps165
   go_wp2_with (go_at_call 175; refine (zcl _ _ _ _ _ _ _ _ _ _ _ _ _ _ x F _ t0 t1 s0 s1 HF.out).mono ?_; rw [du]; rintro e w1 ⟨rfl, b1⟩; have KS1 := ze KS b1 lsv; have q1 := hlp _ b1)
   go_ret
   exact ⟨rfl, b1⟩
 · have du : decide (F <= x /\ x < top) = false := decide_eq_false hu
   rw [du, Bool.false_and]
   clear hl hc hu
   go_enter Tryz.func165, Tryz.ntmps165
   go_wp2_with (go_at_call 175; refine (zcl _ _ _ _ _ _ _ _ _ _ _ _ _ _ x F _ t0 t1 s0 s1 HF.out).mono ?_; rw [du]; rintro e w1 ⟨rfl, b1⟩; have KS1 := ze KS b1 lsv)
   go_ret
   exact ⟨rfl, b1⟩
structure zad (B Bp : Nat) (w : World) (sv bl bs bc n : Nat) (C : Array Value) (vp : Value) (lead : Nat -> Int) (pl : List Nat) (ns nc : Nat) (hser hcop : Int -> Bool) : Prop where
 head : w.rowIs sv 167 C.size (fun i => C.getD i (.bool false))
 row : w.rowIs bl 3 n (fun i => .int .i64 (lead i))
 own : w.ownsRow Bp 3 1 vp pl.length (pl.map fun p : Nat => Value.int .i64 (p : Int))
 ser : zb7 w bs ns hser
 cop : zb7 w bc nc hcop
 ge : B <= sv /\ B <= bl /\ B <= bs /\ B <= bc
 lt : sv < Bp /\ bl < Bp /\ bs < Bp /\ bc < Bp
 ne : sv ≠ bl /\ sv ≠ bs /\ sv ≠ bc /\ bl ≠ bs /\ bl ≠ bc /\ bs ≠ bc
 size : Bp <= w.heap.size
theorem ztu {w : World} {b : Nat} {t : TypeId} {C : Array Value} (h : w.rowIs b t C.size (fun i => C.getD i (.bool false))) : ∀ i, w.cell? ⟨b, i, none⟩ = C[i]? := fun i => by
 by_cases hi : i < C.size
 · rw [h.cell hi]; simp [Array.getD, hi]
 · obtain ⟨cs, hb, hs, hc⟩ := h
   have e1 : C[i]? = none := Array.getElem?_eq_none (by omega)
   rw [e1]
   simp [World.cell?, hb]
   omega
theorem zev {B : Nat} {e : TypeId} {w w' : World} {v : Value} {n : Nat} {xs : List Value} (h : w.ownsRow B e 1 v n xs) (hb : ∀ k, B <= k -> k < w.heap.size -> w'.heap[k]? = w.heap[k]?) : w'.ownsRow B e 1 v n xs := by
 obtain ⟨h1, h | ⟨g, cap, cur, rfl, hB, hg, r⟩⟩ := h
 · exact ⟨h1, .inl h⟩
 · exact ⟨h1, .inr ⟨g, cap, cur, rfl, hB, by rw [hb g hB (Array.getElem?_eq_some_iff.1 hg).1]; exact hg, r⟩⟩
section
variable {B Bp : Nat} {w w' : World} {sv bl bs bc n : Nat} {C : Array Value} {vp : Value} {lead : Nat -> Int} {pl : List Nat} {ns nc : Nat} {hser hcop : Int -> Bool}
theorem zad.cells (h : zad B Bp w sv bl bs bc n C vp lead pl ns nc hser hcop) : ∀ i, w.cell? ⟨sv, i, none⟩ = C[i]? := ztu h.head
theorem zad.leads (h : zad B Bp w sv bl bs bc n C vp lead pl ns nc hser hcop) : ∀ i, i < n -> w.cell? ⟨bl, i, none⟩ = some (.int .i64 (lead i)) := fun i hi => h.row.cell hi
theorem zad.lsv (h : zad B Bp w sv bl bs bc n C vp lead pl ns nc hser hcop) : sv < w.heap.size := h.head.lt
theorem zad.lbl (h : zad B Bp w sv bl bs bc n C vp lead pl ns nc hser hcop) : bl < w.heap.size := h.row.lt
theorem zad.blocks (h : zad B Bp w sv bl bs bc n C vp lead pl ns nc hser hcop) (hz : w.heap.size <= w'.heap.size) (hb : ∀ k, k < w.heap.size -> w'.heap[k]? = w.heap[k]?) : zad B Bp w' sv bl bs bc n C vp lead pl ns nc hser hcop :=
 ⟨h.head.of_block (hb _ h.head.lt), h.row.of_block (hb _ h.row.lt), zev h.own (fun k _ hk => hb k hk), h.ser.of_block (hb _ h.ser.lt), h.cop.of_block (hb _ h.cop.lt), h.ge, h.lt, h.ne, Nat.le_trans h.size hz⟩
theorem zad.below (h : zad B Bp w sv bl bs bc n C vp lead pl ns nc hser hcop) (hb : Below w.heap.size w w') : zad B Bp w' sv bl bs bc n C vp lead pl ns nc hser hcop :=
 h.blocks hb.size (fun k hk => hb.block k hk)
theorem zad.alloc (h : zad B Bp w sv bl bs bc n C vp lead pl ns nc hser hcop) (o : Obj) : zad B Bp (w.alloc o) sv bl bs bc n C vp lead pl ns nc hser hcop :=
 h.below ((Below.refl _ _).alloc (Nat.le_refl _) _)
theorem zad.putSer (h : zad B Bp w sv bl bs bc n C vp lead pl ns nc hser hcop) {m : Nat} {hs' : Int -> Bool} (hm : zb7 w' bs m hs') (hg : w.grownBy w' (some bs)) : zad B Bp w' sv bl bs bc n C vp lead pl m nc hs' hcop := by
 have hne := h.ne
 have hlt := h.lt
 have k : ∀ j, j < w.heap.size -> j ≠ bs -> w'.heap[j]? = w.heap[j]? := fun j hj e => hg.block j hj (by intro g; cases g; exact e rfl)
 exact ⟨h.head.of_block (k _ h.head.lt hne.2.1), h.row.of_block (k _ h.row.lt hne.2.2.2.1), zev h.own (fun j hj hk => k j hk (by omega)), hm, h.cop.of_block (k _ h.cop.lt (fun e => hne.2.2.2.2.2 e.symm)), h.ge, h.lt, h.ne, Nat.le_trans h.size hg.size⟩
theorem zad.putCop (h : zad B Bp w sv bl bs bc n C vp lead pl ns nc hser hcop) {m : Nat} {hc' : Int -> Bool} (hm : zb7 w' bc m hc') (hg : w.grownBy w' (some bc)) : zad B Bp w' sv bl bs bc n C vp lead pl ns m hser hc' := by
 have hne := h.ne
 have hlt := h.lt
 have k : ∀ j, j < w.heap.size -> j ≠ bc -> w'.heap[j]? = w.heap[j]? := fun j hj e => hg.block j hj (by intro g; cases g; exact e rfl)
 exact ⟨h.head.of_block (k _ h.head.lt hne.2.2.1), h.row.of_block (k _ h.row.lt hne.2.2.2.2.1), zev h.own (fun j hj hk => k j hk (by omega)), h.ser.of_block (k _ h.ser.lt hne.2.2.2.2.2), hm, h.ge, h.lt, h.ne, Nat.le_trans h.size hg.size⟩
theorem zad.setLead (h : zad B Bp w sv bl bs bc n C vp lead pl ns nc hser hcop) (k : Nat) (v : Int) : zad B Bp (w.setCell ⟨bl, k, none⟩ (.int .i64 v)) sv bl bs bc n C vp (fun i => if i = k then v else lead i) pl ns nc hser hcop := by
 have hne := h.ne
 have hlt := h.lt
 have e : ∀ j, j ≠ bl -> (w.setCell ⟨bl, k, none⟩ (.int .i64 v)).heap[j]? = w.heap[j]? := fun j hj => Go.Deep.blk_setCell_other _ _ _ _ hj
 refine ⟨h.head.of_block (e _ hne.1), (h.row.set k _).congr (fun i _ => ?_), zev h.own (fun j hj hk => e j (fun g => by have g' : j = bl := g; omega)), h.ser.of_block (e _ (fun g => hne.2.2.2.1 g.symm)), h.cop.of_block (e _ (fun g => hne.2.2.2.2.1 g.symm)), h.ge, h.lt, h.ne, by simpa using h.size⟩
 by_cases g : i = k <;> simp [g]
theorem zad.setPlaces (h : zad B Bp w sv bl bs bc n C vp lead pl ns nc hser hcop) {w1 : World} {o : Obj} {vp' : Value} {p j : Nat} {C' : Array Value} (hg : (w.alloc o).grownBy w1 vp.ownBlock) (hown : w1.ownsRow Bp 3 1 vp' (pl.length + 1) ((pl.map fun p : Nat => Value.int .i64 (p : Int)) ++ [.int .i64 (p : Int)]))
 (hs : C'.size = C.size) (hC : ∀ i, i < C.size -> C'.getD i (.bool false) = if i = j then vp' else C.getD i (.bool false)) : zad B Bp (w1.setCell ⟨sv, j, none⟩ vp') sv bl bs bc n C' vp' lead (pl ++ [p]) ns nc hser hcop := by
 have hne := h.ne
 have hlt := h.lt
 have hp : ∀ q, vp.ownBlock = some q -> Bp <= q := fun q hq => (h.own.lt q hq).1
 have k : ∀ q, q < Bp -> w1.heap[q]? = w.heap[q]? := fun q hq => by
  have hqw : q < w.heap.size := Nat.lt_of_lt_of_le hq h.size
  rw [hg.block q (by simp; omega) (fun e => by have := hp q e.symm; omega)]
  exact Go.Deep.blk_alloc_lt _ _ _ hqw
 have k2 : ∀ q, q < Bp -> q ≠ sv -> (w1.setCell ⟨sv, j, none⟩ vp').heap[q]? = w.heap[q]? := fun q hq e => by rw [Go.Deep.blk_setCell_other _ _ _ _ e]; exact k q hq
 refine ⟨?_, h.row.of_block (k2 _ hlt.2.1 (fun e => hne.1 e.symm)), ?_, h.ser.of_block (k2 _ hlt.2.2.1 (fun e => hne.2.1 e.symm)), h.cop.of_block (k2 _ hlt.2.2.2 (fun e => hne.2.2.1 e.symm)), h.ge, h.lt, h.ne, ?_⟩
 · rw [hs]
   refine ((h.head.of_block (k sv hlt.1)).set j vp').congr fun i hi => ?_
   exact (hC i hi).symm
 · have := zev (w' := w1.setCell ⟨sv, j, none⟩ vp') hown (fun q hq _ => Go.Deep.blk_setCell_other _ _ _ _ (fun e => by have e' : q = sv := e; omega))
   simpa using this
 · have := hg.size
   have := h.size
   simp at *
   omega
end
end Go.Proofs.YtmckcnmlhgpnhaaGreat
