/- - -/
import Derived.Test.YtiglkhkfbgjjoaaGreatDoorPPbM
import Derived.Defers
import Derived.Recover
import Derived.Test.YtiglkhkfbgjjoaaGreatDoorPLxG
namespace Go.Proofs.YtiglkhkfbgjjoaaGreatDoor
set_option maxRecDepth 20000
open Go.RowKit Go.PlainAid Go.Maps
set_option linter.unusedSimpArgs false
set_option linter.unusedVariables false
theorem zl7 (w : World) : (Instr.typeAssert .nilIface 20 42 true).run Tryz.prog w = .ok (.tuple #[.agg #[.int .i64 0, .int .i64 0], .bool false]) w := by kernel_rfl
theorem zkv (c a : Int) (w : World) : (Instr.typeAssert (.iface 42 (.agg #[.int .i64 c, .int .i64 a])) 20 42 true).run Tryz.prog w = .ok (.tuple #[.agg #[.int .i64 c, .int .i64 a], .bool true]) w := by kernel_rfl
theorem zmr (p q r x t a b P : Value) : (#[p, q, r] ++ (((((((Array.replicate 13 undef).setIfInBounds 3 x).setIfInBounds 4 t).setIfInBounds 2 t).setIfInBounds 5 a).setIfInBounds 6 b).setIfInBounds 0 P).setIfInBounds 1 b : Array Value) = #[p, q, r, P, b, t, x, t, a, b, undef, undef, undef, undef, undef, undef] := by kernel_rfl
theorem znv (p q r : Addr) (w : World) :
 CallsD Tryz.prog 13 #[.pointer (some p), .pointer (some q), .pointer (some r)] .returning w fun e u' w' => e = .returned (.tuple #[]) /\ u' = .returning /\ Below w.heap.size w w' := by
 have h1 := zl7
 have B1 : Below w.heap.size w (w.alloc (.cells #[.int .i64 0, .int .i64 0] 42)) := (Below.refl _ _).alloc (Nat.le_refl _) _
 refine callsD_of_wpS Tryz.func13 rfl fun c₀ cs hu => ?_
 apply wpS_seq
 apply wpS_region
 simp [wpOpsS, go_sem, recoverD, hu, Tryz.ntmps13, Exit.thenS, h1]
 rw [zmr]
 clear h1
 refine wpS_of_wp ?_
 go_wp2
 cases c₀
 simp_all [bodyPostS, results, Tryz.results13, Exit.thenS]
set_option maxHeartbeats 2000000 in
theorem zhn (B : Nat) (x y z : Int) (sv : Value) (c a : Int) (older : List PanicEntry) (w : World) (hB : B + 2 < w.heap.size) (p0 : w.cell? ⟨B, 0, none⟩ = some sv) (p1 : w.cell? ⟨B, 1, none⟩ = some (.int .i64 x)) (q0 : w.cell? ⟨B + 1, 0, none⟩ = some (.int .i64 y)) (r0 : w.cell? ⟨B + 2, 0, none⟩ = some (.int .i64 z)) (f0 : ∀ i, w.frozen? ⟨B, i, none⟩ = false) (f1 : ∀ i, w.frozen? ⟨B + 1, i, none⟩ = false) (f2 : ∀ i, w.frozen? ⟨B + 2, i, none⟩ = false) :
 CallsD Tryz.prog 13 #[.pointer (some ⟨B, 0, none⟩), .pointer (some ⟨B + 1, 0, none⟩), .pointer (some ⟨B + 2, 0, none⟩)] (.panicking ({ v := .iface 42 (.agg #[.int .i64 c, .int .i64 a]), recovered := false } :: older)) w fun e u' w' =>
  e = .returned (.tuple #[]) /\ u' = .panicking ({ v := .iface 42 (.agg #[.int .i64 c, .int .i64 a]), recovered := true } :: older) /\ w'.cell? ⟨B, 0, none⟩ = some (.slice none 0 0) /\ w'.cell? ⟨B, 1, none⟩ = some (.int .i64 0) /\ w'.cell? ⟨B + 1, 0, none⟩ = some (.int .i64 c) /\ w'.cell? ⟨B + 2, 0, none⟩ = some (.int .i64 a) /\ Below B w w' := by
 have h1 := zkv c a
 refine callsD_of_wpS Tryz.func13 rfl fun c₀ cs hu => ?_
 apply wpS_seq
 apply wpS_region
 simp [wpOpsS, go_sem, recoverD, hu, Tryz.ntmps13, Exit.thenS, h1]
 rw [zmr]
 clear h1
 have n0 : w.heap.size ≠ B := by omega
 have n1 : w.heap.size ≠ B + 1 := by omega
 have n2 : w.heap.size ≠ B + 2 := by omega
 have l0 : B < w.heap.size := by omega
 have l1 : B + 1 < w.heap.size := by omega
 have b0 : B ≠ w.heap.size := by omega
 have b1 : B + 1 ≠ w.heap.size := by omega
 have b2 : B + 2 ≠ w.heap.size := by omega
 refine wpS_of_wp ?_
 go_wp2
 go_region
 have hS : (B : Nat) < (((w.setCell ⟨B, 0, none⟩ (.slice none 0 0)).setCell ⟨B, 1, none⟩ (.int .i64 0)).setCell ⟨B + 1, 0, none⟩ (.int .i64 c)).heap.size := by simp; omega
 have hBel : Below B w (((((w.setCell ⟨B, 0, none⟩ (.slice none 0 0)).setCell ⟨B, 1, none⟩ (.int .i64 0)).setCell ⟨B + 1, 0, none⟩ (.int .i64 c)).setCell ⟨B + 2, 0, none⟩ (.int .i64 a)).alloc (.cells #[.int .i64 c, .int .i64 a] 42)).drew := ((((((Below.refl B w).setCell (Nat.le_refl _) _).setCell (Nat.le_refl _) _).setCell (Nat.le_succ _) _).setCell (by simp) _).alloc (by simp; omega) _).drew
 refine ⟨rfl, _, rfl, .tuple #[], by simp [results, Tryz.results13], rfl, rfl, ?_, ?_, ?_, ?_, hBel⟩
 · simp [go_sem, p0, p1, q0, r0, *]
 · simp [go_sem, p0, p1, q0, r0, *]
 · simp [go_sem, p0, p1, q0, r0, *]
 · simp [go_sem, p0, p1, q0, r0, *]
theorem zcl.up {rb rb' : Nat} {w w' : World} (h : zcl rb w) (hb : Below rb w w') (hr : rb <= rb') : zcl rb' w' :=
 ⟨Nat.le_trans h.lo hr, (h.below hb).turn, (h.below hb).op⟩
structure zdn (B : Nat) (w : World) (x0 x1 y z : Value) : Prop where
 lt : B + 2 < w.heap.size
 c0 : w.cell? ⟨B, 0, none⟩ = some x0
 c1 : w.cell? ⟨B, 1, none⟩ = some x1
 d0 : w.cell? ⟨B + 1, 0, none⟩ = some y
 e0 : w.cell? ⟨B + 1 + 1, 0, none⟩ = some z
 f0 : ∀ i, w.frozen? ⟨B, i, none⟩ = false
 f1 : ∀ i, w.frozen? ⟨B + 1, i, none⟩ = false
 f2 : ∀ i, w.frozen? ⟨B + 1 + 1, i, none⟩ = false
theorem zdn.below {B C : Nat} {w w' : World} {x0 x1 y z : Value} (h : zdn B w x0 x1 y z) (hb : Below C w w') (hC : B + 2 < C) : zdn B w' x0 x1 y z := by
 have k := za7 hb
 exact ⟨Nat.lt_of_lt_of_le h.lt hb.size, by rw [k.1 _ _ (by omega)]; exact h.c0, by rw [k.1 _ _ (by omega)]; exact h.c1, by rw [k.1 _ _ (by omega)]; exact h.d0, by rw [k.1 _ _ (by omega)]; exact h.e0, fun i => by rw [k.2 _ _ (by omega)]; exact h.f0 i, fun i => by rw [k.2 _ _ (by omega)]; exact h.f1 i, fun i => by rw [k.2 _ _ (by omega)]; exact h.f2 i⟩
theorem zgx (w : World) : zdn w.heap.size (((w.alloc (.cells #[.slice none 0 0, .int .i64 0] 27)).alloc (.cells #[.int .i64 0] 3)).alloc (.cells #[.int .i64 0] 3)) (.slice none 0 0) (.int .i64 0) (.int .i64 0) (.int .i64 0) :=
 ⟨by simp, by simp [go_sem], by simp [go_sem], by simp [go_sem], by simp [go_sem], fun i => by simp [go_sem], fun i => by simp [go_sem], fun i => by simp [go_sem]⟩
theorem zdn.write {B : Nat} {w : World} {x0 x1 y z : Value} (h : zdn B w x0 x1 y z) (X0 X1 Y Z : Value) : zdn B ((((w.setCell ⟨B, 0, none⟩ X0).setCell ⟨B, 1, none⟩ X1).setCell ⟨B + 1, 0, none⟩ Y).setCell ⟨B + 1 + 1, 0, none⟩ Z) X0 X1 Y Z := by
 obtain ⟨lt, c0, c1, d0, e0, f0, f1, f2⟩ := h
 have l1 : B < w.heap.size := by omega
 have l2 : B + 1 < w.heap.size := by omega
 refine ⟨by simpa using lt, ?_, ?_, ?_, ?_, fun i => ?_, fun i => ?_, fun i => ?_⟩
 · simp [go_sem, c0]
 · simp [go_sem, c1]
 · simp [go_sem, d0]
 · simp [go_sem, e0]
 · simp [go_sem, f0]
 · simp [go_sem, f1]
 · simp [go_sem, f2]
theorem zku {B : Nat} {w : World} {x0 x1 y z : Value} (h : zdn B w x0 x1 y z) (tm : Array Value) (h2 : tm[2]? = some (.pointer (some ⟨B, 0, none⟩))) (h3 : tm[3]? = some (.pointer (some ⟨B + 1, 0, none⟩))) (h4 : tm[4]? = some (.pointer (some ⟨B + 1 + 1, 0, none⟩))) : (results Tryz.f6 tm).run Tryz.prog w = .ok (.tuple #[.agg #[x0, x1], y, z]) w := by
 simp [results, Tryz.results6, go_sem, h.c0, h.c1, h.d0, h.e0, h2, h3, h4]
set_option maxHeartbeats 2000000 in
theorem zo8 (t : ByteArray) (w : World) (ht0 : t.size <= 1048576) (hM : MkV w) (hc : (zn t).1 ≠ 0) :
 Calls Tryz.prog 6 #[.string t] w fun e w' => e = .returned (.tuple #[.agg #[.slice none 0 0, .int .i64 0], .int .i64 1, .int .i64 ((zn t).2.1 : Int)]) /\ Below w.heap.size w w' := by
 have B3 : Below w.heap.size w (((w.alloc (.cells #[.slice none 0 0, .int .i64 0] 27)).alloc (.cells #[.int .i64 0] 3)).alloc (.cells #[.int .i64 0] 3)) := (((Below.refl _ _).alloc (Nat.le_refl _) _).alloc (by simp) _).alloc (by simp; omega) _
 have HL : Hid (Calls _ _ _ _ _) := zfr t _ ht0 (hM.below B3 hM.1)
 have HR3 : Hid _ := zgx w
 have hc' : ((zn t).1 != 0) = true := by simpa using hc
 clear hM hc
 generalize (zn t).1 = co at HL hc'
 generalize ((zn t).2.1 : Int) = pl at HL
 generalize (zn t).2.2 = ts at HL
 go_enter_defers Tryz.func6, Tryz.ntmps6
 go_wp2_with fail
 refine HL.out.mono ?_
 rintro e w1 ⟨tv, rfl, _, b1⟩
 obtain ⟨lt, c0, c1, d0, e0, f0, f1, f2⟩ := HR3.out.below b1 (by simp)
 have BB := zg B3 b1
 have R2 : Hid (zdn w.heap.size ((((w1.setCell ⟨w.heap.size, 0, none⟩ (.slice none 0 0)).setCell ⟨w.heap.size, 1, none⟩ (.int .i64 0)).setCell ⟨w.heap.size + 1, 0, none⟩ (.int .i64 1)).setCell ⟨w.heap.size + 1 + 1, 0, none⟩ (.int .i64 pl)) (.slice none 0 0) (.int .i64 0) (.int .i64 1) (.int .i64 pl)) := zdn.write ⟨lt, c0, c1, d0, e0, f0, f1, f2⟩ _ _ _ _
 have BW : Hid (Below w.heap.size w ((((w1.setCell ⟨w.heap.size, 0, none⟩ (.slice none 0 0)).setCell ⟨w.heap.size, 1, none⟩ (.int .i64 0)).setCell ⟨w.heap.size + 1, 0, none⟩ (.int .i64 1)).setCell ⟨w.heap.size + 1 + 1, 0, none⟩ (.int .i64 pl))) := (((BB.setCell (Nat.le_refl _) _).setCell (Nat.le_refl _) _).setCell (Nat.le_succ _) _).setCell (by simp; omega) _
 clear b1 HR3 HL
 go_wp2_with fail
 exact ⟨_, zku R2.out _ rfl rfl rfl, rfl, BW.out⟩
theorem zcw {B : Nat} {e : TypeId} {sz n : Nat} {w w' : World} {v : Value} {X : List Value} (h : w.ownsRow B e sz v n X) {C : Nat} (hC : C <= B) (hb : ∀ k, B <= k -> k < w.heap.size -> w'.heap[k]? = w.heap[k]?) : w'.ownsRow C e sz v n X := by
 obtain ⟨h1, h2⟩ := h
 refine ⟨h1, ?_⟩
 rcases h2 with h2 | ⟨g, cap, cur, hv, hg, hc, r⟩
 · exact .inl h2
 · refine .inr ⟨g, cap, cur, hv, Nat.le_trans hC hg, ?_, r⟩
   have lg : g < w.heap.size := by
    rcases Nat.lt_or_ge g w.heap.size with h | h
    · exact h
    · rw [Array.getElem?_eq_none h] at hc; cases hc
   rw [hb g hg lg]
   exact hc
theorem NdR.blocks {B C : Nat} {w w' : World} {v : Value} {ns : List KnL} {kv : List Value} (h : NdR B w v ns kv) (hC : C <= B) (hb : ∀ k, B <= k -> k < w.heap.size -> w'.heap[k]? = w.heap[k]?) : NdR C w' v ns kv :=
 ⟨h.len, zcw h.own hC hb, fun j x u h1 h2 => zcw (h.kid j x u h1 h2) hC hb, h.ne, h.nd⟩
theorem NdR.form {B : Nat} {w : World} {v : Value} {ns : List KnL} {kv : List Value} (h : NdR B w v ns kv) : ∃ a c, v = .slice a ns.length c := by
 obtain ⟨_, ⟨rfl, h0⟩ | ⟨g, cap, cur, rfl, _⟩⟩ := h.own
 · exact ⟨none, 0, by rw [h0]⟩
 · exact ⟨_, _, rfl⟩
theorem zen (t : ByteArray) : (zn t).2.2.length <= 3000 := by
 unfold zn
 split
 · simp
 · unfold zab
   have := zex t (t.size - 0) 0 []
   simp at this ⊢
   omega
theorem zmq {w1 : World} {ts : List za} {tv : Value} {en : Nat} {B : Nat} (hk : zaa B w1 tv ts) (hl : ts.length <= 3000) (hT : zcl w1.heap.size w1) :
 Rdr w1.heap.size ts tv en (w1.alloc (.cells #[tv, .int .i64 0, .int .i64 (en : Int), .int .i64 0, .slice none 0 0] 45)) (.slice none 0 0) [] ⟨0, 0, []⟩ := by
 have hb : Below w1.heap.size w1 (w1.alloc (.cells #[tv, .int .i64 0, .int .i64 (en : Int), .int .i64 0, .slice none 0 0] 45)) := (Below.refl _ _).alloc (Nat.le_refl _) _
 refine ⟨by simp, by simp [go_sem], by simp [go_sem], by simp [go_sem], by simp [go_sem], by simp [go_sem], fun i => by simp [go_sem], ?_, ?_, by simp, hl, by simp, hT.below hb, by simp, ?_⟩
 · exact zcw (C := 0) hk (Nat.zero_le _) (fun k _ h2 => hb.block k h2)
 · intro g e
   exact (World.ownsRow.lt hk g e).2
 · exact ⟨rfl, World.ownsRow_nil _ _ _ 4, fun j x u h1 h2 => by simp at h1, fun j u g h1 => by simp at h1, fun i j u u' g h1 => by simp at h1⟩
set_option maxHeartbeats 4000000 in
theorem zqp (t : ByteArray) (w : World) (ht0 : t.size <= 1048576) (hM : MkV w) (hTb : zcl w.heap.size w) (hc : (zn t).1 = 0) (x : Int × Int) (hx : zbj (zn t).2.2 t.size = .error x) :
 Calls Tryz.prog 6 #[.string t] w fun e w' => e = .returned (.tuple #[.agg #[.slice none 0 0, .int .i64 0], .int .i64 x.1, .int .i64 x.2]) /\ Below w.heap.size w w' := by
 have hmf : ∀ (fn : Fn) (first cap : Array Value) (w : World), (Instr.makeFunc fn first cap).run Tryz.prog w = .ok (.func fn first cap) w := fun _ _ _ _ => rfl
 have B3 : Below w.heap.size w (((w.alloc (.cells #[.slice none 0 0, .int .i64 0] 27)).alloc (.cells #[.int .i64 0] 3)).alloc (.cells #[.int .i64 0] 3)) := (((Below.refl _ _).alloc (Nat.le_refl _) _).alloc (by simp) _).alloc (by simp; omega) _
 have HL : Hid (Calls _ _ _ _ _) := zfr t _ ht0 (hM.below B3 hM.1)
 have HR3 : Hid _ := zgx w
 have HT : Hid (zcl w.heap.size w) := hTb
 have hl := zen t
 have hE : zg0 (zn t).2.2 (rds (zn t).2.2 t.size ((zn t).2.2.length + 1)) ⟨0, 0, []⟩ = .error x := by
  unfold zbj at hx
  unfold zg0
  split at hx
  · rename_i y hy
    rw [hy]
    injection hx with hx
    rw [hx]
  · cases hx
 have HE : Hid _ := hE
 have ht' : (t.size : Int) <= 1048576 := by omega
 clear hM hE hx hTb
 rw [hc] at HL
 generalize ((zn t).2.1 : Int) = pl at HL
 generalize (zn t).2.2 = ts at HL HE hl
 go_enter_defers Tryz.func6, Tryz.ntmps6
 go_wp2_with fail
 refine HL.out.mono ?_
 rintro e w1 ⟨tv, rfl, hk, b1⟩
 have R1 := HR3.out.below b1 (by simp)
 have BB := zg B3 b1
 have hT1 : zcl w1.heap.size w1 := HT.out.up BB BB.size
 have HRd := zmq (en := t.size) hk hl hT1
 have HC : Hid (Calls _ _ _ _ _) := zho (RP.all w1.heap.size ts tv t.size (ts.length + 1)) (zav ts t.size (ts.length + 1)) _ _ _ _ HRd (by simp) (by simp)
 rw [HE.out] at HC
 obtain ⟨a0, c0, rfl⟩ := hk.form
 have bN : Below w1.heap.size w1 (w1.alloc (.cells #[.slice a0 ts.length c0, .int .i64 0, .int .i64 (t.size : Int), .int .i64 0, .slice none 0 0] 45)) := (Below.refl _ _).alloc (Nat.le_refl _) _
 have HR1 : Hid (zdn w.heap.size (w1.alloc (.cells #[.slice a0 ts.length c0, .int .i64 0, .int .i64 (t.size : Int), .int .i64 0, .slice none 0 0] 45)) (.slice none 0 0) (.int .i64 0) (.int .i64 0) (.int .i64 0)) := R1.below bN R1.lt
 have HB1 : Hid (Below w.heap.size w (w1.alloc (.cells #[.slice a0 ts.length c0, .int .i64 0, .int .i64 (t.size : Int), .int .i64 0, .slice none 0 0] 45))) := zg BB bN
 have l3 : w.heap.size + 2 < w1.heap.size := R1.lt
 clear b1 HR3 HL hT1 HRd hk bN BB R1 HT HE
 go_wp2_with fail
 refine HC.out.mono ?_
 rintro e w2 ⟨_, h2⟩
 obtain ⟨he, b2⟩ := h2 x rfl
 unfold pan at he
 subst he
 have R2 := HR1.out.below b2 l3
 have B2 : Below w.heap.size w w2 := HB1.out.trans (b2.mono (by omega))
 clear b2 h2 HC HR1 HB1
 refine leaves_cons (f := 13) (args := #[.pointer (some ⟨w.heap.size, 0, none⟩), .pointer (some ⟨w.heap.size + 1, 0, none⟩), .pointer (some ⟨w.heap.size + 2, 0, none⟩)]) (by simp) (by simp [go_sem]) ?_
 refine (zhn w.heap.size 0 0 0 _ x.1 x.2 [] w2 R2.lt R2.c0 R2.c1 R2.d0 R2.e0 R2.f0 R2.f1 R2.f2).mono ?_
 rintro e u' w3 ⟨rfl, rfl, k0, k1, k2, k3, b3⟩
 have B4 := B2.trans b3
 simp [Leaves, settle, results, Tryz.results6, go_sem, k0, k1, k2, k3, B4]
set_option maxHeartbeats 4000000 in
theorem zo9 (t : ByteArray) (w : World) (ht0 : t.size <= 1048576) (hM : MkV w) (hTb : zcl w.heap.size w) (hc : (zn t).1 = 0) (n : Int) (ns : List KnL) (hx : zbj (zn t).2.2 t.size = .ok (n, ns)) :
 Calls Tryz.prog 6 #[.string t] w fun e w' => ∃ v kv, e = .returned (.tuple #[.agg #[v, .int .i64 n], .int .i64 0, .int .i64 0]) /\ NdR w.heap.size w' v ns kv /\ Below w.heap.size w w' := by
 have hmf : ∀ (fn : Fn) (first cap : Array Value) (w : World), (Instr.makeFunc fn first cap).run Tryz.prog w = .ok (.func fn first cap) w := fun _ _ _ _ => rfl
 have B3 : Below w.heap.size w (((w.alloc (.cells #[.slice none 0 0, .int .i64 0] 27)).alloc (.cells #[.int .i64 0] 3)).alloc (.cells #[.int .i64 0] 3)) := (((Below.refl _ _).alloc (Nat.le_refl _) _).alloc (by simp) _).alloc (by simp; omega) _
 have HL : Hid (Calls _ _ _ _ _) := zfr t _ ht0 (hM.below B3 hM.1)
 have HR3 : Hid _ := zgx w
 have HT : Hid (zcl w.heap.size w) := hTb
 have hl := zen t
 have hE : ∃ s', zg0 (zn t).2.2 (rds (zn t).2.2 t.size ((zn t).2.2.length + 1)) ⟨0, 0, []⟩ = .ok (n, s') /\ s'.ns = ns := by
  unfold zbj at hx
  unfold zg0
  split at hx
  · cases hx
  · rename_i ks s hy
    rw [hy]
    injection hx with hx
    injection hx with hx1 hx2
    exact ⟨_, by rw [<- hx1], hx2⟩
 obtain ⟨s', hE, hns⟩ := hE
 have HE : Hid _ := hE
 have ht' : (t.size : Int) <= 1048576 := by omega
 clear hM hE hx hTb
 rw [hc] at HL
 generalize ((zn t).2.1 : Int) = pl at HL
 generalize (zn t).2.2 = ts at HL HE hl
 go_enter_defers Tryz.func6, Tryz.ntmps6
 go_wp2_with fail
 refine HL.out.mono ?_
 rintro e w1 ⟨tv, rfl, hk, b1⟩
 have R1 := HR3.out.below b1 (by simp)
 have BB := zg B3 b1
 have hT1 : zcl w1.heap.size w1 := HT.out.up BB BB.size
 have HRd := zmq (en := t.size) hk hl hT1
 have HC : Hid (Calls _ _ _ _ _) := zho (RP.all w1.heap.size ts tv t.size (ts.length + 1)) (zav ts t.size (ts.length + 1)) _ _ _ _ HRd (by simp) (by simp)
 rw [HE.out] at HC
 obtain ⟨a0, c0, rfl⟩ := hk.form
 have bN : Below w1.heap.size w1 (w1.alloc (.cells #[.slice a0 ts.length c0, .int .i64 0, .int .i64 (t.size : Int), .int .i64 0, .slice none 0 0] 45)) := (Below.refl _ _).alloc (Nat.le_refl _) _
 have HR1 : Hid (zdn w.heap.size (w1.alloc (.cells #[.slice a0 ts.length c0, .int .i64 0, .int .i64 (t.size : Int), .int .i64 0, .slice none 0 0] 45)) (.slice none 0 0) (.int .i64 0) (.int .i64 0) (.int .i64 0)) := R1.below bN R1.lt
 have HB1 : Hid (Below w.heap.size w (w1.alloc (.cells #[.slice a0 ts.length c0, .int .i64 0, .int .i64 (t.size : Int), .int .i64 0, .slice none 0 0] 45))) := zg BB bN
 have l3 : w.heap.size + 2 < w1.heap.size := R1.lt
 clear b1 HR3 HL hT1 HRd hk bN BB R1 HT HE
 go_wp2_with fail
 refine HC.out.mono ?_
 rintro e w2 ⟨h2, _⟩
 obtain ⟨rfl, v2, K2, s2⟩ := h2 n s' rfl
 have b2 := s2.low
 obtain ⟨lt, c0, c1, d0, e0, f0, f1, f2⟩ := HR1.out.below b2 l3
 have B2 : Below w.heap.size w w2 := HB1.out.trans (b2.mono (by omega))
 have hN := s2.rd.nd
 have l2 := s2.rd.lt
 have q4 := s2.rd.c4
 rw [hns] at hN
 obtain ⟨a2, c2, rfl⟩ := hN.form
 have R2 : Hid (zdn w.heap.size ((((w2.setCell ⟨w.heap.size, 0, none⟩ (.slice a2 ns.length c2)).setCell ⟨w.heap.size, 1, none⟩ (.int .i64 n)).setCell ⟨w.heap.size + 1, 0, none⟩ (.int .i64 0)).setCell ⟨w.heap.size + 1 + 1, 0, none⟩ (.int .i64 0)) (.slice a2 ns.length c2) (.int .i64 n) (.int .i64 0) (.int .i64 0)) := zdn.write ⟨lt, c0, c1, d0, e0, f0, f1, f2⟩ _ _ _ _
 have BW : Hid (Below w.heap.size w ((((w2.setCell ⟨w.heap.size, 0, none⟩ (.slice a2 ns.length c2)).setCell ⟨w.heap.size, 1, none⟩ (.int .i64 n)).setCell ⟨w.heap.size + 1, 0, none⟩ (.int .i64 0)).setCell ⟨w.heap.size + 1 + 1, 0, none⟩ (.int .i64 0))) := (((B2.setCell (Nat.le_refl _) _).setCell (Nat.le_refl _) _).setCell (Nat.le_succ _) _).setCell (by simp; omega) _
 have HN : Hid (NdR w.heap.size ((((w2.setCell ⟨w.heap.size, 0, none⟩ (.slice a2 ns.length c2)).setCell ⟨w.heap.size, 1, none⟩ (.int .i64 n)).setCell ⟨w.heap.size + 1, 0, none⟩ (.int .i64 0)).setCell ⟨w.heap.size + 1 + 1, 0, none⟩ (.int .i64 0)) (.slice a2 ns.length c2) ns ([] ++ K2)) := hN.blocks (by omega) (fun k h1 h2 => by
  rw [Below.heap_setCell _ _ _ _ (by show k ≠ w.heap.size + 1 + 1; omega), Below.heap_setCell _ _ _ _ (by show k ≠ w.heap.size + 1; omega), Below.heap_setCell _ _ _ _ (by show k ≠ w.heap.size; omega), Below.heap_setCell _ _ _ _ (by show k ≠ w.heap.size; omega)])
 have z2 : w.heap.size ≠ w1.heap.size := by omega
 have lw0 : w.heap.size < w2.heap.size := by omega
 have lw1 : w.heap.size + 1 < w2.heap.size := by omega
 clear b2 h2 HC HR1 HB1 s2 hN B2
 go_wp2_with fail
 refine leaves_cons (f := 13) (args := #[.pointer (some ⟨w.heap.size, 0, none⟩), .pointer (some ⟨w.heap.size + 1, 0, none⟩), .pointer (some ⟨w.heap.size + 1 + 1, 0, none⟩)]) (by simp) (by simp [go_sem]) ?_
 obtain ⟨W, hW⟩ : ∃ W, W = ((((w2.setCell ⟨w.heap.size, 0, none⟩ (.slice a2 ns.length c2)).setCell ⟨w.heap.size, 1, none⟩ (.int .i64 n)).setCell ⟨w.heap.size + 1, 0, none⟩ (.int .i64 0)).setCell ⟨w.heap.size + 1 + 1, 0, none⟩ (.int .i64 0)) := ⟨_, rfl⟩
 rw [<- hW] at R2 BW HN ⊢
 refine (znv ⟨w.heap.size, 0, none⟩ ⟨w.heap.size + 1, 0, none⟩ ⟨w.heap.size + 1 + 1, 0, none⟩ W).mono ?_
 rintro e u' w3 ⟨rfl, rfl, b3⟩
 have R3 := R2.out.below b3 R2.out.lt
 exact ⟨_, zku R3 _ rfl rfl rfl, _, _, rfl, HN.out.below b3, BW.out.trans (b3.mono BW.out.size)⟩
end Go.Proofs.YtiglkhkfbgjjoaaGreatDoor
