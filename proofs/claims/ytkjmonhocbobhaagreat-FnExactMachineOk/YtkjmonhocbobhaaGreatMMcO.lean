/- - -/
import Derived.Test.YtkjmonhocbobhaaGreatMMcA
import Derived.Test.YtkjmonhocbobhaaGreatMMkO
namespace Go.Proofs.YtkjmonhocbobhaaGreat
set_option maxRecDepth 20000
open Go.ChangeShapes Go.WideShapes Go.ChangeAt Go.RowKit Go.Joins Go.Deep
set_option linter.unusedSimpArgs false
set_option linter.unusedVariables false
theorem zqa {H : Type} {enc : TypeId × Value -> H} {w : World} {fuel : Nat} {x : DataW H × List MemPlace} {c0 c1 : Value} (h : DataW.trod enc Tryz.prog w 0 (fun _ => true) true fuel 25 [c0, c1] = some x) :
 ∃ (a1 : Option Addr) (L d1 : Nat) (a2 : Option Addr) (n d2 : Nat) (X : Nat -> PtD) (s : Nat -> ByteArray), c0 = .slice a1 L d1 /\ c1 = .slice a2 n d2 /\ MdF w.heap.size w (.slice a1 L d1) (.slice a2 n d2) L X n s /\ L <= 9223372036854775807 /\ n <= 9223372036854775807 /\ (∀ j, j < L -> PLr (X j)) /\ ∀ j, j < n -> (s j).size <= 9223372036854775807 := by
 obtain ⟨xs, n, _, _, _, hlen, hall⟩ := DataW.trod_struct zml h
 have hfld := znv
 generalize Tryz.prog.fieldsOf 25 = fs at hall hfld hlen
 obtain ⟨l⟩ := fs
 have hl : l.length = 2 := by have := congrArg List.length hfld; simpa using this
 match l, hl with
 | [f0, f1], _ =>
   simp only [List.map_cons, List.map_nil, List.cons.injEq, Prod.mk.injEq, and_true] at hfld
   obtain ⟨⟨a0, b0, d0⟩, a1, b1, d1⟩ := hfld
   simp at hlen
   match xs, hlen with
   | [y0, y1], _ =>
     have e0 := hall 0 f0 rfl
     have e1 := hall 1 f1 rfl
     rw [a0, b0] at e0
     rw [a1, b1] at e1
     rw [a0] at d0
     rw [a1] at d1
     simp [d0, d1] at e0 e1
     obtain ⟨a2, c2, L, X, rfl, l2, s2, hX⟩ := zr8 e0
     obtain ⟨ar, n, cr, s, rfl, l1, s1, hS⟩ := zmm e1
     exact ⟨a2, L, c2, ar, n, cr, X, s, rfl, rfl, ⟨s2, s1⟩, l2, l1, hX, hS⟩
theorem zr5 {H : Type} {enc : TypeId × Value -> H} {w : World} {fuel : Nat} {x : DataW H × List MemPlace} {c0 c1 c2 c3 c4 c5 c6 c7 c8 c9 : Value} (h : DataW.trod enc Tryz.prog w 0 (fun _ => true) true fuel 29 [c0, c1, c2, c3, c4, c5, c6, c7, c8, c9] = some x) :
 ∃ (aw : Option Addr) (cw : Nat) (ws : List Int) (sm toh top : Int) (cyc : Bool) (sn old cp sr : Int) (ar : Option Addr) (cr : Nat) (rs : List (Int × Int)) (y : Nat -> Int), [c0, c1, c2, c3, c4, c5, c6, c7, c8, c9] = [.slice aw ws.length cw, .int .i64 sm, .int .i64 toh, .int .i64 top, .bool cyc, .int .i64 sn, .int .i64 old, .int .i64 cp, .int .i64 sr, .slice ar rs.length cr] /\ Sl w (.slice aw ws.length cw) ws /\ zg ws /\ SlF w.heap.size w (.slice ar rs.length cr) rs.length (2 * rs.length) (fun i => .int .i64 (y i)) /\ ws.length <= 9223372036854775807 /\ rs.length <= 9223372036854775807 := by
 obtain ⟨xs, n, _, _, _, hlen, hall⟩ := DataW.trod_struct znx h
 have hfld := zqe
 generalize Tryz.prog.fieldsOf 29 = fs at hall hfld hlen
 obtain ⟨l⟩ := fs
 have hl : l.length = 10 := by have := congrArg List.length hfld; simpa using this
 match l, hl with
 | [f0, f1, f2, f3, f4, f5, f6, f7, f8, f9], _ =>
   simp only [List.map_cons, List.map_nil, List.cons.injEq, Prod.mk.injEq, and_true] at hfld
   obtain ⟨⟨a0, b0, d0⟩, ⟨a1, b1, d1⟩, ⟨a2, b2, d2⟩, ⟨a3, b3, d3⟩, ⟨a4, b4, d4⟩, ⟨a5, b5, d5⟩, ⟨a6, b6, d6⟩, ⟨a7, b7, d7⟩, ⟨a8, b8, d8⟩, a9, b9, d9⟩ := hfld
   simp at hlen
   match xs, hlen with
   | [y0, y1, y2, y3, y4, y5, y6, y7, y8, y9], _ =>
     have e0 := hall 0 f0 rfl
     have e1 := hall 1 f1 rfl
     have e2 := hall 2 f2 rfl
     have e3 := hall 3 f3 rfl
     have e4 := hall 4 f4 rfl
     have e5 := hall 5 f5 rfl
     have e6 := hall 6 f6 rfl
     have e7 := hall 7 f7 rfl
     have e8 := hall 8 f8 rfl
     have e9 := hall 9 f9 rfl
     rw [a0, b0] at e0
     rw [a1, b1] at e1
     rw [a2, b2] at e2
     rw [a3, b3] at e3
     rw [a4, b4] at e4
     rw [a5, b5] at e5
     rw [a6, b6] at e6
     rw [a7, b7] at e7
     rw [a8, b8] at e8
     rw [a9, b9] at e9
     rw [a0] at d0
     rw [a1] at d1
     rw [a4] at d4
     rw [a9] at d9
     simp [d0, d1, d4, d9] at e0 e1 e2 e3 e4 e5 e6 e7 e8 e9
     obtain ⟨aw, cw, ws, rfl, l1, s1, w1⟩ := ztn e0
     obtain ⟨z1, k1, _⟩ := DataW.trod_int Tryz.underlying3 e1
     obtain ⟨z2, k2, _⟩ := DataW.trod_int Tryz.underlying3 e2
     obtain ⟨z3, k3, _⟩ := DataW.trod_int Tryz.underlying3 e3
     obtain ⟨z4, k4, _⟩ := DataW.trod_bool Tryz.underlying4 e4
     obtain ⟨z5, k5, _⟩ := DataW.trod_int Tryz.underlying3 e5
     obtain ⟨z6, k6, _⟩ := DataW.trod_int Tryz.underlying3 e6
     obtain ⟨z7, k7, _⟩ := DataW.trod_int Tryz.underlying3 e7
     obtain ⟨z8, k8, _⟩ := DataW.trod_int Tryz.underlying3 e8
     obtain ⟨ar, cr, rs, y, rfl, l2, s2⟩ := zt8 e9
     simp only [List.cons.injEq, and_true] at k1 k2 k3 k4 k5 k6 k7 k8
     subst k1 k2 k3 k4 k5 k6 k7 k8
     exact ⟨aw, cw, ws, z1, z2, z3, z4, z5, z6, z7, z8, ar, cr, rs, y, rfl, s1, w1, s2, l1, l2⟩
theorem zqb : Tryz.prog.underlying 31 = some (.struct (Tryz.prog.fieldsOf 31)) := by kernel_rfl
theorem zr6 : (Tryz.prog.fieldsOf 31).toList.map (fun f => (f.type, f.offset, Tryz.prog.cellsOf f.type)) = [(3, 0, 1), (3, 1, 1)] := by kernel_rfl
theorem zt5 {H : Type} {enc : TypeId × Value -> H} {w : World} {fuel : Nat} {x : DataW H × List MemPlace} {c0 c1 : Value} (h : DataW.trod enc Tryz.prog w 0 (fun _ => true) true fuel 31 [c0, c1] = some x) : ∃ a b : Int, c0 = .int .i64 a /\ c1 = .int .i64 b := by
 obtain ⟨xs, n, _, _, _, hlen, hall⟩ := DataW.trod_struct zqb h
 have hfld := zr6
 generalize Tryz.prog.fieldsOf 31 = fs at hall hfld hlen
 obtain ⟨l⟩ := fs
 have hl : l.length = 2 := by have := congrArg List.length hfld; simpa using this
 match l, hl with
 | [f0, f1], _ =>
   simp only [List.map_cons, List.map_nil, List.cons.injEq, Prod.mk.injEq, and_true] at hfld
   obtain ⟨⟨a0, b0, d0⟩, a1, b1, d1⟩ := hfld
   simp at hlen
   match xs, hlen with
   | [y0, y1], _ =>
     have e0 := hall 0 f0 rfl
     have e1 := hall 1 f1 rfl
     rw [a0, b0] at e0
     rw [a1, b1] at e1
     rw [a0] at d0
     simp [d0] at e0 e1
     obtain ⟨z0, k0, _⟩ := DataW.trod_int Tryz.underlying3 e0
     obtain ⟨z1, k1, _⟩ := DataW.trod_int Tryz.underlying3 e1
     simp only [List.cons.injEq, and_true] at k0 k1
     exact ⟨z0, z1, k0, k1⟩
theorem zt6 {α : Type} {cs : Array α} (h : cs.size = 20) : ∃ c0 c1 c2 c3 c4 c5 c6 c7 c8 c9 c10 c11 c12 c13 c14 c15 c16 c17 c18 c19, cs = #[c0, c1, c2, c3, c4, c5, c6, c7, c8, c9, c10, c11, c12, c13, c14, c15, c16, c17, c18, c19] := by
 obtain ⟨l⟩ := cs
 match l, h with
 | [c0, c1, c2, c3, c4, c5, c6, c7, c8, c9, c10, c11, c12, c13, c14, c15, c16, c17, c18, c19], _ => exact ⟨_, _, _, _, _, _, _, _, _, _, _, _, _, _, _, _, _, _, _, _, rfl⟩
theorem zmi : Tryz.prog.cellsOf 33 = 20 := by kernel_rfl
theorem zgi : Tryz.prog.underlying 33 = some (.struct (Tryz.prog.fieldsOf 33)) := by kernel_rfl
theorem zmj : (Tryz.prog.fieldsOf 33).toList.map (fun f => (f.type, f.offset, Tryz.prog.cellsOf f.type)) = [(25, 0, 2), (29, 2, 10), (4, 12, 1), (4, 13, 1), (4, 14, 1), (3, 15, 1), (31, 16, 2), (3, 18, 1), (23, 19, 1)] := by kernel_rfl
set_option maxHeartbeats 1000000 in
theorem zmk {H : Type} {enc : TypeId × Value -> H} {w : World} {r : Reach} {b0 : Nat} {v : Value} {d : DataW H} {p : List MemPlace} (hv : Value.okWide Tryz.prog w r b0 33 v) (h : DataW.Trod enc Tryz.prog w 0 (fun _ => true) true 33 v d p) :
 ∃ (a1 : Option Addr) (L c1 : Nat) (a2 : Option Addr) (n c2 : Nat) (aw : Option Addr) (cw : Nat) (ws : List Int) (sm toh top : Int) (cyc : Bool) (sn old cp sr : Int) (ar : Option Addr) (cr : Nat) (rs : List (Int × Int)) (fa de sh : Bool) (st et en sp : Int) (ao : Option Addr) (m co : Nat) (X : Nat -> PtD) (s : Nat -> ByteArray) (y : Nat -> Int) (u : Nat -> ByteArray), v = .agg #[.slice a1 L c1, .slice a2 n c2, .slice aw ws.length cw, .int .i64 sm, .int .i64 toh, .int .i64 top, .bool cyc, .int .i64 sn, .int .i64 old, .int .i64 cp, .int .i64 sr, .slice ar rs.length cr, .bool fa, .bool de, .bool sh, .int .i64 st, .int .i64 et, .int .i64 en, .int .i64 sp, .slice ao m co] /\ McF w (.slice a1 L c1) (.slice a2 n c2) (.slice aw ws.length cw) (.slice ar rs.length cr) (.slice ao m co) L X n s ws rs.length y m u /\ zg ws /\ (L <= 9223372036854775807) /\ (n <= 9223372036854775807) /\ (∀ j, j < L -> PLr (X j)) /\ (∀ j, j < n -> (s j).size <= 9223372036854775807) /\ (ws.length <= 9223372036854775807) /\ (rs.length <= 9223372036854775807) /\ (m <= 9223372036854775807) /\ (∀ j, j < m -> (u j).size <= 9223372036854775807) := by
 obtain ⟨cs, rfl, hsz⟩ := okWide_struct zgi hv
 obtain ⟨c0, c1, c2, c3, c4, c5, c6, c7, c8, c9, c10, c11, c12, c13, c14, c15, c16, c17, c18, c19, rfl⟩ := zt6 (hsz.trans zmi)
 obtain ⟨fuel, hf⟩ := h
 obtain ⟨xs, n, _, _, _, hlen, hall⟩ := DataW.trod_struct zgi hf
 have hfld := zmj
 generalize Tryz.prog.fieldsOf 33 = fs at hall hfld hlen
 obtain ⟨l⟩ := fs
 have hl : l.length = 9 := by have := congrArg List.length hfld; simpa using this
 match l, hl with
 | [f0, f1, f2, f3, f4, f5, f6, f7, f8], _ =>
   simp only [List.map_cons, List.map_nil, List.cons.injEq, Prod.mk.injEq, and_true] at hfld
   obtain ⟨⟨a0, b0, d0⟩, ⟨a1, b1, d1⟩, ⟨a2, b2, d2⟩, ⟨a3, b3, d3⟩, ⟨a4, b4, d4⟩, ⟨a5, b5, d5⟩, ⟨a6, b6, d6⟩, ⟨a7, b7, d7⟩, a8, b8, d8⟩ := hfld
   simp at hlen
   match xs, hlen with
   | [y0, y1, y2, y3, y4, y5, y6, y7, y8], _ =>
     have e0 := hall 0 f0 rfl
     rw [a0, b0] at e0
     rw [a0] at d0
     have e1 := hall 1 f1 rfl
     rw [a1, b1] at e1
     rw [a1] at d1
     have e2 := hall 2 f2 rfl
     rw [a2, b2] at e2
     rw [a2] at d2
     have e3 := hall 3 f3 rfl
     rw [a3, b3] at e3
     rw [a3] at d3
     have e4 := hall 4 f4 rfl
     rw [a4, b4] at e4
     rw [a4] at d4
     have e5 := hall 5 f5 rfl
     rw [a5, b5] at e5
     rw [a5] at d5
     have e6 := hall 6 f6 rfl
     rw [a6, b6] at e6
     rw [a6] at d6
     have e7 := hall 7 f7 rfl
     rw [a7, b7] at e7
     rw [a7] at d7
     have e8 := hall 8 f8 rfl
     rw [a8, b8] at e8
     rw [a8] at d8
     simp [Value.cells, d0, d1, d2, d5, d6, d8] at e0 e1 e2 e3 e4 e5 e6 e7 e8
     obtain ⟨m1, L, m2, m3, n, m4, X, s, rfl, rfl, md, g1, g2, g3, g4⟩ := zqa e0
     obtain ⟨aw, cw, ws, z1, z2, z3, z4, z5, z6, z7, z8, ar, cr, rs, y, hc, s1, w1, s2, l1, l2⟩ := zr5 e1
     simp only [List.cons.injEq, and_true] at hc
     obtain ⟨rfl, rfl, rfl, rfl, rfl, rfl, rfl, rfl, rfl, rfl⟩ := hc
     obtain ⟨q2, k2, _⟩ := DataW.trod_bool Tryz.underlying4 e2
     obtain ⟨q3, k3, _⟩ := DataW.trod_bool Tryz.underlying4 e3
     obtain ⟨q4, k4, _⟩ := DataW.trod_bool Tryz.underlying4 e4
     obtain ⟨q5, k5, _⟩ := DataW.trod_int Tryz.underlying3 e5
     obtain ⟨t6, n6, rfl, rfl⟩ := zt5 e6
     obtain ⟨q7, k7, _⟩ := DataW.trod_int Tryz.underlying3 e7
     obtain ⟨ao, m, co, u, rfl, g7, ot, g8⟩ := zmm e8
     simp only [List.cons.injEq, and_true] at k2 k3 k4 k5 k7
     subst k2 k3 k4 k5 k7
     exact ⟨_, _, _, _, _, _, _, _, _, _, _, _, _, _, _, _, _, _, _, _, _, _, _, _, _, _, _, _, _, _, X, s, y, u, rfl, ⟨md, s1, s2, ot⟩, w1, g1, g2, g3, g4, l1, l2, g7, g8⟩
end Go.Proofs.YtkjmonhocbobhaaGreat
