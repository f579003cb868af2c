/- - -/
import Derived.Test.YtiglkhkfbgjjoaaDoorQTrB
import Derived.Deep.SlicePairs
import Derived.Lib.SmallJoins
import Derived.ChangeArms
import Derived.WideShapes
namespace Go.Proofs.YtiglkhkfbgjjoaaDoor
set_option maxRecDepth 20000
open Go.ChangeShapes Go.WideShapes Go.ChangeAt Go.RowKit Go.Joins Go.Deep
set_option linter.unusedSimpArgs false
set_option linter.unusedVariables false
theorem zej : Tryd.prog.cellsOf 105 = 4 := by kernel_rfl
theorem zek : Tryd.prog.cellsOf 35 = 2 := by kernel_rfl
theorem zgd : Tryd.prog.cellsOf 3 = 1 := by kernel_rfl
theorem zfj : Tryd.prog.underlying 105 = some (.struct (Tryd.prog.fieldsOf 105)) := by kernel_rfl
theorem zge : (Tryd.prog.fieldsOf 105).toList.map (fun f => (f.type, f.offset, Tryd.prog.cellsOf f.type)) = [(3, 0, 1), (9, 1, 1), (3, 2, 1), (69, 3, 1)] := by kernel_rfl
theorem zc2 : Tryd.prog.underlying 35 = some (.struct (Tryd.prog.fieldsOf 35)) := by kernel_rfl
theorem zgf : (Tryd.prog.fieldsOf 35).toList.map (fun f => (f.type, f.offset, Tryd.prog.cellsOf f.type)) = [(33, 0, 1), (3, 1, 1)] := by kernel_rfl
theorem zij {H : Type} {enc : TypeId × Value -> H} {w : World} {fuel : Nat} {v : Value} {x : DataW H × List MemPlace} (h : DataW.trod enc Tryd.prog w 0 (fun _ => true) true fuel 69 [v] = some x) :
 ∃ (ar : Option Addr) (n cr : Nat) (y : Nat -> Int), v = .slice ar n cr /\ n <= 9223372036854775807 /\ SlF w.heap.size w (.slice ar n cr) n n (fun i => .int .i64 (y i)) := by
 rcases open_ints Tryd.underlying69 Tryd.underlying3 zgd h with ⟨hcs, _⟩ | ⟨a, l, c, zs, hcs, _, hl, hm, hz, _, hcell, _⟩
 · simp only [List.cons.injEq, and_true] at hcs
   exact ⟨none, 0, 0, fun _ => 0, hcs, by simp, ⟨none, 0, rfl, .inl rfl⟩⟩
 · simp only [List.cons.injEq, and_true] at hcs
   have hzc : zs.length = c := by simpa using hz
   refine ⟨some a, l, c, fun j => zs.getD j 0, hcs, by simp [maxLen] at hm; omega, some a, c, rfl, ?_⟩
   by_cases h0 : l = 0
   · exact .inl h0
   · obtain ⟨b, off, spot⟩ := a
     have h1 := hcell 0 (by omega)
     have hspot : spot = none := by simpa [Addr.add] using World.cell?_spot h1
     subst hspot
     rw [Addr.add_lit] at h1
     have hb := World.block_lt_of_cell? _ _ h1
     refine .inr ⟨b, off, rfl, hb, hb, fun j hj => ?_⟩
     have h2 := hcell j (by omega)
     rw [Addr.add_lit] at h2
     exact h2
theorem zik {H : Type} {enc : TypeId × Value -> H} {w : World} {fuel : Nat} {b o : Nat} {cs : List Value} {x : DataW H × List MemPlace} (h1 : w.cells? 0 ⟨b, o, none⟩ 4 = some cs) (h : DataW.trod enc Tryd.prog w 0 (fun _ => true) true fuel 105 cs = some x) :
 ∃ X : KnD, zcm w.heap.size w b o X /\ X.len <= 9223372036854775807 /\ X.t.size <= 9223372036854775807 := by
 obtain ⟨_, hlen6, hcell⟩ := World.cells?_some h1
 obtain ⟨xs, n, _, _, _, hlen, hall⟩ := DataW.trod_struct zfj h
 have hfld := zge
 generalize Tryd.prog.fieldsOf 105 = fs at hall hfld hlen
 obtain ⟨l⟩ := fs
 have hl : l.length = 4 := by have := congrArg List.length hfld; simpa using this
 match l, hl with
 | [f0, f1, f2, f3], _ =>
   simp only [List.map_cons, List.map_nil, List.cons.injEq, Prod.mk.injEq, and_true] at hfld
   obtain ⟨⟨a0, b0, d0⟩, ⟨a1, b1, d1⟩, ⟨a2, b2, d2⟩, a3, b3, d3⟩ := hfld
   simp at hlen
   match xs, hlen, cs, hlen6 with
   | [y0, y1, y2, y3], _, [v0, v1, v2, v3], _ =>
     have e0 := hall 0 f0 rfl
     have e1 := hall 1 f1 rfl
     have e2 := hall 2 f2 rfl
     have e3 := hall 3 f3 rfl
     rw [a0, b0] at e0
     rw [a1, b1] at e1
     rw [a2, b2] at e2
     rw [a3, b3] at e3
     rw [a0] at d0
     rw [a1] at d1
     rw [a2] at d2
     rw [a3] at d3
     simp [d0, d1, d3] at e0 e1 e2 e3
     obtain ⟨z0, k0, _⟩ := DataW.trod_int Tryd.underlying3 e0
     obtain ⟨z1, k1, _, q1⟩ := DataW.trod_string Tryd.underlying9 e1
     obtain ⟨z2, k2, _⟩ := DataW.trod_int Tryd.underlying3 e2
     obtain ⟨ar, nn, cr, y, rfl, l2, s2⟩ := zij e3
     simp only [List.cons.injEq, and_true] at k0 k1 k2
     subst k0 k1 k2
     have g0 := hcell 0 (by omega)
     have g1 := hcell 1 (by omega)
     have g2 := hcell 2 (by omega)
     have g3 := hcell 3 (by omega)
     simp only [Addr.add_lit] at g0 g1 g2 g3
     exact ⟨⟨z0, z1, z2, nn, y⟩, ⟨ar, cr, by simpa using g0, by simpa using g1, by simpa using g2, by simpa using g3, s2⟩, l2, by simp [maxLen] at q1; show z1.size <= _; omega⟩
theorem zhd {H : Type} {enc : TypeId × Value -> H} {w : World} {fuel : Nat} {v : Value} {x : DataW H × List MemPlace} (h : DataW.trod enc Tryd.prog w 0 (fun _ => true) true fuel 33 [v] = some x) :
 ∃ (a : Option Addr) (c L : Nat) (X : Nat -> KnD), v = .slice a L c /\ L <= 9223372036854775807 /\ KnF w.heap.size w (.slice a L c) L X /\ ∀ j, j < L -> (X j).len <= 9223372036854775807 /\ (X j).t.size <= 9223372036854775807 := by
 rcases open_slice Tryd.underlying33 h with ⟨hcs, _⟩ | ⟨a, len, cap, m, n, D, Pl, hcs, _, hl, hm, hmm, _, hx⟩
 · simp only [List.cons.injEq, and_true] at hcs
   exact ⟨none, 0, 0, fun _ => ⟨0, ⟨#[]⟩, 0, 0, fun _ => 0⟩, hcs, by simp, ⟨none, 0, rfl, .inl rfl⟩, fun j hj => absurd hj (Nat.not_lt_zero _)⟩
 · simp only [List.cons.injEq, and_true] at hcs
   have hmc : m = cap := by simpa using hmm
   subst hmc
   rw [zej] at hx
   by_cases h0 : len = 0
   · subst h0
     exact ⟨some a, m, 0, fun _ => ⟨0, ⟨#[]⟩, 0, 0, fun _ => 0⟩, hcs, by simp, ⟨some a, m, rfl, .inl rfl⟩, fun j hj => absurd hj (Nat.not_lt_zero _)⟩
   · obtain ⟨b, off, spot⟩ := a
     obtain ⟨cs0, q0, _⟩ := hx 0 (by omega)
     obtain ⟨_, q1, q2⟩ := World.cells?_some q0
     have q3 := q2 0 (by omega)
     obtain ⟨v0, hv0⟩ : ∃ v0, cs0[0]? = some v0 := ⟨cs0[0]'(by omega), by simp⟩
     rw [hv0] at q3
     have hspot : spot = none := by simpa [Addr.add] using World.cell?_spot q3
     subst hspot
     simp only [Addr.add_lit] at hx q3
     have hb : b < w.heap.size := World.block_lt_of_cell? _ _ q3
     haveI : Inhabited KnD := ⟨⟨0, ⟨#[]⟩, 0, 0, fun _ => 0⟩⟩
     obtain ⟨X, hX⟩ := choose_lt (n := m) (p := fun i X => zcm w.heap.size w b (off + i * 4) X /\ X.len <= 9223372036854775807 /\ X.t.size <= 9223372036854775807) (fun i hi => by
      obtain ⟨cs, c1, c2⟩ := hx i hi
      exact zik c1 c2)
     exact ⟨_, m, len, X, hcs, by simp [maxLen] at hm; omega, ⟨_, m, rfl, .inr ⟨b, off, rfl, hb, hb, fun i hi => (hX i (by omega)).1⟩⟩, fun j hj => (hX j (by omega)).2⟩
theorem zgg {H : Type} {enc : TypeId × Value -> H} {w : World} {r : Reach} {b0 : Nat} {v : Value} {d : DataW H} {p : List MemPlace} (hv : Value.okWide Tryd.prog w r b0 35 v) (h : DataW.Trod enc Tryd.prog w 0 (fun _ => true) true 35 v d p) :
 ∃ (a : Option Addr) (L c : Nat) (top : Int) (X : Nat -> KnD), v = .agg #[.slice a L c, .int .i64 top] /\ KnF w.heap.size w (.slice a L c) L X /\ L <= 9223372036854775807 /\ (∀ j, j < L -> (X j).len <= 9223372036854775807 /\ (X j).t.size <= 9223372036854775807) /\ (Lit.int .i64 top).wf = true := by
 obtain ⟨cs, rfl, hsz⟩ := okWide_struct zc2 hv
 obtain ⟨cs⟩ := cs
 have hsz := hsz.trans zek
 match cs, hsz with
 | [c0, c1], _ =>
 obtain ⟨fuel, hf⟩ := h
 obtain ⟨xs, n, _, _, _, hlen, hall⟩ := DataW.trod_struct zc2 hf
 have hfld := zgf
 generalize Tryd.prog.fieldsOf 35 = fs at hall hfld hlen
 obtain ⟨l⟩ := fs
 have hl : l.length = 2 := by have := congrArg List.length hfld; simpa using this
 match l, hl with
 | [f0, f1], _ =>
   simp only [List.map_cons, List.map_nil, List.cons.injEq, Prod.mk.injEq, and_true] at hfld
   obtain ⟨⟨a0, b0, d0⟩, a1, b1, d1⟩ := hfld
   simp at hlen
   match xs, hlen with
   | [y0, y1], _ =>
     have e0 := hall 0 f0 rfl
     have e1 := hall 1 f1 rfl
     rw [a0, b0] at e0
     rw [a1, b1] at e1
     rw [a0] at d0
     rw [a1] at d1
     simp [Value.cells, d0, d1] at e0 e1
     obtain ⟨z1, k1, _, wf1⟩ := DataW.trod_int Tryd.underlying3 e1
     obtain ⟨a2, c2, L, X, rfl, l2, s2, hX⟩ := zhd e0
     simp only [List.cons.injEq, and_true] at k1
     subst k1
     exact ⟨a2, L, c2, z1, X, rfl, s2, l2, hX, wf1⟩
end Go.Proofs.YtiglkhkfbgjjoaaDoor
