/- A shape that is handed to a law, opened. -/
import Derived.Test.YtbllmchbcbjfiaaProg
import Derived.Test.YtbllmchbcbjfiaaShB
import Derived.Deep.SlicePairs
import Derived.Lib.SmallJoins
import Derived.ChangeArms
import Derived.WideShapes
namespace Go.Proofs.Ytbllmchbcbjfiaa
set_option maxRecDepth 20000
open Go.ChangeShapes Go.WideShapes Go.ChangeAt Go.RowKit Go.Joins Go.Deep
set_option linter.unusedSimpArgs false
set_option linter.unusedVariables false

theorem cellsLawValS : Try.prog.cellsOf 50 = 2 := by kernel_rfl
theorem cellsLawNode : Try.prog.cellsOf 48 = 6 := by kernel_rfl
theorem cellsLawShape : Try.prog.cellsOf 25 = 2 := by kernel_rfl
theorem nodeFields : Try.prog.underlying 48 = some (.struct (Try.prog.fieldsOf 48)) := by kernel_rfl
theorem nodeField : (Try.prog.fieldsOf 48).toList.map (fun f => (f.type, f.offset, Try.prog.cellsOf f.type)) = [(3, 0, 1), (3, 1, 1), (3, 2, 1), (3, 3, 1), (9, 4, 1), (22, 5, 1)] := by kernel_rfl
theorem shapeFields : Try.prog.underlying 25 = some (.struct (Try.prog.fieldsOf 25)) := by kernel_rfl
theorem shapeField : (Try.prog.fieldsOf 25).toList.map (fun f => (f.type, f.offset, Try.prog.cellsOf f.type)) = [(22, 0, 1), (23, 1, 1)] := by kernel_rfl
theorem lawValsS {H : Type} {enc : TypeId × Value → H} {w : World} {fuel : Nat} {v : Value} {x : DataW H × List MemPlace} (h : DataW.trod enc Try.prog w 0 (fun _ => true) true fuel 22 [v] = some x) :
    ∃ (ar : Option Addr) (cr : Nat) (rs : List (Int × Int)) (y : Nat → Int), v = .slice ar rs.length cr ∧ rs.length ≤ 9223372036854775807 ∧ SlF w.heap.size w (.slice ar rs.length cr) rs.length (2 * rs.length) (fun i => .int .i64 (y i)) := by
  obtain ⟨f0, f1, hf, g0, g1, g2, g3, g4, g5⟩ : ∃ f0 f1 : Field, Try.prog.underlying 50 = some (.struct #[f0, f1]) ∧ f0.offset = 0 ∧ f1.offset = 1 ∧ Try.prog.cellsOf f0.type = 1 ∧ Try.prog.cellsOf f1.type = 1 ∧ Try.prog.underlying f0.type = some (.int .i64) ∧ Try.prog.underlying f1.type = some (.int .i64) := ⟨_, _, Try.underlying50, by kernel_rfl, by kernel_rfl, by kernel_rfl, by kernel_rfl, by kernel_rfl, by kernel_rfl⟩
  rcases open_slice_pairs Try.underlying22 hf cellsLawValS g0 g1 g2 g3 h with ⟨hcs, _⟩ | ⟨a, len, cap, m, n, V0, V1, D0, D1, P0, P1, hcs, _, hl, hm, hmm, _, hx⟩
  · simp only [List.cons.injEq, and_true] at hcs
    exact ⟨none, 0, [], fun _ => 0, hcs, by simp, ⟨none, 0, rfl, .inl rfl⟩⟩
  · simp only [List.cons.injEq, and_true] at hcs
    have hmc : m = cap := by simpa using hmm
    subst hmc
    have hi : ∀ i, i < m → ∃ p : Int × Int, w.cell? (a.add (i * 2)) = some (.int .i64 p.1) ∧ w.cell? (a.add (i * 2 + 1)) = some (.int .i64 p.2) := fun i hi => by
      obtain ⟨h1, h2, h3, h4⟩ := hx i hi
      obtain ⟨z0, e0, _⟩ := DataW.trod_int g4 h3
      obtain ⟨z1, e1, _⟩ := DataW.trod_int g5 h4
      simp only [List.cons.injEq, and_true] at e0 e1
      exact ⟨(z0, z1), by rw [h1, e0], by rw [h2, e1]⟩
    obtain ⟨q, hq⟩ := choose_lt hi
    refine ⟨some a, m, List.replicate len (0, 0), fun j => if j % 2 = 0 then (q (j / 2)).1 else (q (j / 2)).2, by simpa using hcs, by simp [maxLen] at hm ⊢; omega, ?_⟩
    refine ⟨some a, m, rfl, ?_⟩
    by_cases h0 : len = 0
    · exact .inl (by simp [h0])
    · obtain ⟨b, off, spot⟩ := a
      have h1 := (hq 0 (by omega)).1
      have hspot : spot = none := by simpa [Addr.add] using World.cell?_spot h1
      subst hspot
      refine .inr ⟨b, off, rfl, ?_, ?_, fun j hj => ?_⟩
      · rw [Addr.add_lit] at h1
        exact World.block_lt_of_cell? _ _ h1
      · rw [Addr.add_lit] at h1
        exact World.block_lt_of_cell? _ _ h1
      · simp only [List.length_replicate] at hj
        obtain ⟨h2, h3⟩ := hq (j / 2) (by omega)
        rw [Addr.add_lit] at h2 h3
        by_cases e : j % 2 = 0
        · have : j / 2 * 2 = j := by omega
          rw [this] at h2
          simp [e, h2]
        · have : j / 2 * 2 + 1 = j := by omega
          rw [this] at h3
          simp [e, h3]
theorem lawNode {H : Type} {enc : TypeId × Value → H} {w : World} {fuel : Nat} {b o : Nat} {cs : List Value} {x : DataW H × List MemPlace} (h1 : w.cells? 0 ⟨b, o, none⟩ 6 = some cs) (h : DataW.trod enc Try.prog w 0 (fun _ => true) true fuel 48 cs = some x) :
    ∃ X : NodeD, NdAt w.heap.size w b o X ∧ X.len ≤ 9223372036854775807 ∧ X.t.size ≤ 9223372036854775807 := by
  obtain ⟨_, hlen6, hcell⟩ := World.cells?_some h1
  obtain ⟨xs, n, _, _, _, hlen, hall⟩ := DataW.trod_struct nodeFields h
  have hfld := nodeField
  generalize Try.prog.fieldsOf 48 = fs at hall hfld hlen
  obtain ⟨l⟩ := fs
  have hl : l.length = 6 := by have := congrArg List.length hfld; simpa using this
  match l, hl with
  | [f0, f1, f2, f3, f4, f5], _ =>
    simp only [List.map_cons, List.map_nil, List.cons.injEq, Prod.mk.injEq, and_true] at hfld
    obtain ⟨⟨a0, b0, d0⟩, ⟨a1, b1, d1⟩, ⟨a2, b2, d2⟩, ⟨a3, b3, d3⟩, ⟨a4, b4, d4⟩, a5, b5, d5⟩ := hfld
    simp at hlen
    match xs, hlen, cs, hlen6 with
    | [y0, y1, y2, y3, y4, y5], _, [v0, v1, v2, v3, v4, v5], _ =>
      have e0 := hall 0 f0 rfl
      have e1 := hall 1 f1 rfl
      have e2 := hall 2 f2 rfl
      have e3 := hall 3 f3 rfl
      have e4 := hall 4 f4 rfl
      have e5 := hall 5 f5 rfl
      rw [a0, b0] at e0
      rw [a1, b1] at e1
      rw [a2, b2] at e2
      rw [a3, b3] at e3
      rw [a4, b4] at e4
      rw [a5, b5] at e5
      rw [a0] at d0
      rw [a4] at d4
      rw [a5] at d5
      simp [d0, d4, d5] at e0 e1 e2 e3 e4 e5
      obtain ⟨z0, k0, _⟩ := DataW.trod_int Try.underlying3 e0
      obtain ⟨z1, k1, _⟩ := DataW.trod_int Try.underlying3 e1
      obtain ⟨z2, k2, _⟩ := DataW.trod_int Try.underlying3 e2
      obtain ⟨z3, k3, _⟩ := DataW.trod_int Try.underlying3 e3
      obtain ⟨z4, k4, _, q4⟩ := DataW.trod_string Try.underlying9 e4
      obtain ⟨ar, cr, rs, y, rfl, l2, s2⟩ := lawValsS e5
      simp only [List.cons.injEq, and_true] at k0 k1 k2 k3 k4
      subst k0 k1 k2 k3 k4
      have g0 := hcell 0 (by omega)
      have g1 := hcell 1 (by omega)
      have g2 := hcell 2 (by omega)
      have g3 := hcell 3 (by omega)
      have g4 := hcell 4 (by omega)
      have g5 := hcell 5 (by omega)
      simp only [Addr.add_lit] at g0 g1 g2 g3 g4 g5
      exact ⟨⟨z0, z1, z2, z3, z4, rs.length, y⟩, ⟨ar, cr, by simpa using g0, by simpa using g1, by simpa using g2, by simpa using g3, by simpa using g4, by simpa using g5, s2⟩, l2, by simp [maxLen] at q4; show z4.size ≤ _; omega⟩
theorem lawNodes {H : Type} {enc : TypeId × Value → H} {w : World} {fuel : Nat} {v : Value} {x : DataW H × List MemPlace} (h : DataW.trod enc Try.prog w 0 (fun _ => true) true fuel 23 [v] = some x) :
    ∃ (a : Option Addr) (c L : Nat) (X : Nat → NodeD), v = .slice a L c ∧ L ≤ 9223372036854775807 ∧ NdF w.heap.size w (.slice a L c) L X ∧ ∀ j, j < L → (X j).len ≤ 9223372036854775807 ∧ (X j).t.size ≤ 9223372036854775807 := by
  rcases open_slice Try.underlying23 h with ⟨hcs, _⟩ | ⟨a, len, cap, m, n, D, Pl, hcs, _, hl, hm, hmm, _, hx⟩
  · simp only [List.cons.injEq, and_true] at hcs
    exact ⟨none, 0, 0, fun _ => ⟨0, 0, 0, 0, ⟨#[]⟩, 0, fun _ => 0⟩, hcs, by simp, ⟨none, 0, rfl, .inl rfl⟩, fun j hj => absurd hj (Nat.not_lt_zero _)⟩
  · simp only [List.cons.injEq, and_true] at hcs
    have hmc : m = cap := by simpa using hmm
    subst hmc
    rw [cellsLawNode] at hx
    by_cases h0 : len = 0
    · subst h0
      exact ⟨some a, m, 0, fun _ => ⟨0, 0, 0, 0, ⟨#[]⟩, 0, fun _ => 0⟩, hcs, by simp, ⟨some a, m, rfl, .inl rfl⟩, fun j hj => absurd hj (Nat.not_lt_zero _)⟩
    · obtain ⟨b, off, spot⟩ := a
      obtain ⟨cs0, q0, _⟩ := hx 0 (by omega)
      obtain ⟨_, q1, q2⟩ := World.cells?_some q0
      have q3 := q2 0 (by omega)
      obtain ⟨v0, hv0⟩ : ∃ v0, cs0[0]? = some v0 := ⟨cs0[0]'(by omega), by simp⟩
      rw [hv0] at q3
      have hspot : spot = none := by simpa [Addr.add] using World.cell?_spot q3
      subst hspot
      simp only [Addr.add_lit] at hx q3
      have hb : b < w.heap.size := World.block_lt_of_cell? _ _ q3
      haveI : Inhabited NodeD := ⟨⟨0, 0, 0, 0, ⟨#[]⟩, 0, fun _ => 0⟩⟩
      obtain ⟨X, hX⟩ := choose_lt (n := m) (p := fun i X => NdAt w.heap.size w b (off + i * 6) X ∧ X.len ≤ 9223372036854775807 ∧ X.t.size ≤ 9223372036854775807) (fun i hi => by
        obtain ⟨cs, c1, c2⟩ := hx i hi
        exact lawNode c1 c2)
      exact ⟨_, m, len, X, hcs, by simp [maxLen] at hm; omega, ⟨_, m, rfl, .inr ⟨b, off, rfl, hb, hb, fun i hi => (hX i (by omega)).1⟩⟩, fun j hj => (hX j (by omega)).2⟩
/-- A shape that is handed in: its two rows. -/
theorem open_shape {H : Type} {enc : TypeId × Value → H} {w : World} {r : Reach} {b0 : Nat} {v : Value} {d : DataW H} {p : List MemPlace} (hv : Value.okWide Try.prog w r b0 25 v) (h : DataW.Trod enc Try.prog w 0 (fun _ => true) true 25 v d p) :
    ∃ (a1 : Option Addr) (n c1 : Nat) (a2 : Option Addr) (L c2 : Nat) (y : Nat → Int) (X : Nat → NodeD), v = .agg #[.slice a1 n c1, .slice a2 L c2] ∧ ShF w.heap.size w (.slice a1 n c1) (.slice a2 L c2) n y L X ∧ n ≤ 9223372036854775807 ∧ L ≤ 9223372036854775807 ∧ ∀ j, j < L → (X j).len ≤ 9223372036854775807 ∧ (X j).t.size ≤ 9223372036854775807 := by
  obtain ⟨cs, rfl, hsz⟩ := okWide_struct shapeFields hv
  obtain ⟨cs⟩ := cs
  have hsz := hsz.trans cellsLawShape
  match cs, hsz with
  | [c0, c1], _ =>
  obtain ⟨fuel, hf⟩ := h
  obtain ⟨xs, n, _, _, _, hlen, hall⟩ := DataW.trod_struct shapeFields hf
  have hfld := shapeField
  generalize Try.prog.fieldsOf 25 = fs at hall hfld hlen
  obtain ⟨l⟩ := fs
  have hl : l.length = 2 := by have := congrArg List.length hfld; simpa using this
  match l, hl with
  | [f0, f1], _ =>
    simp only [List.map_cons, List.map_nil, List.cons.injEq, Prod.mk.injEq, and_true] at hfld
    obtain ⟨⟨a0, b0, d0⟩, a1, b1, d1⟩ := hfld
    simp at hlen
    match xs, hlen with
    | [y0, y1], _ =>
      have e0 := hall 0 f0 rfl
      have e1 := hall 1 f1 rfl
      rw [a0, b0] at e0
      rw [a1, b1] at e1
      rw [a0] at d0
      rw [a1] at d1
      simp [Value.cells, d0, d1] at e0 e1
      obtain ⟨ar, cr, rs, y, rfl, l1, s1⟩ := lawValsS e0
      obtain ⟨a2, c2, L, X, rfl, l2, s2, hX⟩ := lawNodes e1
      exact ⟨ar, rs.length, cr, a2, L, c2, y, X, rfl, ⟨s1, s2⟩, l1, l2, hX⟩
end Go.Proofs.Ytbllmchbcbjfiaa
