/- A Proto that is handed to a law, opened. -/
import Derived.Test.YtpjliclgjplebaaKMdO
namespace Go.Proofs.Ytpjliclgjplebaa
set_option maxRecDepth 20000
open Go.ChangeShapes Go.WideShapes Go.ChangeAt Go.RowKit Go.Joins Go.Deep
set_option linter.unusedSimpArgs false
set_option linter.unusedVariables false

/-- A Proto that is handed in: its two numbers and its two rows. -/
theorem open_proto {H : Type} {enc : TypeId × Value → H} {w : World} {r : Reach} {b0 : Nat} {v : Value} {d : DataW H} {p : List MemPlace} (hv : Value.okWide Try.prog w r b0 25 v) (h : DataW.Trod enc Try.prog w 0 (fun _ => true) true 25 v d p) :
    ∃ (pa sl : Int) (au : Option Addr) (un cu : Nat) (ac : Option Addr) (cn cc : Nat) (ub : Nat → Bool) (ui co ca : Nat → Int), v = .agg #[.int .i64 pa, .int .i64 sl, .slice au un cu, .slice ac cn cc] ∧ SlF w.heap.size w (.slice au un cu) un (2 * un) (upF ub ui) ∧ SlF w.heap.size w (.slice ac cn cc) cn (2 * cn) (inF co ca) ∧ un ≤ 9223372036854775807 ∧ cn ≤ 9223372036854775807 := by
  obtain ⟨cs, rfl, hsz⟩ := okWide_struct protoFields hv
  obtain ⟨cs⟩ := cs
  have hsz := hsz.trans cellsLawProto
  match cs, hsz with
  | [c0, c1, c2, c3], _ =>
  obtain ⟨fuel, hf⟩ := h
  obtain ⟨xs, n, _, _, _, hlen, hall⟩ := DataW.trod_struct protoFields hf
  have hfld := protoField
  generalize Try.prog.fieldsOf 25 = fs at hall hfld hlen
  obtain ⟨l⟩ := fs
  have hl : l.length = 4 := by have := congrArg List.length hfld; simpa using this
  match l, hl with
  | [f0, f1, f2, f3], _ =>
    simp only [List.map_cons, List.map_nil, List.cons.injEq, Prod.mk.injEq, and_true] at hfld
    obtain ⟨⟨a0, b0, d0⟩, ⟨a1, b1, d1⟩, ⟨a2, b2, d2⟩, a3, b3, d3⟩ := hfld
    simp at hlen
    match xs, hlen with
    | [y0, y1, y2, y3], _ =>
      have e0 := hall 0 f0 rfl
      have e1 := hall 1 f1 rfl
      have e2 := hall 2 f2 rfl
      have e3 := hall 3 f3 rfl
      rw [a0, b0] at e0
      rw [a1, b1] at e1
      rw [a2, b2] at e2
      rw [a3, b3] at e3
      rw [a0] at d0
      rw [a2] at d2
      rw [a3] at d3
      simp [Value.cells, d0, d2, d3] at e0 e1 e2 e3
      obtain ⟨z0, k0, _⟩ := DataW.trod_int Try.underlying3 e0
      obtain ⟨z1, k1, _⟩ := DataW.trod_int Try.underlying3 e1
      obtain ⟨ar, n1, cr, ub, ui, rfl, l2, s2⟩ := lawUps e2
      obtain ⟨ar', n2, cr', co, ca, rfl, l3, s3⟩ := lawInss e3
      simp only [List.cons.injEq, and_true] at k0 k1
      subst k0 k1
      exact ⟨z0, z1, ar, n1, cr, ar', n2, cr', ub, ui, co, ca, rfl, s2, s3, l2, l3⟩
end Go.Proofs.Ytpjliclgjplebaa
