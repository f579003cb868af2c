/- A module that is handed to a law, opened. -/
import Derived.Test.YtpjliclgjplebaaProg
import Derived.Test.YtpjliclgjplebaaKMdE
import Derived.Deep.SlicePairs
import Derived.Lib.SmallJoins
import Derived.ChangeArms
import Derived.WideShapes
namespace Go.Proofs.Ytpjliclgjplebaa
set_option maxRecDepth 20000
open Go.ChangeShapes Go.WideShapes Go.ChangeAt Go.RowKit Go.Joins Go.Deep
set_option linter.unusedSimpArgs false
set_option linter.unusedVariables false

theorem cellsLawUp : Try.prog.cellsOf 61 = 2 := by kernel_rfl
theorem lawUps {H : Type} {enc : TypeId × Value → H} {w : World} {fuel : Nat} {v : Value} {x : DataW H × List MemPlace} (h : DataW.trod enc Try.prog w 0 (fun _ => true) true fuel 22 [v] = some x) :
    ∃ (ar : Option Addr) (n cr : Nat) (p : Nat → Bool) (q : Nat → Int), v = .slice ar n cr ∧ n ≤ 9223372036854775807 ∧ SlF w.heap.size w (.slice ar n cr) n (2 * n) (upF p q) := by
  obtain ⟨f0, f1, hf, g0, g1, g2, g3, g4, g5⟩ : ∃ f0 f1 : Field, Try.prog.underlying 61 = some (.struct #[f0, f1]) ∧ f0.offset = 0 ∧ f1.offset = 1 ∧ Try.prog.cellsOf f0.type = 1 ∧ Try.prog.cellsOf f1.type = 1 ∧ Try.prog.underlying f0.type = some (.bool) ∧ Try.prog.underlying f1.type = some (.int .i64) := ⟨_, _, Try.underlying61, by kernel_rfl, by kernel_rfl, by kernel_rfl, by kernel_rfl, by kernel_rfl, by kernel_rfl⟩
  rcases open_slice_pairs Try.underlying22 hf cellsLawUp g0 g1 g2 g3 h with ⟨hcs, _⟩ | ⟨a, len, cap, m, n, V0, V1, D0, D1, P0, P1, hcs, _, hl, hm, hmm, _, hx⟩
  · simp only [List.cons.injEq, and_true] at hcs
    exact ⟨none, 0, 0, fun _ => false, fun _ => 0, hcs, by simp, ⟨none, 0, rfl, .inl rfl⟩⟩
  · simp only [List.cons.injEq, and_true] at hcs
    have hmc : m = cap := by simpa using hmm
    subst hmc
    have hi : ∀ i, i < m → ∃ p : Bool × Int, w.cell? (a.add (i * 2)) = some (.bool p.1) ∧ w.cell? (a.add (i * 2 + 1)) = some (.int .i64 p.2) := fun i hi => by
      obtain ⟨h1, h2, h3, h4⟩ := hx i hi
      obtain ⟨z0, e0, _⟩ := DataW.trod_bool g4 h3
      obtain ⟨z1, e1, _⟩ := DataW.trod_int g5 h4
      simp only [List.cons.injEq, and_true] at e0 e1
      exact ⟨(z0, z1), by rw [h1, e0], by rw [h2, e1]⟩
    obtain ⟨q, hq⟩ := choose_lt hi
    refine ⟨some a, len, m, fun j => (q j).1, fun j => (q j).2, by simpa using hcs, by simp [maxLen] at hm ⊢; omega, ?_⟩
    refine ⟨some a, m, rfl, ?_⟩
    by_cases h0 : len = 0
    · exact .inl (by simp [h0])
    · obtain ⟨b, off, spot⟩ := a
      have h1 := (hq 0 (by omega)).1
      have hspot : spot = none := by simpa [Addr.add] using World.cell?_spot h1
      subst hspot
      refine .inr ⟨b, off, rfl, ?_, ?_, fun j hj => ?_⟩
      · rw [Addr.add_lit] at h1
        exact World.block_lt_of_cell? _ _ h1
      · rw [Addr.add_lit] at h1
        exact World.block_lt_of_cell? _ _ h1
      · obtain ⟨h2, h3⟩ := hq (j / 2) (by omega)
        rw [Addr.add_lit] at h2 h3
        unfold upF
        by_cases e : j % 2 = 0
        · have : j / 2 * 2 = j := by omega
          rw [this] at h2
          rw [if_pos e, h2]
        · have : j / 2 * 2 + 1 = j := by omega
          rw [this] at h3
          rw [if_neg e, h3]
theorem cellsLawIns : Try.prog.cellsOf 63 = 2 := by kernel_rfl
theorem lawInss {H : Type} {enc : TypeId × Value → H} {w : World} {fuel : Nat} {v : Value} {x : DataW H × List MemPlace} (h : DataW.trod enc Try.prog w 0 (fun _ => true) true fuel 23 [v] = some x) :
    ∃ (ar : Option Addr) (n cr : Nat) (p q : Nat → Int), v = .slice ar n cr ∧ n ≤ 9223372036854775807 ∧ SlF w.heap.size w (.slice ar n cr) n (2 * n) (inF p q) := by
  obtain ⟨f0, f1, hf, g0, g1, g2, g3, g4, g5⟩ : ∃ f0 f1 : Field, Try.prog.underlying 63 = some (.struct #[f0, f1]) ∧ f0.offset = 0 ∧ f1.offset = 1 ∧ Try.prog.cellsOf f0.type = 1 ∧ Try.prog.cellsOf f1.type = 1 ∧ Try.prog.underlying f0.type = some (.int .i64) ∧ Try.prog.underlying f1.type = some (.int .i64) := ⟨_, _, Try.underlying63, by kernel_rfl, by kernel_rfl, by kernel_rfl, by kernel_rfl, by kernel_rfl, by kernel_rfl⟩
  rcases open_slice_pairs Try.underlying23 hf cellsLawIns g0 g1 g2 g3 h with ⟨hcs, _⟩ | ⟨a, len, cap, m, n, V0, V1, D0, D1, P0, P1, hcs, _, hl, hm, hmm, _, hx⟩
  · simp only [List.cons.injEq, and_true] at hcs
    exact ⟨none, 0, 0, fun _ => 0, fun _ => 0, hcs, by simp, ⟨none, 0, rfl, .inl rfl⟩⟩
  · simp only [List.cons.injEq, and_true] at hcs
    have hmc : m = cap := by simpa using hmm
    subst hmc
    have hi : ∀ i, i < m → ∃ p : Int × Int, w.cell? (a.add (i * 2)) = some (.int .i64 p.1) ∧ w.cell? (a.add (i * 2 + 1)) = some (.int .i64 p.2) := fun i hi => by
      obtain ⟨h1, h2, h3, h4⟩ := hx i hi
      obtain ⟨z0, e0, _⟩ := DataW.trod_int g4 h3
      obtain ⟨z1, e1, _⟩ := DataW.trod_int g5 h4
      simp only [List.cons.injEq, and_true] at e0 e1
      exact ⟨(z0, z1), by rw [h1, e0], by rw [h2, e1]⟩
    obtain ⟨q, hq⟩ := choose_lt hi
    refine ⟨some a, len, m, fun j => (q j).1, fun j => (q j).2, by simpa using hcs, by simp [maxLen] at hm ⊢; omega, ?_⟩
    refine ⟨some a, m, rfl, ?_⟩
    by_cases h0 : len = 0
    · exact .inl (by simp [h0])
    · obtain ⟨b, off, spot⟩ := a
      have h1 := (hq 0 (by omega)).1
      have hspot : spot = none := by simpa [Addr.add] using World.cell?_spot h1
      subst hspot
      refine .inr ⟨b, off, rfl, ?_, ?_, fun j hj => ?_⟩
      · rw [Addr.add_lit] at h1
        exact World.block_lt_of_cell? _ _ h1
      · rw [Addr.add_lit] at h1
        exact World.block_lt_of_cell? _ _ h1
      · obtain ⟨h2, h3⟩ := hq (j / 2) (by omega)
        rw [Addr.add_lit] at h2 h3
        unfold inF
        by_cases e : j % 2 = 0
        · have : j / 2 * 2 = j := by omega
          rw [this] at h2
          rw [if_pos e, h2]
        · have : j / 2 * 2 + 1 = j := by omega
          rw [this] at h3
          rw [if_neg e, h3]
theorem cellsLawProto : Try.prog.cellsOf 25 = 4 := by kernel_rfl
theorem protoFields : Try.prog.underlying 25 = some (.struct (Try.prog.fieldsOf 25)) := by kernel_rfl
theorem protoField : (Try.prog.fieldsOf 25).toList.map (fun f => (f.type, f.offset, Try.prog.cellsOf f.type)) = [(3, 0, 1), (3, 1, 1), (22, 2, 1), (23, 3, 1)] := by kernel_rfl
end Go.Proofs.Ytpjliclgjplebaa
