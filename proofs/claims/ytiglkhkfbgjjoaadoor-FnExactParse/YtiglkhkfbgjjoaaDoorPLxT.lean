/- Rows of tokens. -/
import Derived.Test.YtiglkhkfbgjjoaaDoorProg
import Derived.Test.YtiglkhkfbgjjoaaDoorPLxA
import Derived.Deep.OwnRows
namespace Go.Proofs.YtiglkhkfbgjjoaaDoor
set_option maxRecDepth 20000
open Go.RowKit Go.PlainAid
set_option linter.unusedSimpArgs false
set_option linter.unusedVariables false

/-- A token's four cells. -/
def tok4 (x : TokD) : List Value := [.int .i64 x.k, .int .i64 (x.at_ : Int), .string x.tx, .int .i64 x.n]
def tokCells (X : List TokD) : List Value := X.flatMap tok4
theorem tokCells_len (X : List TokD) : (tokCells X).length = X.length * 4 := by
  induction X with
  | nil => rfl
  | cons x X ih =>
    have : tokCells (x :: X) = tok4 x ++ tokCells X := rfl
    rw [this, List.length_append, ih]
    simp [tok4]
    omega
theorem tokCells_snoc (X : List TokD) (x : TokD) : tokCells (X ++ [x]) = tokCells X ++ tok4 x := by
  unfold tokCells
  rw [List.flatMap_append]
  simp
theorem tokCells_at : ∀ {X : List TokD} {j : Nat} (h : j < X.length), (tokCells X)[j * 4]? = some (.int .i64 X[j].k) ∧ (tokCells X)[j * 4 + 1]? = some (.int .i64 (X[j].at_ : Int)) ∧ (tokCells X)[j * 4 + 2]? = some (.string X[j].tx) ∧ (tokCells X)[j * 4 + 3]? = some (.int .i64 X[j].n)
  | x :: X, 0, h => ⟨rfl, rfl, rfl, rfl⟩
  | x :: X, j + 1, h => by
    have e : tokCells (x :: X) = tok4 x ++ tokCells X := rfl
    have := tokCells_at (X := X) (j := j) (by simpa using h)
    have g : ∀ r, (tok4 x ++ tokCells X)[(j + 1) * 4 + r]? = (tokCells X)[j * 4 + r]? := fun r => by
      rw [List.getElem?_append_right (by simp [tok4]; omega)]
      congr 1
      simp [tok4]
      omega
    rw [e]
    have g0 := g 0
    simp only [Nat.add_zero] at g0
    rw [g0, g 1, g 2, g 3]
    exact this
theorem tokCells_one {X : List TokD} : ∀ u ∈ tokCells X, u.oneCell' = true := by
  intro u hu
  unfold tokCells at hu
  obtain ⟨x, _, hx⟩ := List.mem_flatMap.1 hu
  simp only [tok4, List.mem_cons, List.not_mem_nil, or_false] at hx
  rcases hx with rfl | rfl | rfl | rfl <;> rfl
theorem infoTok : (Tryd.prog.info? 32).map (fun i => (i.zero, i.size, i.bytes)) = some (some (.agg #[.int .i64 0, .int .i64 0, .string ⟨#[]⟩, .int .i64 0]), 4, 40) := by kernel_rfl
theorem info_tok : ∃ i : TypeInfo, Tryd.prog.info? 32 = some i ∧ i.zero = some (.agg #[.int .i64 0, .int .i64 0, .string ⟨#[]⟩, .int .i64 0]) ∧ i.size = 4 ∧ i.bytes = 40 := by
  have h := infoTok
  cases hi : Tryd.prog.info? 32 with
  | none => rw [hi] at h; simp at h
  | some i =>
    rw [hi] at h
    simp only [Option.map_some, Option.some.injEq, Prod.mk.injEq] at h
    exact ⟨i, rfl, h.1, h.2.1, h.2.2⟩
/-- The list of tokens in a world, in memory from block B on. -/
def Toks (B : Nat) (w : World) (v : Value) (X : List TokD) : Prop := w.ownsRow B 32 4 v X.length (tokCells X)
theorem Toks.form {B : Nat} {w : World} {v : Value} {X : List TokD} (h : Toks B w v X) : ∃ a c, v = .slice a X.length c := by
  obtain ⟨_, ⟨rfl, h0⟩ | ⟨g, cap, cur, rfl, _⟩⟩ := h
  · exact ⟨none, 0, by rw [h0]⟩
  · exact ⟨_, _, rfl⟩
theorem Toks.below {B : Nat} {w w' : World} {v : Value} {X : List TokD} (h : Toks B w v X) (hb : Below w.heap.size w w') : Toks B w' v X :=
  World.ownsRow.kept h (row := none) ⟨hb.os, hb.tape, hb.output, hb.size, fun k hk _ => hb.block k hk⟩ (by cases v.ownBlock <;> simp)
theorem Toks.alloc {B : Nat} {w : World} {v : Value} {X : List TokD} (h : Toks B w v X) (o : Obj) : Toks B (w.alloc o) v X := World.ownsRow.alloc h o
theorem Toks.blocks {B : Nat} {w w' : World} {v : Value} {X : List TokD} (h : Toks B w v X) (hb : ∀ k, B ≤ k → k < w.heap.size → w'.heap[k]? = w.heap[k]?) : Toks B w' v X := by
  obtain ⟨h1, h2⟩ := h
  refine ⟨h1, ?_⟩
  rcases h2 with h2 | ⟨g, cap, cur, hv, hg, hc, r⟩
  · exact .inl h2
  · refine .inr ⟨g, cap, cur, hv, hg, ?_, r⟩
    have lg : g < w.heap.size := by
      rcases Nat.lt_or_ge g w.heap.size with h | h
      · exact h
      · rw [Array.getElem?_eq_none h] at hc; cases hc
    rw [hb g hg lg]
    exact hc
theorem Toks.nil (B : Nat) (w : World) : Toks B w (.slice none 0 0) [] := World.ownsRow_nil w B _ 4
theorem Toks.sl {B : Nat} {w : World} {v : Value} {X : List TokD} (h : Toks B w v X) : SlF w.heap.size w v X.length (X.length * 4) (fun i => ((tokCells X)[i]?).getD undef) := by
  have hl := tokCells_len X
  obtain ⟨h1, ⟨rfl, h0⟩ | ⟨g, cap, cur, rfl, hg, hc, hn, hcap, hs, hx⟩⟩ := h
  · exact ⟨none, 0, by rw [h0], .inl (by rw [h0])⟩
  · refine ⟨_, cap, rfl, .inr ⟨g, 0, rfl, ?_, ?_, fun i hi => ?_⟩⟩
    · rcases Nat.lt_or_ge g w.heap.size with h | h
      · exact h
      · rw [Array.getElem?_eq_none h] at hc; cases hc
    · rcases Nat.lt_or_ge g w.heap.size with h | h
      · exact h
      · rw [Array.getElem?_eq_none h] at hc; cases hc
    · have hown : w.ownsRow B 32 4 (.slice (some ⟨g, 0, none⟩) X.length cap) X.length (tokCells X) := ⟨h1, .inr ⟨g, cap, cur, rfl, hg, hc, hn, hcap, hs, hx⟩⟩
      rw [Nat.zero_add, hown.cellAt i hi]
      have : i < (tokCells X).length := by omega
      show (tokCells X)[i]? = some (((tokCells X)[i]?).getD undef)
      rw [List.getElem?_eq_getElem this]
      rfl
theorem Toks.grow {B : Nat} {w : World} {v : Value} {X : List TokD} {x : TokD} (h : w.ownsRow B 32 4 v (X.length + 1) (tokCells X ++ tok4 x)) : Toks B w v (X ++ [x]) := by
  unfold Toks
  rw [tokCells_snoc, List.length_append]
  exact h
theorem cell_new4 {w : World} {n : Nat} (hn : n = w.heap.size) (x : TokD) (t : TypeId) : ∀ j u, (tok4 x)[j]? = some u → (w.alloc (.cells #[.int .i64 x.k, .int .i64 (x.at_ : Int), .string x.tx, .int .i64 x.n] t)).cell? ((⟨n, 0, none⟩ : Addr).add j) = some u := by
  intro j u h
  subst hn
  rw [Addr.add_lit, Nat.zero_add, World.cell?_alloc_new]
  rw [← h]
  simp [tok4]
/-- What Lex answers: code, place, tokens. -/
def lexR (t : ByteArray) : Int × Nat × List TokD := if 3000 < t.size then (1, 0, []) else lexF t 0 []
end Go.Proofs.YtiglkhkfbgjjoaaDoor
