/- Nodes of a tree by their cells: rows of four cells, the last of which leads to a row of numbers. No Go here but the laws' helpers that measure. -/
import Derived.Test.YtiglkhkfbgjjoaaDoorProg
import Derived.Test.YtiglkhkfbgjjoaaDoorPRowF
import Derived.Test.YtiglkhkfbgjjoaaDoorPSliceA
import Derived.WalkKit
import Derived.WalkSpells
import Derived.WalkLawsBesides
import Derived.Below
import Derived.Outline
import Derived.Deep.Light
import Derived.Test.YtiglkhkfbgjjoaaDoorPSlotsB
import Derived.Laws.MakeOwn
import Derived.Deep.CutRange
import Derived.Deep.RegionWith
import Derived.Deep.QuietTactic
import Derived.BigQuiet
import Derived.Test.YtiglkhkfbgjjoaaDoorPPbO
namespace Go.Proofs.YtiglkhkfbgjjoaaDoor
set_option maxRecDepth 20000
open Go.RowKit
set_option linter.unusedSimpArgs false
set_option linter.unusedVariables false

/-- A node of a tree: its kind, its text, its number, how many Kids it has and which. -/
structure KnD where
  k : Int
  t : ByteArray
  i : Int
  len : Nat
  y : Nat → Int
/-- The node x stands in the four cells from o on. -/
def KnAt (T : Nat) (w : World) (b o : Nat) (x : KnD) : Prop :=
  ∃ a c, w.cell? ⟨b, o, none⟩ = some (.int .i64 x.k) ∧ w.cell? ⟨b, o + 1, none⟩ = some (.string x.t) ∧ w.cell? ⟨b, o + 2, none⟩ = some (.int .i64 x.i) ∧ w.cell? ⟨b, o + 3, none⟩ = some (.slice a x.len c) ∧ SlF T w (.slice a x.len c) x.len x.len (fun i => .int .i64 (x.y i))
/-- A slice of L nodes that can be read. -/
def KnF (T : Nat) (w : World) (v : Value) (L : Nat) (X : Nat → KnD) : Prop :=
  ∃ a cap, v = .slice a L cap ∧ (L = 0 ∨ ∃ b off, a = some ⟨b, off, none⟩ ∧ b < T ∧ b < w.heap.size ∧ ∀ i, i < L → KnAt T w b (off + i * 4) (X i))
theorem KnAt.below {T C : Nat} {w w' : World} {b o : Nat} {x : KnD} (h : KnAt T w b o x) (hb : Below C w w') (hT : T ≤ C) (hl : b < T) : KnAt T w' b o x := by
  obtain ⟨a, c, h0, h1, h2, h3, h4⟩ := h
  have e := fun i => hb.cell (p := ⟨b, i, none⟩) (Nat.lt_of_lt_of_le hl hT)
  exact ⟨a, c, by rw [e]; exact h0, by rw [e]; exact h1, by rw [e]; exact h2, by rw [e]; exact h3, h4.below hb hT⟩
theorem KnF.below {T C : Nat} {w w' : World} {v : Value} {L : Nat} {X : Nat → KnD} (h : KnF T w v L X) (hb : Below C w w') (hT : T ≤ C) : KnF T w' v L X := by
  obtain ⟨a, cap, rfl, h⟩ := h
  refine ⟨a, cap, rfl, ?_⟩
  rcases h with h | ⟨b, off, rfl, hl, hz, hc⟩
  · exact .inl h
  · exact .inr ⟨b, off, rfl, hl, Nat.lt_of_lt_of_le hz hb.size, fun i hi => (hc i hi).below hb hT hl⟩
theorem KnF.mono {T T' : Nat} {w : World} {v : Value} {L : Nat} {X : Nat → KnD} (h : KnF T w v L X) (hT : T ≤ T') : KnF T' w v L X := by
  obtain ⟨a, cap, rfl, h⟩ := h
  refine ⟨a, cap, rfl, ?_⟩
  rcases h with h | ⟨b, off, rfl, hl, hz, hc⟩
  · exact .inl h
  · refine .inr ⟨b, off, rfl, Nat.lt_of_lt_of_le hl hT, hz, fun i hi => ?_⟩
    obtain ⟨a, c, h0, h1, h2, h3, h4⟩ := hc i hi
    exact ⟨a, c, h0, h1, h2, h3, h4.mono hT⟩
theorem KnF.at_ {T : Nat} {w : World} {a : Option Addr} {cap L : Nat} {X : Nat → KnD} (h : KnF T w (.slice a L cap) L X) {j : Nat} (hj : j < L) : ∃ b off, a = some ⟨b, off, none⟩ ∧ b < T ∧ b < w.heap.size ∧ ∀ i, i < L → KnAt T w b (off + i * 4) (X i) := by
  obtain ⟨a', cap', he, h⟩ := h
  simp only [Value.slice.injEq] at he
  obtain ⟨rfl, _, _⟩ := he
  rcases h with h | h
  · omega
  · exact h

end Go.Proofs.YtiglkhkfbgjjoaaDoor

/- The laws' copies of rows of numbers, of nodes and of trees: what was handed in, in memory of its own. -/
namespace Go.Proofs.YtiglkhkfbgjjoaaDoor
set_option maxRecDepth 20000
open Go.RowKit
set_option linter.unusedSimpArgs false
set_option linter.unusedVariables false

theorem slFS_set {W : World} {b n c m : Nat} {f : Nat → Value} (h : SlF W.heap.size W (.slice (some ⟨b, 0, none⟩) n c) n m f) {k i : Nat} (hne : k ≠ b) (v : Value) : SlF (W.setCell ⟨k, i, none⟩ v).heap.size (W.setCell ⟨k, i, none⟩ v) (.slice (some ⟨b, 0, none⟩) n c) n m f := by
  obtain ⟨a, cap, he, h⟩ := h
  refine ⟨a, cap, he, ?_⟩
  simp only [Value.slice.injEq] at he
  obtain ⟨rfl, _, _⟩ := he
  rcases h with h | ⟨b', off, ha, hb, hb2, hc⟩
  · exact .inl h
  · simp only [Option.some.injEq, Addr.mk.injEq] at ha
    obtain ⟨rfl, rfl, _⟩ := ha
    refine .inr ⟨_, _, rfl, by simpa using hb, by simpa using hb2, fun j hj => ?_⟩
    rw [World.cell?_setCell_other _ _ _ _ (fun e => hne (congrArg Addr.block e))]
    exact hc j hj
/-- A slice of L nodes in blocks from B on. -/
def KnO (B : Nat) (w : World) (v : Value) (L : Nat) (X : Nat → KnD) : Prop :=
  ∃ K cap, v = .slice (some ⟨K, 0, none⟩) L cap ∧ B ≤ K ∧ K < w.heap.size ∧ ∀ i, i < L → ∃ b c, B ≤ b ∧ w.cell? ⟨K, i * 4, none⟩ = some (.int .i64 (X i).k) ∧ w.cell? ⟨K, i * 4 + 1, none⟩ = some (.string (X i).t) ∧ w.cell? ⟨K, i * 4 + 2, none⟩ = some (.int .i64 (X i).i) ∧ w.cell? ⟨K, i * 4 + 3, none⟩ = some (.slice (some ⟨b, 0, none⟩) (X i).len c) ∧ SlF w.heap.size w (.slice (some ⟨b, 0, none⟩) (X i).len c) (X i).len (X i).len (fun j => .int .i64 ((X i).y j))
theorem KnO.knF {B : Nat} {w : World} {v : Value} {L : Nat} {X : Nat → KnD} (h : KnO B w v L X) : KnF w.heap.size w v L X := by
  obtain ⟨K, cap, rfl, hB, hK, h⟩ := h
  refine ⟨_, _, rfl, .inr ⟨K, 0, rfl, hK, hK, fun i hi => ?_⟩⟩
  obtain ⟨b, c, _, h0, h1, h2, h3, h4⟩ := h i hi
  rw [Nat.zero_add]
  exact ⟨_, _, h0, h1, h2, h3, h4⟩
theorem KnO.set {B : Nat} {w : World} {v : Value} {L : Nat} {X : Nat → KnD} (h : KnO B w v L X) {k j : Nat} (hk : k < B) (u : Value) : KnO B (w.setCell ⟨k, j, none⟩ u) v L X := by
  obtain ⟨K, cap, rfl, hB, hK, h⟩ := h
  refine ⟨K, cap, rfl, hB, by simpa using hK, fun i hi => ?_⟩
  obtain ⟨b, c, hb, h0, h1, h2, h3, h4⟩ := h i hi
  have e : ∀ o, (w.setCell ⟨k, j, none⟩ u).cell? ⟨K, o, none⟩ = w.cell? ⟨K, o, none⟩ := fun o => World.cell?_setCell_other _ _ _ _ (fun e => by have := congrArg Addr.block e; simp at this; omega)
  exact ⟨b, c, hb, by rw [e]; exact h0, by rw [e]; exact h1, by rw [e]; exact h2, by rw [e]; exact h3, slFS_set h4 (by omega) _⟩
/-- The laws' helpers at two trees that are alike. -/
theorem eqKnot_twin (k : Int) (t : ByteArray) (i : Int) (a : Option Addr) (l c : Nat) (a' : Option Addr) (c' : Nat) (y : Nat → Int) (T1 T2 : Nat) (w : World) (h1 : SlF T1 w (.slice a l c) l l (fun i => .int .i64 (y i))) (h2 : SlF T2 w (.slice a' l c') l l (fun i => .int .i64 (y i))) (hn : l ≤ 1048576) :
    Calls Tryd.prog 91 #[.agg #[.int .i64 k, .string t, .int .i64 i, .slice a l c], .agg #[.int .i64 k, .string t, .int .i64 i, .slice a' l c']] w fun e w' => e = .returned (.bool true) ∧ Below w.heap.size w w' := by
  have H1 : Hid (SlF w.heap.size w (.slice a l c) l l (fun i => .int .i64 (y i))) := h1.here
  have H2 : Hid (SlF w.heap.size w (.slice a' l c') l l (fun i => .int .i64 (y i))) := h2.here
  clear h1 h2
  go_enter Tryd.func91, Tryd.ntmps91
  have B2 : Below w.heap.size w ((w.alloc (.cells #[.int .i64 k, .string t, .int .i64 i, .slice a l c] 71)).alloc (.cells #[.int .i64 k, .string t, .int .i64 i, .slice a' l c'] 71)) := ((Below.refl _ _).alloc (Nat.le_refl _) _).alloc (by simp) _
  go_wp2_with (go_at_call 139; refine (eqIntS_same _ _ _ _ _ y _ (H1.out.below B2 (Nat.le_refl _)) (H2.out.below B2 (Nat.le_refl _)) hn).mono ?_; rintro e w1 ⟨rfl, b1⟩; have BB : Hid (Below w.heap.size w w1) := B2.trans (b1.mono (by simp; omega)); clear b1)
  go_ret
  exact ⟨rfl, BB.out⟩
set_option maxHeartbeats 1000000 in
theorem eqKnotS_same (a1 a2 : Option Addr) (c1 c2 L : Nat) (X : Nat → KnD) (T : Nat) (w : World) (h1 : KnF T w (.slice a1 L c1) L X) (h2 : KnF T w (.slice a2 L c2) L X) (hT : T ≤ w.heap.size) (hn : L ≤ 1048576) (hX : ∀ j, j < L → (X j).len ≤ 1048576) :
    Calls Tryd.prog 41 #[.slice a1 L c1, .slice a2 L c2] w fun e w' => e = .returned (.bool true) ∧ Below w.heap.size w w' := by
  have hn' : (L : Int) ≤ 1048576 := by omega
  have H1 : Hid (KnF T w (.slice a1 L c1) L X) := h1
  have H2 : Hid (KnF T w (.slice a2 L c2) L X) := h2
  have HX : Hid (∀ j, j < L → (X j).len ≤ 1048576) := hX
  clear h1 h2 hX
  go_enter Tryd.func41, Tryd.ntmps41
  go_wp2
  go_loopw [5] (fun i wr => ∃ k : Nat, k ≤ L ∧ i = .int .i64 k ∧ Below w.heap.size w wr) (fun i _ => L - (intOf i).toNat)
  case atStart => exact ⟨0, Nat.zero_le _, rfl, Below.refl _ _⟩
  case round =>
    obtain ⟨j, hk, rfl, hF⟩ := hrel
    by_cases hlt : j < L
    · have hlt' : (j : Int) < (L : Int) := by omega
      obtain ⟨b, off, rfl, lb, lz, hc⟩ := H1.out.at_ hlt
      obtain ⟨b', off', rfl, lb', lz', hc'⟩ := H2.out.at_ hlt
      obtain ⟨ax, cx, c0, c1, c2, c3, sx⟩ := (hc j hlt).below hF hT lb
      obtain ⟨ay, cy, d0, d1, d2, d3, sy⟩ := (hc' j hlt).below hF hT lb'
      have x1 := HX.out j hlt
      clear hc hc' H1 H2 HX
      generalize X j = x at c0 c1 c2 c3 sx d0 d1 d2 d3 sy x1
      obtain ⟨k, t, i, l, y⟩ := x
      simp only at c0 c1 c2 c3 sx d0 d1 d2 d3 sy x1
      have SX : Hid (SlF T wr (.slice ax l cx) l l (fun i => .int .i64 (y i))) := sx
      have SY : Hid (SlF T wr (.slice ay l cy) l l (fun i => .int .i64 (y i))) := sy
      have HF : Hid (Below w.heap.size w wr) := hF
      have hT2 : T ≤ wr.heap.size := Nat.le_trans hT hF.size
      clear sx sy hF
      go_wp2
      go_region_with (go_at_call 91; refine (eqKnot_twin _ _ _ _ _ _ _ _ y _ _ _ (SX.out.below (Below.refl _ _).drew hT2) (SY.out.below (Below.refl _ _).drew hT2) x1).mono ?_; rintro e w1 ⟨rfl, b1⟩)
      all_goals
        have hB := below_next HF.out.drew b1
        clear b1
        go_wp2
        go_roundw
        case rel => exact ⟨j + 1, by omega, by go_num, hB⟩
        case measure => simp [intOf]; omega
    · have hge : (L : Int) ≤ (j : Int) := by omega
      go_wp2
      go_ret
      exact ⟨rfl, hF⟩
theorem eqTree_same (a a' : Option Addr) (c c' L : Nat) (top : Int) (X : Nat → KnD) (T : Nat) (w : World) (h1 : KnF T w (.slice a L c) L X) (h2 : KnF T w (.slice a' L c') L X) (hT : T ≤ w.heap.size) (hL : L ≤ 1048576) (hX : ∀ j, j < L → (X j).len ≤ 1048576) :
    Calls Tryd.prog 19 #[.agg #[.slice a L c, .int .i64 top], .agg #[.slice a' L c', .int .i64 top]] w fun e w' => e = .returned (.bool true) ∧ Below w.heap.size w w' := by
  have H1 : Hid (KnF T w (.slice a L c) L X) := h1
  have H2 : Hid (KnF T w (.slice a' L c') L X) := h2
  have HX : Hid (∀ j, j < L → (X j).len ≤ 1048576) := hX
  clear h1 h2 hX
  go_enter Tryd.func19, Tryd.ntmps19
  have B2 : Below w.heap.size w ((w.alloc (.cells #[.slice a L c, .int .i64 top] 41)).alloc (.cells #[.slice a' L c', .int .i64 top] 41)) := ((Below.refl _ _).alloc (Nat.le_refl _) _).alloc (by simp) _
  go_wp2_with (go_at_call 41; refine (eqKnotS_same _ _ _ _ _ X _ _ (H1.out.below B2 hT) (H2.out.below B2 hT) (by simp; omega) hL HX.out).mono ?_; rintro e w1 ⟨rfl, b1⟩; have k1 := fun i => (bcell b1).1 (w.heap.size + 1) i (by simp); have k0 := fun i => (bcell b1).1 w.heap.size i (by simp; omega); have z1 : w.heap.size + 1 + 1 ≤ w1.heap.size := (by have := b1.size; simp at this; omega); have BB : Hid (Below w.heap.size w w1) := B2.trans (b1.mono (by simp; omega)); clear b1)
  go_ret
  exact ⟨rfl, BB.out⟩
end Go.Proofs.YtiglkhkfbgjjoaaDoor

/- The program's TreeSame: rows of numbers, nodes, trees. -/
namespace Go.Proofs.YtiglkhkfbgjjoaaDoor
set_option maxRecDepth 20000
open Go.RowKit
set_option linter.unusedSimpArgs false
set_option linter.unusedVariables false

end Go.Proofs.YtiglkhkfbgjjoaaDoor

/- The nodes that Parse has made, as a tree that is read; the twelve texts, and what is read of them. -/
namespace Go.Proofs.YtiglkhkfbgjjoaaDoor
set_option maxRecDepth 20000
open Go.RowKit Go.PlainAid Go.Maps
set_option linter.unusedSimpArgs false
set_option linter.unusedVariables false

theorem knC_at : ∀ {xs : List KnL} {vs : List Value}, xs.length = vs.length → ∀ (i : Nat) (x : KnL) (u : Value), xs[i]? = some x → vs[i]? = some u → (knC xs vs)[i * 4]? = some (.int .i64 x.k) ∧ (knC xs vs)[i * 4 + 1]? = some (.string x.t) ∧ (knC xs vs)[i * 4 + 2]? = some (.int .i64 x.i) ∧ (knC xs vs)[i * 4 + 3]? = some u
  | [], _, _, i, x, u, h1, _ => by simp at h1
  | a :: xs, [], h, _, _, _, _, _ => by simp at h
  | a :: xs, b :: vs, h, 0, x, u, h1, h2 => by
    simp at h1 h2
    subst h1 h2
    simp [knC]
  | a :: xs, b :: vs, h, i + 1, x, u, h1, h2 => by
    have := knC_at (xs := xs) (vs := vs) (by simpa using h) i x u (by simpa using h1) (by simpa using h2)
    have e : (i + 1) * 4 = i * 4 + 1 + 1 + 1 + 1 := by omega
    rw [e]
    simpa [knC] using this
def knd (x : KnL) : KnD := ⟨x.k, x.t, x.i, x.ks.length, fun j => x.ks.getD j 0⟩
def kz : KnL := ⟨0, eT, 0, []⟩
theorem NdR.knF {B : Nat} {w : World} {v : Value} {ns : List KnL} {kv : List Value} (h : NdR B w v ns kv) : KnF w.heap.size w v ns.length (fun i => knd (ns.getD i kz)) := by
  have ho := h.own
  obtain ⟨a, c, rfl⟩ := h.form
  refine ⟨a, c, rfl, ?_⟩
  by_cases h0 : ns.length = 0
  · exact .inl h0
  obtain ⟨_, ⟨e1, e2⟩ | ⟨g, cap, cur, e1, hg, hc, _⟩⟩ := ho
  · exact absurd e2 h0
  have lg : g < w.heap.size := by
    rcases Nat.lt_or_ge g w.heap.size with h | h
    · exact h
    · rw [Array.getElem?_eq_none h] at hc; cases hc
  injection e1 with e1 _ e3
  subst e1 e3
  refine .inr ⟨g, 0, rfl, lg, lg, fun i hi => ?_⟩
  have hx : ns[i]? = some ns[i] := List.getElem?_eq_getElem hi
  have hi' : i < kv.length := by rw [← h.len]; exact hi
  have hu : kv[i]? = some kv[i] := List.getElem?_eq_getElem hi'
  obtain ⟨k0, k1, k2, k3⟩ := knC_at h.len i _ _ hx hu
  have hk := h.kid i _ _ hx hu
  have hs := hk.sl
  obtain ⟨a', c', hf⟩ := hk.form
  have hq : ns.getD i kz = ns[i] := by rw [List.getD_eq_getElem?_getD, hx]; rfl
  simp only [hq]
  generalize kv[i] = u at k3 hf hs
  subst hf
  have cl := fun j (hj : j < ns.length * 4) => World.ownsRow.cellAt h.own j hj
  refine ⟨a', c', ?_, ?_, ?_, ?_, hs⟩
  · rw [Nat.zero_add, cl _ (by omega)]; exact k0
  · rw [Nat.zero_add, cl _ (by omega)]; exact k1
  · rw [Nat.zero_add, cl _ (by omega)]; exact k2
  · rw [Nat.zero_add, cl _ (by omega)]; exact k3
end Go.Proofs.YtiglkhkfbgjjoaaDoor
