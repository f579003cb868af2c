/- The laws' copies of Protos and of modules, and what the laws find alike. -/
import Derived.Test.YtpjliclgjplebaaProg
import Derived.Test.YtpjliclgjplebaaKMdB
namespace Go.Proofs.Ytpjliclgjplebaa
set_option maxRecDepth 20000
open Go.RowKit
set_option linter.unusedSimpArgs false
set_option linter.unusedVariables false

theorem slP_set {W : World} {b n c m : Nat} {f : Nat → Value} (h : SlF W.heap.size W (.slice (some ⟨b, 0, none⟩) n c) n m f) {k i : Nat} (hne : k ≠ b) (v : Value) : SlF (W.setCell ⟨k, i, none⟩ v).heap.size (W.setCell ⟨k, i, none⟩ v) (.slice (some ⟨b, 0, none⟩) n c) n m f := by
  obtain ⟨a, cap, he, h⟩ := h
  refine ⟨a, cap, he, ?_⟩
  simp only [Value.slice.injEq] at he
  obtain ⟨rfl, _, _⟩ := he
  rcases h with h | ⟨b', off, ha, hb, hb2, hc⟩
  · exact .inl h
  · simp only [Option.some.injEq, Addr.mk.injEq] at ha
    obtain ⟨rfl, rfl, _⟩ := ha
    refine .inr ⟨_, _, rfl, by simpa using hb, by simpa using hb2, fun j hj => ?_⟩
    rw [World.cell?_setCell_other _ _ _ _ (fun e => hne (congrArg Addr.block e))]
    exact hc j hj
/-- A slice of L Protos in blocks from B on. -/
def PtO (B : Nat) (w : World) (v : Value) (L : Nat) (X : Nat → PtD) : Prop :=
  ∃ K cap, v = .slice (some ⟨K, 0, none⟩) L cap ∧ B ≤ K ∧ K < w.heap.size ∧ ∀ i, i < L → ∃ b b' c c', B ≤ b ∧ B ≤ b' ∧ w.cell? ⟨K, i * 4, none⟩ = some (.int .i64 (X i).pa) ∧ w.cell? ⟨K, i * 4 + 1, none⟩ = some (.int .i64 (X i).sl) ∧ w.cell? ⟨K, i * 4 + 2, none⟩ = some (.slice (some ⟨b, 0, none⟩) (X i).un c) ∧ w.cell? ⟨K, i * 4 + 3, none⟩ = some (.slice (some ⟨b', 0, none⟩) (X i).cn c') ∧ SlF w.heap.size w (.slice (some ⟨b, 0, none⟩) (X i).un c) (X i).un (2 * (X i).un) (upF (X i).ub (X i).ui) ∧ SlF w.heap.size w (.slice (some ⟨b', 0, none⟩) (X i).cn c') (X i).cn (2 * (X i).cn) (inF (X i).co (X i).ca)
theorem PtO.set {B : Nat} {w : World} {v : Value} {L : Nat} {X : Nat → PtD} (h : PtO B w v L X) {k j : Nat} (hk : k < B) (u : Value) : PtO B (w.setCell ⟨k, j, none⟩ u) v L X := by
  obtain ⟨K, cap, rfl, hB, hK, h⟩ := h
  refine ⟨K, cap, rfl, hB, by simpa using hK, fun i hi => ?_⟩
  obtain ⟨b, b', c, c', hb, hb', h0, h1, h2, h3, h4, h5⟩ := h i hi
  have e : ∀ o, (w.setCell ⟨k, j, none⟩ u).cell? ⟨K, o, none⟩ = w.cell? ⟨K, o, none⟩ := fun o => World.cell?_setCell_other _ _ _ _ (fun e => by have := congrArg Addr.block e; simp at this; omega)
  exact ⟨b, b', c, c', hb, hb', by rw [e]; exact h0, by rw [e]; exact h1, by rw [e]; exact h2, by rw [e]; exact h3, slP_set h4 (by omega) _, slP_set h5 (by omega) _⟩
theorem PtO.below {B : Nat} {w w' : World} {v : Value} {L : Nat} {X : Nat → PtD} (h : PtO B w v L X) (hb : Below w.heap.size w w') : PtO B w' v L X := by
  obtain ⟨K, cap, rfl, hB, hK, h⟩ := h
  refine ⟨K, cap, rfl, hB, Nat.lt_of_lt_of_le hK hb.size, fun i hi => ?_⟩
  obtain ⟨b, b', c, c', k1, k2, h0, h1, h2, h3, h4, h5⟩ := h i hi
  have e := fun o => hb.cell (p := ⟨K, o, none⟩) hK
  exact ⟨b, b', c, c', k1, k2, by rw [e]; exact h0, by rw [e]; exact h1, by rw [e]; exact h2, by rw [e]; exact h3, (h4.below hb (Nat.le_refl _)).here, (h5.below hb (Nat.le_refl _)).here⟩
theorem PtO.mono {B C : Nat} {w : World} {v : Value} {L : Nat} {X : Nat → PtD} (h : PtO B w v L X) (hC : C ≤ B) : PtO C w v L X := by
  obtain ⟨K, cap, rfl, hB, hK, h⟩ := h
  refine ⟨K, cap, rfl, by omega, hK, fun i hi => ?_⟩
  obtain ⟨b, b', c, c', k1, k2, r⟩ := h i hi
  exact ⟨b, b', c, c', by omega, by omega, r⟩
/-- A module's two rows. -/
def MdF (T : Nat) (w : World) (v1 v2 : Value) (L : Nat) (X : Nat → PtD) (n : Nat) (s : Nat → ByteArray) : Prop := PtF T w v1 L X ∧ TxF T w v2 n s
theorem MdF.below {T C : Nat} {w w' : World} {v1 v2 : Value} {L : Nat} {X : Nat → PtD} {n : Nat} {s : Nat → ByteArray} (h : MdF T w v1 v2 L X n s) (hb : Below C w w') (hT : T ≤ C) : MdF T w' v1 v2 L X n s := ⟨h.1.below hb hT, h.2.below hb hT⟩
theorem MdF.mono {T T' : Nat} {w : World} {v1 v2 : Value} {L : Nat} {X : Nat → PtD} {n : Nat} {s : Nat → ByteArray} (h : MdF T w v1 v2 L X n s) (hT : T ≤ T') : MdF T' w v1 v2 L X n s := ⟨h.1.mono hT, h.2.mono hT⟩
/-- The laws' helpers at two modules that are alike. -/
theorem eqProto_twin (pa sl : Int) (au : Option Addr) (un cu : Nat) (ac : Option Addr) (cn cc : Nat) (au' : Option Addr) (cu' : Nat) (ac' : Option Addr) (cc' : Nat) (ub : Nat → Bool) (ui co ca : Nat → Int) (T : Nat) (w : World) (hT : T ≤ w.heap.size) (h1 : SlF T w (.slice au un cu) un (2 * un) (upF ub ui)) (h2 : SlF T w (.slice ac cn cc) cn (2 * cn) (inF co ca)) (h3 : SlF T w (.slice au' un cu') un (2 * un) (upF ub ui)) (h4 : SlF T w (.slice ac' cn cc') cn (2 * cn) (inF co ca)) (hn : un ≤ 1048576) (hn2 : cn ≤ 1048576) :
    Calls Try.prog 10 #[.agg #[.int .i64 pa, .int .i64 sl, .slice au un cu, .slice ac cn cc], .agg #[.int .i64 pa, .int .i64 sl, .slice au' un cu', .slice ac' cn cc']] w fun e w' => e = .returned (.bool true) ∧ Below w.heap.size w w' := by
  have H1 : Hid (SlF T w (.slice au un cu) un (2 * un) (upF ub ui)) := h1
  have H2 : Hid (SlF T w (.slice ac cn cc) cn (2 * cn) (inF co ca)) := h2
  have H3 : Hid (SlF T w (.slice au' un cu') un (2 * un) (upF ub ui)) := h3
  have H4 : Hid (SlF T w (.slice ac' cn cc') cn (2 * cn) (inF co ca)) := h4
  clear h1 h2 h3 h4
  go_enter Try.func10, Try.ntmps10
  have B2 : Below w.heap.size w ((w.alloc (.cells #[.int .i64 pa, .int .i64 sl, .slice au un cu, .slice ac cn cc] 32)).alloc (.cells #[.int .i64 pa, .int .i64 sl, .slice au' un cu', .slice ac' cn cc'] 32)) := ((Below.refl _ _).alloc (Nat.le_refl _) _).alloc (by simp) _
  go_wp2_with (first | (go_at_call 23; refine (eqUpS_same _ _ _ _ _ _ _ ub ui _ (H1.out.below B2 hT) (H3.out.below B2 hT) hn).mono ?_; rintro e w1 ⟨rfl, b1⟩; have k1 := fun i => (bcell b1).1 (w.heap.size + 1) i (by simp); have k0 := fun i => (bcell b1).1 w.heap.size i (by simp; omega); have z1 : w.heap.size + 1 + 1 ≤ w1.heap.size := (by have := b1.size; simp at this; omega); have BB : Hid (Below w.heap.size w w1) := B2.trans (b1.mono (by simp; omega)); clear b1) | (go_at_call 24; refine (eqInsS_same _ _ _ _ _ _ _ co ca _ (H2.out.below BB.out hT) (H4.out.below BB.out hT) hn2).mono ?_; rintro e w2 ⟨rfl, b2⟩; have BC : Hid (Below w.heap.size w w2) := below_next BB.out b2; clear b2))
  go_ret
  exact ⟨rfl, BC.out⟩
end Go.Proofs.Ytpjliclgjplebaa
