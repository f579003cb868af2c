/- - -/
import Derived.Deep.OwnRows
import Derived.Test.YtiglkhkfbgjjoaaGreatDoorPSliceA
namespace Go.Proofs.YtiglkhkfbgjjoaaGreatDoor
set_option maxRecDepth 20000
open Go.RowKit
structure zck (B T : Nat) (w w' : World) : Prop where
 os : w'.os = w.os
 tape : w'.tape = w.tape
 output : w'.output = w.output
 size : w.heap.size <= w'.heap.size
 block : ∀ k, k < B \/ T <= k -> w'.heap[k]? = w.heap[k]?
theorem zck.refl (B T : Nat) (w : World) : zck B T w w := ⟨rfl, rfl, rfl, Nat.le_refl _, fun _ _ => rfl⟩
theorem zck.setCell {B T : Nat} {a w : World} (h : zck B T a w) {p : Addr} (h1 : B <= p.block) (h2 : p.block < T) (u : Value) : zck B T a (w.setCell p u) :=
 ⟨h.os, h.tape, h.output, by simpa using h.size, fun k hk => by rw [Go.Deep.blk_setCell_other _ _ _ _ (by omega)]; exact h.block k hk⟩
theorem zck.below {B T C : Nat} {w w' : World} (h : zck B T w w') (hC : C <= B) : Below C w w' := ⟨h.os, h.tape, h.output, h.size, fun k hk => h.block k (.inl (Nat.lt_of_lt_of_le hk hC))⟩
set_option linter.unusedSimpArgs false
set_option linter.unusedVariables false
def SlF (T : Nat) (w : World) (v : Value) (n m : Nat) (f : Nat -> Value) : Prop :=
 ∃ a cap, v = .slice a n cap /\ (m = 0 \/ ∃ b off, a = some ⟨b, off, none⟩ /\ b < T /\ b < w.heap.size /\ ∀ i, i < m -> w.cell? ⟨b, off + i, none⟩ = some (f i))
def zbz (B T : Nat) (t : TypeId) (w : World) (v : Value) (n m : Nat) (f : Nat -> Value) : Prop :=
 ∃ a cap, v = .slice a n cap /\ (m = 0 \/ ∃ b M g, a = some ⟨b, 0, none⟩ /\ B <= b /\ b < T /\ m <= M /\ w.rowIs b t M g /\ ∀ i, i < m -> g i = f i)
theorem zbz.sl {B T : Nat} {t : TypeId} {w : World} {v : Value} {n m : Nat} {f : Nat -> Value} (h : zbz B T t w v n m f) : SlF T w v n m f := by
 obtain ⟨a, cap, rfl, h⟩ := h
 refine ⟨a, cap, rfl, ?_⟩
 rcases h with h | ⟨b, M, g, rfl, hB, hT, hm, hr, hf⟩
 · exact .inl h
 · exact .inr ⟨b, 0, rfl, hT, hr.lt, fun i hi => by rw [Nat.zero_add, hr.cell (by omega), hf i hi]⟩
theorem SlF.mono {T T' : Nat} {w : World} {v : Value} {n m : Nat} {f : Nat -> Value} (h : SlF T w v n m f) (hT : T <= T') : SlF T' w v n m f := by
 obtain ⟨a, cap, rfl, h⟩ := h
 refine ⟨a, cap, rfl, ?_⟩
 rcases h with h | ⟨b, off, rfl, hl, r⟩
 · exact .inl h
 · exact .inr ⟨b, off, rfl, Nat.lt_of_lt_of_le hl hT, r⟩
theorem SlF.congr {T : Nat} {w : World} {v : Value} {n m : Nat} {f g : Nat -> Value} (h : SlF T w v n m f) (hf : ∀ i, i < m -> f i = g i) : SlF T w v n m g := by
 obtain ⟨a, cap, rfl, h⟩ := h
 refine ⟨a, cap, rfl, ?_⟩
 rcases h with h | ⟨b, off, rfl, hl, hz, hc⟩
 · exact .inl h
 · exact .inr ⟨b, off, rfl, hl, hz, fun i hi => by rw [hc i hi, hf i hi]⟩
theorem SlF.below {T C : Nat} {w w' : World} {v : Value} {n m : Nat} {f : Nat -> Value} (h : SlF T w v n m f) (hb : Below C w w') (hT : T <= C) : SlF T w' v n m f := by
 obtain ⟨a, cap, rfl, h⟩ := h
 refine ⟨a, cap, rfl, ?_⟩
 rcases h with h | ⟨b, off, rfl, hl, hz, hc⟩
 · exact .inl h
 · exact .inr ⟨b, off, rfl, hl, Nat.lt_of_lt_of_le hz hb.size, fun i hi => by rw [hb.cell (p := ⟨b, off + i, none⟩) (Nat.lt_of_lt_of_le hl hT)]; exact hc i hi⟩
theorem SlF.here {T : Nat} {w : World} {v : Value} {n m : Nat} {f : Nat -> Value} (h : SlF T w v n m f) : SlF w.heap.size w v n m f := by
 obtain ⟨a, cap, rfl, h⟩ := h
 refine ⟨a, cap, rfl, ?_⟩
 rcases h with h | ⟨b, off, rfl, hl, hz, hc⟩
 · exact .inl h
 · exact .inr ⟨b, off, rfl, hz, hz, hc⟩
theorem SlF.head {T : Nat} {w : World} {v : Value} {n m : Nat} {f : Nat -> Value} (h : SlF T w v n m f) : ∃ a cap, v = .slice a n cap := by
 obtain ⟨a, cap, rfl, _⟩ := h
 exact ⟨a, cap, rfl⟩
theorem SlF.parts {T : Nat} {w : World} {v : Value} {n m : Nat} {f : Nat -> Value} (h : SlF T w v n m f) {k : Nat} (hk : k < m) :
 ∃ b off cap, v = .slice (some ⟨b, off, none⟩) n cap /\ b < T /\ b < w.heap.size /\ ∀ i, i < m -> w.cell? ⟨b, off + i, none⟩ = some (f i) := by
 obtain ⟨a, cap, rfl, h⟩ := h
 rcases h with h | ⟨b, off, rfl, hl, hz, hc⟩
 · omega
 · exact ⟨b, off, cap, rfl, hl, hz, hc⟩
theorem zbz.block {B T : Nat} {t : TypeId} {w w' : World} {v : Value} {n m : Nat} {f : Nat -> Value} (h : zbz B T t w v n m f) (hb : ∀ k, B <= k -> k < T -> w'.heap[k]? = w.heap[k]?) : zbz B T t w' v n m f := by
 obtain ⟨a, cap, rfl, h⟩ := h
 refine ⟨a, cap, rfl, ?_⟩
 rcases h with h | ⟨b, M, g, rfl, hB, hT, hm, hr, hf⟩
 · exact .inl h
 · exact .inr ⟨b, M, g, rfl, hB, hT, hm, hr.of_block (hb b hB hT), hf⟩
theorem zbz.below {B T C : Nat} {t : TypeId} {w w' : World} {v : Value} {n m : Nat} {f : Nat -> Value} (h : zbz B T t w v n m f) (hb : Below C w w') (hT : T <= C) : zbz B T t w' v n m f :=
 h.block fun k _ hk => hb.block k (Nat.lt_of_lt_of_le hk hT)
theorem zbz.outside {B T C U : Nat} {t : TypeId} {w w' : World} {v : Value} {n m : Nat} {f : Nat -> Value} (h : zbz B T t w v n m f) (hb : zck C U w w') (hU : U <= B \/ T <= C) : zbz B T t w' v n m f :=
 h.block fun k hk hk' => hb.block k (by omega)
theorem zbz.mono {B T B' T' : Nat} {t : TypeId} {w : World} {v : Value} {n m : Nat} {f : Nat -> Value} (h : zbz B T t w v n m f) (hB : B' <= B) (hT : T <= T') : zbz B' T' t w v n m f := by
 obtain ⟨a, cap, rfl, h⟩ := h
 refine ⟨a, cap, rfl, ?_⟩
 rcases h with h | ⟨b, M, g, rfl, h1, h2, r⟩
 · exact .inl h
 · exact .inr ⟨b, M, g, rfl, Nat.le_trans hB h1, Nat.lt_of_lt_of_le h2 hT, r⟩
theorem zbz.congr {B T : Nat} {t : TypeId} {w : World} {v : Value} {n m : Nat} {f g : Nat -> Value} (h : zbz B T t w v n m f) (hf : ∀ i, i < m -> f i = g i) : zbz B T t w v n m g := by
 obtain ⟨a, cap, rfl, h⟩ := h
 refine ⟨a, cap, rfl, ?_⟩
 rcases h with h | ⟨b, M, g', rfl, h1, h2, h3, h4, h5⟩
 · exact .inl h
 · exact .inr ⟨b, M, g', rfl, h1, h2, h3, h4, fun i hi => by rw [h5 i hi, hf i hi]⟩
theorem zbz.here {B T : Nat} {t : TypeId} {w : World} {v : Value} {n m : Nat} {f : Nat -> Value} (h : zbz B T t w v n m f) : zbz B w.heap.size t w v n m f := by
 obtain ⟨a, cap, rfl, h⟩ := h
 refine ⟨a, cap, rfl, ?_⟩
 rcases h with h | ⟨b, M, g, rfl, h1, h2, h3, h4, h5⟩
 · exact .inl h
 · exact .inr ⟨b, M, g, rfl, h1, h4.lt, h3, h4, h5⟩
structure zdl (B T : Nat) (w w' : World) : Prop where
 os : w'.os = w.os
 tape : w'.tape = w.tape
 output : w'.output = w.output
 size : w.heap.size <= w'.heap.size
 block : ∀ k, k < w.heap.size -> k < B \/ T <= k -> w'.heap[k]? = w.heap[k]?
theorem zdl.refl (B T : Nat) (w : World) : zdl B T w w := ⟨rfl, rfl, rfl, Nat.le_refl _, fun _ _ _ => rfl⟩
theorem zdl.trans {B T : Nat} {a b c : World} (h : zdl B T a b) (k : zdl B T b c) : zdl B T a c :=
 ⟨k.os.trans h.os, k.tape.trans h.tape, k.output.trans h.output, Nat.le_trans h.size k.size, fun i hi hr => (k.block i (Nat.lt_of_lt_of_le hi h.size) hr).trans (h.block i hi hr)⟩
theorem zck.apart {B T : Nat} {w w' : World} (h : zck B T w w') {B' T' : Nat} (hB : B' <= B) (hT : T <= T') : zdl B' T' w w' := ⟨h.os, h.tape, h.output, h.size, fun k _ hr => h.block k (by omega)⟩
theorem zdl.below {B T C : Nat} {w w' : World} (h : zdl B T w w') (hC : C <= B) (hw : C <= w.heap.size) : Below C w w' := ⟨h.os, h.tape, h.output, h.size, fun k hk => h.block k (by omega) (by omega)⟩
theorem zbz.apart {B T C U : Nat} {t : TypeId} {w w' : World} {v : Value} {n m : Nat} {f : Nat -> Value} (h : zbz B T t w v n m f) (hb : zdl C U w w') (hU : U <= B \/ T <= C) : zbz B T t w' v n m f := by
 obtain ⟨a, cap, rfl, h⟩ := h
 refine ⟨a, cap, rfl, ?_⟩
 rcases h with h | ⟨b, M, g, rfl, hB, hT, hm, hr, hf⟩
 · exact .inl h
 · exact .inr ⟨b, M, g, rfl, hB, hT, hm, hr.of_block (hb.block b hr.lt (by omega)), hf⟩
theorem SlF.apart {T C U : Nat} {w w' : World} {v : Value} {n m : Nat} {f : Nat -> Value} (h : SlF T w v n m f) (hb : zdl C U w w') (hU : T <= C) : SlF T w' v n m f := by
 obtain ⟨a, cap, rfl, h⟩ := h
 refine ⟨a, cap, rfl, ?_⟩
 rcases h with h | ⟨b, off, rfl, hl, hz, hc⟩
 · exact .inl h
 · exact .inr ⟨b, off, rfl, hl, Nat.lt_of_lt_of_le hz hb.size, fun i hi => by rw [World.cell?_of_block (w := w) (hb.block b hz (by omega))]; exact hc i hi⟩
end Go.Proofs.YtiglkhkfbgjjoaaGreatDoor
