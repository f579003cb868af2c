/- - -/
import Derived.Test.YtiglkhkfbgjjoaaGreatDoorPRowF
import Derived.Maps.AppendAt
import Derived.OwnWalk
import Derived.Laws.OwnMore
import Derived.Laws.AppendOwnNone
namespace Go.Proofs.YtiglkhkfbgjjoaaGreatDoor
set_option maxRecDepth 20000
open Go.RowKit Go.Maps
set_option linter.unusedSimpArgs false
set_option linter.unusedVariables false
theorem zb6 : (Tryz.prog.info? 3).map (fun i => (i.zero, i.size, i.bytes)) = some (some (.int .i64 0), 1, 8) := by kernel_rfl
def icl (xs : List Int) : List Value := xs.map fun x => .int .i64 x
theorem zeh (xs : List Int) : (icl xs).length = xs.length := by simp [icl]
theorem zfn (xs : List Int) (x : Int) : icl (xs ++ [x]) = icl xs ++ [.int .i64 x] := by simp [icl]
theorem zt6 (xs : List Int) (i : Nat) (h : i < xs.length) : (icl xs)[i]? = some (.int .i64 (xs.getD i 0)) := by simp [icl, h]
def IR (B : Nat) (w : World) (v : Value) (xs : List Int) : Prop := w.ownsRow B 3 1 v xs.length (icl xs)
theorem IR.form {B : Nat} {w : World} {v : Value} {xs : List Int} (h : IR B w v xs) : ∃ a c, v = .slice a xs.length c := by
 obtain ⟨_, ⟨rfl, h0⟩ | ⟨g, cap, cur, rfl, _⟩⟩ := h
 · exact ⟨none, 0, by rw [h0]⟩
 · exact ⟨_, _, rfl⟩
theorem IR.nil (B : Nat) (w : World) : IR B w (.slice none 0 0) [] := World.ownsRow_nil w B _ 1
theorem IR.alloc {B : Nat} {w : World} {v : Value} {xs : List Int} (h : IR B w v xs) (o : Obj) : IR B (w.alloc o) v xs := World.ownsRow.alloc h o
theorem IR.below {B : Nat} {w w' : World} {v : Value} {xs : List Int} (h : IR B w v xs) (hb : Below w.heap.size w w') : IR B w' v xs :=
 World.ownsRow.kept h (row := none) ⟨hb.os, hb.tape, hb.output, hb.size, fun k hk _ => hb.block k hk⟩ (by cases v.ownBlock <;> simp)
theorem IR.mono {B C : Nat} {w : World} {v : Value} {xs : List Int} (h : IR B w v xs) (hC : C <= B) : IR C w v xs := by
 obtain ⟨h1, h2⟩ := h
 refine ⟨h1, ?_⟩
 rcases h2 with h2 | ⟨g, cap, cur, hv, hg, r⟩
 · exact .inl h2
 · exact .inr ⟨g, cap, cur, hv, Nat.le_trans hC hg, r⟩
theorem IR.sl {B : Nat} {w : World} {v : Value} {xs : List Int} (h : IR B w v xs) : SlF w.heap.size w v xs.length xs.length (fun i => .int .i64 (xs.getD i 0)) := by
 obtain ⟨h1, ⟨rfl, h0⟩ | ⟨g, cap, cur, rfl, hg, hc, hn, hcap, hs, hx⟩⟩ := h
 · exact ⟨none, 0, by rw [h0], .inl h0⟩
 · have lg : g < w.heap.size := by
    rcases Nat.lt_or_ge g w.heap.size with h | h
    · exact h
    · rw [Array.getElem?_eq_none h] at hc; cases hc
   refine ⟨_, cap, rfl, .inr ⟨g, 0, rfl, lg, lg, fun i hi => ?_⟩⟩
   have hown : w.ownsRow B 3 1 (.slice (some ⟨g, 0, none⟩) xs.length cap) xs.length (icl xs) := ⟨h1, .inr ⟨g, cap, cur, rfl, hg, hc, hn, hcap, hs, hx⟩⟩
   rw [Nat.zero_add, hown.cellAt i (by omega)]
   exact zt6 xs i hi
theorem IR.step {B : Nat} {w wr w1 : World} {u v' : Value} {o : Obj} {xs : List Int} {x : Int} (hB : B <= wr.heap.size) (hown : IR B wr u xs) (hnx : Below B w wr)
 (hown' : w1.ownsRow B 3 1 v' (xs.length + 1) (icl xs ++ [.int .i64 x])) (hgrow : (wr.alloc o).grownBy w1 u.ownBlock) : IR B w1 v' (xs ++ [x]) /\ Below B w w1 := by
 refine ⟨?_, (hnx.alloc hB o).grown hgrow (by simp; omega) (fun j hj => by have := (World.ownsRow.lt hown j hj).1; omega)⟩
 unfold IR
 rw [zfn, List.length_append]
 exact hown'
theorem IR.new {B : Nat} {w : World} (xs : List Int) (hB : B <= w.heap.size) (hl : xs.length <= 1048576) : IR B (w.alloc (.cells (icl xs).toArray 3)) (.slice (some ⟨w.heap.size, 0, none⟩) xs.length xs.length) xs := by
 refine ⟨by rw [zeh, Nat.mul_one], .inr ⟨w.heap.size, xs.length, (icl xs).toArray, rfl, hB, Go.Deep.blk_alloc_new _ _, Nat.le_refl _, by unfold maxLen; omega, by simp [zeh], ?_⟩⟩
 rw [List.toList_toArray, List.take_of_length_le (by rw [zeh]; omega)]
theorem IR.take {B : Nat} {w : World} {a : Option Addr} {c : Nat} {xs : List Int} (h : IR B w (.slice a xs.length c) xs) {m : Nat} (hm : m <= xs.length) : IR B w (.slice a m c) (xs.take m) := by
 obtain ⟨h1, ⟨hv, h0⟩ | ⟨g, cap, cur, hv, hg, hc, hn, hcap, hs, hx⟩⟩ := h
 · simp only [Value.slice.injEq] at hv
   obtain ⟨rfl, _, rfl⟩ := hv
   obtain rfl : m = 0 := by omega
   obtain rfl : xs = [] := List.eq_nil_of_length_eq_zero h0
   exact IR.nil _ _
 · simp only [Value.slice.injEq] at hv
   obtain ⟨rfl, _, rfl⟩ := hv
   have e : (xs.take m).length = m := by rw [List.length_take]; omega
   unfold IR
   rw [e]
   refine ⟨by rw [zeh, e, Nat.mul_one], .inr ⟨g, c, cur, rfl, hg, hc, by omega, hcap, hs, ?_⟩⟩
   have : icl (xs.take m) = (icl xs).take m := by simp [icl, List.map_take]
   rw [this, <- hx, List.take_take, Nat.mul_one, Nat.mul_one, Nat.min_eq_left hm]
def scl (xs : List ByteArray) : List Value := xs.map Value.string
theorem zmi (xs : List ByteArray) : (scl xs).length = xs.length := by simp [scl]
def SR (B : Nat) (w : World) (v : Value) (xs : List ByteArray) : Prop := w.ownsRow B 9 1 v xs.length (scl xs) /\ v ≠ .slice none 0 0
theorem SR.form {B : Nat} {w : World} {v : Value} {xs : List ByteArray} (h : SR B w v xs) : ∃ g c, v = .slice (some ⟨g, 0, none⟩) xs.length c /\ B <= g /\ g < w.heap.size := by
 obtain ⟨⟨_, ⟨h1, _⟩ | ⟨g, cap, cur, h1, h2, h3, _⟩⟩, h4⟩ := h
 · exact absurd h1 h4
 · refine ⟨g, cap, h1, h2, ?_⟩
   rcases Nat.lt_or_ge g w.heap.size with h | h
   · exact h
   · rw [Array.getElem?_eq_none h] at h3; cases h3
theorem SR.cells {B : Nat} {w : World} {g c : Nat} {xs : List ByteArray} (h : SR B w (.slice (some ⟨g, 0, none⟩) xs.length c) xs) : ∀ j u, (scl xs)[j]? = some u -> w.cell? ((⟨g, 0, none⟩ : Addr).add j) = some u := fun j u hj => by
 have hl : j < xs.length := by
  rcases Nat.lt_or_ge j xs.length with h | h
  · exact h
  · rw [List.getElem?_eq_none (by rw [zmi]; exact h)] at hj; cases hj
 rw [Addr.add_lit, Nat.zero_add, h.1.cellAt j (by omega)]
 exact hj
theorem SR.alloc {B : Nat} {w : World} {v : Value} {xs : List ByteArray} (h : SR B w v xs) (o : Obj) : SR B (w.alloc o) v xs := ⟨World.ownsRow.alloc h.1 o, h.2⟩
theorem SR.below {B : Nat} {w w' : World} {v : Value} {xs : List ByteArray} (h : SR B w v xs) (hb : Below w.heap.size w w') : SR B w' v xs :=
 ⟨World.ownsRow.kept h.1 (row := none) ⟨hb.os, hb.tape, hb.output, hb.size, fun k hk _ => hb.block k hk⟩ (by cases v.ownBlock <;> simp), h.2⟩
theorem SR.mono {B C : Nat} {w : World} {v : Value} {xs : List ByteArray} (h : SR B w v xs) (hC : C <= B) : SR C w v xs := by
 obtain ⟨⟨h1, h2⟩, h3⟩ := h
 refine ⟨⟨h1, ?_⟩, h3⟩
 rcases h2 with h2 | ⟨g, cap, cur, hv, hg, r⟩
 · exact .inl h2
 · exact .inr ⟨g, cap, cur, hv, Nat.le_trans hC hg, r⟩
theorem SR.new {B : Nat} {w : World} (xs : List ByteArray) (hB : B <= w.heap.size) (hl : xs.length <= 1048576) (A : Array Value) (hA : A = (scl xs).toArray) : SR B (w.alloc (.cells A 9)) (.slice (some ⟨w.heap.size, 0, none⟩) xs.length xs.length) xs := by
 subst hA
 refine ⟨?_, by simp⟩
 have := World.ownsRow_lit (base := B) (e := 9) (size := 1) w (scl xs).toArray xs.length hB (by unfold maxLen; omega) (by simp [zmi])
 simpa using this
def RdS (w : World) (v : Value) (xs : List ByteArray) : Prop := (v = .slice none 0 0 /\ xs = []) \/ ∃ g c, v = .slice (some ⟨g, 0, none⟩) xs.length c /\ g < w.heap.size /\ ∀ j u, (scl xs)[j]? = some u -> w.cell? ((⟨g, 0, none⟩ : Addr).add j) = some u
theorem SR.rd {B : Nat} {w : World} {v : Value} {xs : List ByteArray} (h : SR B w v xs) : RdS w v xs := by
 obtain ⟨g, c, rfl, _, h2⟩ := h.form
 exact .inr ⟨g, c, rfl, h2, h.cells⟩
theorem RdS.below {w w' : World} {v : Value} {xs : List ByteArray} (h : RdS w v xs) (hb : Below w.heap.size w w') : RdS w' v xs := by
 rcases h with h | ⟨g, c, rfl, h2, h3⟩
 · exact .inl h
 · refine .inr ⟨g, c, rfl, Nat.lt_of_lt_of_le h2 hb.size, fun j u hj => ?_⟩
   rw [hb.cell (p := (⟨g, 0, none⟩ : Addr).add j) (by rw [Addr.add_lit]; exact h2)]
   exact h3 j u hj
end Go.Proofs.YtiglkhkfbgjjoaaGreatDoor
