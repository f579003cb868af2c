/- - -/
import Derived.Test.YtiglkhkfbgjjoaaGreatDoorPLxA
namespace Go.Proofs.YtiglkhkfbgjjoaaGreatDoor
set_option maxRecDepth 20000
open Go.RowKit Go.PlainAid
set_option linter.unusedSimpArgs false
set_option linter.unusedVariables false
def zb9 (x : za) : List Value := [.int .i64 x.k, .int .i64 (x.at_ : Int), .string x.tx, .int .i64 x.n]
def zw (X : List za) : List Value := X.flatMap zb9
theorem zct (X : List za) : (zw X).length = X.length * 4 := by
 induction X with
 | nil => rfl
 | cons x X ih =>
   have : zw (x :: X) = zb9 x ++ zw X := rfl
   rw [this, List.length_append, ih]
   simp [zb9]
   omega
theorem zjg (X : List za) (x : za) : zw (X ++ [x]) = zw X ++ zb9 x := by
 unfold zw
 rw [List.flatMap_append]
 simp
theorem zc0 : ∀ {X : List za} {j : Nat} (h : j < X.length), (zw X)[j * 4]? = some (.int .i64 X[j].k) /\ (zw X)[j * 4 + 1]? = some (.int .i64 (X[j].at_ : Int)) /\ (zw X)[j * 4 + 2]? = some (.string X[j].tx) /\ (zw X)[j * 4 + 3]? = some (.int .i64 X[j].n)
 | x :: X, 0, h => ⟨rfl, rfl, rfl, rfl⟩
 | x :: X, j + 1, h => by
   have e : zw (x :: X) = zb9 x ++ zw X := rfl
   have := zc0 (X := X) (j := j) (by simpa using h)
   have g : ∀ r, (zb9 x ++ zw X)[(j + 1) * 4 + r]? = (zw X)[j * 4 + r]? := fun r => by
    rw [List.getElem?_append_right (by simp [zb9]; omega)]
    congr 1
    simp [zb9]
    omega
   rw [e]
   have g0 := g 0
   simp only [Nat.add_zero] at g0
   rw [g0, g 1, g 2, g 3]
   exact this
theorem zcd {X : List za} : ∀ u ∈ zw X, u.oneCell' = true := by
 intro u hu
 unfold zw at hu
 obtain ⟨x, _, hx⟩ := List.mem_flatMap.1 hu
 simp only [zb9, List.mem_cons, List.not_mem_nil, or_false] at hx
 rcases hx with rfl | rfl | rfl | rfl <;> rfl
theorem zsp : (Tryz.prog.info? 68).map (fun i => (i.zero, i.size, i.bytes)) = some (some (.agg #[.int .i64 0, .int .i64 0, .string ⟨#[]⟩, .int .i64 0]), 4, 40) := by kernel_rfl
theorem zke : ∃ i : TypeInfo, Tryz.prog.info? 68 = some i /\ i.zero = some (.agg #[.int .i64 0, .int .i64 0, .string ⟨#[]⟩, .int .i64 0]) /\ i.size = 4 /\ i.bytes = 40 := by
 have h := zsp
 cases hi : Tryz.prog.info? 68 with
 | none => rw [hi] at h; simp at h
 | some i =>
   rw [hi] at h
   simp only [Option.map_some, Option.some.injEq, Prod.mk.injEq] at h
   exact ⟨i, rfl, h.1, h.2.1, h.2.2⟩
def zaa (B : Nat) (w : World) (v : Value) (X : List za) : Prop := w.ownsRow B 68 4 v X.length (zw X)
theorem zaa.form {B : Nat} {w : World} {v : Value} {X : List za} (h : zaa B w v X) : ∃ a c, v = .slice a X.length c := by
 obtain ⟨_, ⟨rfl, h0⟩ | ⟨g, cap, cur, rfl, _⟩⟩ := h
 · exact ⟨none, 0, by rw [h0]⟩
 · exact ⟨_, _, rfl⟩
theorem zaa.below {B : Nat} {w w' : World} {v : Value} {X : List za} (h : zaa B w v X) (hb : Below w.heap.size w w') : zaa B w' v X :=
 World.ownsRow.kept h (row := none) ⟨hb.os, hb.tape, hb.output, hb.size, fun k hk _ => hb.block k hk⟩ (by cases v.ownBlock <;> simp)
theorem zaa.alloc {B : Nat} {w : World} {v : Value} {X : List za} (h : zaa B w v X) (o : Obj) : zaa B (w.alloc o) v X := World.ownsRow.alloc h o
theorem zaa.blocks {B : Nat} {w w' : World} {v : Value} {X : List za} (h : zaa B w v X) (hb : ∀ k, B <= k -> k < w.heap.size -> w'.heap[k]? = w.heap[k]?) : zaa B w' v X := by
 obtain ⟨h1, h2⟩ := h
 refine ⟨h1, ?_⟩
 rcases h2 with h2 | ⟨g, cap, cur, hv, hg, hc, r⟩
 · exact .inl h2
 · refine .inr ⟨g, cap, cur, hv, hg, ?_, r⟩
   have lg : g < w.heap.size := by
    rcases Nat.lt_or_ge g w.heap.size with h | h
    · exact h
    · rw [Array.getElem?_eq_none h] at hc; cases hc
   rw [hb g hg lg]
   exact hc
theorem zaa.nil (B : Nat) (w : World) : zaa B w (.slice none 0 0) [] := World.ownsRow_nil w B _ 4
theorem zaa.sl {B : Nat} {w : World} {v : Value} {X : List za} (h : zaa B w v X) : SlF w.heap.size w v X.length (X.length * 4) (fun i => ((zw X)[i]?).getD undef) := by
 have hl := zct X
 obtain ⟨h1, ⟨rfl, h0⟩ | ⟨g, cap, cur, rfl, hg, hc, hn, hcap, hs, hx⟩⟩ := h
 · exact ⟨none, 0, by rw [h0], .inl (by rw [h0])⟩
 · refine ⟨_, cap, rfl, .inr ⟨g, 0, rfl, ?_, ?_, fun i hi => ?_⟩⟩
   · rcases Nat.lt_or_ge g w.heap.size with h | h
     · exact h
     · rw [Array.getElem?_eq_none h] at hc; cases hc
   · rcases Nat.lt_or_ge g w.heap.size with h | h
     · exact h
     · rw [Array.getElem?_eq_none h] at hc; cases hc
   · have hown : w.ownsRow B 68 4 (.slice (some ⟨g, 0, none⟩) X.length cap) X.length (zw X) := ⟨h1, .inr ⟨g, cap, cur, rfl, hg, hc, hn, hcap, hs, hx⟩⟩
     rw [Nat.zero_add, hown.cellAt i hi]
     have : i < (zw X).length := by omega
     show (zw X)[i]? = some (((zw X)[i]?).getD undef)
     rw [List.getElem?_eq_getElem this]
     rfl
theorem zaa.grow {B : Nat} {w : World} {v : Value} {X : List za} {x : za} (h : w.ownsRow B 68 4 v (X.length + 1) (zw X ++ zb9 x)) : zaa B w v (X ++ [x]) := by
 unfold zaa
 rw [zjg, List.length_append]
 exact h
theorem zda {w : World} {n : Nat} (hn : n = w.heap.size) (x : za) (t : TypeId) : ∀ j u, (zb9 x)[j]? = some u -> (w.alloc (.cells #[.int .i64 x.k, .int .i64 (x.at_ : Int), .string x.tx, .int .i64 x.n] t)).cell? ((⟨n, 0, none⟩ : Addr).add j) = some u := by
 intro j u h
 subst hn
 rw [Addr.add_lit, Nat.zero_add, World.cell?_alloc_new]
 rw [<- h]
 simp [zb9]
def zn (t : ByteArray) : Int × Nat × List za := if 3000 < t.size then (1, 0, []) else zab t 0 []
end Go.Proofs.YtiglkhkfbgjjoaaGreatDoor
