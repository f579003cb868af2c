/- - -/
import Derived.Test.YtiglkhkfbgjjoaaDoorQRowF
import Derived.Maps.AppendAt
import Derived.OwnWalk
import Derived.Laws.OwnMore
import Derived.Laws.AppendOwnNone
namespace Go.Proofs.YtiglkhkfbgjjoaaDoor
set_option maxRecDepth 20000
open Go.RowKit Go.Maps
set_option linter.unusedSimpArgs false
set_option linter.unusedVariables false
theorem zc5 : (Tryd.prog.info? 9).map (fun i => (i.zero, i.size, i.bytes)) = some (some (.string ⟨#[]⟩), 1, 16) := by kernel_rfl
def scl (xs : List ByteArray) : List Value := xs.map Value.string
theorem zbq (xs : List ByteArray) : (scl xs).length = xs.length := by simp [scl]
theorem ze3 (xs ys : List ByteArray) : scl (xs ++ ys) = scl xs ++ scl ys := by simp [scl]
theorem zc6 (xs : List ByteArray) : ∀ u ∈ scl xs, u.oneCell' = true := fun u hu => by
 obtain ⟨x, _, rfl⟩ := List.mem_map.1 hu
 rfl
def SR (B : Nat) (w : World) (v : Value) (xs : List ByteArray) : Prop := w.ownsRow B 9 1 v xs.length (scl xs) /\ v ≠ .slice none 0 0
theorem SR.form {B : Nat} {w : World} {v : Value} {xs : List ByteArray} (h : SR B w v xs) : ∃ g c, v = .slice (some ⟨g, 0, none⟩) xs.length c /\ B <= g /\ g < w.heap.size := by
 obtain ⟨⟨_, ⟨h1, _⟩ | ⟨g, cap, cur, h1, h2, h3, _⟩⟩, h4⟩ := h
 · exact absurd h1 h4
 · refine ⟨g, cap, h1, h2, ?_⟩
   rcases Nat.lt_or_ge g w.heap.size with h | h
   · exact h
   · rw [Array.getElem?_eq_none h] at h3; cases h3
theorem SR.cells {B : Nat} {w : World} {g c : Nat} {xs : List ByteArray} (h : SR B w (.slice (some ⟨g, 0, none⟩) xs.length c) xs) : ∀ j u, (scl xs)[j]? = some u -> w.cell? ((⟨g, 0, none⟩ : Addr).add j) = some u := fun j u hj => by
 have hl : j < xs.length := by
  rcases Nat.lt_or_ge j xs.length with h | h
  · exact h
  · rw [List.getElem?_eq_none (by rw [zbq]; exact h)] at hj; cases hj
 rw [Addr.add_lit, Nat.zero_add, h.1.cellAt j (by omega)]
 exact hj
theorem SR.alloc {B : Nat} {w : World} {v : Value} {xs : List ByteArray} (h : SR B w v xs) (o : Obj) : SR B (w.alloc o) v xs := ⟨World.ownsRow.alloc h.1 o, h.2⟩
theorem SR.below {B : Nat} {w w' : World} {v : Value} {xs : List ByteArray} (h : SR B w v xs) (hb : Below w.heap.size w w') : SR B w' v xs :=
 ⟨World.ownsRow.kept h.1 (row := none) ⟨hb.os, hb.tape, hb.output, hb.size, fun k hk _ => hb.block k hk⟩ (by cases v.ownBlock <;> simp), h.2⟩
theorem SR.mono {B C : Nat} {w : World} {v : Value} {xs : List ByteArray} (h : SR B w v xs) (hC : C <= B) : SR C w v xs := by
 obtain ⟨⟨h1, h2⟩, h3⟩ := h
 refine ⟨⟨h1, ?_⟩, h3⟩
 rcases h2 with h2 | ⟨g, cap, cur, hv, hg, r⟩
 · exact .inl h2
 · exact .inr ⟨g, cap, cur, hv, Nat.le_trans hC hg, r⟩
theorem SR.new {B : Nat} {w : World} (xs : List ByteArray) (hB : B <= w.heap.size) (hl : xs.length <= 1048576) (A : Array Value) (hA : A = (scl xs).toArray) : SR B (w.alloc (.cells A 9)) (.slice (some ⟨w.heap.size, 0, none⟩) xs.length xs.length) xs := by
 subst hA
 refine ⟨?_, by simp⟩
 have := World.ownsRow_lit (base := B) (e := 9) (size := 1) w (scl xs).toArray xs.length hB (by unfold maxLen; omega) (by simp [zbq])
 simpa using this
def RdS (w : World) (v : Value) (xs : List ByteArray) : Prop := (v = .slice none 0 0 /\ xs = []) \/ ∃ g c, v = .slice (some ⟨g, 0, none⟩) xs.length c /\ g < w.heap.size /\ ∀ j u, (scl xs)[j]? = some u -> w.cell? ((⟨g, 0, none⟩ : Addr).add j) = some u
theorem SR.rd {B : Nat} {w : World} {v : Value} {xs : List ByteArray} (h : SR B w v xs) : RdS w v xs := by
 obtain ⟨g, c, rfl, _, h2⟩ := h.form
 exact .inr ⟨g, c, rfl, h2, h.cells⟩
theorem RdS.below {w w' : World} {v : Value} {xs : List ByteArray} (h : RdS w v xs) (hb : Below w.heap.size w w') : RdS w' v xs := by
 rcases h with h | ⟨g, c, rfl, h2, h3⟩
 · exact .inl h
 · refine .inr ⟨g, c, rfl, Nat.lt_of_lt_of_le h2 hb.size, fun j u hj => ?_⟩
   rw [hb.cell (p := (⟨g, 0, none⟩ : Addr).add j) (by rw [Addr.add_lit]; exact h2)]
   exact h3 j u hj
theorem SR.app {B : Nat} {w wr w1 : World} {u v' : Value} {xs ys : List ByteArray} (hB : B <= wr.heap.size) (hown : SR B wr u xs) (hnx : Below B w wr)
 (hown' : w1.ownsRow B 9 1 v' (xs.length + ys.length) (scl xs ++ scl ys)) (hgrow : wr.grownBy w1 u.ownBlock) (hni : v' = .slice none 0 0 ↔ u = .slice none 0 0 /\ ys.length = 0) : SR B w1 v' (xs ++ ys) /\ Below B w w1 := by
 refine ⟨⟨?_, fun h => hown.2 (hni.1 h).1⟩, hnx.grown hgrow hB (fun j hj => by have := (World.ownsRow.lt hown.1 j hj).1; omega)⟩
 rw [ze3, List.length_append]
 exact hown'
theorem za5 {ops : Array Oper} {rest : List Oper} {o : Oper} {a : Act} {w : World} {Q : Exit -> Act -> World -> Prop} (hgd : o.guard = none) (s x : Operand)
 (ho : o.op = .call { callee := .builtin .append, args := #[s, x], argTypes := #[45, 45] })
 (B : Nat) (w0 : World) (v : Value) (xs : List ByteArray) (hs : a.eval s = v) (hown : SR B w v xs) (hb0 : Below B w0 w) (v2 : Value) (ys : List ByteArray) (hx : a.eval x = v2) (hrd : RdS w v2 ys) (hl1 : xs.length <= 1048576) (hl2 : ys.length <= 1048576) (hB : B <= w.heap.size)
 (h : ∀ v' w', SR B w' v' (xs ++ ys) -> Below B w0 w' -> wpList Tryd.prog ops Q rest (a.put o.dst v') w') : wpList Tryd.prog ops Q (o :: rest) a w := by
 obtain ⟨i0, hi, hz0, hz1, hz2⟩ := info_parts zc5
 rcases hrd with ⟨rfl, rfl⟩ | ⟨g, c, rfl, h2, h3⟩
 · exact wpList_append_own_none hgd s x 45 ho B 9 i0 1 Tryd.underlying45 hi v xs.length (scl xs) hs hown.1 hx (h _ _ (by rw [List.append_nil]; exact hown) hb0)
 · refine wpList_append_own w hgd s x 45 ho B 9 i0 (.string ⟨#[]⟩) 1 16 Tryd.underlying45 hi hz0 hz1 hz2 rfl (by decide) v xs.length (scl xs) hs hown.1 ⟨g, 0, none⟩ ys.length c (scl ys) hx (by rw [zbq, Nat.mul_one]) h3 (zc6 ys) (by unfold maxLen; omega) (by omega) hB ?_
   intro v' w1 hown' hgrow hni
   have R := SR.app hB hown hb0 hown' hgrow hni
   exact h _ _ R.1 R.2
theorem SR.new1 {w : World} {A : Array Value} (hA : A = #[]) : SR w.heap.size (w.alloc (.cells A 9)) (.slice (some ⟨w.heap.size, 0, none⟩) 0 0) [] := SR.new [] (Nat.le_refl _) (by simp) A (by rw [hA]; rfl)
set_option maxHeartbeats 1000000 in
theorem za (va vm vb : Value) (A M B : List ByteArray) (w : World) (ha : RdS w va A) (hm : RdS w vm M) (hb : RdS w vb B) (la : A.length <= 300000) (lm : M.length <= 300000) (lb : B.length <= 300000) :
 Calls Tryd.prog 80 #[va, vm, vb] w fun e w' => ∃ v, e = .returned v /\ SR w.heap.size w' v (A ++ M ++ B) /\ Below w.heap.size w w' := by
 have HA : Hid (RdS w va A) := ha
 have HM : Hid (RdS w vm M) := hm
 have HB : Hid (RdS w vb B) := hb
 have H0 : Hid (SR w.heap.size (w.alloc (.cells #[] 9)) (.slice (some ⟨w.heap.size, 0, none⟩) 0 0) []) := SR.new1 rfl
 have B0 : Hid (Below w.heap.size w (w.alloc (.cells #[] 9))) := (Below.refl _ _).alloc (Nat.le_refl _) _
 clear ha hm hb
 go_enter Tryd.func80, Tryd.ntmps80
 go_wp2_with (at_builtin; refine za5 rfl _ _ rfl w.heap.size w _ [] rfl H0.out B0.out va A rfl (HA.out.below B0.out) (by simp) (by omega) (by simp) ?_)
 intro v1 w1 S1 b1
 have H1 : Hid (SR w.heap.size w1 v1 A) := S1
 have B1 : Hid (Below w.heap.size w w1) := b1
 clear S1 b1
 go_wp2_with (at_builtin; refine za5 rfl _ _ rfl w.heap.size w _ A rfl H1.out B1.out vm M rfl (HM.out.below B1.out) (by omega) (by omega) B1.out.size ?_)
 intro v2 w2 S2 b2
 have H2 : Hid (SR w.heap.size w2 v2 (A ++ M)) := S2
 have B2 : Hid (Below w.heap.size w w2) := b2
 have l2 : (A ++ M).length <= 600000 := by rw [List.length_append]; omega
 clear S2 b2
 go_wp2_with (at_builtin; refine za5 rfl _ _ rfl w.heap.size w _ (A ++ M) rfl H2.out B2.out vb B rfl (HB.out.below B2.out) (by omega) (by omega) B2.out.size ?_)
 intro v3 w3 S3 b3
 go_wp2
 go_ret
 exact ⟨_, rfl, by rw [List.append_assoc]; exact S3, b3⟩
end Go.Proofs.YtiglkhkfbgjjoaaDoor
