/- The program's reader: add, takeBack. -/
import Derived.Test.YtiglkhkfbgjjoaaDoorProg
import Derived.Test.YtiglkhkfbgjjoaaDoorBPaT
namespace Go.Proofs.YtiglkhkfbgjjoaaDoor
set_option maxRecDepth 20000
open Go.RowKit Go.PlainAid Go.Maps
set_option linter.unusedSimpArgs false
set_option linter.unusedVariables false

theorem infoKnot : (Tryd.prog.info? 71).map (fun i => (i.zero, i.size, i.bytes)) = some (some (.agg #[.int .i64 0, .string ⟨#[]⟩, .int .i64 0, .slice none 0 0]), 4, 56) := by kernel_rfl
theorem Rg.more {rb : Nat} {w w' : World} {v v' : Value} {k1 : List Value} (h : Rg rb w v w' v' k1) {u : Value} (hu : ∀ g, u.ownBlock = some g → w.heap.size ≤ g) : Rg rb w v w' v' (k1 ++ [u]) :=
  ⟨h.os, h.tape, h.output, h.size, h.block, h.row, fun y g hy hg => by
    rcases List.mem_append.1 hy with h1 | h1
    · exact h.kid y g h1 hg
    · rw [List.mem_singleton.1 h1] at hg
      exact hu g hg⟩
/-- A row of Kids that no node has. -/
structure Own (rb : Nat) (w : World) (v : Value) (kv : List Value) (u : Value) (ks : List Int) : Prop where
  row : IR (rb + 1) w u ks
  ne : ∀ g, u.ownBlock = some g → v.ownBlock ≠ some g
  nd : ∀ (y : Value) (g : Nat), y ∈ kv → y.ownBlock = some g → u.ownBlock ≠ some g
theorem Own.nil (rb : Nat) (w : World) (v : Value) (kv : List Value) : Own rb w v kv (.slice none 0 0) [] := ⟨IR.nil _ _, fun g h => by simp [Value.ownBlock] at h, fun y g _ _ h => by simp [Value.ownBlock] at h⟩
theorem kv_lt {rb : Nat} {ts : List TokD} {tv : Value} {en : Nat} {w : World} {v : Value} {kv : List Value} {s : PS} (h : Rdr rb ts tv en w v kv s) {y : Value} {g : Nat} (hy : y ∈ kv) (hg : y.ownBlock = some g) : rb < g ∧ g < w.heap.size := by
  obtain ⟨j, hj, he⟩ := List.getElem_of_mem hy
  have hk : kv[j]? = some y := by rw [List.getElem?_eq_getElem hj, he]
  have hn : s.ns[j]? = some (s.ns[j]'(by have := h.nd.len; omega)) := List.getElem?_eq_getElem _
  have := World.ownsRow.lt (h.nd.kid j _ y hn hk) g hg
  omega
theorem Rdr.addn {rb : Nat} {ts : List TokD} {tv : Value} {en : Nat} {w w1 : World} {v v' : Value} {kv : List Value} {s : PS} (h : Rdr rb ts tv en w v kv s) (x : KnL) (u : Value) (hu : Own rb w v kv u x.ks) (hks : x.k = 8 → x.ks.length ≤ 10) (hown : w1.ownsRow (rb + 1) 71 4 v' (s.ns.length + 1) (knC s.ns kv ++ [.int .i64 x.k, .string x.t, .int .i64 x.i, u])) (hg : w.grownBy w1 v.ownBlock) (hrow : ∀ r, v'.ownBlock = some r → v.ownBlock = some r ∨ w.heap.size ≤ r) :
    Rdr rb ts tv en (w1.setCell ⟨rb, 4, none⟩ v') v' (kv ++ [u]) ⟨s.i, s.d, s.ns ++ [x]⟩ ∧ Rg rb w v (w1.setCell ⟨rb, 4, none⟩ v') v' [] := by
  have hb : w1.heap[rb]? = w.heap[rb]? := hg.block rb h.lt (fun e => h.notv (Nat.le_refl _) e.symm)
  have hc : ∀ i, w1.cell? ⟨rb, i, none⟩ = w.cell? ⟨rb, i, none⟩ := fun i => World.cell?_of_block (w := w) (a := ⟨rb, i, none⟩) hb
  have o : ∀ i, i ≠ 4 → (w1.setCell ⟨rb, 4, none⟩ v').cell? ⟨rb, i, none⟩ = w.cell? ⟨rb, i, none⟩ := fun i hi => by
    rw [World.cell?_setCell_other _ _ _ _ (fun e => by have := congrArg Addr.off e; simp at this; omega), hc]
  have hs : ∀ k, k ≠ rb → (w1.setCell ⟨rb, 4, none⟩ v').heap[k]? = w1.heap[k]? := fun k hk => Below.heap_setCell w1 ⟨rb, 4, none⟩ v' k hk
  have hgs : w1.grownBy (w1.setCell ⟨rb, 4, none⟩ v') (some rb) := ⟨rfl, rfl, rfl, by simp, fun k _ hk => hs k (fun e => hk (by rw [e]))⟩
  have kp : ∀ (y : Value) (zs : List Int), IR (rb + 1) w y zs → (∀ g, y.ownBlock = some g → v.ownBlock ≠ some g) → IR (rb + 1) (w1.setCell ⟨rb, 4, none⟩ v') y zs := fun y zs hy hn => by
    refine World.ownsRow.kept (World.ownsRow.kept hy hg ?_) hgs ?_
    · cases hq : y.ownBlock with
      | none => exact .inl rfl
      | some g => exact .inr (fun e => hn g hq e.symm)
    · cases hq : y.ownBlock with
      | none => exact .inl rfl
      | some g => exact .inr (fun e => by have := (World.ownsRow.lt hy g hq).1; injection e with e; omega)
  have hlen := h.nd.len
  have at1 : ∀ (j : Nat) (y : Value), (kv ++ [u])[j]? = some y → kv[j]? = some y ∨ (j = kv.length ∧ y = u) := fun j y hy => by
    rcases Nat.lt_or_ge j kv.length with hj | hj
    · rw [List.getElem?_append_left hj] at hy
      exact .inl hy
    · rw [List.getElem?_append_right hj] at hy
      rcases Nat.eq_or_lt_of_le hj with e | e
      · subst e
        simp at hy
        exact .inr ⟨rfl, hy.symm⟩
      · rw [List.getElem?_eq_none (by simp; omega)] at hy
        cases hy
  refine ⟨⟨by simpa using Nat.lt_of_lt_of_le h.lt hg.size, by rw [o 0 (by omega)]; exact h.c0, by rw [o 1 (by omega)]; exact h.c1, by rw [o 2 (by omega)]; exact h.c2, by rw [o 3 (by omega)]; exact h.c3, World.cell?_setCell_same' _ _ _ (by rw [hc, h.c4]; rfl), fun i => ?_, ?_, h.tlt, h.il, h.tl, h.dl, h.tb.below ⟨hg.os, hg.tape, hg.output, by simpa using hg.size, fun k hk => (hs k (by omega)).trans (hg.block k (Nat.lt_trans hk h.lt) (fun e => h.notv (Nat.le_of_lt hk) e.symm))⟩, (fun y hy => (List.mem_append.1 hy).elim (h.kl y) (fun h1 => by rw [List.mem_singleton.1 h1]; exact hks)), ⟨?_, ?_, ?_, ?_, ?_⟩⟩, ⟨hg.os, hg.tape, hg.output, by simpa using hg.size, fun k hk hp hr => ?_, hrow, fun _ _ h => by simp at h⟩⟩
  · have : w1.frozen? ⟨rb, i, none⟩ = w.frozen? ⟨rb, i, none⟩ := World.frozen?_of_block (w := w) (a := ⟨rb, i, none⟩) hb
    simp [go_sem, this, h.fz]
  · refine World.ownsRow.kept (World.ownsRow.kept h.tk hg ?_) hgs ?_
    · cases hq : tv.ownBlock with
      | none => exact .inl rfl
      | some g => exact .inr (fun e => h.notv (Nat.le_of_lt (h.tlt g hq)) e.symm)
    · cases hq : tv.ownBlock with
      | none => exact .inl rfl
      | some g => exact .inr (fun e => by have := h.tlt g hq; injection e with e; omega)
  · simp [hlen]
  · rw [knC_snoc hlen, List.length_append]
    exact World.ownsRow.kept hown hgs (.inr (fun e => by have := (World.ownsRow.lt hown rb e).1; omega))
  · intro j y z hy hz
    rcases at1 j z hz with h1 | ⟨rfl, rfl⟩
    · have hj : j < s.ns.length := by have := (List.getElem?_eq_some_iff.1 h1).1; omega
      rw [List.getElem?_append_left hj] at hy
      exact kp z y.ks (h.nd.kid j y z hy h1) (fun g e => h.nd.ne j z g h1 e)
    · rw [← hlen, List.getElem?_append_right (Nat.le_refl _)] at hy
      simp at hy
      subst hy
      exact kp z x.ks hu.row hu.ne
  · intro j z g hz hzg hv
    have hz2 : (v.ownBlock ≠ some g) ∧ g < w.heap.size := by
      rcases at1 j z hz with h1 | ⟨rfl, rfl⟩
      · exact ⟨h.nd.ne j z g h1 hzg, (kv_lt h (List.mem_of_getElem? h1) hzg).2⟩
      · exact ⟨hu.ne g hzg, (World.ownsRow.lt hu.row g hzg).2⟩
    rcases hrow g hv with h1 | h1
    · exact hz2.1 h1
    · omega
  · intro i j y z g hy hz hij hyg hzg
    rcases at1 i y hy with h1 | ⟨rfl, rfl⟩
    · rcases at1 j z hz with h2 | ⟨rfl, rfl⟩
      · exact h.nd.nd i j y z g h1 h2 hij hyg hzg
      · exact hu.nd y g (List.mem_of_getElem? h1) hyg hzg
    · rcases at1 j z hz with h2 | ⟨rfl, rfl⟩
      · exact hu.nd z g (List.mem_of_getElem? h2) hzg hyg
      · exact hij rfl
  · rw [hs k hp]
    exact hg.block k hk (fun e => hr e.symm)
/-- A node was added. -/
def RdA (rb : Nat) (ts : List TokD) (tv : Value) (en : Nat) (w : World) (v : Value) (kv : List Value) (s' : PS) (n : Int) (e : Ending) (w' : World) : Prop := e = .returned (.int .i64 n) ∧ ∃ v', Rdr rb ts tv en w' v' kv s' ∧ Rg rb w v w' v' []
set_option maxHeartbeats 1000000 in
theorem addn_at (rb : Nat) (ts : List TokD) (tv : Value) (en : Nat) (w : World) (v : Value) (kv : List Value) (s : PS) (k : Int) (t : ByteArray) (i : Int) (u : Value) (ks : List Int) (h : Rdr rb ts tv en w v kv s) (hu : Own rb w v kv u ks) (hn : s.ns.length ≤ 100000) (hks : k = 8 → ks.length ≤ 10) :
    Calls Tryd.prog 94 #[.pointer (some ⟨rb, 0, none⟩), .int .i64 k, .string t, .int .i64 i, u] w (RdA rb ts tv en w v (kv ++ [u]) (addP k t i ks s).2 (addP k t i ks s).1) := by
  obtain ⟨i0, hi, hz0, hz1, hz2⟩ := info_parts infoKnot
  obtain ⟨ua, uc, rfl⟩ := hu.row.form
  have a0 : Below w.heap.size w (w.alloc (.cells #[.int .i64 k, .string t, .int .i64 i, .slice ua ks.length uc] 71)) := (Below.refl _ _).alloc (Nat.le_refl _) _
  have HA : Hid (Rdr rb ts tv en (w.alloc (.cells #[.int .i64 k, .string t, .int .i64 i, .slice ua ks.length uc] 71)) v kv s) := h.below a0
  have A0 : Hid (Below w.heap.size w (w.alloc (.cells #[.int .i64 k, .string t, .int .i64 i, .slice ua ks.length uc] 71))) := a0
  have HU : Hid (Own rb (w.alloc (.cells #[.int .i64 k, .string t, .int .i64 i, .slice ua ks.length uc] 71)) v kv (.slice ua ks.length uc) ks) := ⟨hu.row.below a0, hu.ne, hu.nd⟩
  have c4 := h.c4
  have lt := h.lt
  have hkl : (knC s.ns kv).length = s.ns.length * 4 := knC_len h.nd.len
  have hcc : ∀ j y, ([.int .i64 k, .string t, .int .i64 i, .slice ua ks.length uc] : List Value)[j]? = some y → (w.alloc (.cells #[.int .i64 k, .string t, .int .i64 i, .slice ua ks.length uc] 71)).cell? ((⟨w.heap.size, 0, none⟩ : Addr).add j) = some y := fun j y hy => by
    have : (w.alloc (.cells #[.int .i64 k, .string t, .int .i64 i, .slice ua ks.length uc] 71)).cell? ((⟨w.heap.size, 0, none⟩ : Addr).add j) = (#[.int .i64 k, .string t, .int .i64 i, .slice ua ks.length uc] : Array Value)[j]? := by cases j <;> simp [go_sem, Addr.add]
    rw [this, ← hy]
    simp
  have HC := (show Hid _ from hcc)
  clear h hu a0 hcc
  go_enter Tryd.func94, Tryd.ntmps94
  go_wp2_with (at_builtin; refine wpList_append_own_at _ rfl _ _ 39 rfl (rb + 1) 71 i0 _ 4 56 Tryd.underlying39 hi hz0 hz1 hz2 rfl (by decide) v s.ns.length (knC s.ns kv) rfl HA.out.nd.own ⟨w.heap.size, 0, none⟩ 1 1 [.int .i64 k, .string t, .int .i64 i, .slice ua ks.length uc] rfl rfl HC.out (by simp [Value.oneCell']) (by unfold maxLen; omega) (by omega) (by have := HA.out.lt; omega) ?_)
  intro v' w1 hown hgrow _ hat
  obtain ⟨a8, c8, hv8⟩ : ∃ a c, v' = .slice a (s.ns.length + 1) c := by
    obtain ⟨_, ⟨h1, h0⟩ | ⟨g, cap, cur, h1, _⟩⟩ := hown
    · omega
    · exact ⟨_, _, h1⟩
  subst hv8
  have R := HA.out.addn ⟨k, t, i, ks⟩ (.slice ua ks.length uc) HU.out hks hown hgrow (fun r hr => by
    rcases hat with h | h
    · exact .inl (h ▸ hr)
    · rw [h] at hr
      injection hr with hr
      exact .inr (Nat.le_of_eq (by first | exact hr | (simp at hr ⊢; omega))))
  have hb : w1.heap[rb]? = (w.alloc (.cells #[.int .i64 k, .string t, .int .i64 i, .slice ua ks.length uc] 71)).heap[rb]? := hgrow.block rb HA.out.lt (fun e => HA.out.notv (Nat.le_refl _) e.symm)
  have d1 : w1.cell? ⟨rb, 4, none⟩ = some v := by rw [World.cell?_of_block (a := ⟨rb, 4, none⟩) hb]; exact HA.out.c4
  have f1 : ∀ i, w1.frozen? ⟨rb, i, none⟩ = false := fun i => by rw [World.frozen?_of_block (a := ⟨rb, i, none⟩) hb]; exact HA.out.fz i
  have l1 : rb < w1.heap.size := Nat.lt_of_lt_of_le HA.out.lt hgrow.size
  have RR := (show Hid _ from R)
  clear R hown hgrow hat hb HA HU HC c4
  have hn' : (s.ns.length : Int) ≤ 100000 := by omega
  go_wp2
  go_ret
  exact ⟨by simp [addP], _, RR.out.1, (Rg.of_below A0.out).trans RR.out.2⟩
/-- add with Kids that were just laid. -/
theorem add_new (rb : Nat) (ts : List TokD) (tv : Value) (en : Nat) (w : World) (v : Value) (kv : List Value) (s : PS) (h : Rdr rb ts tv en w v kv s) (A : Array Value) (n : Nat) (g : Nat) (ks : List Int) (hg : g = w.heap.size) (hA : A = (icl ks).toArray) (hl : n = ks.length) (hk : ks.length ≤ 10) (hn : s.ns.length ≤ 100000) (k : Int) (t : ByteArray) (i : Int) :
    Calls Tryd.prog 94 #[.pointer (some ⟨rb, 0, none⟩), .int .i64 k, .string t, .int .i64 i, .slice (some ⟨g, 0, none⟩) n n] (w.alloc (.cells A 3)) (RdA rb ts tv en w v (kv ++ [.slice (some ⟨g, 0, none⟩) n n]) (addP k t i ks s).2 (addP k t i ks s).1) := by
  subst hg hA hl
  have a0 : Below w.heap.size w (w.alloc (.cells (icl ks).toArray 3)) := (Below.refl _ _).alloc (Nat.le_refl _) _
  have hr := IR.new (B := rb + 1) (w := w) ks (by have := h.lt; omega) (by omega)
  refine (addn_at rb ts tv en _ v kv s k t i _ ks (h.below a0) ⟨hr, fun g hg e => ?_, fun y g hy hg e => ?_⟩ hn (fun _ => hk)).mono ?_
  · have := (World.ownsRow.lt h.nd.own g e).2
    simp [Value.ownBlock] at hg
    omega
  · have := (kv_lt h hy hg).2
    simp [Value.ownBlock] at e
    omega
  · rintro e w' ⟨rfl, v', h1, h2⟩
    exact ⟨rfl, v', h1, (Rg.of_below a0).trans h2⟩
end Go.Proofs.YtiglkhkfbgjjoaaDoor
