/- The program's reader: rows of Kids that grow while it reads. -/
import Derived.Test.YtiglkhkfbgjjoaaDoorProg
import Derived.Test.YtiglkhkfbgjjoaaDoorBPaV
namespace Go.Proofs.YtiglkhkfbgjjoaaDoor
set_option maxRecDepth 20000
open Go.RowKit Go.PlainAid Go.Maps
set_option linter.unusedSimpArgs false
set_option linter.unusedVariables false

/-- A row of Kids that no node has, made since w0. -/
structure Kd (rb : Nat) (w0 w1 : World) (v1 : Value) (kv1 : List Value) (u : Value) (ks : List Int) : Prop where
  own : Own rb w1 v1 kv1 u ks
  new : ∀ g, u.ownBlock = some g → w0.heap.size ≤ g
section
variable {rb : Nat} {ts : List TokD} {tv : Value} {en : Nat} {w w0 w1 w2 : World} {v v1 v2 : Value} {kv K : List Value} {s s1 s2 : PS} {u : Value} {ks : List Int}
theorem Kd.zero (rb : Nat) (w0 w1 : World) (v1 : Value) (kv1 : List Value) : Kd rb w0 w1 v1 kv1 (.slice none 0 0) [] := ⟨Own.nil _ _ _ _, fun g h => by simp [Value.ownBlock] at h⟩
/-- The reader goes on: the row is as it was. -/
theorem Kd.keep {kv1 k1 : List Value} (h : Kd rb w0 w1 v1 kv1 u ks) (hs : St rb ts tv en w1 v1 kv1 w2 v2 k1 s2) : Kd rb w0 w2 v2 (kv1 ++ k1) u ks := by
  have hl : ∀ g, u.ownBlock = some g → rb < g ∧ g < w1.heap.size := fun g e => by have := World.ownsRow.lt h.own.row g e; omega
  refine ⟨⟨?_, fun g e hv => ?_, fun y g hy hg e => ?_⟩, h.new⟩
  · obtain ⟨h1, h2⟩ := h.own.row
    refine ⟨h1, ?_⟩
    rcases h2 with h2 | ⟨g, cap, cur, hv, hg, hc, r⟩
    · exact .inl h2
    · have e : u.ownBlock = some g := by rw [hv]; rfl
      have := hl g e
      exact .inr ⟨g, cap, cur, hv, hg, by rw [hs.rg.block g this.2 (by omega) (h.own.ne g e)]; exact hc, r⟩
  · rcases hs.rg.row g hv with h1 | h1
    · exact h.own.ne g e h1
    · have := (hl g e).2
      omega
  · rcases List.mem_append.1 hy with h1 | h1
    · exact h.own.nd y g h1 hg e
    · have := hs.rg.kid y g h1 hg
      have := (hl g e).2
      omega
theorem Kd.below {kv1 : List Value} (h : Kd rb w0 w1 v1 kv1 u ks) (hb : Below w1.heap.size w1 w2) : Kd rb w0 w2 v1 kv1 u ks := ⟨⟨h.own.row.below hb, h.own.ne, h.own.nd⟩, h.new⟩
/-- A row that was just laid. -/
theorem Kd.laid (h : St rb ts tv en w v kv w1 v1 K s1) (ks : List Int) (hk : ks.length ≤ 1048576) : Kd rb w (w1.alloc (.cells (icl ks).toArray 3)) v1 (kv ++ K) (.slice (some ⟨w1.heap.size, 0, none⟩) ks.length ks.length) ks := by
  refine ⟨⟨IR.new (B := rb + 1) (w := w1) ks (by have := h.rd.lt; omega) hk, fun g hg e => ?_, fun y g hy hg e => ?_⟩, fun g hg => ?_⟩
  · have := (World.ownsRow.lt h.rd.nd.own g e).2
    simp [Value.ownBlock] at hg
    omega
  · have := (kv_lt h.rd hy hg).2
    simp [Value.ownBlock] at e
    omega
  · simp [Value.ownBlock] at hg
    have := h.rg.size
    omega
/-- Behind an append to the row. -/
theorem Kd.grow (h : St rb ts tv en w v kv w1 v1 K s1) (hk : Kd rb w w1 v1 (kv ++ K) u ks) {o : Obj} {u' : Value} {x : Int} (hown : w2.ownsRow (rb + 1) 3 1 u' (ks.length + 1) (icl ks ++ [.int .i64 x])) (hg : (w1.alloc o).grownBy w2 u.ownBlock) (hat : u'.ownBlock = u.ownBlock ∨ u'.ownBlock = some (w1.heap.size + 1)) :
    St rb ts tv en w v kv w2 v1 K s1 ∧ Kd rb w w2 v1 (kv ++ K) u' (ks ++ [x]) := by
  have a0 : Below w1.heap.size w1 (w1.alloc o) := (Below.refl _ _).alloc (Nat.le_refl _) _
  have ha := h.below a0
  have hu : ∀ g, u.ownBlock = some g → rb < g ∧ g < w1.heap.size := fun g e => by have := World.ownsRow.lt hk.own.row g e; omega
  have hbk : ∀ k, k < (w1.alloc o).heap.size → u.ownBlock ≠ some k → w2.heap[k]? = (w1.alloc o).heap[k]? := fun k h1 h2 => hg.block k h1 (fun e => h2 e.symm)
  have hrbu : u.ownBlock ≠ some rb := fun e => by have := (hu rb e).1; omega
  have hb := hbk rb ha.rd.lt hrbu
  have hc : ∀ i, w2.cell? ⟨rb, i, Option.none⟩ = (w1.alloc o).cell? ⟨rb, i, Option.none⟩ := fun i => World.cell?_of_block (a := ⟨rb, i, Option.none⟩) hb
  have vu : v1.ownBlock = Option.none ∨ v1.ownBlock ≠ u.ownBlock := by
    cases hq : v1.ownBlock with
    | none => exact .inl rfl
    | some g => exact .inr (fun e => hk.own.ne g e.symm hq)
  have rdd : Rdr rb ts tv en w2 v1 (kv ++ K) s1 := by
    refine ⟨Nat.lt_of_lt_of_le ha.rd.lt hg.size, by rw [hc]; exact ha.rd.c0, by rw [hc]; exact ha.rd.c1, by rw [hc]; exact ha.rd.c2, by rw [hc]; exact ha.rd.c3, by rw [hc]; exact ha.rd.c4, fun i => by rw [World.frozen?_of_block (a := ⟨rb, i, Option.none⟩) hb]; exact ha.rd.fz i, ?_, ha.rd.tlt, ha.rd.il, ha.rd.tl, ha.rd.dl, ha.rd.tb.below ⟨hg.os, hg.tape, hg.output, hg.size, fun k hk2 => hbk k (Nat.lt_trans hk2 ha.rd.lt) (fun e => by have := (hu k e).1; omega)⟩, ha.rd.kl, ⟨ha.rd.nd.len, World.ownsRow.kept ha.rd.nd.own hg vu, fun j y z hy hz => World.ownsRow.kept (ha.rd.nd.kid j y z hy hz) hg ?_, ha.rd.nd.ne, ha.rd.nd.nd⟩⟩
    · refine World.ownsRow.kept ha.rd.tk hg ?_
      cases hq : tv.ownBlock with
      | none => exact .inl rfl
      | some g => exact .inr (fun e => by have := ha.rd.tlt g hq; have := (hu g e.symm).1; omega)
    · cases hq : z.ownBlock with
      | none => exact .inl rfl
      | some g => exact .inr (fun e => hk.own.nd z g (List.mem_of_getElem? hz) hq e.symm)
  refine ⟨⟨h.lt, h.ov, rdd, ⟨hg.os.trans ha.rg.os, hg.tape.trans ha.rg.tape, hg.output.trans ha.rg.output, Nat.le_trans ha.rg.size hg.size, fun k hk1 hk2 hk3 => ?_, ha.rg.row, ha.rg.kid⟩⟩, ⟨⟨?_, fun g e hv => ?_, fun y g hy hyg e => ?_⟩, fun g e => ?_⟩⟩
  · rw [hbk k (Nat.lt_of_lt_of_le hk1 ha.rg.size) (fun e => by have := hk.new k e; omega)]
    exact ha.rg.block k hk1 hk2 hk3
  · unfold IR
    rw [icl_snoc, List.length_append]
    exact hown
  · rcases hat with h1 | h1
    · exact hk.own.ne g (h1 ▸ e) hv
    · have h2 := (World.ownsRow.lt h.rd.nd.own g hv).2
      rw [h1] at e
      injection e with e
      try simp at e
      omega
  · rcases hat with h1 | h1
    · exact hk.own.nd y g hy hyg (h1 ▸ e)
    · have h2 := (kv_lt h.rd hy hyg).2
      rw [h1] at e
      injection e with e
      try simp at e
      omega
  · rcases hat with h1 | h1
    · exact hk.new g (h1 ▸ e)
    · rw [h1] at e
      injection e with e
      try simp at e
      have := h.rg.size
      omega
/-- Behind an append of several. -/
theorem Kd.growN (h : St rb ts tv en w v kv w1 v1 K s1) (hk : Kd rb w w1 v1 (kv ++ K) u ks) {u' : Value} {zs : List Int} (hown : w2.ownsRow (rb + 1) 3 1 u' (ks.length + zs.length) (icl ks ++ icl zs)) (hg : w1.grownBy w2 u.ownBlock) (hat : u'.ownBlock = u.ownBlock ∨ u'.ownBlock = some w1.heap.size) :
    St rb ts tv en w v kv w2 v1 K s1 ∧ Kd rb w w2 v1 (kv ++ K) u' (ks ++ zs) := by
  have ha := h
  have hu : ∀ g, u.ownBlock = some g → rb < g ∧ g < w1.heap.size := fun g e => by have := World.ownsRow.lt hk.own.row g e; omega
  have hbk : ∀ k, k < w1.heap.size → u.ownBlock ≠ some k → w2.heap[k]? = w1.heap[k]? := fun k h1 h2 => hg.block k h1 (fun e => h2 e.symm)
  have hrbu : u.ownBlock ≠ some rb := fun e => by have := (hu rb e).1; omega
  have hb := hbk rb ha.rd.lt hrbu
  have hc : ∀ i, w2.cell? ⟨rb, i, Option.none⟩ = w1.cell? ⟨rb, i, Option.none⟩ := fun i => World.cell?_of_block (a := ⟨rb, i, Option.none⟩) hb
  have vu : v1.ownBlock = Option.none ∨ v1.ownBlock ≠ u.ownBlock := by
    cases hq : v1.ownBlock with
    | none => exact .inl rfl
    | some g => exact .inr (fun e => hk.own.ne g e.symm hq)
  have rdd : Rdr rb ts tv en w2 v1 (kv ++ K) s1 := by
    refine ⟨Nat.lt_of_lt_of_le ha.rd.lt hg.size, by rw [hc]; exact ha.rd.c0, by rw [hc]; exact ha.rd.c1, by rw [hc]; exact ha.rd.c2, by rw [hc]; exact ha.rd.c3, by rw [hc]; exact ha.rd.c4, fun i => by rw [World.frozen?_of_block (a := ⟨rb, i, Option.none⟩) hb]; exact ha.rd.fz i, ?_, ha.rd.tlt, ha.rd.il, ha.rd.tl, ha.rd.dl, ha.rd.tb.below ⟨hg.os, hg.tape, hg.output, hg.size, fun k hk2 => hbk k (Nat.lt_trans hk2 ha.rd.lt) (fun e => by have := (hu k e).1; omega)⟩, ha.rd.kl, ⟨ha.rd.nd.len, World.ownsRow.kept ha.rd.nd.own hg vu, fun j y z hy hz => World.ownsRow.kept (ha.rd.nd.kid j y z hy hz) hg ?_, ha.rd.nd.ne, ha.rd.nd.nd⟩⟩
    · refine World.ownsRow.kept ha.rd.tk hg ?_
      cases hq : tv.ownBlock with
      | none => exact .inl rfl
      | some g => exact .inr (fun e => by have := ha.rd.tlt g hq; have := (hu g e.symm).1; omega)
    · cases hq : z.ownBlock with
      | none => exact .inl rfl
      | some g => exact .inr (fun e => hk.own.nd z g (List.mem_of_getElem? hz) hq e.symm)
  refine ⟨⟨h.lt, h.ov, rdd, ⟨hg.os.trans ha.rg.os, hg.tape.trans ha.rg.tape, hg.output.trans ha.rg.output, Nat.le_trans ha.rg.size hg.size, fun k hk1 hk2 hk3 => ?_, ha.rg.row, ha.rg.kid⟩⟩, ⟨⟨?_, fun g e hv => ?_, fun y g hy hyg e => ?_⟩, fun g e => ?_⟩⟩
  · rw [hbk k (Nat.lt_of_lt_of_le hk1 ha.rg.size) (fun e => by have := hk.new k e; omega)]
    exact ha.rg.block k hk1 hk2 hk3
  · unfold IR
    rw [show icl (ks ++ zs) = icl ks ++ icl zs by simp [icl], List.length_append]
    exact hown
  · rcases hat with h1 | h1
    · exact hk.own.ne g (h1 ▸ e) hv
    · have h2 := (World.ownsRow.lt h.rd.nd.own g hv).2
      rw [h1] at e
      injection e with e
      try simp at e
      omega
  · rcases hat with h1 | h1
    · exact hk.own.nd y g hy hyg (h1 ▸ e)
    · have h2 := (kv_lt h.rd hy hyg).2
      rw [h1] at e
      injection e with e
      try simp at e
      omega
  · rcases hat with h1 | h1
    · exact hk.new g (h1 ▸ e)
    · rw [h1] at e
      injection e with e
      try simp at e
      have := h.rg.size
      omega
/-- add with such a row. -/
theorem St.addK (h : St rb ts tv en w v kv w1 v1 K s1) (hk : Kd rb w w1 v1 (kv ++ K) u ks) (k : Int) (t : ByteArray) (i : Int) (hn : s1.ns.length ≤ 100000) (hks : k = 8 → ks.length ≤ 10 := by simp) :
    Calls Tryd.prog 94 #[.pointer (some ⟨rb, 0, Option.none⟩), .int .i64 k, .string t, .int .i64 i, u] w1 fun e w2 => e = .returned (.int .i64 (addP k t i ks s1).1) ∧ ∃ v2 K2, St rb ts tv en w v kv w2 v2 K2 (addP k t i ks s1).2 :=
  (addn_at rb ts tv en w1 v1 _ s1 k t i _ ks h.rd hk.own hn hks).mono fun e w2 ⟨h1, v2, h2, h3⟩ => ⟨h1, v2, K ++ [u], h.lt, h.ov, by rw [← List.append_assoc]; exact h2, by
    have g1 : Rg rb w v w2 v2 K := by simpa using h.rg.trans h3
    exact g1.more hk.new⟩
end
end Go.Proofs.YtiglkhkfbgjjoaaDoor
