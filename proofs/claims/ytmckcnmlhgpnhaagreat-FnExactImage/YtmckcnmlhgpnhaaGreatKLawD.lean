/- An arena's copy, of both packages: clone, l2Copy. -/
import Derived.Test.YtmckcnmlhgpnhaaGreatProg
import Derived.Test.YtmckcnmlhgpnhaaGreatKPutA
import Derived.Test.YtmckcnmlhgpnhaaGreatKNewA
import Derived.Test.YtmckcnmlhgpnhaaGreatKAllA
import Derived.Test.YtmckcnmlhgpnhaaGreatKLawC
namespace Go.Proofs.YtmckcnmlhgpnhaaGreat
set_option maxRecDepth 20000
open Go.RowKit
set_option linter.unusedSimpArgs false
set_option linter.unusedVariables false

/-- The cells of n pairs. -/
def cellsV (n : Nat) (y : Nat → Int) : List Value := (List.range (n * 2)).map fun i => .int .i64 (y i)
theorem cellsV_length (n : Nat) (y : Nat → Int) : (cellsV n y).length = n * 2 := by simp [cellsV]
theorem cellsV_one (n : Nat) (y : Nat → Int) : ∀ u ∈ cellsV n y, u.oneCell' = true := by
  intro u hu
  obtain ⟨z, _, rfl⟩ := List.mem_map.1 hu
  rfl
theorem cellsV_at {n : Nat} {y : Nat → Int} {j : Nat} {u : Value} (h : (cellsV n y)[j]? = some u) : j < n * 2 ∧ u = .int .i64 (y j) := by
  unfold cellsV at h
  rw [List.getElem?_map] at h
  by_cases hj : j < n * 2
  · rw [List.getElem?_range hj] at h
    simp at h
    exact ⟨hj, h.symm⟩
  · rw [List.getElem?_eq_none (by simp; omega)] at h
    simp at h
theorem rowV_of_cells {w : World} {b n : Nat} {y : Nat → Int} (h : w.heap[b]? = some (.cells (cellsV n y).toArray 48 (0, 0))) : w.rowIs b 48 (n * 2) (fun i => .int .i64 (y i)) := by
  refine ⟨_, h, by simp [cellsV], fun i hi => ?_⟩
  simp [cellsV, hi]
theorem run_copy_pairs (P : Program) (w : World) (dT sT ty elem : TypeId) (g n dCap : Nat) (a : Addr) (sCap : Nat) (cur : Array Value) (t : TypeId) (cs : List Value)
    (hu : P.underlying dT = some (.slice elem)) (hs : (P.info? elem).map (·.size) = some 2) (hg : w.heap[g]? = some (.cells cur t (0, 0))) (hn : cs.length = n * 2)
    (hsrc : ∀ j v, cs[j]? = some v → w.cell? (a.add j) = some v) (hfit : cs.length = cur.size) (h1 : ∀ v ∈ cs, v.oneCell' = true) :
    (Builtin.copy_ #[dT, sT] ty #[.slice (some ⟨g, 0, none⟩) n dCap, .slice (some a) n sCap]).run P w = .ok (goInt n) (w.setRow g cs.toArray) := by
  have hl := run_loadCells_list (P := P) w a cs hsrc
  have hst := run_storeCells_at P g 0 t cs 0 cur w hg (by omega) h1
  have hd : cur.toList.drop cs.length = [] := by rw [List.drop_eq_nil_iff]; simp; omega
  cases hq : P.info? elem with
  | none => simp [hq] at hs
  | some i =>
    have hi : i.size = 2 := by simpa [hq] using hs
    have hm : Nat.min n n = n := Nat.min_self n
    simp only [Nat.add_zero, Nat.zero_add, List.take_zero, List.nil_append, hd, List.append_nil] at hst
    simp [Builtin.copy_, run_underlying hu, Builtin.lenOf, Builtin.firstCells, sizeOf, typeInfo, hq, hi, hm, ← hn, hl, hst]
theorem run_copy_none2 (P : Program) (w : World) (dT sT ty elem : TypeId) (d a : Option Addr) (dCap sCap : Nat) (hu : P.underlying dT = some (.slice elem)) (hs : (P.info? elem).map (·.size) = some 2) :
    (Builtin.copy_ #[dT, sT] ty #[.slice d 0 dCap, .slice a 0 sCap]).run P w = .ok (goInt 0) w := by
  cases hq : P.info? elem with
  | none => simp [hq] at hs
  | some i =>
    have hl : ∀ (x : Addr), (loadCells x 0).run P w = .ok #[] w := fun x => by simpa using run_loadCells_list (P := P) w x [] (by simp)
    have hm : Nat.min 0 0 = 0 := rfl
    cases d <;> cases a <;> simp [Builtin.copy_, run_underlying hu, Builtin.lenOf, Builtin.firstCells, sizeOf, typeInfo, hq, hm, storeCells, hl]
/-- copy of all pairs of a slice into a row that was made just as long. -/
theorem wpList_copy_pairs {P : Program} {w : World} {ops : Array Oper} {rest : List Oper} {o : Oper} {a : Act} {Q : Exit → Act → World → Prop} (hgd : o.guard = none) (d s : Operand) (dT sT : TypeId)
    (ho : o.op = .call { callee := .builtin .copy, args := #[d, s], argTypes := #[dT, sT] }) (elem : TypeId) (hu : P.underlying dT = some (.slice elem)) (hsz : (P.info? elem).map (·.size) = some 2)
    (g n dCap : Nat) (sp : Option Addr) (sCap : Nat) (hd : a.eval d = .slice (some ⟨g, 0, none⟩) n dCap) (hs : a.eval s = .slice sp n sCap)
    (cur : Array Value) (t : TypeId) (hg : w.heap[g]? = some (.cells cur t (0, 0))) (hcur : cur.size = n * 2) (cs : List Value) (hn : cs.length = n * 2)
    (hpos : 0 < n → ∃ ad, sp = some ad ∧ ∀ j v, cs[j]? = some v → w.cell? (ad.add j) = some v) (h1 : ∀ v ∈ cs, v.oneCell' = true) (B : Nat) (w0 : World) (hb : Below B w0 w) (hBg : B ≤ g)
    (h : ∀ w', Hid (w'.heap[g]? = some (.cells cs.toArray t (0, 0))) → Below B w0 w' → wpList P ops Q rest (a.put o.dst (goInt n)) w') :
    wpList P ops Q (o :: rest) a w := by
  refine wpList_plain hgd fun K hK => ?_
  by_cases h0 : n = 0
  · subst h0
    obtain rfl : cs = [] := List.eq_nil_of_length_eq_zero (by omega)
    obtain rfl : cur = #[] := Array.eq_empty_of_size_eq_zero (by omega)
    have hrun := run_copy_none2 P w dT sT o.type elem (some ⟨g, 0, none⟩) sp dCap sCap hu hsz
    unfold Oper.wp
    simp [execOp, ho, resolve, invoke, builtin, hd, hs, hrun, Result.andThen]
    exact hK _ _ (h w (show _ = _ by simpa using hg) hb)
  · obtain ⟨ad, rfl, hsrc⟩ := hpos (by omega)
    have hrun := run_copy_pairs P w dT sT o.type elem g n dCap ad sCap cur t cs hu hsz hg hn hsrc (by omega) h1
    unfold Oper.wp
    simp [execOp, ho, resolve, invoke, builtin, hd, hs, hrun, Result.andThen]
    exact hK _ _ (h _ (show _ = _ by simpa using setRow_heap w g _ _ t _ hg) (below_setRow hb hBg _))

theorem own_f {B : Nat} {w : World} {v : Value} {zs : List Int} (h : Own B w v zs) : OwnF B w.heap.size 100 w v zs.length zs.length (fun i => .int .u64 (wordAt zs i)) := by
  obtain ⟨a, cap, rfl, h⟩ := h
  refine ⟨a, cap, rfl, ?_⟩
  rcases h with rfl | ⟨b, n, f, rfl, hB, hn, hr, hf⟩
  · exact .inl rfl
  · exact .inr ⟨b, n, f, rfl, hB, hr.lt, hn, hr, hf⟩
theorem ownV_of_owns {B : Nat} {w : World} {v : Value} {n : Nat} {y : Nat → Int} (h : w.ownsRow B 48 2 v n (cellsV n y)) : OwnF B w.heap.size 48 w v n (2 * n) (fun i => .int .i64 (y i)) := by
  obtain ⟨_, ⟨rfl, h0⟩ | ⟨g, cap, cur, rfl, hB, hg, hle, _, hcs, htk⟩⟩ := h
  · subst h0
    exact ⟨none, 0, rfl, .inl rfl⟩
  · have hr : w.rowIs g 48 (cap * 2) (fun i => cur.getD i (.bool false)) := ⟨cur, hg, by omega, fun i hi => by simp [Array.getD, show i < cur.size by omega]⟩
    refine ⟨_, cap, rfl, .inr ⟨g, cap * 2, fun i => cur.getD i (.bool false), rfl, hB, hr.lt, by omega, hr, fun i hi => ?_⟩⟩
    have h1 : (cur.toList.take (n * 2))[i]? = (cellsV n y)[i]? := by rw [htk]
    rw [List.getElem?_take] at h1
    have hi' : i < n * 2 := by omega
    simp [cellsV, hi'] at h1
    simp [Array.getD, show i < cur.size by omega]
    have h2 := h1
    rw [Array.getElem?_eq_getElem (by omega)] at h2
    simpa using h2
/-- The box of an arena that was handed in, as a row of ten cells. -/
theorem box_row {w w' : World} {A : Array Value} {t : TypeId} {C n : Nat} (hB : Below C (w.alloc (.cells A t)) w') (hC : w.heap.size < C) (hA : A.size = n) : w'.rowIs w.heap.size t n (fun i => A.getD i (.bool false)) :=
  ⟨A, (hB.block _ hC).trans (alloc_at rfl), hA, fun i hi => by simp [Array.getD, show i < A.size by omega]⟩
/-- What is told of a row of ten cells. -/
theorem row10 {W : World} {b : Nat} {t : TypeId} {c0 c1 c2 c3 c4 c5 c6 c7 c8 c9 : Value} {f : Nat → Value} (h : W.rowIs b t 10 f) (h0 : f 0 = c0) (h1 : f 1 = c1) (h2 : f 2 = c2) (h3 : f 3 = c3) (h4 : f 4 = c4) (h5 : f 5 = c5) (h6 : f 6 = c6) (h7 : f 7 = c7) (h8 : f 8 = c8) (h9 : f 9 = c9) :
    W.cell? ⟨b, 0, none⟩ = some c0 ∧ W.cell? ⟨b, 1, none⟩ = some c1 ∧ W.cell? ⟨b, 2, none⟩ = some c2 ∧ W.cell? ⟨b, 3, none⟩ = some c3 ∧ W.cell? ⟨b, 4, none⟩ = some c4 ∧ W.cell? ⟨b, 5, none⟩ = some c5 ∧ W.cell? ⟨b, 6, none⟩ = some c6 ∧ W.cell? ⟨b, 7, none⟩ = some c7 ∧ W.cell? ⟨b, 8, none⟩ = some c8 ∧ W.cell? ⟨b, 9, none⟩ = some c9 := by
  subst h0 h1 h2 h3 h4 h5 h6 h7 h8 h9
  exact ⟨h.cell (by omega), h.cell (by omega), h.cell (by omega), h.cell (by omega), h.cell (by omega), h.cell (by omega), h.cell (by omega), h.cell (by omega), h.cell (by omega), h.cell (by omega)⟩
/-- The two boxes of a function that takes an arena and answers one: as rows of ten cells. -/
theorem box_row2 {w w' : World} {A Z : Array Value} {t u : TypeId} {C n : Nat} (hB : Below C ((w.alloc (.cells A t)).alloc (.cells Z u)) w') (hC : w.heap.size + 1 < C) (hA : A.size = n) (hZ : Z.size = n) :
    w'.rowIs w.heap.size t n (fun i => A.getD i (.bool false)) ∧ w'.rowIs (w.heap.size + 1) u n (fun i => Z.getD i (.bool false)) :=
  ⟨⟨A, (hB.block _ (by omega)).trans ((alloc_old (by simp)).trans (alloc_at rfl)), hA, fun i hi => by simp [Array.getD, show i < A.size by omega]⟩, ⟨Z, (hB.block _ hC).trans (alloc_at (by simp)), hZ, fun i hi => by simp [Array.getD, show i < Z.size by omega]⟩⟩
/-- Ten cells stored into a row. -/
theorem own_ten {W : World} {k : Nat} {c0 c1 c2 c3 c4 c5 c6 c7 c8 c9 : Value} {B T : Nat} {t : TypeId} {v : Value} {n m : Nat} {f : Nat → Value} (h : OwnF B T t W v n m f) (hne : k < B ∨ T ≤ k) :
    OwnF B T t ((((((((((W.setCell ⟨k, 0, none⟩ c0).setCell ⟨k, 1, none⟩ c1).setCell ⟨k, 2, none⟩ c2).setCell ⟨k, 3, none⟩ c3).setCell ⟨k, 4, none⟩ c4).setCell ⟨k, 5, none⟩ c5).setCell ⟨k, 6, none⟩ c6).setCell ⟨k, 7, none⟩ c7).setCell ⟨k, 8, none⟩ c8).setCell ⟨k, 9, none⟩ c9) v n m f :=
  h.block fun j h1 h2 => by
    repeat rw [Below.heap_setCell _ _ _ _ (by show j ≠ k; omega)]
theorem below_ten {W w : World} {k C : Nat} {c0 c1 c2 c3 c4 c5 c6 c7 c8 c9 : Value} (h : Below C w W) (hk : C ≤ k) :
    Below C w ((((((((((W.setCell ⟨k, 0, none⟩ c0).setCell ⟨k, 1, none⟩ c1).setCell ⟨k, 2, none⟩ c2).setCell ⟨k, 3, none⟩ c3).setCell ⟨k, 4, none⟩ c4).setCell ⟨k, 5, none⟩ c5).setCell ⟨k, 6, none⟩ c6).setCell ⟨k, 7, none⟩ c7).setCell ⟨k, 8, none⟩ c8).setCell ⟨k, 9, none⟩ c9) :=
  (((((((((h.setCell (p := ⟨k, 0, none⟩) hk _).setCell (p := ⟨k, 1, none⟩) hk _).setCell (p := ⟨k, 2, none⟩) hk _).setCell (p := ⟨k, 3, none⟩) hk _).setCell (p := ⟨k, 4, none⟩) hk _).setCell (p := ⟨k, 5, none⟩) hk _).setCell (p := ⟨k, 6, none⟩) hk _).setCell (p := ⟨k, 7, none⟩) hk _).setCell (p := ⟨k, 8, none⟩) hk _).setCell (p := ⟨k, 9, none⟩) hk _
end Go.Proofs.YtmckcnmlhgpnhaaGreat

/- The laws' copy of an arena, in memory of its own: what a law may mark. -/
namespace Go.Proofs.YtmckcnmlhgpnhaaGreat
set_option maxRecDepth 20000
open Go.RowKit
set_option linter.unusedSimpArgs false
set_option linter.unusedVariables false

theorem ownF_set {B T : Nat} {t : TypeId} {w : World} {v : Value} {n m : Nat} {f : Nat → Value} (h : OwnF B T t w v n m f) {k i : Nat} (hne : k < B ∨ T ≤ k) (u : Value) : OwnF B T t (w.setCell ⟨k, i, none⟩ u) v n m f :=
  h.block fun j h1 h2 => Below.heap_setCell _ _ _ _ (by show j ≠ k; omega)
set_option maxHeartbeats 2000000 in
/-- The laws' copy of an arena: what was handed in, in memory of its own. -/
theorem toArena_own (aw : Option Addr) (cw : Nat) (ws : List Int) (semi toh top : Int) (cyc : Bool) (scan old copied serial : Int) (ar : Option Addr) (cr : Nat) (rs : List (Int × Int)) (y : Nat → Int) (Tr : Nat) (w : World) (hs : Sl w (.slice aw ws.length cw) ws) (hn : ws.length ≤ 1048576) (hrt : SlF Tr w (.slice ar rs.length cr) rs.length (2 * rs.length) (fun i => .int .i64 (y i))) (hn2 : rs.length ≤ 1048576) :
    Calls Tryz.prog 12 #[.agg #[.slice aw ws.length cw, .int .i64 semi, .int .i64 toh, .int .i64 top, .bool cyc, .int .i64 scan, .int .i64 old, .int .i64 copied, .int .i64 serial, .slice ar rs.length cr]] w fun e w' => ∃ b1 b2 : Nat, e = .returned (.agg #[.slice (some ⟨b1, 0, none⟩) ws.length ws.length, .int .i64 semi, .int .i64 toh, .int .i64 top, .bool cyc, .int .i64 scan, .int .i64 old, .int .i64 copied, .int .i64 serial, .slice (some ⟨b2, 0, none⟩) rs.length rs.length]) ∧ OwnAr w.heap.size w'.heap.size w' (.slice (some ⟨b1, 0, none⟩) ws.length ws.length) (.slice (some ⟨b2, 0, none⟩) rs.length rs.length) ws.length rs.length (wordAt ws) y ∧ Below w.heap.size w w' := by
  have HS : Hid (Sl w (.slice aw ws.length cw) ws) := hs
  have HR : Hid (SlF w.heap.size w (.slice ar rs.length cr) rs.length (2 * rs.length) (fun i => .int .i64 (y i))) := hrt.here
  clear hs hrt
  go_enter Tryz.func12, Tryz.ntmps12
  have B3 : Below w.heap.size w (((w.alloc (.cells #[.slice aw ws.length cw, .int .i64 semi, .int .i64 toh, .int .i64 top, .bool cyc, .int .i64 scan, .int .i64 old, .int .i64 copied, .int .i64 serial, .slice ar rs.length cr] 25)).alloc (.cells #[.slice none 0 0, .int .i64 0, .int .i64 0, .int .i64 0, .bool false, .int .i64 0, .int .i64 0, .int .i64 0, .int .i64 0, .slice none 0 0] 30)).alloc (.cells #[.slice none 0 0, .int .i64 0, .int .i64 0, .int .i64 0, .bool false, .int .i64 0, .int .i64 0, .int .i64 0, .int .i64 0, .slice none 0 0] 30)) := below_third (Below.refl _ _)
  go_wp2_with (first | (go_at_call 47; refine (toWords_at _ _ ws _ (HS.out.below B3) hn).mono ?_; rintro e w1 ⟨rfl, o1, b1⟩; obtain ⟨k1, k2, k3⟩ := three_cells b1; have f3 : ∀ i, w1.frozen? ⟨w.heap.size + 1 + 1, i, none⟩ = false := fun i => (by rw [(bcell b1).2 _ _ (by simp)]; simp [go_sem]); have f2 : ∀ i, w1.frozen? ⟨w.heap.size + 1, i, none⟩ = false := fun i => (by rw [(bcell b1).2 _ _ (by simp)]; simp [go_sem])) | fail)
  have r3 : w1.rowIs (w.heap.size + 1 + 1) 30 10 (fun i => (#[.slice none 0 0, .int .i64 0, .int .i64 0, .int .i64 0, .bool false, .int .i64 0, .int .i64 0, .int .i64 0, .int .i64 0, .slice none 0 0] : Array Value).getD i (.bool false)) := ⟨(#[.slice none 0 0, .int .i64 0, .int .i64 0, .int .i64 0, .bool false, .int .i64 0, .int .i64 0, .int .i64 0, .int .i64 0, .slice none 0 0] : Array Value), (b1.block _ (by simp)).trans (alloc_at (by simp)), rfl, fun i hi => by simp [Array.getD, hi]⟩
  have r2 : w1.rowIs (w.heap.size + 1) 30 10 (fun i => (#[.slice none 0 0, .int .i64 0, .int .i64 0, .int .i64 0, .bool false, .int .i64 0, .int .i64 0, .int .i64 0, .int .i64 0, .slice none 0 0] : Array Value).getD i (.bool false)) := ⟨(#[.slice none 0 0, .int .i64 0, .int .i64 0, .int .i64 0, .bool false, .int .i64 0, .int .i64 0, .int .i64 0, .int .i64 0, .slice none 0 0] : Array Value), (b1.block _ (by simp)).trans ((alloc_old (by simp)).trans (alloc_at (by simp))), rfl, fun i hi => by simp [Array.getD, hi]⟩
  have hz2 : w.heap.size ≤ w.heap.size + 1 + 1 := by omega
  obtain ⟨W9, hW9⟩ : ∃ W, W = (((((((((w1.setCell ⟨w.heap.size + 1 + 1, 0, none⟩ (.slice (some ⟨w.heap.size + 1 + 1 + 1, 0, none⟩) ws.length ws.length)).setCell ⟨w.heap.size + 1 + 1, 1, none⟩ (.int .i64 semi)).setCell ⟨w.heap.size + 1 + 1, 2, none⟩ (.int .i64 toh)).setCell ⟨w.heap.size + 1 + 1, 3, none⟩ (.int .i64 top)).setCell ⟨w.heap.size + 1 + 1, 4, none⟩ (.bool cyc)).setCell ⟨w.heap.size + 1 + 1, 5, none⟩ (.int .i64 scan)).setCell ⟨w.heap.size + 1 + 1, 6, none⟩ (.int .i64 old)).setCell ⟨w.heap.size + 1 + 1, 7, none⟩ (.int .i64 copied)).setCell ⟨w.heap.size + 1 + 1, 8, none⟩ (.int .i64 serial)) := ⟨_, rfl⟩
  have R3 := (((((((((r3.set 0 (.slice (some ⟨w.heap.size + 1 + 1 + 1, 0, none⟩) ws.length ws.length)).set 1 (.int .i64 semi)).set 2 (.int .i64 toh)).set 3 (.int .i64 top)).set 4 (.bool cyc)).set 5 (.int .i64 scan)).set 6 (.int .i64 old)).set 7 (.int .i64 copied)).set 8 (.int .i64 serial))
  have R2 := (((((((((r2.setOther (a := ⟨w.heap.size + 1 + 1, 0, none⟩) (by show w.heap.size + 1 ≠ w.heap.size + 1 + 1; omega) (.slice (some ⟨w.heap.size + 1 + 1 + 1, 0, none⟩) ws.length ws.length)).setOther (a := ⟨w.heap.size + 1 + 1, 1, none⟩) (by show w.heap.size + 1 ≠ w.heap.size + 1 + 1; omega) (.int .i64 semi)).setOther (a := ⟨w.heap.size + 1 + 1, 2, none⟩) (by show w.heap.size + 1 ≠ w.heap.size + 1 + 1; omega) (.int .i64 toh)).setOther (a := ⟨w.heap.size + 1 + 1, 3, none⟩) (by show w.heap.size + 1 ≠ w.heap.size + 1 + 1; omega) (.int .i64 top)).setOther (a := ⟨w.heap.size + 1 + 1, 4, none⟩) (by show w.heap.size + 1 ≠ w.heap.size + 1 + 1; omega) (.bool cyc)).setOther (a := ⟨w.heap.size + 1 + 1, 5, none⟩) (by show w.heap.size + 1 ≠ w.heap.size + 1 + 1; omega) (.int .i64 scan)).setOther (a := ⟨w.heap.size + 1 + 1, 6, none⟩) (by show w.heap.size + 1 ≠ w.heap.size + 1 + 1; omega) (.int .i64 old)).setOther (a := ⟨w.heap.size + 1 + 1, 7, none⟩) (by show w.heap.size + 1 ≠ w.heap.size + 1 + 1; omega) (.int .i64 copied)).setOther (a := ⟨w.heap.size + 1 + 1, 8, none⟩) (by show w.heap.size + 1 ≠ w.heap.size + 1 + 1; omega) (.int .i64 serial))
  have B9 := ((((((((((below_third b1).setCell (p := ⟨w.heap.size + 1 + 1, 0, none⟩) hz2 (.slice (some ⟨w.heap.size + 1 + 1 + 1, 0, none⟩) ws.length ws.length)).setCell (p := ⟨w.heap.size + 1 + 1, 1, none⟩) hz2 (.int .i64 semi)).setCell (p := ⟨w.heap.size + 1 + 1, 2, none⟩) hz2 (.int .i64 toh)).setCell (p := ⟨w.heap.size + 1 + 1, 3, none⟩) hz2 (.int .i64 top)).setCell (p := ⟨w.heap.size + 1 + 1, 4, none⟩) hz2 (.bool cyc)).setCell (p := ⟨w.heap.size + 1 + 1, 5, none⟩) hz2 (.int .i64 scan)).setCell (p := ⟨w.heap.size + 1 + 1, 6, none⟩) hz2 (.int .i64 old)).setCell (p := ⟨w.heap.size + 1 + 1, 7, none⟩) hz2 (.int .i64 copied)).setCell (p := ⟨w.heap.size + 1 + 1, 8, none⟩) hz2 (.int .i64 serial))
  have OW := o1.block (w' := W9) (fun k hk _ => by
    have hk' : w.heap.size + 1 + 1 < k := by simp at hk; omega
    rw [hW9]
    repeat rw [Below.heap_setCell _ _ _ _ (by show k ≠ w.heap.size + 1 + 1; omega)])
  rw [← hW9] at R3 R2 B9 ⊢
  clear hW9 o1 k1 k2 k3 f3 f2 r3 r2 b1
  refine (toVals_at _ _ _ y _ _ (HR.out.below B9 (Nat.le_refl _)) hn2).mono ?_
  rintro e w2 ⟨rfl, rr, b2⟩
  have Q3 := R3.of_block (b2.block _ R3.lt)
  have Q2 := R2.of_block (b2.block _ R2.lt)
  have OW2 := (own_f OW).below b2 (Nat.le_refl _)
  have rl := rr.lt
  have B9s := b2.size
  have B2 := below_next B9 b2
  have lW := R3.lt
  clear R3 R2 B9 OW b2
  have c0 : w2.cell? ⟨w.heap.size + 1 + 1, 0, none⟩ = some (.slice (some ⟨w.heap.size + 1 + 1 + 1, 0, none⟩) ws.length ws.length) := by simpa using Q3.cell (i := 0) (by omega)
  have d0 : w2.cell? ⟨w.heap.size + 1, 0, none⟩ = some (.slice none 0 0) := by simpa using Q2.cell (i := 0) (by omega)
  have c1 : w2.cell? ⟨w.heap.size + 1 + 1, 1, none⟩ = some (.int .i64 semi) := by simpa using Q3.cell (i := 1) (by omega)
  have d1 : w2.cell? ⟨w.heap.size + 1, 1, none⟩ = some (.int .i64 0) := by simpa using Q2.cell (i := 1) (by omega)
  have c2 : w2.cell? ⟨w.heap.size + 1 + 1, 2, none⟩ = some (.int .i64 toh) := by simpa using Q3.cell (i := 2) (by omega)
  have d2 : w2.cell? ⟨w.heap.size + 1, 2, none⟩ = some (.int .i64 0) := by simpa using Q2.cell (i := 2) (by omega)
  have c3 : w2.cell? ⟨w.heap.size + 1 + 1, 3, none⟩ = some (.int .i64 top) := by simpa using Q3.cell (i := 3) (by omega)
  have d3 : w2.cell? ⟨w.heap.size + 1, 3, none⟩ = some (.int .i64 0) := by simpa using Q2.cell (i := 3) (by omega)
  have c4 : w2.cell? ⟨w.heap.size + 1 + 1, 4, none⟩ = some (.bool cyc) := by simpa using Q3.cell (i := 4) (by omega)
  have d4 : w2.cell? ⟨w.heap.size + 1, 4, none⟩ = some (.bool false) := by simpa using Q2.cell (i := 4) (by omega)
  have c5 : w2.cell? ⟨w.heap.size + 1 + 1, 5, none⟩ = some (.int .i64 scan) := by simpa using Q3.cell (i := 5) (by omega)
  have d5 : w2.cell? ⟨w.heap.size + 1, 5, none⟩ = some (.int .i64 0) := by simpa using Q2.cell (i := 5) (by omega)
  have c6 : w2.cell? ⟨w.heap.size + 1 + 1, 6, none⟩ = some (.int .i64 old) := by simpa using Q3.cell (i := 6) (by omega)
  have d6 : w2.cell? ⟨w.heap.size + 1, 6, none⟩ = some (.int .i64 0) := by simpa using Q2.cell (i := 6) (by omega)
  have c7 : w2.cell? ⟨w.heap.size + 1 + 1, 7, none⟩ = some (.int .i64 copied) := by simpa using Q3.cell (i := 7) (by omega)
  have d7 : w2.cell? ⟨w.heap.size + 1, 7, none⟩ = some (.int .i64 0) := by simpa using Q2.cell (i := 7) (by omega)
  have c8 : w2.cell? ⟨w.heap.size + 1 + 1, 8, none⟩ = some (.int .i64 serial) := by simpa using Q3.cell (i := 8) (by omega)
  have d8 : w2.cell? ⟨w.heap.size + 1, 8, none⟩ = some (.int .i64 0) := by simpa using Q2.cell (i := 8) (by omega)
  have c9 : w2.cell? ⟨w.heap.size + 1 + 1, 9, none⟩ = some (.slice none 0 0) := by simpa using Q3.cell (i := 9) (by omega)
  have d9 : w2.cell? ⟨w.heap.size + 1, 9, none⟩ = some (.slice none 0 0) := by simpa using Q2.cell (i := 9) (by omega)
  have f3 := Q3.frozen
  have f2 := Q2.frozen
  have HQ3 : Hid (w.heap.size + 1 + 1 < w2.heap.size) := Q3.lt
  have HSW : Hid (OwnF (w.heap.size + 1 + 1 + 1) W9.heap.size 100 w2 (.slice (some ⟨w.heap.size + 1 + 1 + 1, 0, none⟩) ws.length ws.length) ws.length ws.length (fun i => .int .u64 (wordAt ws i))) := by show OwnF (w.heap.size + 1 + 1 + 1) W9.heap.size 100 w2 (.slice (some ⟨w.heap.size + 1 + 1 + 1, 0, none⟩) ws.length ws.length) ws.length ws.length (fun i => .int .u64 (wordAt ws i)); simpa using OW2
  have HSR : Hid (OwnF W9.heap.size (W9.heap.size + 1) 48 w2 (.slice (some ⟨W9.heap.size, 0, none⟩) rs.length rs.length) rs.length (2 * rs.length) (fun i => .int .i64 (y i))) := ⟨_, _, rfl, .inr ⟨W9.heap.size, rs.length * 2, _, rfl, Nat.le_refl _, Nat.lt_succ_self _, by omega, rr, fun _ _ => rfl⟩⟩
  have HB2 : Hid (Below w.heap.size w w2) := B2
  have H9 : Hid (W9.heap.size < w2.heap.size) := rl
  have H8 : Hid (w.heap.size + 1 + 1 + 1 ≤ W9.heap.size) := by show w.heap.size + 1 + 1 + 1 ≤ W9.heap.size; omega
  clear Q3 Q2 OW2 rr B2 rl
  go_wp2
  have p0 : (w2.cell? ⟨w.heap.size + 1, 0, none⟩).isSome = true := by rw [d0]; rfl
  have p1 : (w2.cell? ⟨w.heap.size + 1, 1, none⟩).isSome = true := by rw [d1]; rfl
  have p2 : (w2.cell? ⟨w.heap.size + 1, 2, none⟩).isSome = true := by rw [d2]; rfl
  have p3 : (w2.cell? ⟨w.heap.size + 1, 3, none⟩).isSome = true := by rw [d3]; rfl
  have p4 : (w2.cell? ⟨w.heap.size + 1, 4, none⟩).isSome = true := by rw [d4]; rfl
  have p5 : (w2.cell? ⟨w.heap.size + 1, 5, none⟩).isSome = true := by rw [d5]; rfl
  have p6 : (w2.cell? ⟨w.heap.size + 1, 6, none⟩).isSome = true := by rw [d6]; rfl
  have p7 : (w2.cell? ⟨w.heap.size + 1, 7, none⟩).isSome = true := by rw [d7]; rfl
  have p8 : (w2.cell? ⟨w.heap.size + 1, 8, none⟩).isSome = true := by rw [d8]; rfl
  have p9 : (w2.cell? ⟨w.heap.size + 1, 9, none⟩).isSome = true := by rw [d9]; rfl
  refine bodyPost_ret (v := .agg #[.slice (some ⟨w.heap.size + 1 + 1 + 1, 0, none⟩) ws.length ws.length, .int .i64 semi, .int .i64 toh, .int .i64 top, .bool cyc, .int .i64 scan, .int .i64 old, .int .i64 copied, .int .i64 serial, .slice (some ⟨W9.heap.size, 0, none⟩) rs.length rs.length]) (by simp [results, Tryz.results12, go_sem, p0, p1, p2, p3, p4, p5, p6, p7, p8, p9]) rfl ⟨_, _, rfl, ?_, ?_⟩
  · have h9 := H9.out
    have h8 := H8.out
    refine ⟨w.heap.size + 1 + 1 + 1, W9.heap.size, W9.heap.size, W9.heap.size + 1, by omega, by simp; omega, by omega, by simp; omega, by omega, ?_, ?_⟩
    · have g1 : w.heap.size + 1 < w.heap.size + 1 + 1 + 1 ∨ W9.heap.size ≤ w.heap.size + 1 := by omega
      have g2 : w.heap.size + 1 + 1 < w.heap.size + 1 + 1 + 1 ∨ W9.heap.size ≤ w.heap.size + 1 + 1 := by omega
      refine ownF_set ?_ g1 _
      refine ownF_set ?_ g1 _
      refine ownF_set ?_ g1 _
      refine ownF_set ?_ g1 _
      refine ownF_set ?_ g1 _
      refine ownF_set ?_ g1 _
      refine ownF_set ?_ g1 _
      refine ownF_set ?_ g1 _
      refine ownF_set ?_ g1 _
      refine ownF_set ?_ g1 _
      refine ownF_set ?_ g2 _
      exact HSW.out
    · have g1 : w.heap.size + 1 < W9.heap.size ∨ W9.heap.size + 1 ≤ w.heap.size + 1 := by omega
      have g2 : w.heap.size + 1 + 1 < W9.heap.size ∨ W9.heap.size + 1 ≤ w.heap.size + 1 + 1 := by omega
      refine ownF_set ?_ g1 _
      refine ownF_set ?_ g1 _
      refine ownF_set ?_ g1 _
      refine ownF_set ?_ g1 _
      refine ownF_set ?_ g1 _
      refine ownF_set ?_ g1 _
      refine ownF_set ?_ g1 _
      refine ownF_set ?_ g1 _
      refine ownF_set ?_ g1 _
      refine ownF_set ?_ g1 _
      refine ownF_set ?_ g2 _
      exact HSR.out
  · refine Below.setCell ?_ (Nat.le_succ _) _
    refine Below.setCell ?_ (Nat.le_succ _) _
    refine Below.setCell ?_ (Nat.le_succ _) _
    refine Below.setCell ?_ (Nat.le_succ _) _
    refine Below.setCell ?_ (Nat.le_succ _) _
    refine Below.setCell ?_ (Nat.le_succ _) _
    refine Below.setCell ?_ (Nat.le_succ _) _
    refine Below.setCell ?_ (Nat.le_succ _) _
    refine Below.setCell ?_ (Nat.le_succ _) _
    refine Below.setCell ?_ (Nat.le_succ _) _
    refine Below.setCell ?_ hz2 _
    exact HB2.out
/-- An arena's rows, as a call reads them. -/
theorem ownAr_sl {B T : Nat} {w : World} {a1 a2 : Option Addr} {c1 c2 : Nat} {ws : List Int} {m : Nat} {y : Nat → Int} (h : OwnAr B T w (.slice a1 ws.length c1) (.slice a2 m c2) ws.length m (wordAt ws) y) :
    Sl w (.slice a1 ws.length c1) ws ∧ SlF w.heap.size w (.slice a2 m c2) m (2 * m) (fun i => .int .i64 (y i)) := by
  refine ⟨?_, h.sl.2.here⟩
  obtain ⟨a, c, he, hc⟩ := h.sl.1
  refine ⟨a, c, he, ?_⟩
  rcases hc with h0 | ⟨b, off, rfl, _, hb, hc⟩
  · exact .inl (List.eq_nil_of_length_eq_zero h0)
  · exact .inr ⟨b, off, rfl, hb, hc⟩
theorem ownAr_apart {B T C U : Nat} {w w' : World} {vw vr : Value} {n m : Nat} {z y : Nat → Int} (h : OwnAr B T w vw vr n m z y) (hb : Apart C U w w') (hU : U ≤ B) : OwnAr B T w' vw vr n m z y := by
  obtain ⟨b1, t1, b2, t2, h1, h2, h3, h4, h5, h6, h7⟩ := h
  exact ⟨b1, t1, b2, t2, h1, h2, h3, h4, h5, h6.apart hb (by omega), h7.apart hb (by omega)⟩
end Go.Proofs.YtmckcnmlhgpnhaaGreat
