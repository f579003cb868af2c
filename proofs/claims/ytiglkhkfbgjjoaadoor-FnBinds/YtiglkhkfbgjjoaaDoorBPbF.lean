/- The program's reader: the last node taken away. -/
import Derived.Test.YtiglkhkfbgjjoaaDoorProg
import Derived.Test.YtiglkhkfbgjjoaaDoorBPbE
namespace Go.Proofs.YtiglkhkfbgjjoaaDoor
set_option maxRecDepth 20000
open Go.RowKit Go.PlainAid Go.Maps
set_option linter.unusedSimpArgs false
set_option linter.unusedVariables false

/-- The row of nodes without its last one. -/
theorem NdR.back {B : Nat} {w : World} {v : Value} {ns : List KnL} {x : KnL} {kv : List Value} {u : Value} (h : NdR B w v (ns ++ [x]) (kv ++ [u])) :
    ∃ g c, v = .slice (some ⟨g, 0, none⟩) (ns.length + 1) c ∧ ns.length + 1 ≤ c ∧ c ≤ maxLen ∧ B ≤ g ∧ g < w.heap.size ∧ NdR B w (.slice (some ⟨g, 0, none⟩) ns.length c) ns kv ∧ IR B w u x.ks ∧ (∀ k, u.ownBlock = some k → k ≠ g) ∧ (∀ (y : Value) (k : Nat), y ∈ kv → y.ownBlock = some k → u.ownBlock ≠ some k) ∧ w.cell? ⟨g, ns.length * 4, none⟩ = some (.int .i64 x.k) ∧ w.cell? ⟨g, ns.length * 4 + 1, none⟩ = some (.string x.t) ∧ w.cell? ⟨g, ns.length * 4 + 2, none⟩ = some (.int .i64 x.i) ∧ w.cell? ⟨g, ns.length * 4 + 3, none⟩ = some u := by
  have hl : ns.length = kv.length := by have := h.len; simpa using this
  have hown := h.own
  have hlt := fun k e => World.ownsRow.lt h.own k e
  obtain ⟨h1, ⟨hv, h0⟩ | ⟨g, cap, cur, hv, hg, hc, hn, hcap, hs, hx⟩⟩ := h.own
  · simp at h0
  simp only [List.length_append, List.length_singleton] at hv hn hx h1 hown
  rw [knC_snoc hl] at hx hown
  have hkl := knC_len hl
  subst hv
  have hgw := hlt g rfl
  have cell : ∀ j y, ([.int .i64 x.k, .string x.t, .int .i64 x.i, u] : List Value)[j]? = some y → w.cell? ⟨g, ns.length * 4 + j, none⟩ = some y := fun j y hy => by
    have hj : j < 4 := by have := (List.getElem?_eq_some_iff.1 hy).1; simpa using this
    have := World.ownsRow.cellAt hown (ns.length * 4 + j) (by omega)
    rw [List.getElem?_append_right (by omega), hkl, Nat.add_sub_cancel_left, hy] at this
    exact this
  have hu : (kv ++ [u])[ns.length]? = some u := by rw [hl, List.getElem?_append_right (Nat.le_refl _)]; simp
  have hxx : (ns ++ [x])[ns.length]? = some x := by rw [List.getElem?_append_right (Nat.le_refl _)]; simp
  have lift : ∀ (j : Nat) (y : Value), kv[j]? = some y → (kv ++ [u])[j]? = some y := fun j y e => by rw [List.getElem?_append_left (List.getElem?_eq_some_iff.1 e).1]; exact e
  refine ⟨g, cap, rfl, hn, hcap, hg, hgw.2, ⟨hl, ⟨hkl, .inr ⟨g, cap, cur, rfl, hg, hc, by omega, hcap, hs, ?_⟩⟩, fun j y z hy hz => h.kid j y z (by rw [List.getElem?_append_left (List.getElem?_eq_some_iff.1 hy).1]; exact hy) (lift j z hz), fun j z k hz hk => ?_, fun i j y z k hy hz hij => h.nd i j y z k (lift i y hy) (lift j z hz) hij⟩, h.kid _ x u hxx hu, fun k hk e => ?_, fun y k hy hk e => ?_, cell 0 _ rfl, cell 1 _ rfl, cell 2 _ rfl, cell 3 _ rfl⟩
  · have : cur.toList.take (ns.length * 4) = (cur.toList.take ((ns.length + 1) * 4)).take (ns.length * 4) := by rw [List.take_take, Nat.min_eq_left (by omega)]
    rw [this, hx, ← hkl, List.take_left']
    rfl
  · exact h.ne j z k (lift j z hz) hk
  · exact h.ne _ u k hu hk (by rw [e]; rfl)
  · obtain ⟨j, hj, he⟩ := List.getElem_of_mem hy
    have hjy : kv[j]? = some y := by rw [List.getElem?_eq_getElem hj, he]
    exact h.nd j ns.length y u k (lift j y hjy) hu (by omega) hk e
theorem Rdr.back4 {rb : Nat} {ts : List TokD} {tv : Value} {en : Nat} {w : World} {v : Value} {kv : List Value} {u : Value} {i d : Nat} {ns : List KnL} {x : KnL} {g c : Nat} (h : Rdr rb ts tv en w v (kv ++ [u]) ⟨i, d, ns ++ [x]⟩) (hv : v = .slice (some ⟨g, 0, none⟩) (ns.length + 1) c) (hB : rb + 1 ≤ g) (hn : NdR (rb + 1) w (.slice (some ⟨g, 0, none⟩) ns.length c) ns kv) (hu : IR (rb + 1) w u x.ks) (h1 : ∀ k, u.ownBlock = some k → k ≠ g) (h2 : ∀ (y : Value) (k : Nat), y ∈ kv → y.ownBlock = some k → u.ownBlock ≠ some k) :
    Rdr rb ts tv en (w.setCell ⟨rb, 4, none⟩ (.slice (some ⟨g, 0, none⟩) ns.length c)) (.slice (some ⟨g, 0, none⟩) ns.length c) kv ⟨i, d, ns⟩ ∧ Rg rb w v (w.setCell ⟨rb, 4, none⟩ (.slice (some ⟨g, 0, none⟩) ns.length c)) (.slice (some ⟨g, 0, none⟩) ns.length c) [] ∧ Own rb (w.setCell ⟨rb, 4, none⟩ (.slice (some ⟨g, 0, none⟩) ns.length c)) (.slice (some ⟨g, 0, none⟩) ns.length c) kv u x.ks := by
  generalize hv' : (.slice (some ⟨g, 0, none⟩) ns.length c : Value) = v' at hn ⊢
  have o : ∀ i, i ≠ 4 → (w.setCell ⟨rb, 4, none⟩ v').cell? ⟨rb, i, none⟩ = w.cell? ⟨rb, i, none⟩ := fun i hi => World.cell?_setCell_other _ _ _ _ (fun e => by have := congrArg Addr.off e; simp at this; omega)
  have hb : ∀ k, k ≠ rb → (w.setCell ⟨rb, 4, none⟩ v').heap[k]? = w.heap[k]? := fun k hk => Below.heap_setCell w ⟨rb, 4, none⟩ _ k hk
  have hg : w.grownBy (w.setCell ⟨rb, 4, none⟩ v') (some rb) := ⟨rfl, rfl, rfl, by simp, fun k _ hk => hb k (fun e => hk (by rw [e]))⟩
  refine ⟨⟨by simpa using h.lt, by rw [o 0 (by omega)]; exact h.c0, by rw [o 1 (by omega)]; exact h.c1, by rw [o 2 (by omega)]; exact h.c2, by rw [o 3 (by omega)]; exact h.c3, World.cell?_setCell_same' _ _ _ (by rw [h.c4]; rfl), fun i => by simp [go_sem, h.fz], World.ownsRow.kept h.tk hg (.inr (fun e => by have := h.tlt rb e; omega)), h.tlt, h.il, h.tl, h.dl, h.tb.below ⟨rfl, rfl, rfl, by simp, fun k hk => hb k (by omega)⟩, (fun y hy => h.kl y (List.mem_append_left _ hy)), hn.keptBut hg (fun r e => by injection e with e; omega)⟩, ⟨rfl, rfl, rfl, by simp, fun k _ hk _ => hb k hk, fun r e => .inl (by rw [hv]; rw [← hv'] at e; exact e), fun _ _ h => by simp at h⟩, ⟨World.ownsRow.kept hu hg ?_, fun k hk e => ?_, h2⟩⟩
  · cases hq : u.ownBlock with
    | none => exact .inl rfl
    | some k => exact .inr (fun e => by have := (World.ownsRow.lt hu k hq).1; injection e with e; omega)
  · rw [← hv'] at e
    injection e with e
    exact h1 k hk e.symm
set_option maxHeartbeats 1000000 in
theorem takeBack_at (rb : Nat) (ts : List TokD) (tv : Value) (en : Nat) (w : World) (v : Value) (kv : List Value) (u : Value) (i d : Nat) (ns : List KnL) (x : KnL) (h : Rdr rb ts tv en w v (kv ++ [u]) ⟨i, d, ns ++ [x]⟩) (hl : ns.length ≤ 100000) :
    Calls Tryd.prog 175 #[.pointer (some ⟨rb, 0, none⟩)] w fun e w' => e = .returned (.agg #[.int .i64 x.k, .string x.t, .int .i64 x.i, u]) ∧ ∃ v', Rdr rb ts tv en w' v' kv ⟨i, d, ns⟩ ∧ Rg rb w v w' v' [] ∧ Own rb w' v' kv u x.ks := by
  obtain ⟨g, c, hv, hn, hm, hB, hgw, hnd, hu, h1, h2, c0, c1, c2, c3⟩ := h.nd.back
  have R := h.back4 hv hB hnd hu h1 h2
  have HR := (show Hid _ from R)
  have c4 := h.c4
  have lt := h.lt
  have f4 := h.fz 4
  have hl' : (ns.length : Int) ≤ 100000 := by omega
  have hc' : (ns.length : Int) + 1 ≤ (c : Int) := by omega
  subst hv
  obtain ⟨ua, uc, rfl⟩ := hu.form
  clear h R hnd hu h1 h2 hm
  go_enter Tryd.func175, Tryd.ntmps175
  go_wp2
  have hb := ((Below.refl (w.setCell ⟨rb, 4, none⟩ (.slice (some ⟨g, 0, none⟩) ns.length c)).heap.size (w.setCell ⟨rb, 4, none⟩ (.slice (some ⟨g, 0, none⟩) ns.length c))).alloc (Nat.le_refl _) (.cells #[.int .i64 x.k, .string x.t, .int .i64 x.i, .slice ua x.ks.length uc] 71)).alloc (by simp) (.cells #[.int .i64 x.k, .string x.t, .int .i64 x.i, .slice ua x.ks.length uc] 71)
  refine bodyPost_ret (v := .agg #[.int .i64 x.k, .string x.t, .int .i64 x.i, .slice ua x.ks.length uc]) (by simp [results, Tryd.results175, go_sem]) rfl ⟨rfl, _, HR.out.1.below hb, HR.out.2.1.trans (Rg.of_below hb), ⟨HR.out.2.2.row.below hb, HR.out.2.2.ne, HR.out.2.2.nd⟩⟩
end Go.Proofs.YtiglkhkfbgjjoaaDoor
