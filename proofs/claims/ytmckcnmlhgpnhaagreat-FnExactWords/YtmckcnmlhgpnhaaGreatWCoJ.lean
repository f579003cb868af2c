/- - -/
import Derived.Test.YtmckcnmlhgpnhaaGreatWItK
import Derived.Laws.EntriesVeiled
import Derived.Test.YtmckcnmlhgpnhaaGreatWKwM
import Derived.Test.YtmckcnmlhgpnhaaGreatWIsA
namespace Go.Proofs.YtmckcnmlhgpnhaaGreat
set_option maxRecDepth 20000
open Go.RowKit Go.Maps Go.Shelf
set_option linter.unusedSimpArgs false
set_option linter.unusedVariables false
attribute [local go_sem] Oper.semAt_some
theorem zxv : (Tryz.prog.info? 124).map (fun i => (i.zero, i.size, i.bytes)) = some (some (.agg #[.int .i64 0, .int .i64 0, .int .i64 0]), 3, 24) := by kernel_rfl
def cC (X : List (Nat × Int × Int)) : List Value := X.flatMap fun x => [.int .i64 (x.1 : Int), .int .i64 x.2.2, .int .i64 x.2.1]
theorem zw7 (X : List (Nat × Int × Int)) (x : Nat × Int × Int) : cC (X ++ [x]) = cC X ++ [.int .i64 (x.1 : Int), .int .i64 x.2.2, .int .i64 x.2.1] := by simp [cC]
theorem zwn : ∀ (X : List (Nat × Int × Int)) (i : Nat), i < X.length -> (cC X)[i * 3]? = some (.int .i64 ((X.getD i (0, 0, 0)).1 : Int)) /\ (cC X)[i * 3 + 1]? = some (.int .i64 (X.getD i (0, 0, 0)).2.2) /\ (cC X)[i * 3 + 2]? = some (.int .i64 (X.getD i (0, 0, 0)).2.1)
 | [], i, h => by simp at h
 | x :: X, 0, h => ⟨rfl, rfl, rfl⟩
 | x :: X, i + 1, h => by
   have ih := zwn X i (by simp only [List.length_cons] at h; omega)
   have e : cC (x :: X) = .int .i64 (x.1 : Int) :: .int .i64 x.2.2 :: .int .i64 x.2.1 :: cC X := rfl
   rw [e, show (i + 1) * 3 = i * 3 + 1 + 1 + 1 by omega]
   exact ⟨ih.1, ih.2.1, ih.2.2⟩
def Rco (H bs n : Nat) (w0 w : World) (v : Value) (X : List (Nat × Int × Int)) : Prop :=
 w.ownsRow (bs + 4) 124 3 v X.length (cC X) /\ w.rowIs bs 4 n (fun i => .bool (decide (i ∈ plS X))) /\ w.cell? ⟨bs + 1, 0, none⟩ = some (.slice (some ⟨bs, 0, none⟩) n n) /\ w.rowIs (bs + 1 + 1) 120 1 (fun _ => v) /\ w.cell? ⟨bs + 1 + 1 + 1, 0, none⟩ = some (.func (.func 118) #[] #[.pointer (some ⟨H, 0, none⟩), .pointer (some ⟨bs + 1, 0, none⟩), .pointer (some ⟨bs + 1 + 1, 0, none⟩)]) /\ Below bs w0 w
theorem Rco.lt {H bs n : Nat} {w0 w : World} {v : Value} {X : List (Nat × Int × Int)} (h : Rco H bs n w0 w v X) : bs + 1 + 1 + 1 < w.heap.size := World.block_lt_of_cell? _ ⟨bs + 1 + 1 + 1, 0, none⟩ h.2.2.2.2.1
theorem Rco.own {H bs n : Nat} {w0 w : World} {v : Value} {X : List (Nat × Int × Int)} (h : Rco H bs n w0 w v X) : ∀ k, v.ownBlock = some k -> bs + 4 <= k /\ k < w.heap.size := fun k hk => by
 rcases h.1.2 with ⟨rfl, _⟩ | ⟨g, cap, cur, rfl, hb, hg, _⟩
 · simp [Value.ownBlock] at hk
 · simp [Value.ownBlock] at hk
   have := (Array.getElem?_eq_some_iff.1 hg).1
   omega
theorem Rco.below {H bs n : Nat} {w0 w w' : World} {v : Value} {X : List (Nat × Int × Int)} (h : Rco H bs n w0 w v X) (hb : Below w.heap.size w w') : Rco H bs n w0 w' v X := by
 have hl := h.lt
 obtain ⟨h1, h2, h3, h4, h5, h6⟩ := h
 exact ⟨World.ownsRow.kept h1 (row := none) ⟨hb.os, hb.tape, hb.output, hb.size, fun k hk _ => hb.block k hk⟩ (by cases v.ownBlock <;> simp), h2.of_block (hb.block _ (by omega)), by rw [hb.cell (p := ⟨bs + 1, 0, none⟩) (by dsimp only; omega)]; exact h3, h4.of_block (hb.block _ (by omega)), by rw [hb.cell (p := ⟨bs + 1 + 1 + 1, 0, none⟩) hl]; exact h5, h6.trans (hb.mono (by omega))⟩
theorem Rco.marked {H bs n : Nat} {w0 w : World} {v : Value} {X : List (Nat × Int × Int)} (h : Rco H bs n w0 w v X) (p : Nat) (u : Value) : (w.setCell ⟨bs, p, none⟩ u).ownsRow (bs + 4) 124 3 v X.length (cC X) := by
 have hb := (Below.refl bs w).setCell (p := ⟨bs, p, none⟩) (Nat.le_refl _) u
 refine World.ownsRow.kept h.1 (row := some bs) ⟨hb.os, hb.tape, hb.output, hb.size, fun k _ hk => Below.heap_setCell _ _ _ _ (fun e => hk (by rw [e]))⟩ ?_
 cases e : v.ownBlock with
 | none => exact .inl rfl
 | some k => right; have := (h.own k e).1; simp; omega
def zfa (bs : Nat) (w : World) : Option Nat := match w.cell? ⟨bs + 1 + 1, 0, none⟩ with
 | some v => v.ownBlock
 | none => none
def za3 (bs : Nat) (W W' : World) : Prop :=
 W.heap.size <= W'.heap.size /\ ((W.cell? ⟨bs + 1 + 1, 0, none⟩).isSome = true ->
  (∀ (k : Nat) (o : Obj), k ≠ bs -> k ≠ bs + 1 + 1 -> zfa bs W ≠ some k -> W.heap[k]? = some o -> o.isCells = true -> W'.heap[k]? = some o) /\
  (W'.cell? ⟨bs + 1 + 1, 0, none⟩).isSome = true /\ (zfa bs W' = zfa bs W \/ ∃ k, zfa bs W' = some k /\ W.heap.size <= k))
theorem za3.refl (bs : Nat) (W : World) : za3 bs W W := ⟨Nat.le_refl _, fun h => ⟨fun _ _ _ _ _ h _ => h, h, .inl rfl⟩⟩
theorem za3.trans {bs : Nat} {A B C : World} (h : za3 bs A B) (k : za3 bs B C) : za3 bs A C := by
 refine ⟨Nat.le_trans h.1 k.1, fun hA => ?_⟩
 obtain ⟨h1, h2, h3⟩ := h.2 hA
 obtain ⟨k1, k2, k3⟩ := k.2 h2
 have hlt : ∀ (i : Nat) (o : Obj), A.heap[i]? = some o -> i < A.heap.size := fun i o hi => (Array.getElem?_eq_some_iff.1 hi).1
 refine ⟨fun i o e1 e2 e3 hi ho => k1 i o e1 e2 (fun e => ?_) (h1 i o e1 e2 e3 hi ho) ho, k2, ?_⟩
 · rcases h3 with g | ⟨x, g, gx⟩
   · exact e3 (g ▸ e)
   · rw [g] at e
     have := hlt i o hi
     simp at e
     omega
 · rcases k3 with g | ⟨x, g, gx⟩
   · rw [g]; exact h3
   · right; exact ⟨x, g, Nat.le_trans h.1 gx⟩
theorem za3.of_below {bs : Nat} {W W' : World} (hb : Below W.heap.size W W') : za3 bs W W' := by
 refine ⟨hb.size, fun hA => ?_⟩
 obtain ⟨v, hv⟩ := Option.isSome_iff_exists.1 hA
 have e : W'.cell? ⟨bs + 1 + 1, 0, none⟩ = some v := by rw [hb.cell (p := ⟨bs + 1 + 1, 0, none⟩) (World.block_lt_of_cell? _ ⟨bs + 1 + 1, 0, none⟩ hv)]; exact hv
 exact ⟨fun k o _ _ _ hk _ => by rw [hb.block k (Array.getElem?_eq_some_iff.1 hk).1]; exact hk, by rw [e]; rfl, .inl (by simp [zfa, e, hv])⟩
theorem za3.putObj (bs : Nat) (W : World) (l : Nat) (o o' : Obj) (h : W.heap[l]? = some o) (ho : o.isCells = false) : za3 bs W (W.putObj l o') := by
 have hk := zah.putObj W l o o' h ho
 refine ⟨hk.size, fun hA => ?_⟩
 obtain ⟨v, hv⟩ := Option.isSome_iff_exists.1 hA
 have e : (W.putObj l o').cell? ⟨bs + 1 + 1, 0, none⟩ = some v := hk.cell hv
 exact ⟨fun k u _ _ _ hk' hu => hk.same k u hk' hu, by rw [e]; rfl, .inl (by simp [zfa, e, hv])⟩
theorem za3.cell {bs : Nat} {W W' : World} (h : za3 bs W W') {b o : Nat} {u v : Value} (hv : W.cell? ⟨bs + 1 + 1, 0, none⟩ = some v) (h1 : b ≠ bs) (h2 : b ≠ bs + 1 + 1) (h3 : v.ownBlock ≠ some b) (hc : W.cell? ⟨b, o, none⟩ = some u) : W'.cell? ⟨b, o, none⟩ = some u := by
 have hs := (h.2 (by rw [hv]; rfl)).1
 have e : W'.heap[b]? = W.heap[b]? := by
  cases hb : W.heap[b]? with
  | none => simp [World.cell?, hb] at hc
  | some ob =>
    cases ob with
    | cells c t fz => exact hs _ _ h1 h2 (by simp [zfa, hv]; exact h3) hb rfl
    | _ => simp [World.cell?, hb] at hc
 rw [World.cell?_of_block (w := W) e]; exact hc
theorem Rco.put {H bs n : Nat} {w0 w w' : World} {v v' : Value} {X : List (Nat × Int × Int)} {o : Obj} (h : Rco H bs n w0 w v X) {p : Nat} {fr sl : Int} (hp : p < n) (hn : p ∉ plS X) (hown : w'.ownsRow (bs + 4) 124 3 v' (X.length + 1) (cC X ++ [.int .i64 (p : Int), .int .i64 sl, .int .i64 fr])) (hg : ((w.setCell ⟨bs, p, none⟩ (.bool true)).alloc o).grownBy w' v.ownBlock) (hl : v'.ownBlock = v.ownBlock \/ v'.ownBlock = some (w.heap.size + 1)) :
 Rco H bs n w0 (w'.setCell ⟨bs + 1 + 1, 0, none⟩ v') v' (X ++ [(p, fr, sl)]) /\ za3 bs w (w'.setCell ⟨bs + 1 + 1, 0, none⟩ v') /\ KeepsOthers w (w'.setCell ⟨bs + 1 + 1, 0, none⟩ v') := by
 have hlt := h.lt
 have hown' := h.own
 have hgs : w.heap.size + 1 <= w'.heap.size := by have := hg.size; simp at this; omega
 -- what lay in w, in w'
 have same : ∀ k, k < w.heap.size -> k ≠ bs -> v.ownBlock ≠ some k -> w'.heap[k]? = w.heap[k]? := fun k hk h1 h2 => by
  rw [hg.block k (by simp; omega) (fun e => h2 e.symm)]
  exact (((Below.refl _ _).alloc (Nat.le_refl _) _).block k (by simpa using hk)).trans (Below.heap_setCell _ _ _ _ h1)
 have ne2 : v.ownBlock ≠ some (bs + 1 + 1) := fun e => by have := hown' _ e; omega
 have same2 : ∀ k, k < w.heap.size -> k ≠ bs -> k ≠ bs + 1 + 1 -> v.ownBlock ≠ some k -> (w'.setCell ⟨bs + 1 + 1, 0, none⟩ v').heap[k]? = w.heap[k]? := fun k hk h1 h3 h2 => (Below.heap_setCell _ _ _ _ h3).trans (same k hk h1 h2)
 obtain ⟨h1, h2, h3, h4, h5, h6⟩ := h
 have r4 : w'.rowIs (bs + 1 + 1) 120 1 (fun _ => v) := h4.of_block (same _ (by omega) (by omega) ne2)
 have c4 : (w'.setCell ⟨bs + 1 + 1, 0, none⟩ v').cell? ⟨bs + 1 + 1, 0, none⟩ = some v' := World.cell?_setCell_same' w' ⟨bs + 1 + 1, 0, none⟩ v' (by rw [r4.cell (i := 0) (by omega)]; rfl)
 have hb4 := (Below.refl (bs + 1 + 1) w').setCell (p := ⟨bs + 1 + 1, 0, none⟩) (Nat.le_refl _) v'
 have vown' : ∀ k, v'.ownBlock = some k -> bs + 4 <= k := fun k hk => by
  rcases hl with e | e
  · exact (hown' k (e ▸ hk)).1
  · rw [e] at hk
    simp at hk
    omega
 refine ⟨⟨?_, ?_, ?_, ?_, ?_, ?_⟩, ⟨by simp; omega, fun _ => ⟨fun k o' e1 e2 e3 hk ho => ?_, by rw [c4]; rfl, ?_⟩⟩, by simp; omega, fun k o' hk ho => ?_⟩
 · have := World.ownsRow.kept hown (row := some (bs + 1 + 1)) (w' := w'.setCell ⟨bs + 1 + 1, 0, none⟩ v') ⟨hb4.os, hb4.tape, hb4.output, hb4.size, fun k _ hk => Below.heap_setCell _ _ _ _ (fun e => hk (by rw [e]))⟩ (by
    cases e : v'.ownBlock with
    | none => exact .inl rfl
    | some k => right; have := vown' k e; simp; omega)
   rw [zw7]; simpa using this
 · have e1 : ((w.setCell ⟨bs, p, none⟩ (.bool true)).alloc o).rowIs bs 4 n (fun i => .bool (decide (i ∈ plS (X ++ [(p, fr, sl)])))) := by
    refine World.rowIs.of_block (w := w.setCell ⟨bs, p, none⟩ (.bool true)) ((h2.set p (.bool true)).congr fun i hi => ?_) (((Below.refl _ _).alloc (Nat.le_refl _) _).block _ (by simp; omega))
    rw [zhi]
    by_cases e : i = p
    · subst e; simp
    · simp [e]
   have e2 := e1.of_block (hg.block bs (by simp; omega) (fun e => by have := hown' bs e.symm; omega))
   exact e2.setOther (a := ⟨bs + 1 + 1, 0, none⟩) (by dsimp only; omega) _
 · rw [World.cell?_of_block (w := w) (same2 (bs + 1) (by omega) (by omega) (by omega) (fun e => by have := hown' _ e; omega))]; exact h3
 · exact (r4.set 0 v').congr fun i hi => by simp [show i = 0 by omega]
 · rw [World.cell?_of_block (w := w) (same2 (bs + 1 + 1 + 1) (by omega) (by omega) (by omega) (fun e => by have := hown' _ e; omega))]; exact h5
 · have f1 : Below bs w0 ((w.setCell ⟨bs, p, none⟩ (.bool true)).alloc o) := (h6.setCell (p := ⟨bs, p, none⟩) (Nat.le_refl _) (.bool true)).alloc (by simp; omega) o
   have f2 := f1.grown hg (by simp; omega) (fun k hk => by have := hown' k hk; omega)
   exact f2.setCell (p := ⟨bs + 1 + 1, 0, none⟩) (by dsimp only; omega) v'
 · have hv : w.cell? ⟨bs + 1 + 1, 0, none⟩ = some v := h4.cell (i := 0) (by omega)
   rw [same2 k (Array.getElem?_eq_some_iff.1 hk).1 e1 e2 (by simpa [zfa, hv] using e3)]
   exact hk
 · have hv : w.cell? ⟨bs + 1 + 1, 0, none⟩ = some v := h4.cell (i := 0) (by omega)
   simp only [zfa, c4, hv]
   rcases hl with e | e
   · exact .inl e
   · right; exact ⟨_, e, by omega⟩
 · rw [same2 k (Array.getElem?_eq_some_iff.1 hk).1 (fun e => ?_) (fun e => ?_) (fun e => ?_)]
   · exact hk
   · obtain ⟨A, hA, _⟩ := h2; rw [e, hA] at hk; cases hk; cases ho
   · obtain ⟨A, hA, _⟩ := h4; rw [e, hA] at hk; cases hk; cases ho
   · rcases h1.2 with ⟨rfl, _⟩ | ⟨g, cap, cur, rfl, _, hgg, _⟩
     · simp [Value.ownBlock] at e
     · simp [Value.ownBlock] at e; rw [<- e, hgg] at hk; cases hk; cases ho
theorem zp9 {B : Nat} {w : World} {v : Value} {X : List (Nat × Int × Int)} (h : w.ownsRow B 124 3 v X.length (cC X)) {i : Nat} (hi : i < X.length) : ∃ g cap, v = .slice (some ⟨g, 0, none⟩) X.length cap /\ B <= g /\ g < w.heap.size /\ (∀ j, j < X.length -> w.cell? ⟨g, j * 3, none⟩ = some (.int .i64 (((plS X).getD j 0 : Nat) : Int)) /\ w.cell? ⟨g, j * 3 + 1, none⟩ = some (.int .i64 (X.getD j (0, 0, 0)).2.2) /\ w.cell? ⟨g, j * 3 + 2, none⟩ = some (.int .i64 (X.getD j (0, 0, 0)).2.1)) := by
 have h0 := h
 obtain ⟨h1, h2⟩ := h
 rcases h2 with ⟨_, h0⟩ | ⟨g, cap, cur, rfl, hg, hc, hn, hcap, hs, hx⟩
 · omega
 · refine ⟨g, cap, rfl, hg, (Array.getElem?_eq_some_iff.1 hc).1, fun j hj => ?_⟩
   obtain ⟨e1, e2, e3⟩ := zwn X j hj
   rw [h0.cellAt (j * 3) (by omega), h0.cellAt (j * 3 + 1) (by omega), h0.cellAt (j * 3 + 2) (by omega), zg4]
   exact ⟨e1, e2, e3⟩
theorem zqa {B : Nat} {w : World} {v : Value} {X : List (Nat × Int × Int)} (h : w.ownsRow B 124 3 v X.length (cC X)) : ∃ a c, v = .slice a X.length c := by
 rcases h.2 with ⟨rfl, h0⟩ | ⟨g, cap, cur, rfl, _⟩
 · exact ⟨none, 0, by rw [h0]⟩
 · exact ⟨_, _, rfl⟩
theorem Rco.head {H bs n : Nat} {w0 w : World} {v : Value} {X : List (Nat × Int × Int)} (h : Rco H bs n w0 w v X) : ∃ a cap, v = .slice a X.length cap := zqa h.1
attribute [local go_sem] Oper.semAt_some
theorem zn8 (w : World) (a b c : Value) (t : TypeId) : ∀ j u, [a, b, c][j]? = some u -> (w.alloc (.cells #[a, b, c] t)).cell? ((⟨w.heap.size, 0, none⟩ : Addr).add j) = some u := fun j u hj => by
 rw [Addr.add_lit, Nat.zero_add]
 simp [go_sem]
 exact hj
theorem zuh (a b c : Int) : ∀ u ∈ [Value.int .i64 a, .int .i64 b, .int .i64 c], u.oneCell' = true := by
 intro u hu
 simp at hu
 rcases hu with rfl | rfl | rfl <;> rfl
set_option maxHeartbeats 4000000 in
theorem zp8 (b off cw : Nat) (ws : List Int) (smz toh top : Int) (cyc : Bool) (sn old cpz sr : Int) (ar : Option Addr) (cr : Nat) (rs : List (Int × Int)) (H bs : Nat) (t m sl fr : Int) (w0 w : World) (v : Value) (X : List (Nat × Int × Int)) (h : Rco H bs ws.length w0 w v X) (hH : H < bs) (hbs : bs <= w0.heap.size) (ka : ∀ i, w0.cell? ⟨H, i, none⟩ = (#[.slice (some ⟨b, off, none⟩) ws.length cw, .int .i64 smz, .int .i64 toh, .int .i64 top, .bool cyc, .int .i64 sn, .int .i64 old, .int .i64 cpz, .int .i64 sr, .slice ar rs.length cr] : Array Value)[i]?) (lb : b < bs) (hc : ∀ i, i < ws.length -> w0.cell? ⟨b, off + i, none⟩ = some (.int .u64 (za ws i))) (hn : ws.length <= 1048576) (hw : zg ws) (htl : X.length <= 1048576)
 (hl : isR t = true -> ∃ mm q : Nat, m = (mm : Int) /\ mm < ws.length /\ zi ws mm = (q : Int) /\ q < ws.length) :
 Calls Tryz.prog 118 #[.agg #[.int .i64 t, .int .i64 m], .int .i64 sl, .int .i64 fr, .pointer (some ⟨H, 0, none⟩), .pointer (some ⟨bs + 1, 0, none⟩), .pointer (some ⟨bs + 1 + 1, 0, none⟩)] w fun e w' => e = .returned (.tuple #[]) /\ ∃ v', Rco H bs ws.length w0 w' v' (za7 ws X t m fr sl) /\ za3 bs w w' /\ KeepsOthers w w' := by
 obtain ⟨i0, hi, hz0, hz1, hz2⟩ := info_parts zxv
 have hlt := h.lt
 have HR : Hid (Rco H bs ws.length w0 w v X) := h
 have B1 : Below w.heap.size w (w.alloc (.cells #[.int .i64 t, .int .i64 m] 48)) := (Below.refl _ _).alloc (Nat.le_refl _) _
 cases hr : isR t with
 | false =>
   have HE : Hid (za7 ws X t m fr sl = X) := zui hr
   clear hl
   go_enter Tryz.func118, Tryz.ntmps118
   go_wp2_with (go_at_call 119; refine (za6 _ _ _).mono ?_; rw [hr]; rintro e w4 ⟨rfl, b4⟩)
   have B4 : Below w.heap.size w w4 := zd b4
   refine bodyPost_ret (results_none rfl _ _ _) rfl ⟨rfl, v, ?_, za3.of_below B4, KeepsOthers.of_below B4⟩
   rw [HE.out]
   exact HR.out.below B4
 | true =>
   obtain ⟨mm, q, rfl, hmw, hql, hqw⟩ := hl hr
   have hqq : (zi ws (mm : Int).toNat).toNat = q := by rw [Int.toNat_natCast, hql, Int.toNat_natCast]
   have hqw' : (q : Int) < (ws.length : Int) := by omega
   have kw : ∀ V, Below w.heap.size w V -> (∀ i, V.cell? ⟨H, i, none⟩ = (#[.slice (some ⟨b, off, none⟩) ws.length cw, .int .i64 smz, .int .i64 toh, .int .i64 top, .bool cyc, .int .i64 sn, .int .i64 old, .int .i64 cpz, .int .i64 sr, .slice ar rs.length cr] : Array Value)[i]?) /\ b < V.heap.size /\ ∀ i, i < ws.length -> V.cell? ⟨b, off + i, none⟩ = some (.int .u64 (za ws i)) := fun V hV => by
    have hB : Below bs w0 V := h.2.2.2.2.2.trans (hV.mono (by omega))
    exact ⟨ze ka hB hH, by have := hV.size; omega, fun i hi => by rw [hB.cell (p := ⟨b, off + i, none⟩) lb]; exact hc i hi⟩
   have KW : Hid (∀ V, Below w.heap.size w V -> (∀ i, V.cell? ⟨H, i, none⟩ = (#[.slice (some ⟨b, off, none⟩) ws.length cw, .int .i64 smz, .int .i64 toh, .int .i64 top, .bool cyc, .int .i64 sn, .int .i64 old, .int .i64 cpz, .int .i64 sr, .slice ar rs.length cr] : Array Value)[i]?) /\ b < V.heap.size /\ ∀ i, i < ws.length -> V.cell? ⟨b, off + i, none⟩ = some (.int .u64 (za ws i))) := kw
   have hm0 : w.cell? ⟨bs, q, none⟩ = some (.bool (decide (q ∈ plS X))) := h.2.1.cell (by omega)
   have hs0 := h.2.2.1
   have hp0 : w.cell? ⟨bs + 1 + 1, 0, none⟩ = some v := h.2.2.2.1.cell (i := 0) (by omega)
   have HQL : Hid (zi ws mm = (q : Int)) := hql
   have fz := h.2.1.frozen
   have fp := h.2.2.2.1.frozen
   obtain ⟨va, vc, rfl⟩ := h.head
   by_cases hm : q ∈ plS X
   · have HE : Hid (za7 ws X t (mm : Int) fr sl = X) := zuj hqq hm
     simp only [hm, decide_true] at hm0
     have HRF : Hid (isR t = true) := hr
     clear hl hr hqq hql kw ka hc h
     go_enter Tryz.func118, Tryz.ntmps118
     go_wp2_with (first | (go_at_call 119; refine (za6 _ _ _).mono ?_; rw [HRF.out]; rintro e w4 ⟨rfl, b4⟩; have B4 : Below w.heap.size w w4 := zd b4; have v4 := zp b4 (by simp); have k4 := (KW.out _ B4).1; have lw4 : w.heap.size < w4.heap.size := zq b4; clear b4; have s4 : w4.cell? ⟨bs + 1, 0, none⟩ = some (.slice (some ⟨bs, 0, none⟩) ws.length ws.length) := (by rw [B4.cell (p := ⟨bs + 1, 0, none⟩) (by dsimp only; omega)]; exact hs0); have p4 : w4.cell? ⟨bs + 1 + 1, 0, none⟩ = some (.slice va X.length vc) := (by rw [B4.cell (p := ⟨bs + 1 + 1, 0, none⟩) (by dsimp only; omega)]; exact hp0); have m4 : w4.cell? ⟨bs, q, none⟩ = some (.bool true) := (by rw [B4.cell (p := ⟨bs, q, none⟩) (by dsimp only; omega)]; exact hm0)) | (go_at_call 120; refine (zfh _ _ _ _ _ _ _ _ _ _ _ _ _ _ _ _ _ mm _ rfl (KW.out _ B4).2.1 (KW.out _ B4).2.2 hn hw hmw).mono ?_; rw [HQL.out]; rintro e w5 ⟨rfl, b5⟩; have B5 : Below w.heap.size w w5 := zc B4 b5; have lw5 : w.heap.size < w5.heap.size := Nat.lt_of_lt_of_le lw4 b5.size; clear b5; have s5 : w5.cell? ⟨bs + 1, 0, none⟩ = some (.slice (some ⟨bs, 0, none⟩) ws.length ws.length) := (by rw [B5.cell (p := ⟨bs + 1, 0, none⟩) (by dsimp only; omega)]; exact hs0); have p5 : w5.cell? ⟨bs + 1 + 1, 0, none⟩ = some (.slice va X.length vc) := (by rw [B5.cell (p := ⟨bs + 1 + 1, 0, none⟩) (by dsimp only; omega)]; exact hp0); have m5 : w5.cell? ⟨bs, q, none⟩ = some (.bool true) := (by rw [B5.cell (p := ⟨bs, q, none⟩) (by dsimp only; omega)]; exact hm0)))
     go_end0
     exact ⟨rfl, .slice va X.length vc, by rw [HE.out]; exact HR.out.below B5, za3.of_below B5, KeepsOthers.of_below B5⟩
   · have HE : Hid (za7 ws X t (mm : Int) fr sl = X ++ [(q, fr, sl)]) := zsf hr hqq hm
     have HM : Hid (q ∉ plS X) := hm
     have HRF : Hid (isR t = true) := hr
     simp only [hm, decide_false] at hm0
     clear hl hr hqq hql kw ka hc h hm
     go_enter Tryz.func118, Tryz.ntmps118
     go_wp2_with (first | (go_at_call 119; refine (za6 _ _ _).mono ?_; rw [HRF.out]; rintro e w4 ⟨rfl, b4⟩; have B4 : Below w.heap.size w w4 := zd b4; have v4 := zp b4 (by simp); have k4 := (KW.out _ B4).1; have lw4 : w.heap.size < w4.heap.size := zq b4; clear b4; have s4 : w4.cell? ⟨bs + 1, 0, none⟩ = some (.slice (some ⟨bs, 0, none⟩) ws.length ws.length) := (by rw [B4.cell (p := ⟨bs + 1, 0, none⟩) (by dsimp only; omega)]; exact hs0); have p4 : w4.cell? ⟨bs + 1 + 1, 0, none⟩ = some (.slice va X.length vc) := (by rw [B4.cell (p := ⟨bs + 1 + 1, 0, none⟩) (by dsimp only; omega)]; exact hp0); have m4 : w4.cell? ⟨bs, q, none⟩ = some (.bool false) := (by rw [B4.cell (p := ⟨bs, q, none⟩) (by dsimp only; omega)]; exact hm0)) | (go_at_call 120; refine (zfh _ _ _ _ _ _ _ _ _ _ _ _ _ _ _ _ _ mm _ rfl (KW.out _ B4).2.1 (KW.out _ B4).2.2 hn hw hmw).mono ?_; rw [HQL.out]; rintro e w5 ⟨rfl, b5⟩; have B5 : Below w.heap.size w w5 := zc B4 b5; have lw5 : w.heap.size < w5.heap.size := Nat.lt_of_lt_of_le lw4 b5.size; clear b5; have s5 : w5.cell? ⟨bs + 1, 0, none⟩ = some (.slice (some ⟨bs, 0, none⟩) ws.length ws.length) := (by rw [B5.cell (p := ⟨bs + 1, 0, none⟩) (by dsimp only; omega)]; exact hs0); have p5 : w5.cell? ⟨bs + 1 + 1, 0, none⟩ = some (.slice va X.length vc) := (by rw [B5.cell (p := ⟨bs + 1 + 1, 0, none⟩) (by dsimp only; omega)]; exact hp0); have m5 : w5.cell? ⟨bs, q, none⟩ = some (.bool false) := (by rw [B5.cell (p := ⟨bs, q, none⟩) (by dsimp only; omega)]; exact hm0); have f5 : ∀ i, w5.frozen? ⟨bs, i, none⟩ = false := (fun i => by rw [(zo B5).2 _ _ (by omega)]; exact fz i)) | (at_builtin; refine wpList_append_own_at _ rfl _ _ 120 rfl (bs + 4) 124 i0 (.agg #[.int .i64 0, .int .i64 0, .int .i64 0]) 3 24 Tryz.underlying120 hi hz0 hz1 hz2 rfl (by decide) _ X.length (cC X) rfl (((HR.out.below B5).marked _ _).alloc _) ⟨_, 0, none⟩ 1 1 [.int .i64 (q : Int), .int .i64 sl, .int .i64 fr] rfl rfl (fun j u hj => by have h9 := zn8 (w5.setCell ⟨bs, q, none⟩ (.bool true)) (.int .i64 (q : Int)) (.int .i64 sl) (.int .i64 fr) 124 j u hj; simpa using h9) (zuh _ _ _) (by unfold maxLen; omega) (by omega) (by simp; omega) ?_))
     intro v' w6 hown hgrow _ hloc
     obtain ⟨R6, K6, O6⟩ := (HR.out.below B5).put hqw HM.out hown hgrow (by simpa using hloc)
     have c6 : w6.cell? ⟨bs + 1 + 1, 0, none⟩ = some (.slice va X.length vc) := by
      have hv := (HR.out.below B5).own
      rw [World.cell?_of_block (w := w5) ((hgrow.block (bs + 1 + 1) (by simp; omega) (fun e => by have := hv _ e.symm; omega)).trans ((((Below.refl _ _).alloc (Nat.le_refl _) _).block _ (by simp; omega)).trans (Below.heap_setCell _ _ _ _ (by dsimp only; omega))))]
      exact p5
     have f6 : w6.frozen? ⟨bs + 1 + 1, 0, none⟩ = false := by
      have hv := (HR.out.below B5).own
      rw [World.frozen?_of_block (w := w5) ((hgrow.block (bs + 1 + 1) (by simp; omega) (fun e => by have := hv _ e.symm; omega)).trans ((((Below.refl _ _).alloc (Nat.le_refl _) _).block _ (by simp; omega)).trans (Below.heap_setCell _ _ _ _ (by dsimp only; omega)))), (zo B5).2 _ _ (by omega)]
      exact fp 0
     obtain ⟨va', vc', rfl⟩ := R6.head
     have el : (X ++ [(q, fr, sl)]).length = X.length + 1 := by simp
     rw [el] at R6 K6 O6
     clear hown hgrow hloc
     go_wp2
     go_end0
     exact ⟨rfl, .slice va' (X.length + 1) vc', by rw [HE.out]; exact R6, (za3.of_below B5).trans K6, (KeepsOthers.of_below B5).trans O6⟩
attribute [local go_sem] Oper.semAt_some
def zb8 (B T : Nat) (ds : List Deferred) (W : World) : Prop :=
 (ds.map fun d => d.target).Nodup /\ ∀ d ∈ ds, ∃ D, d = { target := .collected D, args := #[] } /\ B <= D /\ D < T /\ W.heap[D]? = some (.deferred (some []))
theorem zb8.keep {B T : Nat} {ds : List Deferred} {W W' : World} (h : zb8 B T ds W) (hk : ∀ D, D < T -> W.heap[D]? = some (.deferred (some [])) -> W'.heap[D]? = some (.deferred (some []))) : zb8 B T ds W' :=
 ⟨h.1, fun d hd => by obtain ⟨D, h1, h2, h3, h4⟩ := h.2 d hd; exact ⟨D, h1, h2, h3, hk D h3 h4⟩⟩
theorem zb8.mono {B T T' : Nat} {ds : List Deferred} {W : World} (h : zb8 B T ds W) (hT : T <= T') : zb8 B T' ds W :=
 ⟨h.1, fun d hd => by obtain ⟨D, h1, h2, h3, h4⟩ := h.2 d hd; exact ⟨D, h1, h2, Nat.lt_of_lt_of_le h3 hT, h4⟩⟩
theorem zb8.cons {B T D : Nat} {ds : List Deferred} {W : World} (h : zb8 B T ds W) (hT : T <= D) (hB : B <= D) (hD : W.heap[D]? = some (.deferred (some []))) : zb8 B (D + 1) ({ target := .collected D, args := #[] } :: ds) W := by
 refine ⟨?_, fun d hd => ?_⟩
 · simp only [List.map_cons, List.nodup_cons]
   refine ⟨fun hm => ?_, h.1⟩
   obtain ⟨d, hd, he⟩ := List.mem_map.1 hm
   obtain ⟨D', rfl, _, h3, _⟩ := h.2 d hd
   simp at he
   omega
 · rcases List.mem_cons.1 hd with rfl | hd
   · exact ⟨D, rfl, hB, Nat.lt_succ_self _, hD⟩
   · obtain ⟨D', h1, h2, h3, h4⟩ := h.2 d hd
     exact ⟨D', h1, h2, by omega, h4⟩
theorem zuf {N : Nat} {pre : List (Fin N)} {x : Fin N} (h : pre ++ [x] = (List.finRange N).take (pre ++ [x]).length) : pre = (List.finRange N).take pre.length /\ (x : Nat) = pre.length := by
 have hl : pre.length + 1 <= N := by
  have := congrArg List.length h
  simp at this
  omega
 have hlt : pre.length < N := by omega
 rw [List.length_append, List.length_singleton, zfk hlt] at h
 have h2 := List.append_inj' h rfl
 refine ⟨h2.1, ?_⟩
 have := h2.2
 simp at this
 rw [this]
theorem zh9 {n : Nat} {fn : Func} {tmps : Array Value} {R : Ending -> World -> Prop} {B T : Nat} : ∀ (ds : List Deferred) (W : World), zb8 B T ds W -> (∀ W', Below B W W' -> (∀ (k : Nat) (o : Obj), W.heap[k]? = some o -> o.isCells = true -> W'.heap[k]? = some o) -> LeavesIn Fence.wide n Tryz.prog fn tmps R [] .returning W') -> LeavesInM Fence.wide n Tryz.prog fn tmps R ds .returning W
 | [], W, _, h => h W (Below.refl _ _) (fun _ _ hk _ => hk)
 | d :: ds, W, hm, h => by
   obtain ⟨D, rfl, hB, _, hD⟩ := hm.2 d (List.mem_cons_self ..)
   refine ⟨by simp, .inl ⟨D, _, rfl, run_takeDeferred hD, ?_⟩⟩
   have hg := grownBy_putObj' W D (.deferred none)
   have hnd := hm.1
   simp only [List.map_cons, List.nodup_cons] at hnd
   refine zh9 (B := B) (T := T) ds _ ⟨hnd.2, fun d' hd' => ?_⟩ (fun W' hW' hc => h W' ?_ (fun k o hk ho => hc k o ?_ ho))
   · obtain ⟨D', rfl, hB', hT', hD'⟩ := hm.2 d' (List.mem_cons_of_mem _ hd')
     have hne : D' ≠ D := fun e => hnd.1 (by subst e; exact List.mem_map.2 ⟨_, hd', rfl⟩)
     exact ⟨D', rfl, hB', hT', by rw [hg.block D' (Array.getElem?_eq_some_iff.1 hD').1 (fun e => by cases e; exact hne rfl)]; exact hD'⟩
   · exact (Below.trans ⟨hg.os, hg.tape, hg.output, hg.size, fun k hk => hg.block k (Nat.lt_of_lt_of_le hk (by have := (Array.getElem?_eq_some_iff.1 hD).1; omega)) (fun e => by cases e; omega)⟩ hW')
   · rw [hg.block k (Array.getElem?_eq_some_iff.1 hk).1 (fun e => by cases e; rw [hD] at hk; cases hk; cases ho)]
     exact hk
theorem Rco.box {H bs n : Nat} {w0 w w' : World} {v v' : Value} {X X' : List (Nat × Int × Int)} (h : Rco H bs n w0 w v X) (h' : Rco H bs n w0 w' v' X') (k : za3 bs w w') {ib : Nat} {u : Value} (hb : bs + 4 <= ib) (hc : w.cell? ⟨ib, 0, none⟩ = some u) (hv : v.ownBlock ≠ some ib) : w'.cell? ⟨ib, 0, none⟩ = some u /\ v'.ownBlock ≠ some ib := by
 have h1 : w.cell? ⟨bs + 1 + 1, 0, none⟩ = some v := h.2.2.2.1.cell (i := 0) (by omega)
 have h2 : w'.cell? ⟨bs + 1 + 1, 0, none⟩ = some v' := h'.2.2.2.1.cell (i := 0) (by omega)
 refine ⟨k.cell h1 (by omega) (by omega) hv hc, ?_⟩
 have hl : ib < w.heap.size := World.block_lt_of_cell? _ ⟨ib, 0, none⟩ hc
 obtain ⟨_, _, h3⟩ := k.2 (by rw [h1]; rfl)
 simp only [zfa, h1, h2] at h3
 rcases h3 with e | ⟨x, e, hx⟩
 · rw [e]; exact hv
 · rw [e]; intro e2; simp at e2; omega
def zn7 (W : World) (v : Value) : Nat := match v with
 | .pointer (some p) => (match W.cell? p with
   | some (.int _ i) => i.toNat
   | _ => 0)
 | _ => 0
theorem zp7 {W : World} {p : Addr} {k : IntKind} {i : Int} (h : W.cell? p = some (.int k i)) : zn7 W (.pointer (some p)) = i.toNat := by
 unfold zn7
 simp only [h]
def zwm (mk : Nat -> Int) (ws : List Int) (H bs : Nat) (w0 : World) (p i ib : Nat) (X : List (Nat × Int × Int)) (T : Nat) (ds : List Deferred) (N : Nat) (pre : List (Fin N)) (V : World) : Prop :=
 ∃ v tk, Rco H bs ws.length w0 V v tk /\ zbc mk (plS tk) /\ (pre = (List.finRange N).take pre.length -> tk = zaj ws (zdb ws p) (i : Int) (fun j => (j : Int)) pre.length X) /\ zb8 (bs + 4) T ds V /\ T <= V.heap.size /\ V.cell? ⟨ib, 0, none⟩ = some (.int .i64 (i : Int)) /\ v.ownBlock ≠ some ib
theorem Rco.grown {H bs n : Nat} {w0 w w' : World} {v : Value} {X : List (Nat × Int × Int)} {row : Option Nat} (h : Rco H bs n w0 w v X) (hg : w.grownBy w' row) (hr : ∀ r, row = some r -> bs + 4 <= r /\ ∃ o : Obj, w.heap[r]? = some o /\ o.isCells = false) : Rco H bs n w0 w' v X := by
 have hl := h.lt
 have hne : ∀ k, k < bs + 4 -> some k ≠ row := fun k hk e => by have := (hr k e.symm).1; omega
 have hne2 : v.ownBlock = none \/ v.ownBlock ≠ row := by
  cases e : v.ownBlock with
  | none => exact .inl rfl
  | some k =>
    right
    intro e2
    obtain ⟨_, o, ho, hc⟩ := hr k e2.symm
    rcases h.1.2 with ⟨rfl, _⟩ | ⟨g, cap, cur, rfl, _, hgg, _⟩
    · simp [Value.ownBlock] at e
    · simp [Value.ownBlock] at e; rw [<- e, hgg] at ho; cases ho; cases hc
 obtain ⟨h1, h2, h3, h4, h5, h6⟩ := h
 exact ⟨h1.kept hg hne2, h2.of_block (hg.block _ (by omega) (hne _ (by omega))), by rw [World.cell?_of_block (w := w) (hg.block (bs + 1) (by omega) (hne _ (by omega)))]; exact h3, h4.of_block (hg.block _ (by omega) (hne _ (by omega))), by rw [World.cell?_of_block (w := w) (hg.block (bs + 1 + 1 + 1) hl (hne _ (by omega)))]; exact h5, h6.grown hg (by omega) (fun k hk => by have := (hr k hk).1; omega)⟩
theorem zug {mk : Nat -> Int} {ws : List Int} {H bs : Nat} {w0 : World} {p i ib : Nat} {X : List (Nat × Int × Int)} {T B : Nat} {ds : List Deferred} {N : Nat} (hB : T <= B) (hb : bs + 4 <= B) (hib : ib < B) : OwnFrom B (zwm mk ws H bs w0 p i ib X T ds N) := by
 rintro s W W' row ⟨v, tk, h1, h2, h3, h4, h5, h6, h7⟩ hg hr
 exact ⟨v, tk, h1.grown hg (fun r e => ⟨by have := (hr r e).1; omega, (hr r e).2⟩), h2, h3, h4.keep (fun D hD hk => by rw [hg.block D (Array.getElem?_eq_some_iff.1 hk).1 (fun e => by have := (hr D e.symm).1; omega)]; exact hk), Nat.le_trans h5 hg.size, by rw [World.cell?_of_block (w := W) (hg.block ib (World.block_lt_of_cell? _ ⟨ib, 0, none⟩ h6) (fun e => by have := (hr ib e.symm).1; omega))]; exact h6, h7⟩
set_option maxRecDepth 100000 in
set_option maxHeartbeats 4000000 in
theorem zsc (b off cw : Nat) (ws : List Int) (smz toh top : Int) (cyc : Bool) (sn old cpz sr : Int) (ar : Option Addr) (cr : Nat) (rs : List (Int × Int)) (af : Option Addr) (cf rl : Nat) (z : Nat -> Int) (mk : Nat -> Int) (R : List (Nat × Int × Int)) (w : World) (hb : b < w.heap.size) (hc : ∀ i, i < ws.length -> w.cell? ⟨b, off + i, none⟩ = some (.int .u64 (za ws i))) (hn : ws.length <= 1048576) (hw : zg ws) (hrt : SlF w.heap.size w (.slice af rl cf) rl (2 * rl) (fun i => .int .i64 (z i))) (hn2 : rl <= 24)
 (hro : ∀ k, k < rl -> isR (z (2 * k)) = true -> ∃ mm q : Nat, z (2 * k + 1) = (mm : Int) /\ mm < ws.length /\ zi ws mm = (q : Int) /\ q < ws.length)
 (hK : zbm mk ws cyc sn) (hB : zdh ws 0 (zaj ws (zan z) (-1) (fun j => (j : Int)) rl []) R) (hC : zbc mk (plS (zaj ws (zan z) (-1) (fun j => (j : Int)) rl []))) :
 Calls Tryz.prog 86 #[.agg #[.slice (some ⟨b, off, none⟩) ws.length cw, .int .i64 smz, .int .i64 toh, .int .i64 top, .bool cyc, .int .i64 sn, .int .i64 old, .int .i64 cpz, .int .i64 sr, .slice ar rs.length cr], .slice af rl cf] w fun e w' => ∃ v, e = .returned v /\ w'.ownsRow w.heap.size 124 3 v R.length (cC R) /\ Below w.heap.size w w' := by
 refine (callsIn_wide (n := 4)).1 ?_
 refine callsIn_of_wp_marks Tryz.func86 rfl trivial ?_ rfl
 simp only [Tryz.ntmps86, List.size_toArray, List.length_cons, List.length_nil, Nat.reduceAdd, Nat.reduceSub, Array.replicate_succ, Array.replicate_zero, List.push_toArray, List.append_toArray, List.nil_append, List.cons_append]
 have iaF := Tryz.isAgg153
 have szF := Tryz.sizeOf153
 have hn' : (ws.length : Int) <= 1048576 := by omega
 have hrl' : (rl : Int) <= 24 := by omega
 have hm1 := zlj (ws.length : Int) (by omega) (by omega)
 rw [Int.toNat_natCast] at hm1
 have HC0 : Hid (∀ i, i < ws.length -> w.cell? ⟨b, off + i, none⟩ = some (.int .u64 (za ws i))) := hc
 have HR : Hid (SlF w.heap.size w (.slice af rl cf) rl (2 * rl) (fun i => .int .i64 (z i))) := hrt
 have HRO : Hid (∀ k, k < rl -> isR (z (2 * k)) = true -> ∃ mm q : Nat, z (2 * k + 1) = (mm : Int) /\ mm < ws.length /\ zi ws mm = (q : Int) /\ q < ws.length) := hro
 have HK : Hid (zbm mk ws cyc sn) := hK
 have HB : Hid (zdh ws 0 (zaj ws (zan z) (-1) (fun j => (j : Int)) rl []) R) := hB
 have HCO : Hid (zbc mk (plS (zaj ws (zan z) (-1) (fun j => (j : Int)) rl []))) := hC
 have HCN : Hid (∀ k, ((zaj ws (zan z) (-1) (fun j => (j : Int)) k [])).length <= k) := by
  intro k
  induction k with
  | zero => simp [zaj]
  | succ k ih => exact Nat.le_trans (zse ..) (Nat.succ_le_succ ih)
 obtain ⟨w0, hw0⟩ : ∃ w0, w0 = w.alloc (.cells #[.slice (some ⟨b, off, none⟩) ws.length cw, .int .i64 smz, .int .i64 toh, .int .i64 top, .bool cyc, .int .i64 sn, .int .i64 old, .int .i64 cpz, .int .i64 sr, .slice ar rs.length cr] 30) := ⟨_, rfl⟩
 have B0 : Below w.heap.size w w0 := by rw [hw0]; exact (Below.refl _ _).alloc (Nat.le_refl _) _
 have z0 : w0.heap.size = w.heap.size + 1 := by rw [hw0]; simp
 have ka : ∀ i, w0.cell? ⟨w.heap.size, i, none⟩ = (#[.slice (some ⟨b, off, none⟩) ws.length cw, .int .i64 smz, .int .i64 toh, .int .i64 top, .bool cyc, .int .i64 sn, .int .i64 old, .int .i64 cpz, .int .i64 sr, .slice ar rs.length cr] : Array Value)[i]? := fun i => by rw [hw0]; simp [go_sem]
 obtain ⟨w2, hw2⟩ : ∃ V, V = (((w0.alloc (.cells (madeCells #[.bool false] ws.length) 4)).alloc (.cells #[.slice (some ⟨w.heap.size + 1, 0, none⟩) ws.length ws.length] 75)).alloc (.cells #[.slice none 0 0] 120)).alloc (.cells #[.func (.func 118) #[] #[.pointer (some ⟨w.heap.size, 0, none⟩), .pointer (some ⟨w.heap.size + 1 + 1, 0, none⟩), .pointer (some ⟨w.heap.size + 1 + 1 + 1, 0, none⟩)]] 153) := ⟨_, rfl⟩
 clear hc hrt hro hK hB hC
 gi_wp2_with fail
 rw [<- hw0, <- hw2]
 have z2 : w2.heap.size = w.heap.size + 1 + 4 := by rw [hw2]; simp; omega
 have ST : Rco w.heap.size (w.heap.size + 1) ws.length w0 w2 (.slice none 0 0) [] := by
  have e1 : w2.rowIs (w.heap.size + 1) 4 ws.length (fun i => .bool (decide (i ∈ ([] : List Nat)))) := by
   have h := World.rowIs_made w0 (.bool false) ws.length 4
   rw [z0] at h
   rw [hw2]
   exact (h.of_block (((((Below.refl _ _).alloc (Nat.le_refl _) _).alloc (by simp) _).alloc (by first | (simp; done) | (simp; omega)) _).block _ (by simp [z0]))).congr fun i _ => by simp
  refine ⟨⟨rfl, .inl ⟨rfl, rfl⟩⟩, e1, ?_, ?_, ?_, ?_⟩
  · rw [hw2]; simp [go_sem, z0]
  · rw [hw2]
    refine ⟨#[.slice none 0 0], ?_, rfl, fun i hi => by simp [show i = 0 by omega]⟩
    exact (((Below.refl _ _).alloc (Nat.le_refl _) _).block _ (by simp [z0])).trans (zdn (by simp [z0]))
  · rw [hw2]; simp [go_sem, z0]
  · rw [hw2, <- z0]; exact ((((Below.refl _ _).alloc (Nat.le_refl _) _).alloc (by simp) _).alloc (by simp; omega) _).alloc (by simp; omega) _
 have HST : Hid (Rco w.heap.size (w.heap.size + 1) ws.length w0 w2 (.slice none 0 0) []) := ST
 have hb0 : b < w0.heap.size := by omega
 have HC : Hid (∀ i, i < ws.length -> w0.cell? ⟨b, off + i, none⟩ = some (.int .u64 (za ws i))) := fun i hi => by rw [B0.cell (p := ⟨b, off + i, none⟩) hb]; exact HC0.out i hi
 have HKA : Hid ((∀ i, w0.cell? ⟨w.heap.size, i, none⟩ = (#[.slice (some ⟨b, off, none⟩) ws.length cw, .int .i64 smz, .int .i64 toh, .int .i64 top, .bool cyc, .int .i64 sn, .int .i64 old, .int .i64 cpz, .int .i64 sr, .slice ar rs.length cr] : Array Value)[i]?)) := ka
 have z0' : w0.heap.size <= w.heap.size + 1 /\ w.heap.size + 1 <= w0.heap.size := by omega
 have Z0 : Hid (w0.heap.size = w.heap.size + 1) := z0
 clear hw2 hw0 ST hm1 HC0 ka z0 z2
 gi_loopw [8, 9, 20] (fun _ _ u20 wr => ∃ (k : Nat) (v : Value), k <= rl /\ u20 = .int .i64 k /\ Rco w.heap.size (w.heap.size + 1) ws.length w0 wr v (zaj ws (zan z) (-1) (fun j => (j : Int)) k [])) (fun _ _ u20 _ => rl - (intOf u20).toNat)
 case atStart => exact ⟨0, _, Nat.zero_le _, rfl, HST.out⟩
 case round =>
  obtain ⟨k, v, hk, rfl, hR⟩ := hrel
  have hcl := HCN.out k
  have lr := hR.lt
  by_cases hlt : k < rl
  · have hlt' : (k : Int) < (rl : Int) := by omega
    obtain ⟨br, offr, cap', hv, _, lbr, hcr⟩ := HR.out.parts (k := 0) (by omega)
    simp only [Value.slice.injEq] at hv
    obtain ⟨rfl, _, rfl⟩ := hv
    obtain ⟨t, ht⟩ : ∃ t, t = z (2 * k) := ⟨_, rfl⟩
    obtain ⟨m, hm⟩ : ∃ m, m = z (2 * k + 1) := ⟨_, rfl⟩
    have hBw : Below w.heap.size w wr := B0.trans (hR.2.2.2.2.2.mono (by omega))
    have x0 : wr.cell? ⟨br, offr + k * 2, none⟩ = some (.int .i64 t) := by rw [hBw.cell (p := ⟨br, offr + k * 2, none⟩) lbr, ht, Nat.mul_comm]; exact hcr (2 * k) (by omega)
    have x1 : wr.cell? ⟨br, offr + k * 2 + 1, none⟩ = some (.int .i64 m) := by rw [hBw.cell (p := ⟨br, offr + k * 2 + 1, none⟩) lbr, hm, Nat.mul_comm]; exact hcr (2 * k + 1) (by omega)
    have lbr2 : br < wr.heap.size := Nat.lt_of_lt_of_le lbr hBw.size
    have hrt := HRO.out k hlt
    rw [<- ht, <- hm] at hrt
    obtain ⟨td, htd⟩ : ∃ td, td = (zaj ws (zan z) (-1) (fun j => (j : Int)) k []) := ⟨_, rfl⟩
    have HN : Hid ((zaj ws (zan z) (-1) (fun j => (j : Int)) (k + 1) []) = za7 ws td t m (-1) (k : Int)) := by show _ = _; rw [htd, ht, hm]; rfl
    rw [<- htd] at hR hcl
    have HRr : Hid (Rco w.heap.size (w.heap.size + 1) ws.length w0 wr v td) := hR
    have cf : wr.cell? ⟨w.heap.size + 1 + 1 + 1 + 1, 0, none⟩ = some (.func (.func 118) #[] #[.pointer (some ⟨w.heap.size, 0, none⟩), .pointer (some ⟨w.heap.size + 1 + 1, 0, none⟩), .pointer (some ⟨w.heap.size + 1 + 1 + 1, 0, none⟩)]) := hR.2.2.2.2.1
    have HRT : Hid (isR t = true -> ∃ mm q : Nat, m = (mm : Int) /\ mm < ws.length /\ zi ws mm = (q : Int) /\ q < ws.length) := hrt
    have Bx : Below wr.heap.size wr (wr.alloc (.cells #[.int .i64 t, .int .i64 m] 48)) := (Below.refl _ _).alloc (Nat.le_refl _) _
    clear hR hrt htd ht hm hcr hBw
    refine wpIn_wide.2 ?_
    go_wp2_with (go_at_call 118; refine (zp8 b off cw ws smz toh top cyc sn old cpz sr ar cr rs w.heap.size (w.heap.size + 1) t m (k : Int) (-1) w0 _ v td (HRr.out.below Bx) (by omega) (by omega) HKA.out (by omega) HC.out hn hw (by omega) HRT.out).mono ?_; rintro e w4 ⟨rfl, v', R4, _⟩)
    exact ⟨⟨k + 1, v', by omega, by go_num, by rw [HN.out]; exact R4⟩, by simp [intOf]; omega⟩
  · have hge : (rl : Int) <= (k : Int) := by omega
    have hkk : k = rl := by omega
    have HR0 : Hid (Rco w.heap.size (w.heap.size + 1) ws.length w0 wr v (zaj ws (zan z) (-1) (fun j => (j : Int)) rl [])) := by rw [<- hkk]; exact hR
    clear hkk hR hcl HRO HCN HST
    gi_wp2_with fail
    rename World => wr1
    have HR1 : Hid (Rco w.heap.size (w.heap.size + 1) ws.length w0 (wr1.alloc (.cells #[.int .i64 0] 3)) v (zaj ws (zan z) (-1) (fun j => (j : Int)) rl [])) := HR0.out.below ((Below.refl _ _).alloc (Nat.le_refl _) _)
    have HI1 : Hid (v.ownBlock ≠ some wr1.heap.size) := fun e => by have := (HR0.out.own _ e).2; omega
    refine wpIn_loop (I := fun a W => ∃ (n ib : Nat) (td : List (Nat × Int × Int)) (v : Value) (ds : List Deferred) (j30 j31 j32 j33 j34 j35 j36 j37 j38 j39 j40 j41 j42 j52 : Value), a = { tmps := #[.agg #[.slice (some ⟨b, off, none⟩) ws.length cw, .int .i64 smz, .int .i64 toh, .int .i64 top, .bool cyc, .int .i64 sn, .int .i64 old, .int .i64 cpz, .int .i64 sr, .slice ar rs.length cr], .slice af rl cf, .pointer (some ⟨w.heap.size, 0, none⟩), undef, .slice none 0 0, .pointer (some ⟨w.heap.size + 1 + 1, 0, none⟩), .pointer (some ⟨w.heap.size + 1 + 1 + 1, 0, none⟩), .pointer (some ⟨w.heap.size + 1 + 1 + 1 + 1, 0, none⟩), u8, u9, .pointer (some ⟨ib, 0, none⟩), undef, undef, .pointer (some ⟨w.heap.size, 0, none⟩), .slice (some ⟨b, off, none⟩) ws.length cw, .int .i64 (ws.length : Int), .slice (some ⟨w.heap.size + 1, 0, none⟩) ws.length ws.length, .func (.func 118) #[] #[.pointer (some ⟨w.heap.size, 0, none⟩), .pointer (some ⟨w.heap.size + 1 + 1, 0, none⟩), .pointer (some ⟨w.heap.size + 1 + 1 + 1, 0, none⟩)], .slice af rl cf, .int .i64 (rl : Int), .int .i64 (k : Int), .bool false, u22, u23, u24, u25, u26, u27, u28, u29, j30, j31, j32, j33, j34, j35, j36, j37, j38, j39, j40, j41, j42, undef, undef, undef, undef, undef, undef, undef, undef, undef, j52, undef], defers := ds } /\ n <= td.length /\ zbc mk (plS td) /\ zdh ws n td R /\ Rco w.heap.size (w.heap.size + 1) ws.length w0 W v td /\ zb8 (w.heap.size + 1 + 4) W.heap.size ds W /\ w.heap.size + 1 + 4 <= ib /\ W.cell? ⟨ib, 0, none⟩ = some (.int .i64 (n : Int)) /\ v.ownBlock ≠ some ib) (μ := fun a W => ws.length - zn7 W (a.tmps.getD 10 undef)) ⟨0, _, _, v, [], undef, undef, undef, undef, undef, undef, undef, undef, undef, undef, undef, undef, undef, undef, rfl, Nat.zero_le _, HCO.out, HB.out, HR1.out, ⟨by simp, by simp⟩, by omega, by simp [go_sem], HI1.out⟩ ?_
    clear HR0 HR1 HI1 HB HCO lr
    rintro _ wr ⟨n, ib, td, v, ds, j30, j31, j32, j33, j34, j35, j36, j37, j38, j39, j40, j41, j42, j52, rfl, hnl, hcome, hbfs, hR, hMD, hib, cib, oib⟩
    have hll : td.length <= ws.length := by rw [<- zeq]; exact zdy HK.out hcome
    have hll' : (td.length : Int) <= (ws.length : Int) := by omega
    have lr := hR.lt
    have lib : ib < wr.heap.size := World.block_lt_of_cell? _ ⟨ib, 0, none⟩ cib
    obtain ⟨va, vc, rfl⟩ := hR.head
    have cp : wr.cell? ⟨w.heap.size + 1 + 1 + 1, 0, none⟩ = some (.slice va td.length vc) := hR.2.2.2.1.cell (i := 0) (by omega)
    by_cases hlt : n < td.length
    · have hlt' : (n : Int) < (td.length : Int) := by omega
      obtain ⟨g, cap, hvv, hg1, hg2, hgc0⟩ := zp9 hR.1 hlt
      have hgc := (hgc0 n hlt).1
      simp only [Value.slice.injEq] at hvv
      obtain ⟨rfl, _, rfl⟩ := hvv
      obtain ⟨p, hp⟩ : ∃ p, p = (plS td).getD n 0 := ⟨_, rfl⟩
      rw [<- hp] at hgc
      have hpm : p ∈ plS td := by rw [hp]; simp [zeq, hlt]
      have hobj := hcome.2 p hpm
      have hpl := zf9 HK.out hobj
      obtain ⟨hrd, hin⟩ := HK.out.within p hobj
      have ka : (∀ i, wr.cell? ⟨w.heap.size, i, none⟩ = (#[.slice (some ⟨b, off, none⟩) ws.length cw, .int .i64 smz, .int .i64 toh, .int .i64 top, .bool cyc, .int .i64 sn, .int .i64 old, .int .i64 cpz, .int .i64 sr, .slice ar rs.length cr] : Array Value)[i]?) := ze HKA.out hR.2.2.2.2.2 (by omega)
      have lH : w.heap.size < wr.heap.size := by omega
      have KP : ∀ V, Below wr.heap.size wr V -> (Below wr.heap.size wr V /\ (∀ i, V.cell? ⟨w.heap.size, i, none⟩ = (#[.slice (some ⟨b, off, none⟩) ws.length cw, .int .i64 smz, .int .i64 toh, .int .i64 top, .bool cyc, .int .i64 sn, .int .i64 old, .int .i64 cpz, .int .i64 sr, .slice ar rs.length cr] : Array Value)[i]?) /\ V.cell? ⟨w.heap.size + 1 + 1 + 1, 0, none⟩ = some (.slice (some ⟨g, 0, none⟩) td.length vc) /\ V.cell? ⟨g, n * 3, none⟩ = some (.int .i64 (p : Int)) /\ V.cell? ⟨ib, 0, none⟩ = some (.int .i64 (n : Int))) := fun V hV => ⟨hV, ze ka hV lH, by rw [hV.cell (p := ⟨w.heap.size + 1 + 1 + 1, 0, none⟩) (by dsimp only; omega)]; exact cp, by rw [hV.cell (p := ⟨g, n * 3, none⟩) hg2]; exact hgc, by rw [hV.cell (p := ⟨ib, 0, none⟩) lib]; exact cib⟩
      have b0' := (Below.refl wr.heap.size wr).drew
      have HRr : Hid (Rco w.heap.size (w.heap.size + 1) ws.length w0 wr (.slice (some ⟨g, 0, none⟩) td.length vc) td) := hR
      have HCO : Hid (zbc mk (plS td)) := hcome
      have HBF : Hid (zdh ws n td R) := hbfs
      have HPD : Hid (p = (td.getD n (0, 0, 0)).1) := by show _ = _; rw [hp, zg4]
      have HOB : Hid (zbf mk p) := hobj
      have HMD : Hid (zb8 (w.heap.size + 1 + 4) wr.heap.size ds wr) := hMD
      have HOI : Hid ((Value.slice (some ⟨g, 0, none⟩) td.length vc).ownBlock ≠ some ib) := oib
      clear hR hcome hbfs hp hobj hpm hMD hgc0 oib
      gi_wp2_with fail
      refine wpIn_wide.2 ?_
      clear ka cp hgc
      go_region_held3 (fun V => (Below wr.heap.size wr V /\ (∀ i, V.cell? ⟨w.heap.size, i, none⟩ = (#[.slice (some ⟨b, off, none⟩) ws.length cw, .int .i64 smz, .int .i64 toh, .int .i64 top, .bool cyc, .int .i64 sn, .int .i64 old, .int .i64 cpz, .int .i64 sr, .slice ar rs.length cr] : Array Value)[i]?) /\ V.cell? ⟨w.heap.size + 1 + 1 + 1, 0, none⟩ = some (.slice (some ⟨g, 0, none⟩) td.length vc) /\ V.cell? ⟨g, n * 3, none⟩ = some (.int .i64 (p : Int)) /\ V.cell? ⟨ib, 0, none⟩ = some (.int .i64 (n : Int)))) (first | assumption | exact KP _ b0' | exact KP _ (by assumption) | (refine KP _ ?_; repeat (first | exact b0' | exact Below.refl _ _ | assumption | refine Below.drew ?_ | refine zbd ?_ _))) (first | (go_at_call 121; refine (zj8 _ _ _ _ _ _ _ _ _ _ _ _ _ _ _ _ _).mono ?_; rintro e w' ⟨rfl, rfl⟩))
      obtain ⟨w5, hw5⟩ : ∃ w5, w5 = ((wr.alloc (.cells #[.slice (some ⟨b, off, none⟩) ws.length cw, .int .i64 smz, .int .i64 toh, .int .i64 top, .bool cyc, .int .i64 sn, .int .i64 old, .int .i64 cpz, .int .i64 sr, .slice ar rs.length cr] 30)).alloc (.cells #[.int .i64 (p : Int)] 3)).drew := ⟨_, rfl⟩
      have B5 : Below wr.heap.size wr w5 := by rw [hw5]; exact (((Below.refl _ _).alloc (Nat.le_refl _) _).alloc (by simp) _).drew
      have z5 : wr.heap.size + 1 + 1 <= w5.heap.size := by rw [hw5]; simp
      have ca : ∀ i, w5.cell? ⟨wr.heap.size, i, none⟩ = (#[.slice (some ⟨b, off, none⟩) ws.length cw, .int .i64 smz, .int .i64 toh, .int .i64 top, .bool cyc, .int .i64 sn, .int .i64 old, .int .i64 cpz, .int .i64 sr, .slice ar rs.length cr] : Array Value)[i]? := fun i => by rw [hw5]; simp [go_sem]
      have ct : w5.cell? ⟨wr.heap.size + 1, 0, none⟩ = some (.int .i64 (p : Int)) := by rw [hw5]; simp [go_sem]
      rw [<- hw5]
      have cib5 : Hid (w5.cell? ⟨ib, 0, none⟩ = some (.int .i64 (n : Int))) := (KP _ B5).2.2.2.2
      clear hw5 b0' KP
      have R5 := HRr.out.below B5
      have HR5 : Hid (Rco w.heap.size (w.heap.size + 1) ws.length w0 w5 (.slice (some ⟨g, 0, none⟩) td.length vc) td) := R5
      have M5 : zb8 (w.heap.size + 1 + 4) w5.heap.size ds w5 := (HMD.out.keep (fun D hD hk => by rw [B5.block D hD]; exact hk)).mono B5.size
      have HM5 : Hid (zb8 (w.heap.size + 1 + 4) w5.heap.size ds w5) := M5
      have c5 : w5.cell? ⟨w.heap.size + 1 + 1 + 1, 0, none⟩ = some (.slice (some ⟨g, 0, none⟩) td.length vc) := R5.2.2.2.1.cell (i := 0) (by omega)
      have W5 : Below (w.heap.size + 1) w0 w5 := R5.2.2.2.2.2
      have hk16 : 1 <= rdK (za ws p) /\ rdK (za ws p) <= 6 := by
       have h := of_decide_eq_true (zde hrd)
       omega
      obtain ⟨fF, hmF, hfF, henF⟩ := zj7 hk16.1 hk16.2
      have hS0 := za5 (za ws p)
      have hfg := zwj (rdK (za ws p))
      obtain ⟨N, hN⟩ : ∃ N, N = slN (rdK (za ws p)) (rdS (za ws p)) := ⟨_, rfl⟩
      have HNs : Hid (∀ m : Nat, fs (rdK (za ws p)) + 2 * m < rdS (za ws p) ↔ m < N) := fun m => by rw [hN]; exact zff (zde hrd) m
      have HN : Hid (N = slN (rdK (za ws p)) (rdS (za ws p))) := hN
      have hstops := zn9 (za3 (w.heap.size + 1)) (fun A => za3.refl _ A) (fun A B C h1 h2 => h1.trans h2) 3 (by omega) b off cw ws smz toh top cyc sn old cpz sr ar cr rs wr.heap.size (wr.heap.size + 1) p N fF (rdK (za ws p)) (rdS (za ws p)) (fs (rdK (za ws p))) (zd1 (rdK (za ws p))) w5
       (fun A V b' o u hA hK hb' hc => hK.cell (v := .slice (some ⟨g, 0, none⟩) td.length vc) (by rw [hA.cell (p := ⟨w.heap.size + 1 + 1 + 1, 0, none⟩) (by dsimp only; omega)]; exact c5) (by omega) (by omega) (by simp [Value.ownBlock]; omega) hc)
       (by omega) ca ct (Nat.lt_of_lt_of_le (by omega) W5.size) (fun i hi => by rw [W5.cell (p := ⟨b, off + i, none⟩) (by dsimp only; omega)]; exact HC.out i hi) hn hw hpl rfl rfl hS0.1 (by omega) hfg.1 hfg.2 HNs.out rfl hmF hfF henF
      have hw50 : w.heap.size + 1 + 4 <= w5.heap.size := by have := R5.lt; omega
      clear ca ct c5 R5 M5 hmF hfF henF hN W5
      gi_wp2_with fail
      refine wpIn_rangeFunc_ownF rfl (by omega) (gf := 159) (lb := #[.pointer (some ⟨wr.heap.size, 0, none⟩), .pointer (some ⟨wr.heap.size + 1, 0, none⟩)]) rfl trivial (enters_of Tryz.func159 (by kernel_rfl) rfl) hstops za3.trans (fun W l o o' _ h ho _ => za3.putObj _ W l o o' h ho) (Below.refl _ _) (fun _ => rfl)
       (zwm mk ws w.heap.size (w.heap.size + 1) w0 p n ib td w5.heap.size ds N)
       (fun _ _ _ => False)
       (zug (Nat.le_refl _) hw50 (by omega)) (fun _ _ _ _ _ h _ _ => h)
       ⟨_, td, HR5.out, HCO.out, fun _ => rfl, HM5.out, Nat.le_refl _, cib5.out, HOI.out⟩
       (fun x => { tmps := #[.agg #[.slice (some ⟨b, off, none⟩) ws.length cw, .int .i64 smz, .int .i64 toh, .int .i64 top, .bool cyc, .int .i64 sn, .int .i64 old, .int .i64 cpz, .int .i64 sr, .slice ar rs.length cr], .slice af rl cf, .pointer (some ⟨w.heap.size, 0, none⟩), undef, .slice none 0 0, .pointer (some ⟨w.heap.size + 1 + 1, 0, none⟩), .pointer (some ⟨w.heap.size + 1 + 1 + 1, 0, none⟩), .pointer (some ⟨w.heap.size + 1 + 1 + 1 + 1, 0, none⟩), u8, u9, .pointer (some ⟨ib, 0, none⟩), (.int .i64 ((x : Nat) : Int)), (.int .i64 ((p : Int) + fs (rdK (za ws p)) + 2 * ((x : Nat) : Int))), .pointer (some ⟨w.heap.size, 0, none⟩), .slice (some ⟨b, off, none⟩) ws.length cw, .int .i64 (ws.length : Int), .slice (some ⟨w.heap.size + 1, 0, none⟩) ws.length ws.length, .func (.func 118) #[] #[.pointer (some ⟨w.heap.size, 0, none⟩), .pointer (some ⟨w.heap.size + 1 + 1, 0, none⟩), .pointer (some ⟨w.heap.size + 1 + 1 + 1, 0, none⟩)], .slice af rl cf, .int .i64 (rl : Int), .int .i64 (k : Int), .bool false, u22, u23, u24, u25, u26, u27, u28, u29, .int .i64 (n : Int), .slice (some ⟨g, 0, none⟩) td.length vc, .int .i64 (td.length : Int), .bool true, j34, j35, .agg #[.slice (some ⟨b, off, none⟩) ws.length cw, .int .i64 smz, .int .i64 toh, .int .i64 top, .bool cyc, .int .i64 sn, .int .i64 old, .int .i64 cpz, .int .i64 sr, .slice ar rs.length cr], .slice (some ⟨g, 0, none⟩) td.length vc, .int .i64 (n : Int), .pointer (some ⟨g, n * 3, none⟩), .pointer (some ⟨g, n * 3, none⟩), .int .i64 (p : Int), .func (.func 159) #[] #[.pointer (some ⟨wr.heap.size, 0, none⟩), .pointer (some ⟨wr.heap.size + 1, 0, none⟩)], (.int .i64 ((x : Nat) : Int)), (.int .i64 ((p : Int) + fs (rdK (za ws p)) + 2 * ((x : Nat) : Int))), undef, undef, undef, undef, undef, undef, undef, j52, undef], defers := [] }) ?assign ?body ?done ?stop
      case assign =>
       intro l x W K hK
       gi_wp2
       exact hK
      case body =>
       rintro l pre x V ⟨v', tk, hRV, hCV, hord, hMV, hTV, cib', oib'⟩ hpre
       obtain ⟨va', vc', rfl⟩ := hRV.head
       have hkl : tk.length <= ws.length := by rw [<- zeq]; exact zdy HK.out hCV
       have lV := hRV.lt
       have lib' : ib < V.heap.size := World.block_lt_of_cell? _ ⟨ib, 0, none⟩ cib'
       have hxN : (x : Nat) < slN (rdK (za ws p)) (rdS (za ws p)) := by rw [<- HN.out]; exact x.2
       obtain ⟨x1, x2⟩ := zn4 hrd hxN
       obtain ⟨X, hX⟩ : ∃ X, X = zc4 ws p x := ⟨_, rfl⟩
       rw [<- hX] at x1 x2
       have hX1 : X + 1 < ws.length := by omega
       have hXY : (p : Int) + fs (rdK (za ws p)) + 2 * ((x : Nat) : Int) = (X : Int) := by rw [hX]; unfold zc4; omega
       obtain ⟨t, ht⟩ : ∃ t, t = rvT ws X := ⟨_, rfl⟩
       obtain ⟨m, hm⟩ : ∃ m, m = rvN ws X := ⟨_, rfl⟩
       have hleads : isR t = true -> ∃ mm q : Nat, m = (mm : Int) /\ mm < ws.length /\ zi ws mm = (q : Int) /\ q < ws.length := fun hr => by
        have ho := (HK.out.objs p hpl HOB.out).1 x hxN
        have ho1 : zcn ws X = true := by rw [hX]; exact ho.1
        have ho2 := ho.2.1
        have hmp : 0 < m := by rw [hm]; exact zgz hw ho1 (by rw [<- ht]; exact hr)
        have hl2 := ho2 (by show isR (rvT ws (zc4 ws p x)) = true; rw [<- hX, <- ht]; exact hr)
        have hm' : rvN ws (p + (fs (rdK (za ws p)) + 2 * ((x : Nat) : Int)).toNat) = m := by rw [hm, hX]; rfl
        rw [hm'] at hl2
        obtain ⟨u1, u2, _⟩ := hl2
        have hmm := HK.out.marks m.toNat (by omega) (zb6 u2)
        exact ⟨m.toNat, (zi ws m.toNat).toNat, by omega, by omega, by omega, by omega⟩
       have HLD : Hid (isR t = true -> ∃ mm q : Nat, m = (mm : Int) /\ mm < ws.length /\ zi ws mm = (q : Int) /\ q < ws.length) := hleads
       have HCM : Hid (zbc mk (plS (za7 ws tk t m (n : Int) ((x : Nat) : Int)))) := by
        show zbc mk _
        rw [zlm]
        exact zkj hCV (fun hr => by
         have := ze9 HK.out HOB.out hpl x hxN (by show isR (rvT ws (zc4 ws p x)) = true; rw [<- hX, <- ht]; exact hr)
         have e : (zdb ws p x).2 = m := by show rvN ws (zc4 ws p x) = m; rw [<- hX, <- hm]
         rw [e] at this
         exact this)
       have HOR : Hid (pre ++ [x] = (List.finRange N).take (pre ++ [x]).length -> za7 ws tk t m (n : Int) ((x : Nat) : Int) = zaj ws (zdb ws p) (n : Int) (fun j => (j : Int)) (pre ++ [x]).length td) := fun h => by
        obtain ⟨h1, h2⟩ := zuf h
        rw [hord h1, List.length_append, List.length_singleton]
        show _ = za7 ws (zaj ws (zdb ws p) (n : Int) (fun j => (j : Int)) pre.length td) (rvT ws (zc4 ws p pre.length)) (rvN ws (zc4 ws p pre.length)) (n : Int) ((pre.length : Nat) : Int)
        rw [<- h2, <- hX, <- ht, <- hm]
       have HSA : Hid (∀ W, Below V.heap.size V W -> Calls Tryz.prog 122 #[.agg #[.slice (some ⟨b, off, none⟩) ws.length cw, .int .i64 smz, .int .i64 toh, .int .i64 top, .bool cyc, .int .i64 sn, .int .i64 old, .int .i64 cpz, .int .i64 sr, .slice ar rs.length cr], .int .i64 ((p : Int) + fs (rdK (za ws p)) + 2 * ((x : Nat) : Int))] W fun e w' => e = .returned (.agg #[.int .i64 t, .int .i64 m]) /\ Below W.heap.size W w') := fun W hW => by
        rw [ht, hm]
        have hB : Below (w.heap.size + 1) w0 W := hRV.2.2.2.2.2.trans (hW.mono (by omega))
        exact zgg _ _ _ _ _ _ _ _ _ _ _ _ _ _ _ X _ hXY (zcq (by have := hB.size; omega) (fun i hi => by rw [hB.cell (p := ⟨b, off + i, none⟩) (by dsimp only; omega)]; exact HC.out i hi)) hn hw hX1
       have cV := hRV.2.2.2.2.1
       have kaV : (∀ i, V.cell? ⟨w.heap.size, i, none⟩ = (#[.slice (some ⟨b, off, none⟩) ws.length cw, .int .i64 smz, .int .i64 toh, .int .i64 top, .bool cyc, .int .i64 sn, .int .i64 old, .int .i64 cpz, .int .i64 sr, .slice ar rs.length cr] : Array Value)[i]?) := ze HKA.out hRV.2.2.2.2.2 (by omega)
       have KV : ∀ V', za3 (w.heap.size + 1) V V' -> KeepsOthers V V' -> Below V.heap.size V V' -> (za3 (w.heap.size + 1) V V' /\ KeepsOthers V V' /\ V'.cell? ⟨w.heap.size + 1 + 1 + 1 + 1, 0, none⟩ = some (.func (.func 118) #[] #[.pointer (some ⟨w.heap.size, 0, none⟩), .pointer (some ⟨w.heap.size + 1 + 1, 0, none⟩), .pointer (some ⟨w.heap.size + 1 + 1 + 1, 0, none⟩)]) /\ (∀ i, V'.cell? ⟨w.heap.size, i, none⟩ = (#[.slice (some ⟨b, off, none⟩) ws.length cw, .int .i64 smz, .int .i64 toh, .int .i64 top, .bool cyc, .int .i64 sn, .int .i64 old, .int .i64 cpz, .int .i64 sr, .slice ar rs.length cr] : Array Value)[i]?) /\ V'.cell? ⟨ib, 0, none⟩ = some (.int .i64 (n : Int))) := fun V' h1 h2 h3 => ⟨h1, h2, by rw [h3.cell (p := ⟨w.heap.size + 1 + 1 + 1 + 1, 0, none⟩) (by dsimp only; omega)]; exact cV, ze kaV h3 (by omega), by rw [h3.cell (p := ⟨ib, 0, none⟩) lib']; exact cib'⟩
       have HRV : Hid (Rco w.heap.size (w.heap.size + 1) ws.length w0 V (.slice va' tk.length vc') tk) := hRV
       have HMV : Hid (zb8 (w.heap.size + 1 + 4) w5.heap.size ds V) := hMV
       have HCI : Hid (V.cell? ⟨ib, 0, none⟩ = some (.int .i64 (n : Int))) := cib'
       have HOI' : Hid ((Value.slice va' tk.length vc').ownBlock ≠ some ib) := oib'
       have KV0 := KV V.drew (za3.of_below (Below.refl _ _).drew) (KeepsOthers.of_below (Below.refl _ _).drew) (Below.refl _ _).drew
       obtain ⟨v', hv'⟩ : ∃ z, z = Value.slice va' tk.length vc' := ⟨_, rfl⟩
       rw [<- hv'] at HRV HOI'
       clear hRV hCV hord hMV hXY hX ht hm hleads hstops x1 x2 cV kaV hv' cib' oib'
       gi_wp2_with fail
       refine zkm (S := fun V' => (za3 (w.heap.size + 1) V V' /\ KeepsOthers V V' /\ V'.cell? ⟨w.heap.size + 1 + 1 + 1 + 1, 0, none⟩ = some (.func (.func 118) #[] #[.pointer (some ⟨w.heap.size, 0, none⟩), .pointer (some ⟨w.heap.size + 1 + 1, 0, none⟩), .pointer (some ⟨w.heap.size + 1 + 1 + 1, 0, none⟩)]) /\ (∀ i, V'.cell? ⟨w.heap.size, i, none⟩ = (#[.slice (some ⟨b, off, none⟩) ws.length cw, .int .i64 smz, .int .i64 toh, .int .i64 top, .bool cyc, .int .i64 sn, .int .i64 old, .int .i64 cpz, .int .i64 sr, .slice ar rs.length cr] : Array Value)[i]?) /\ V'.cell? ⟨ib, 0, none⟩ = some (.int .i64 (n : Int)))) (by kernel_rfl) (by kernel_rfl) (by rintro ⟨_, _, h⟩; exact h) KV0 (fun hHeld => ?_)
       refine wpAnyH_take (i := 0) (oi := { dst := some 45, op := _, type := _, pos := _, after := _, guard := _ }) (v := .func (.func 118) #[] #[.pointer (some ⟨w.heap.size, 0, none⟩), .pointer (some ⟨w.heap.size + 1 + 1, 0, none⟩), .pointer (some ⟨w.heap.size + 1 + 1 + 1, 0, none⟩)]) rfl (by kernel_rfl) (by kernel_rfl) (by kernel_rfl) (fun _ _ _ h => h) (Or.inl ⟨by kernel_rfl, ?_⟩) hHeld ?_
       · intro w hSw
         (try dsimp only at hSw)
         go_simp
       try simp only [Act.put, zyd, zye, zyf]
       refine wpAnyH_take (i := 1) (oi := { dst := some 46, op := _, type := _, pos := _, after := _, guard := _ }) (v := .agg #[.slice (some ⟨b, off, none⟩) ws.length cw, .int .i64 smz, .int .i64 toh, .int .i64 top, .bool cyc, .int .i64 sn, .int .i64 old, .int .i64 cpz, .int .i64 sr, .slice ar rs.length cr]) rfl (by kernel_rfl) (by kernel_rfl) (by kernel_rfl) (fun _ _ _ h => h) (Or.inl ⟨by kernel_rfl, ?_⟩) hHeld ?_
       · intro w hSw
         (try dsimp only at hSw)
         go_simp
       try simp only [Act.put, zyd, zye, zyf]
       refine wpAnyH_take (i := 2) (oi := { dst := some 47, op := _, type := _, pos := _, after := _, guard := _ }) (v := (.int .i64 ((p : Int) + fs (rdK (za ws p)) + 2 * ((x : Nat) : Int)))) rfl (by kernel_rfl) (by kernel_rfl) (by kernel_rfl) (fun _ _ _ h => h) (Or.inl ⟨by kernel_rfl, ?_⟩) hHeld ?_
       · intro w hSw
         (try dsimp only at hSw)
         go_simp
       try simp only [Act.put, zyd, zye, zyf]
       refine wpAnyH_take (i := 4) (oi := { dst := some 49, op := _, type := _, pos := _, after := _, guard := _ }) (v := (.int .i64 ((x : Nat) : Int))) rfl (by kernel_rfl) (by kernel_rfl) (by kernel_rfl) (fun _ _ _ h => h) (Or.inl ⟨by kernel_rfl, ?_⟩) hHeld ?_
       · intro w hSw
         (try dsimp only at hSw)
         go_simp
       try simp only [Act.put, zyd, zye, zyf]
       refine wpAnyH_take (i := 5) (oi := { dst := some 50, op := _, type := _, pos := _, after := _, guard := _ }) (v := .int .i64 (n : Int)) rfl (by kernel_rfl) (by kernel_rfl) (by kernel_rfl) (fun _ _ _ h => h) (Or.inl ⟨by kernel_rfl, ?_⟩) hHeld ?_
       · intro w hSw
         (try dsimp only at hSw)
         go_simp
       try simp only [Act.put, zyd, zye, zyf]
       refine wpAnyH_ready (rs := [3]) (by kernel_rfl) (by simp) ?_
       refine AllReadyH.cons (o := { dst := some 48, op := _, type := _, pos := _, after := _, guard := _ }) rfl (fun K hK => ?_) AllReadyH.nil
       go_simp
       go_at_call 122
       refine (HSA.out _ (Below.refl _ _).drew).mono ?_
       rintro e w7 ⟨rfl, b7⟩
       have B7 : Below V.heap.size V w7 := zc (Below.refl _ _).drew b7
       clear b7
       clear hHeld
       refine hK.out _ _ (KV _ (za3.of_below B7) (KeepsOthers.of_below B7) B7) (fun hHeld => ?_)
       clear hK K
       try simp only [Act.put, zyd, zye, zyf]
       refine wpAnyH_ready (rs := [6]) (by kernel_rfl) (by simp) ?_
       refine AllReadyH.cons (o := { dst := some 51, op := _, type := _, pos := _, after := _, guard := _ }) rfl (fun K hK => ?_) AllReadyH.nil
       go_simp
       go_at_call 118
       refine (zp8 b off cw ws smz toh top cyc sn old cpz sr ar cr rs w.heap.size (w.heap.size + 1) t m ((x : Nat) : Int) (n : Int) w0 _ v' tk (HRV.out.below B7) (by omega) (by omega) HKA.out (by omega) HC.out hn hw (by omega) HLD.out).mono ?_
       rintro e w8 ⟨rfl, v8, R8, K8, O8⟩
       have K9 := (za3.of_below B7).trans K8
       have O9 := (KeepsOthers.of_below B7).trans O8
       have bx8 := HRV.out.box R8 K9 hib HCI.out HOI'.out
       clear hHeld
       refine hK.out _ _ (⟨K9, O9, R8.2.2.2.2.1, ze HKA.out R8.2.2.2.2.2 (by omega), bx8.1⟩) (fun hHeld => ?_)
       clear hK K
       try simp only [Act.put, zyd, zye, zyf]
       refine wpAnyH_done (by kernel_rfl) ?_ _
       gi_wp2_with fail
       refine ⟨O9, K9, v8, _, R8, HCM.out, HOR.out, HMV.out.keep (fun D hD hk => O9.same D _ hk rfl), Nat.le_trans hTV K9.1, bx8.1, bx8.2⟩
      case done =>
       rintro D ys V hD rfl ⟨v', tk, hRV, hCV, hord, hMV, hTV, cib', oib'⟩ hK
       have htk : tk = zaj ws (zdb ws p) (n : Int) (fun j => (j : Int)) N td := by
        have := hord (by rw [List.take_of_length_le (by simp)])
        simpa using this
       have hgo : tk = zl9 ws p n td := by rw [htk, HN.out]; rfl
       have HGO : Hid (zdh ws (n + 1) tk R) := by
        have := HBF.out.step hlt hll
        rw [<- HPD.out] at this
        rw [hgo]
        exact this
       have HLE : Hid (n + 1 <= tk.length) := by
        obtain ⟨l, hl⟩ := zhj ws (zdb ws p) (n : Int) (fun j => (j : Int)) N td
        show _ <= _
        rw [htk, hl, List.length_append]
        omega
       have HRV : Hid (Rco w.heap.size (w.heap.size + 1) ws.length w0 V v' tk) := hRV
       have HCV : Hid (zbc mk (plS tk)) := hCV
       have hDl : D < V.heap.size := (Array.getElem?_eq_some_iff.1 hK).1
       have HMV : Hid (zb8 (w.heap.size + 1 + 4) V.heap.size ({ target := .collected D, args := #[] } :: ds) V) := (hMV.cons hD (by omega) hK).mono (by omega)
       have HKB : Hid (w.heap.size + 1 + 4 <= V.heap.size) := Nat.le_trans hw50 (Nat.le_trans hTV (Nat.le_refl _))
       clear hRV hCV hord hMV htk hgo hK hstops oib'
       gi_wp2
       have BV : Below V.heap.size V (V.alloc (.cells #[.int .i64 ((n : Int) + 1)] 3)) := (Below.refl _ _).alloc (Nat.le_refl _) _
       have cn : (V.alloc (.cells #[.int .i64 ((n : Int) + 1)] 3)).cell? ⟨V.heap.size, 0, none⟩ = some (.int .i64 ((n : Int) + 1)) := by simp [go_sem]
       refine ⟨⟨n + 1, V.heap.size, tk, v', _, _, _, _, _, _, _, _, _, _, _, _, _, _, _, by first | rfl | go_num, HLE.out, HCV.out, HGO.out, HRV.out.below BV, (HMV.out.keep fun D' hD' hk => by rw [BV.block D' hD']; exact hk).mono BV.size, HKB.out, by rw [cn]; go_num, fun e => by have := (HRV.out.own _ e).2; omega⟩, ?_⟩
       have m1 := zp7 cn
       have m2 := zp7 cib
       show ws.length - zn7 _ _ < ws.length - zn7 _ _
       simp only [Array.getD_eq_getD_getElem?] at m1 m2 ⊢
       first | (rw [show _ = _ from m1, show _ = _ from m2]; omega) | (simp [m1, m2]; omega)
      case stop =>
       rintro D c pre V hD hpre h hK
       exact h.elim
    · have hge : (td.length : Int) <= (n : Int) := by omega
      have hRR : R = td := hbfs.done hlt
      have HRR : Hid (R = td) := hRR
      have HRr : Hid (Rco w.heap.size (w.heap.size + 1) ws.length w0 wr (.slice va td.length vc) td) := hR
      have HMD : Hid (zb8 (w.heap.size + 1 + 4) wr.heap.size ds wr) := hMD
      have HBw : Hid (Below w.heap.size w wr) := B0.trans (hR.2.2.2.2.2.mono (by omega))
      clear hRR hR hMD hbfs hcome oib
      gi_wp2_with fail
      refine zh9 (B := w.heap.size + 1 + 4) ds wr HMD.out (fun W' hW' hcc => ?_)
      have HO : W'.ownsRow (w.heap.size + 1 + 4) 124 3 (.slice va td.length vc) td.length (cC td) := by
       refine ⟨HRr.out.1.1, ?_⟩
       rcases HRr.out.1.2 with h | ⟨g, cap, cur, h1, h2, h3, h4⟩
       · exact .inl h
       · exact .inr ⟨g, cap, cur, h1, h2, hcc g _ h3 rfl, h4⟩
      have hlw := HRr.out.lt
      refine ⟨.slice va td.length vc, by simp [results, Tryz.results86, go_sem], _, rfl, ?_, HBw.out.trans (hW'.mono (by omega))⟩
      rw [HRR.out]
      exact zul HO (by omega)
open Go.RowKit Go.Maps
def plI (X : List (Nat × Int × Int)) : List Int := (plS X).map fun (p : Nat) => (p : Int)
theorem zp6 (X : List (Nat × Int × Int)) : (plI X).length = X.length := by simp [plI, zeq]
theorem zv6 (X : List (Nat × Int × Int)) {k : Nat} (h : k < X.length) : plI (X.take (k + 1)) = plI (X.take k) ++ [(((plS X).getD k 0 : Nat) : Int)] := by
 rw [List.take_succ_eq_append_getElem h]
 unfold plI
 rw [zhi, List.map_append, zg4]
 simp [h]
theorem zw6 (X : List (Nat × Int × Int)) (i : Nat) (h : i < X.length) : (plI X).getD i 0 = (((plS X).getD i 0 : Nat) : Int) := by
 unfold plI
 have : i < (plS X).length := by rw [zeq]; exact h
 simp [this]
set_option maxHeartbeats 4000000 in
theorem zsb (b off cw : Nat) (ws : List Int) (smz toh top : Int) (cyc : Bool) (sn old cpz sr : Int) (ar : Option Addr) (cr : Nat) (rs : List (Int × Int)) (af : Option Addr) (cf rl : Nat) (z : Nat -> Int) (mk : Nat -> Int) (R : List (Nat × Int × Int)) (w : World) (hb : b < w.heap.size) (hc : ∀ i, i < ws.length -> w.cell? ⟨b, off + i, none⟩ = some (.int .u64 (za ws i))) (hn : ws.length <= 1048576) (hw : zg ws) (hrt : SlF w.heap.size w (.slice af rl cf) rl (2 * rl) (fun i => .int .i64 (z i))) (hn2 : rl <= 24) (hro : ∀ k, k < rl -> isR (z (2 * k)) = true -> ∃ mm q : Nat, z (2 * k + 1) = (mm : Int) /\ mm < ws.length /\ zi ws mm = (q : Int) /\ q < ws.length) (hK : zbm mk ws cyc sn) (hB : zdh ws 0 (zaj ws (zan z) (-1) (fun j => (j : Int)) rl []) R) (hC : zbc mk (plS (zaj ws (zan z) (-1) (fun j => (j : Int)) rl []))) (hCR : zbc mk (plS R)) :
 Calls Tryz.prog 50 #[(.agg #[.slice (some ⟨b, off, none⟩) ws.length cw, .int .i64 smz, .int .i64 toh, .int .i64 top, .bool cyc, .int .i64 sn, .int .i64 old, .int .i64 cpz, .int .i64 sr, .slice ar rs.length cr]), .slice af rl cf] w fun e w' => ∃ v, e = .returned v /\ zaz w.heap.size w'.heap.size 3 w' v R.length R.length (fun i => .int .i64 (((plS R).getD i 0 : Nat) : Int)) /\ Below w.heap.size w w' := by
 obtain ⟨i0, hi, hz0, hz1', hz2⟩ := info_parts zge
 have HC0 : Hid (∀ i, i < ws.length -> w.cell? ⟨b, off + i, none⟩ = some (.int .u64 (za ws i))) := hc
 have HR : Hid (SlF w.heap.size w (.slice af rl cf) rl (2 * rl) (fun i => .int .i64 (z i))) := hrt
 have hRl : R.length <= ws.length := by rw [<- zeq]; exact zdy hK hCR
 have hRl' : (R.length : Int) <= 1048576 := by omega
 obtain ⟨w0, hw0⟩ : ∃ V, V = w.alloc (.cells #[.slice (some ⟨b, off, none⟩) ws.length cw, .int .i64 smz, .int .i64 toh, .int .i64 top, .bool cyc, .int .i64 sn, .int .i64 old, .int .i64 cpz, .int .i64 sr, .slice ar rs.length cr] 30) := ⟨_, rfl⟩
 have B0 : Below w.heap.size w w0 := by rw [hw0]; exact (Below.refl _ _).alloc (Nat.le_refl _) _
 have k0 : ∀ i, w0.cell? ⟨w.heap.size, i, none⟩ = (#[.slice (some ⟨b, off, none⟩) ws.length cw, .int .i64 smz, .int .i64 toh, .int .i64 top, .bool cyc, .int .i64 sn, .int .i64 old, .int .i64 cpz, .int .i64 sr, .slice ar rs.length cr] : Array Value)[i]? := fun i => by rw [hw0]; simp [go_sem]
 have z0 : w.heap.size < w0.heap.size := by rw [hw0]; simp
 have HCM : Hid (Calls Tryz.prog 86 #[(.agg #[.slice (some ⟨b, off, none⟩) ws.length cw, .int .i64 smz, .int .i64 toh, .int .i64 top, .bool cyc, .int .i64 sn, .int .i64 old, .int .i64 cpz, .int .i64 sr, .slice ar rs.length cr]), .slice af rl cf] w0 fun e w' => ∃ v, e = .returned v /\ w'.ownsRow w0.heap.size 124 3 v R.length (cC R) /\ Below w0.heap.size w0 w') := zsc b off cw ws smz toh top cyc sn old cpz sr ar cr rs af cf rl z mk R w0 (by omega) (fun i hi => by rw [B0.cell (p := ⟨b, off + i, none⟩) hb]; exact HC0.out i hi) hn hw ((HR.out.below B0 (Nat.le_refl _)).here) hn2 hro hK hB hC
 clear hc hrt hro hK hB hC
 go_enter Tryz.func50, Tryz.ntmps50
 go_upto_region 2 with fail
 rw [<- hw0]
 clear hw0
 go_wp2_with fail
 refine HCM.out.mono ?_
 rintro e w1 ⟨v1, rfl, o1, b1⟩
 have B1 : Hid (Below w.heap.size w w1) := zc B0 b1
 have z1 : w.heap.size <= w1.heap.size := B1.out.size
 have O1 : Hid (w1.ownsRow w0.heap.size 124 3 v1 R.length (cC R)) := o1
 obtain ⟨a1, c1, rfl⟩ := zqa o1
 clear o1 b1 B0 k0 z0 HCM HR HC0
 go_wp2_with fail
 go_loopw [5, 7, 12] (fun u5 _ u12 wr => ∃ (k : Nat) (u : Value), k <= R.length /\ u = u5 /\ u12 = .int .i64 k /\ IR w1.heap.size wr u (plI (R.take k)) /\ Below w1.heap.size w1 wr) (fun _ _ u12 _ => R.length - (intOf u12).toNat)
 case atStart => exact ⟨0, _, Nat.zero_le _, rfl, rfl, IR.nil _ _, Below.refl _ _⟩
 case round =>
  obtain ⟨k, u, hk, rfl, rfl, hU, hF⟩ := hrel
  by_cases hlt : k < R.length
  · have hlt' : (k : Int) < (R.length : Int) := by omega
    obtain ⟨g, cap, hv, _, lg, hgc⟩ := zp9 O1.out hlt
    simp only [Value.slice.injEq] at hv
    obtain ⟨rfl, _, rfl⟩ := hv
    obtain ⟨c0, c1', c2⟩ := hgc k hlt
    obtain ⟨p, hp⟩ : ∃ p, p = (plS R).getD k 0 := ⟨_, rfl⟩
    have HT : Hid (plI (R.take (k + 1)) = plI (R.take k) ++ [(p : Int)]) := by show _ = _; rw [zv6 R hlt, hp]
    have hl : (plI (R.take k)).length = k := by rw [zp6, List.length_take]; omega
    have x0 : wr.cell? ⟨g, k * 3, none⟩ = some (.int .i64 (p : Int)) := by rw [hF.cell (p := ⟨g, k * 3, none⟩) lg, hp]; exact c0
    have x1 : wr.cell? ⟨g, k * 3 + 1, none⟩ = some (.int .i64 (R.getD k (0, 0, 0)).2.2) := by rw [hF.cell (p := ⟨g, k * 3 + 1, none⟩) lg]; exact c1'
    have x2 : wr.cell? ⟨g, k * 3 + 2, none⟩ = some (.int .i64 (R.getD k (0, 0, 0)).2.1) := by rw [hF.cell (p := ⟨g, k * 3 + 2, none⟩) lg]; exact c2
    generalize (R.getD k (0, 0, 0)).2.2 = q1 at x1
    generalize (R.getD k (0, 0, 0)).2.1 = q2 at x2
    obtain ⟨xs, hxs⟩ : ∃ xs, xs = plI (R.take k) := ⟨_, rfl⟩
    rw [<- hxs] at hU HT hl
    have zr : w1.heap.size <= wr.heap.size := hF.size
    obtain ⟨wb, hwb⟩ : ∃ V, V = wr.alloc (.cells #[.int .i64 (p : Int), .int .i64 q1, .int .i64 q2] 124) := ⟨_, rfl⟩
    have Bb : Below wr.heap.size wr wb := by rw [hwb]; exact (Below.refl _ _).alloc (Nat.le_refl _) _
    have y0 : wb.cell? ⟨wr.heap.size, 0, none⟩ = some (.int .i64 (p : Int)) := by rw [hwb]; simp [go_sem]
    have Ub : IR w1.heap.size wb u xs := hU.below Bb
    have HFb : Hid (Below w1.heap.size w1 wb) := hF.trans (Bb.mono zr)
    have HUb : Hid (IR w1.heap.size wb u xs) := Ub
    have a1 : (wb.alloc (.cells #[.int .i64 (p : Int)] 3)).ownsRow w1.heap.size 3 1 u k (icl xs) := by have := IR.alloc Ub (.cells #[.int .i64 (p : Int)] 3); unfold IR at this; rw [hl] at this; exact this
    have zb : w1.heap.size <= wb.heap.size := HFb.out.size
    clear hp hgc c0 c1' c2 hU hF hxs Ub
    go_upto_region 5 with fail
    rw [<- hwb]
    clear hwb x0 x1 x2 Bb
    go_wp2_with (at_builtin; refine wpList_append_own _ rfl _ _ 64 rfl w1.heap.size 3 i0 (.int .i64 0) 1 8 Tryz.underlying64 hi hz0 hz1' hz2 rfl (by decide) u k (icl xs) rfl a1 ⟨wb.heap.size, 0, none⟩ 1 1 [.int .i64 (p : Int)] rfl rfl (cell_one_new _ _ _) (ints_oneCell .i64 [(p : Int)]) (by unfold maxLen; omega) (by omega) (by simp; omega) ?_)
    intro v3 w3 hown hgrow hnil
    have I3 : Hid (IR w1.heap.size w3 v3 (plI (R.take (k + 1)))) := by
     show IR _ _ _ _
     rw [HT.out]
     unfold IR
     rw [zoa, List.length_append, hl]
     exact hown
    have B3 : Hid (Below w1.heap.size w1 w3) := (HFb.out.alloc zb _).grown hgrow (by simp; omega) (fun g hg => (World.ownsRow.lt HUb.out g hg).1)
    clear hown hgrow hnil a1 HUb HFb
    go_wp2
    go_roundw
    case rel => exact ⟨k + 1, _, by omega, rfl, by go_num, I3.out, B3.out⟩
    case measure => simp [intOf]; omega
  · have hge : (R.length : Int) <= (k : Int) := by omega
    obtain rfl : k = R.length := by omega
    rw [List.take_length] at hU
    have HOW : Hid (zaz w.heap.size wr.heap.size 3 wr u R.length R.length (fun i => .int .i64 (((plS R).getD i 0 : Nat) : Int))) := by
     have h := zxw (hU.mono z1)
     rw [zp6] at h
     exact h.congr fun i hi => by rw [zw6 R i hi]
    have BW : Hid (Below w.heap.size w wr) := B1.out.trans (hF.mono z1)
    clear hU hF
    go_wp2
    go_ret
    exact ⟨_, rfl, HOW.out, BW.out⟩
end Go.Proofs.YtmckcnmlhgpnhaaGreat
