/- - -/
import Derived.Test.YtmckcnmlhgpnhaaGreatPCpC
import Derived.Test.YtmckcnmlhgpnhaaGreatPHeadS
namespace Go.Proofs.YtmckcnmlhgpnhaaGreat
set_option maxRecDepth 20000
open Go.RowKit Go.Maps
set_option linter.unusedSimpArgs false
set_option linter.unusedVariables false
theorem zt7 : (Tryz.prog.info? 4).map (fun i => (i.zero, i.size, i.bytes)) = some (some (.bool false), 1, 1) := by kernel_rfl
theorem zjr (l : Int) (h0 : 0 <= l) (h1 : l <= 1048576) (w : World) : (Instr.makeSlice 75 (.int .i64 l) (.int .i64 l)).run Tryz.prog w = .ok (.slice (some ⟨w.heap.size, 0, none⟩) l.toNat l.toNat) (w.alloc (.cells (madeCells #[.bool false] l.toNat) 4)) := by
 obtain ⟨i, hi, hzz⟩ := Option.map_eq_some_iff.1 zt7
 simp only [Prod.mk.injEq] at hzz
 obtain ⟨hz, hs, hb⟩ := hzz
 have := run_make (P := Tryz.prog) w 75 4 i _ Tryz.underlying75 hi hz .i64 .i64 l l h0 (Int.le_refl _) (by rw [hb]; omega) (by omega)
 rw [hs, Nat.mul_one] at this
 exact this
def Rst (bs n : Nat) (w0 w : World) (v : Value) (todo : List Nat) : Prop :=
 w.ownsRow (bs + 1) 3 1 v todo.length (zez todo) /\ w.rowIs bs 4 n (fun i => .bool (decide (i ∈ todo))) /\ Below bs w0 w
theorem Rst.lt {bs n : Nat} {w0 w : World} {v : Value} {todo : List Nat} (h : Rst bs n w0 w v todo) : bs < w.heap.size := h.2.1.lt
theorem Rst.below {bs n : Nat} {w0 w w' : World} {v : Value} {todo : List Nat} (h : Rst bs n w0 w v todo) (hb : Below w.heap.size w w') : Rst bs n w0 w' v todo :=
 ⟨World.ownsRow.kept h.1 (row := none) ⟨hb.os, hb.tape, hb.output, hb.size, fun k hk _ => hb.block k hk⟩ (by cases v.ownBlock <;> simp), h.2.1.of_block (hb.block _ h.lt), h.2.2.trans (hb.mono (Nat.le_of_lt h.lt))⟩
theorem Rst.marked {bs n : Nat} {w0 w : World} {v : Value} {todo : List Nat} (h : Rst bs n w0 w v todo) (p : Nat) (u : Value) : (w.setCell ⟨bs, p, none⟩ u).ownsRow (bs + 1) 3 1 v todo.length (zez todo) := by
 have hb := (Below.refl bs w).setCell (p := ⟨bs, p, none⟩) (Nat.le_refl _) u
 refine World.ownsRow.kept h.1 (row := some bs) ⟨hb.os, hb.tape, hb.output, hb.size, fun k _ hk => Below.heap_setCell _ _ _ _ (fun e => hk (by rw [e]))⟩ ?_
 rcases h.1.2 with ⟨rfl, _⟩ | ⟨g, cap, cur, rfl, hb, _⟩
 · exact .inl rfl
 · right
   simp [Value.ownBlock]
   omega
theorem Rst.put {bs n : Nat} {w0 w w' : World} {v v' : Value} {todo : List Nat} {o : Obj} (h : Rst bs n w0 w v todo) {p : Nat} (hp : p < n) (hn : p ∉ todo) (hown : w'.ownsRow (bs + 1) 3 1 v' (todo.length + 1) (zez todo ++ [.int .i64 (p : Int)])) (hg : ((w.setCell ⟨bs, p, none⟩ (.bool true)).alloc o).grownBy w' v.ownBlock) : Rst bs n w0 w' v' (todo ++ [p]) := by
 have hl := h.lt
 have hv : ∀ k, v.ownBlock = some k -> bs + 1 <= k := fun k hk => by
  rcases h.1.2 with ⟨rfl, _⟩ | ⟨g, cap, cur, rfl, hb, _⟩
  · simp [Value.ownBlock] at hk
  · simp [Value.ownBlock] at hk
    omega
 refine ⟨by simpa [zez] using hown, ?_, ?_⟩
 · have h1 : ((w.setCell ⟨bs, p, none⟩ (.bool true)).alloc o).rowIs bs 4 n (fun i => .bool (decide (i ∈ todo ++ [p]))) := by
    refine World.rowIs.of_block (w := w.setCell ⟨bs, p, none⟩ (.bool true)) ((h.2.1.set p (.bool true)).congr fun i hi => ?_) (((Below.refl _ _).alloc (Nat.le_refl _) _).block _ (by simpa using hl))
    by_cases e : i = p
    · subst e; simp
    · simp [e]
   exact h1.of_block (hg.block _ (by simp; omega) (fun e => by have := hv bs e.symm; omega))
 · exact ((h.2.2.setCell (p := ⟨bs, p, none⟩) (Nat.le_refl _) (.bool true)).alloc (by simp; omega) o).grown hg (by simp; omega) (fun k hk => by have := hv k hk; omega)
theorem Rst.item {bs n : Nat} {w0 w : World} {v : Value} {todo : List Nat} (h : Rst bs n w0 w v todo) {i : Nat} (hi : i < todo.length) : ∃ g cap, v = .slice (some ⟨g, 0, none⟩) todo.length cap /\ bs + 1 <= g /\ g < w.heap.size /\ w.cell? ⟨g, i, none⟩ = some (.int .i64 ((todo.getD i 0 : Nat) : Int)) := by
 obtain ⟨a, cap, rfl, hh⟩ := zhz h.1
 rcases hh with h0 | ⟨b, M, g, rfl, hB, hT, hm, hrow, hg⟩
 · omega
 · exact ⟨b, cap, rfl, hB, hT, by rw [hrow.cell (by omega), hg i hi]⟩
theorem Rst.head {bs n : Nat} {w0 w : World} {v : Value} {todo : List Nat} (h : Rst bs n w0 w v todo) : ∃ a cap, v = .slice a todo.length cap := by
 obtain ⟨a, cap, rfl, _⟩ := zhz h.1
 exact ⟨a, cap, rfl⟩
theorem zkq {ws : List Int} {todo : List Nat} {t m : Int} (h : isR t = false) : zbd ws todo t m = todo := by simp [zbd, h]
theorem zkr {ws : List Int} {todo : List Nat} {t m : Int} {q : Nat} (hq : (zh ws m.toNat).toNat = q) (hm : q ∈ todo) : zbd ws todo t m = todo := by
 unfold zbd
 rw [hq]
 split <;> simp [hm]
theorem zjs {ws : List Int} {todo : List Nat} {t m : Int} {q : Nat} (hr : isR t = true) (hq : (zh ws m.toNat).toNat = q) (hm : q ∉ todo) : zbd ws todo t m = todo ++ [q] := by
 unfold zbd
 rw [hq, if_pos hr, if_neg hm]
def SlR (bs : Nat) (asl : Option Addr) (N : Nat) (kk : Int) (w : World) (v : Value) : Prop :=
 N = 0 \/ ∃ b M gg, asl = some ⟨b, 0, none⟩ /\ N <= M /\ w.rowIs b 3 M gg /\ (∀ i, i < N -> gg i = .int .i64 (fs kk + 2 * (i : Int))) /\ bs < b /\ v.ownBlock ≠ some b
theorem SlR.below {bs : Nat} {asl : Option Addr} {N : Nat} {kk : Int} {w w' : World} {v : Value} (h : SlR bs asl N kk w v) (hb : Below w.heap.size w w') : SlR bs asl N kk w' v := by
 rcases h with h | ⟨b, M, gg, h1, h2, h3, h4, h5, h6⟩
 · exact .inl h
 · exact .inr ⟨b, M, gg, h1, h2, h3.of_block (hb.block _ h3.lt), h4, h5, h6⟩
theorem SlR.put {bs : Nat} {asl : Option Addr} {N : Nat} {kk : Int} {w w' : World} {v v' : Value} {p : Nat} {o : Obj} (h : SlR bs asl N kk w v) (hg : ((w.setCell ⟨bs, p, none⟩ (.bool true)).alloc o).grownBy w' v.ownBlock) (hl : v'.ownBlock = v.ownBlock \/ v'.ownBlock = some ((w.setCell ⟨bs, p, none⟩ (.bool true)).alloc o).heap.size) : SlR bs asl N kk w' v' := by
 rcases h with h | ⟨b, M, gg, h1, h2, h3, h4, h5, h6⟩
 · exact .inl h
 · have hlt := h3.lt
   refine .inr ⟨b, M, gg, h1, h2, ?_, h4, h5, ?_⟩
   · have e1 : ((w.setCell ⟨bs, p, none⟩ (.bool true)).alloc o).rowIs b 3 M gg := World.rowIs.of_block (w := w.setCell ⟨bs, p, none⟩ (.bool true)) (h3.setOther (a := ⟨bs, p, none⟩) (by dsimp only; omega) _) (((Below.refl _ _).alloc (Nat.le_refl _) _).block _ (by simpa using hlt))
     exact e1.of_block (hg.block _ (by simp; omega) (fun e => h6 e.symm))
   · rcases hl with g | g
     · rw [g]; exact h6
     · rw [g]
       intro e
       simp at e
       omega
theorem zks {ws : List Int} {p j : Nat} (hr : zac (za ws p) = true) (hj : j < slN (rdK (za ws p)) (rdS (za ws p))) : p < zcp ws p j /\ zcp ws p j + 1 <= p + (rdS (za ws p)).toNat := by
 have h1 := (zew (zc3 hr) j).2 hj
 have h2 := ziw (rdK (za ws p))
 have h3 := zaw (za ws p)
 unfold zcp
 omega
theorem zr1 {td l : List Nat} {n : Nat} (h : n < td.length) : (td ++ l).getD n 0 = td.getD n 0 := by simp [List.getElem?_append_left h]
def plS (X : List (Nat × Int × Int)) : List Nat := X.map fun x => x.1
theorem zed (X : List (Nat × Int × Int)) : (plS X).length = X.length := by simp [plS]
theorem zgg (X : List (Nat × Int × Int)) (i : Nat) : (plS X).getD i 0 = (X.getD i (0, 0, 0)).1 := by
 unfold plS
 by_cases h : i < X.length
 · simp [h]
 · simp [Nat.le_of_not_lt h]
theorem zgu (X : List (Nat × Int × Int)) (x : Nat × Int × Int) : plS (X ++ [x]) = plS X ++ [x.1] := by simp [plS]
def zay (ws : List Int) (X : List (Nat × Int × Int)) (t m fr sl : Int) : List (Nat × Int × Int) :=
 if isR t = true then (if (zh ws m.toNat).toNat ∈ plS X then X else X ++ [((zh ws m.toNat).toNat, fr, sl)]) else X
theorem zj7 (ws : List Int) (X : List (Nat × Int × Int)) (t m fr sl : Int) : plS (zay ws X t m fr sl) = zbd ws (plS X) t m := by
 unfold zay zbd
 split
 · split
   · rfl
   · rw [zgu]
 · rfl
theorem zpz (ws : List Int) (X : List (Nat × Int × Int)) (t m fr sl : Int) : ∃ l, zay ws X t m fr sl = X ++ l := by
 unfold zay
 split
 · split
   · exact ⟨[], by simp⟩
   · exact ⟨_, rfl⟩
 · exact ⟨[], by simp⟩
theorem zp0 (ws : List Int) (X : List (Nat × Int × Int)) (t m fr sl : Int) : (zay ws X t m fr sl).length <= X.length + 1 := by
 unfold zay
 split
 · split
   · omega
   · simp
 · omega
theorem zrv {ws : List Int} {X : List (Nat × Int × Int)} {t m fr sl : Int} (h : isR t = false) : zay ws X t m fr sl = X := by simp [zay, h]
theorem zrw {ws : List Int} {X : List (Nat × Int × Int)} {t m fr sl : Int} {q : Nat} (hq : (zh ws m.toNat).toNat = q) (hm : q ∈ plS X) : zay ws X t m fr sl = X := by
 unfold zay
 rw [hq]
 split <;> simp [hm]
theorem zp1 {ws : List Int} {X : List (Nat × Int × Int)} {t m fr sl : Int} {q : Nat} (hr : isR t = true) (hq : (zh ws m.toNat).toNat = q) (hm : q ∉ plS X) : zay ws X t m fr sl = X ++ [(q, fr, sl)] := by
 unfold zay
 rw [hq, if_pos hr, if_neg hm]
def zad (ws : List Int) (f : Nat -> Int × Int) (fr : Int) (sl : Nat -> Int) : Nat -> List (Nat × Int × Int) -> List (Nat × Int × Int)
 | 0, X => X
 | k + 1, X => zay ws (zad ws f fr sl k X) (f k).1 (f k).2 fr (sl k)
theorem ze0 (ws : List Int) (f : Nat -> Int × Int) (fr : Int) (sl : Nat -> Int) : ∀ (k : Nat) (X : List (Nat × Int × Int)), plS (zad ws f fr sl k X) = zbe ws f k (plS X)
 | 0, X => rfl
 | k + 1, X => by
   show plS (zay _ _ _ _ _ _) = zbd _ _ _ _
   rw [zj7, ze0 ws f fr sl k X]
theorem zgv (ws : List Int) (f : Nat -> Int × Int) (fr : Int) (sl : Nat -> Int) : ∀ (k : Nat) (X : List (Nat × Int × Int)), ∃ l, zad ws f fr sl k X = X ++ l
 | 0, X => ⟨[], by simp [zad]⟩
 | k + 1, X => by
   obtain ⟨l, hl⟩ := zgv ws f fr sl k X
   obtain ⟨l2, hl2⟩ := zpz ws (zad ws f fr sl k X) (f k).1 (f k).2 fr (sl k)
   exact ⟨l ++ l2, by show zay ws (zad ws f fr sl k X) (f k).1 (f k).2 fr (sl k) = _; rw [hl2, hl]; simp⟩
def zkp (ws : List Int) (p : Nat) (i : Nat) (X : List (Nat × Int × Int)) : List (Nat × Int × Int) := zad ws (zcy ws p) (i : Int) (fun j => (j : Int)) (slN (rdK (za ws p)) (rdS (za ws p))) X
theorem zs7 (ws : List Int) (p i : Nat) (X : List (Nat × Int × Int)) : plS (zkp ws p i X) = zfd ws p (plS X) := ze0 ..
def zhd (ws : List Int) : Nat -> Nat -> List (Nat × Int × Int) -> List (Nat × Int × Int)
 | 0, _, X => X
 | d + 1, i, X => if i < X.length then zhd ws d (i + 1) (zkp ws (X.getD i (0, 0, 0)).1 i X) else X
def zc6 (ws : List Int) (i : Nat) (X R : List (Nat × Int × Int)) : Prop := zhd ws (ws.length - i) i X = R
theorem zc6.done {ws : List Int} {i : Nat} {X R : List (Nat × Int × Int)} (h : zc6 ws i X R) (hi : ¬ i < X.length) : R = X := by
 unfold zc6 at h
 cases hd : ws.length - i with
 | zero => rw [hd] at h; exact h.symm
 | succ d => rw [hd] at h; simp only [zhd, if_neg hi] at h; exact h.symm
theorem zc6.step {ws : List Int} {i : Nat} {X R : List (Nat × Int × Int)} (h : zc6 ws i X R) (hi : i < X.length) (hl : X.length <= ws.length) : zc6 ws (i + 1) (zkp ws (X.getD i (0, 0, 0)).1 i X) R := by
 unfold zc6 at h ⊢
 obtain ⟨d, hd⟩ : ∃ d, ws.length - i = d + 1 := ⟨ws.length - i - 1, by omega⟩
 rw [hd] at h
 simp only [zhd, if_pos hi] at h
 rw [show ws.length - (i + 1) = d by omega]
 exact h
theorem zjp (ws : List Int) : ∀ (d i : Nat) (X : List (Nat × Int × Int)), plS (zhd ws d i X) = bfs ws d i (plS X)
 | 0, _, _ => rfl
 | d + 1, i, X => by
   simp only [zhd, bfs, zed]
   split
   · rw [zjp ws d (i + 1), zs7, zgg]
   · rfl
def c3 (X : List (Nat × Int × Int)) : List Value := X.flatMap fun x => [.int .i64 (x.1 : Int), .int .i64 x.2.1, .int .i64 x.2.2]
theorem ztx (X : List (Nat × Int × Int)) (x : Nat × Int × Int) : c3 (X ++ [x]) = c3 X ++ [.int .i64 (x.1 : Int), .int .i64 x.2.1, .int .i64 x.2.2] := by simp [c3]
theorem ztl : ∀ (X : List (Nat × Int × Int)) (i : Nat), i < X.length -> (c3 X)[i * 3]? = some (.int .i64 ((X.getD i (0, 0, 0)).1 : Int)) /\ (c3 X)[i * 3 + 1]? = some (.int .i64 (X.getD i (0, 0, 0)).2.1) /\ (c3 X)[i * 3 + 2]? = some (.int .i64 (X.getD i (0, 0, 0)).2.2)
 | [], i, h => by simp at h
 | x :: X, 0, h => ⟨rfl, rfl, rfl⟩
 | x :: X, i + 1, h => by
   have ih := ztl X i (by simp only [List.length_cons] at h; omega)
   have e : c3 (x :: X) = .int .i64 (x.1 : Int) :: .int .i64 x.2.1 :: .int .i64 x.2.2 :: c3 X := rfl
   rw [e, show (i + 1) * 3 = i * 3 + 1 + 1 + 1 by omega]
   exact ⟨ih.1, ih.2.1, ih.2.2⟩
def zel (bs n : Nat) (w0 w : World) (v : Value) (X : List (Nat × Int × Int)) : Prop :=
 w.ownsRow (bs + 1) 117 3 v X.length (c3 X) /\ w.rowIs bs 4 n (fun i => .bool (decide (i ∈ plS X))) /\ Below bs w0 w
theorem zel.lt {bs n : Nat} {w0 w : World} {v : Value} {X : List (Nat × Int × Int)} (h : zel bs n w0 w v X) : bs < w.heap.size := h.2.1.lt
theorem zel.below {bs n : Nat} {w0 w w' : World} {v : Value} {X : List (Nat × Int × Int)} (h : zel bs n w0 w v X) (hb : Below w.heap.size w w') : zel bs n w0 w' v X :=
 ⟨World.ownsRow.kept h.1 (row := none) ⟨hb.os, hb.tape, hb.output, hb.size, fun k hk _ => hb.block k hk⟩ (by cases v.ownBlock <;> simp), h.2.1.of_block (hb.block _ h.lt), h.2.2.trans (hb.mono (Nat.le_of_lt h.lt))⟩
theorem zel.marked {bs n : Nat} {w0 w : World} {v : Value} {X : List (Nat × Int × Int)} (h : zel bs n w0 w v X) (p : Nat) (u : Value) : (w.setCell ⟨bs, p, none⟩ u).ownsRow (bs + 1) 117 3 v X.length (c3 X) := by
 have hb := (Below.refl bs w).setCell (p := ⟨bs, p, none⟩) (Nat.le_refl _) u
 refine World.ownsRow.kept h.1 (row := some bs) ⟨hb.os, hb.tape, hb.output, hb.size, fun k _ hk => Below.heap_setCell _ _ _ _ (fun e => hk (by rw [e]))⟩ ?_
 rcases h.1.2 with ⟨rfl, _⟩ | ⟨g, cap, cur, rfl, hb, _⟩
 · exact .inl rfl
 · right
   simp [Value.ownBlock]
   omega
theorem zel.put {bs n : Nat} {w0 w w' : World} {v v' : Value} {X : List (Nat × Int × Int)} {o : Obj} (h : zel bs n w0 w v X) {p : Nat} {fr sl : Int} (hp : p < n) (hn : p ∉ plS X) (hown : w'.ownsRow (bs + 1) 117 3 v' (X.length + 1) (c3 X ++ [.int .i64 (p : Int), .int .i64 fr, .int .i64 sl])) (hg : ((w.setCell ⟨bs, p, none⟩ (.bool true)).alloc o).grownBy w' v.ownBlock) : zel bs n w0 w' v' (X ++ [(p, fr, sl)]) := by
 have hl := h.lt
 have hv : ∀ k, v.ownBlock = some k -> bs + 1 <= k := fun k hk => by
  rcases h.1.2 with ⟨rfl, _⟩ | ⟨g, cap, cur, rfl, hb, _⟩
  · simp [Value.ownBlock] at hk
  · simp [Value.ownBlock] at hk
    omega
 refine ⟨by rw [ztx]; simpa using hown, ?_, ?_⟩
 · have h1 : ((w.setCell ⟨bs, p, none⟩ (.bool true)).alloc o).rowIs bs 4 n (fun i => .bool (decide (i ∈ plS (X ++ [(p, fr, sl)])))) := by
    refine World.rowIs.of_block (w := w.setCell ⟨bs, p, none⟩ (.bool true)) ((h.2.1.set p (.bool true)).congr fun i hi => ?_) (((Below.refl _ _).alloc (Nat.le_refl _) _).block _ (by simpa using hl))
    rw [zgu]
    by_cases e : i = p
    · subst e; simp
    · simp [e]
   exact h1.of_block (hg.block _ (by simp; omega) (fun e => by have := hv bs e.symm; omega))
 · exact ((h.2.2.setCell (p := ⟨bs, p, none⟩) (Nat.le_refl _) (.bool true)).alloc (by simp; omega) o).grown hg (by simp; omega) (fun k hk => by have := hv k hk; omega)
theorem zel.item {bs n : Nat} {w0 w : World} {v : Value} {X : List (Nat × Int × Int)} (h : zel bs n w0 w v X) {i : Nat} (hi : i < X.length) : ∃ g cap, v = .slice (some ⟨g, 0, none⟩) X.length cap /\ bs + 1 <= g /\ g < w.heap.size /\ w.cell? ⟨g, i * 3, none⟩ = some (.int .i64 (((plS X).getD i 0 : Nat) : Int)) := by
 obtain ⟨h1, h2⟩ := h.1
 rcases h2 with ⟨_, h0⟩ | ⟨g, cap, cur, rfl, hg, hc, hn, hcap, hs, hx⟩
 · omega
 · have lg : g < w.heap.size := (Array.getElem?_eq_some_iff.1 hc).1
   refine ⟨g, cap, rfl, hg, lg, ?_⟩
   rw [h.1.cellAt (i * 3) (by omega), (ztl X i hi).1, zgg]
theorem zel.head {bs n : Nat} {w0 w : World} {v : Value} {X : List (Nat × Int × Int)} (h : zel bs n w0 w v X) : ∃ a cap, v = .slice a X.length cap := by
 rcases h.1.2 with ⟨rfl, h0⟩ | ⟨g, cap, cur, rfl, _⟩
 · exact ⟨none, 0, by rw [h0]⟩
 · exact ⟨_, _, rfl⟩
end Go.Proofs.YtmckcnmlhgpnhaaGreat
