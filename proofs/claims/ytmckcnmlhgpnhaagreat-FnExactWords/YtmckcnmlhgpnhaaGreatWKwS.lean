/- - -/
import Derived.Test.YtmckcnmlhgpnhaaGreatWLookS
namespace Go.Proofs.YtmckcnmlhgpnhaaGreat
set_option maxRecDepth 20000
open Go.RowKit
set_option linter.unusedSimpArgs false
set_option linter.unusedVariables false
def zbo (ws : List Int) (todo : List Nat) (t m : Int) : List Nat :=
 if isR t = true then (if (zi ws m.toNat).toNat ∈ todo then todo else todo ++ [(zi ws m.toNat).toNat]) else todo
def zbj (ws : List Int) (f : Nat -> Int × Int) : Nat -> List Nat -> List Nat
 | 0, todo => todo
 | k + 1, todo => zbo ws (zbj ws f k todo) (f k).1 (f k).2
def zc4 (ws : List Int) (p j : Nat) : Nat := p + (fs (rdK (za ws p)) + 2 * (j : Int)).toNat
def zdb (ws : List Int) (p : Nat) (j : Nat) : Int × Int := (rvT ws (zc4 ws p j), rvN ws (zc4 ws p j))
def zf8 (ws : List Int) (p : Nat) (todo : List Nat) : List Nat := zbj ws (zdb ws p) (slN (rdK (za ws p)) (rdS (za ws p))) todo
def bfs (ws : List Int) : Nat -> Nat -> List Nat -> List Nat
 | 0, _, todo => todo
 | d + 1, i, todo => if i < todo.length then bfs ws d (i + 1) (zf8 ws (todo.getD i 0) todo) else todo
def Bfs (ws : List Int) (i : Nat) (todo R : List Nat) : Prop := bfs ws (ws.length - i) i todo = R
theorem Bfs.done {ws : List Int} {i : Nat} {todo R : List Nat} (h : Bfs ws i todo R) (hi : ¬ i < todo.length) : R = todo := by
 unfold Bfs at h
 cases hd : ws.length - i with
 | zero => rw [hd] at h; exact h.symm
 | succ d => rw [hd] at h; simp only [bfs, if_neg hi] at h; exact h.symm
theorem Bfs.step {ws : List Int} {i : Nat} {todo R : List Nat} (h : Bfs ws i todo R) (hi : i < todo.length) (hl : todo.length <= ws.length) : Bfs ws (i + 1) (zf8 ws (todo.getD i 0) todo) R := by
 unfold Bfs at h ⊢
 obtain ⟨d, hd⟩ : ∃ d, ws.length - i = d + 1 := ⟨ws.length - i - 1, by omega⟩
 rw [hd] at h
 simp only [bfs, if_pos hi] at h
 rw [show ws.length - (i + 1) = d by omega]
 exact h
theorem zn5 {n : Nat} : ∀ {l : List Nat}, l.Nodup -> (∀ x ∈ l, x < n) -> l.length <= n := by
 induction n with
 | zero =>
   intro l _ h
   cases l with
   | nil => simp
   | cons x l => exact absurd (h x (by simp)) (by omega)
 | succ n ih =>
   intro l hn h
   by_cases hm : n ∈ l
   · have h1 := List.length_erase_of_mem hm
     have h2 : (l.erase n).length <= n := ih (hn.erase n) (fun x hx => by
      have h3 := (List.Nodup.mem_erase_iff hn).1 hx
      have h4 := h x h3.2
      have := h3.1
      omega)
     have h5 : 0 < l.length := List.length_pos_of_mem hm
     omega
   · have := ih hn (fun x hx => by
      have h4 := h x hx
      have : x ≠ n := fun e => hm (e ▸ hx)
      omega)
     omega
def zbc (mk : Nat -> Int) (todo : List Nat) : Prop := todo.Nodup /\ ∀ p ∈ todo, zbf mk p
theorem zkj {mk : Nat -> Int} {ws : List Int} {todo : List Nat} {t m : Int} (h : zbc mk todo) (hv : isR t = true -> zbf mk (zi ws m.toNat).toNat) : zbc mk (zbo ws todo t m) := by
 unfold zbo
 split
 · rename_i hr
   split
   · exact h
   · rename_i hm
     refine ⟨List.nodup_append.2 ⟨h.1, by simp, fun a ha b hb => ?_⟩, fun p hp => ?_⟩
     · simp at hb
       subst hb
       exact fun e => hm (e ▸ ha)
     · rcases List.mem_append.1 hp with hp | hp
       · exact h.2 p hp
       · simp at hp
         subst hp
         exact hv hr
 · exact h
theorem zed {mk : Nat -> Int} {ws : List Int} {f : Nat -> Int × Int} : ∀ (k : Nat) {todo : List Nat}, zbc mk todo -> (∀ j, j < k -> isR (f j).1 = true -> zbf mk (zi ws (f j).2.toNat).toNat) -> zbc mk (zbj ws f k todo)
 | 0, _, h, _ => h
 | k + 1, _, h, hv => zkj (zed k h fun j hj => hv j (by omega)) (hv k (by omega))
theorem zue (ws : List Int) (todo : List Nat) (t m : Int) : ∃ l, zbo ws todo t m = todo ++ l := by
 unfold zbo
 split
 · split
   · exact ⟨[], by simp⟩
   · exact ⟨_, rfl⟩
 · exact ⟨[], by simp⟩
theorem zh8 (ws : List Int) (f : Nat -> Int × Int) : ∀ (k : Nat) (todo : List Nat), ∃ l, zbj ws f k todo = todo ++ l
 | 0, todo => ⟨[], by simp [zbj]⟩
 | k + 1, todo => by
   obtain ⟨l, hl⟩ := zh8 ws f k todo
   obtain ⟨l2, hl2⟩ := zue ws (zbj ws f k todo) (f k).1 (f k).2
   exact ⟨l ++ l2, by show zbo ws (zbj ws f k todo) (f k).1 (f k).2 = _; rw [hl2, hl]; simp⟩
theorem ze9 {mk : Nat -> Int} {ws : List Int} {cyc : Bool} {sn : Int} (h : zbm mk ws cyc sn) {p : Nat} (hp : zbf mk p) (hpn : p < ws.length) : ∀ j, j < slN (rdK (za ws p)) (rdS (za ws p)) -> isR (zdb ws p j).1 = true -> zbf mk (zi ws (zdb ws p j).2.toNat).toNat := fun j hj hr => by
 have ho := (h.objs p hpn hp).1 j hj
 have hl := ho.2.1 hr
 exact h.leads _ (zb6 hl.2.1)
theorem zf9 {mk : Nat -> Int} {ws : List Int} {cyc : Bool} {sn : Int} (h : zbm mk ws cyc sn) {p : Nat} (hp : zbf mk p) : p < ws.length := by
 have := (h.within p hp).2
 omega
theorem zl5 {mk : Nat -> Int} {ws : List Int} {cyc : Bool} {sn : Int} (h : zbm mk ws cyc sn) {p : Nat} (hp : zbf mk p) {todo : List Nat} (ht : zbc mk todo) : zbc mk (zf8 ws p todo) :=
 zed _ ht (ze9 h hp (zf9 h hp))
theorem zjl {mk : Nat -> Int} {ws : List Int} {cyc : Bool} {sn : Int} (h : zbm mk ws cyc sn) : ∀ (d i : Nat) {todo : List Nat}, zbc mk todo -> zbc mk (bfs ws d i todo)
 | 0, _, _, ht => ht
 | d + 1, i, todo, ht => by
   simp only [bfs]
   split
   · rename_i hlt
     exact zjl h d (i + 1) (zl5 h (ht.2 _ (by simp [hlt])) ht)
   · exact ht
theorem zdy {mk : Nat -> Int} {ws : List Int} {cyc : Bool} {sn : Int} (h : zbm mk ws cyc sn) {todo : List Nat} (ht : zbc mk todo) : todo.length <= ws.length := zn5 ht.1 (fun x hx => zf9 h (ht.2 x hx))
def zcd (ws : List Int) (l : List Nat) : Int := l.foldl (fun s p => s + rdS (za ws p) + 1) 0
theorem zll (ws : List Int) (l : List Nat) (p : Nat) : zcd ws (l ++ [p]) = zcd ws l + rdS (za ws p) + 1 := by simp [zcd]
theorem zkk (ws : List Int) (l : List Nat) : 0 <= zcd ws l /\ zcd ws l <= 257 * l.length := by
 have h : ∀ (l : List Nat) (s : Int), 0 <= s -> 0 <= l.foldl (fun s p => s + rdS (za ws p) + 1) s /\ l.foldl (fun s p => s + rdS (za ws p) + 1) s <= s + 257 * l.length := by
  intro l
  induction l with
  | nil => intro s hs; simp; exact hs
  | cons p l ih =>
    intro s hs
    have := za5 (za ws p)
    have h2 := ih (s + rdS (za ws p) + 1) (by omega)
    simp only [List.foldl_cons, List.length_cons]
    refine ⟨h2.1, ?_⟩
    have := h2.2
    push_cast
    omega
 have := h l 0 (by omega)
 unfold zcd
 omega
theorem zn6 {ws : List Int} {smz toh top : Int} {cyc : Bool} {sn old cpz sr : Int} {y : Nat -> Int} {rl : Nat} (hok : zdc ws smz toh top cyc sn old cpz sr y rl) :
 ∃ mk, zbm mk ws cyc sn /\ ∀ i, i < rl -> isR (y (2 * i)) = true -> zbf mk (zi ws (y (2 * i + 1)).toNat).toNat := by
 obtain ⟨s0, s1, hl, t0, t1, hrl, h1, h2, hold⟩ := zdi hok.1
 obtain ⟨g1, g2, g3, g4, g5⟩ := zd7 s0 s1 hl t0 t1 h1 h2
 obtain ⟨L, O, ht, _, hobj, _, hroots⟩ := hok.2
 have hlaid := zp5 hok (S := (toh * smz + 1).toNat) (T := top.toNat) (F := ((1 - toh) * smz + 1).toNat) (by omega) (by omega) (by omega) ht
 have hk := ht.known hlaid.Tn hlaid.On hlaid.ap hobj
 refine ⟨mk2 ws L O, hk, fun i hi hr => ?_⟩
 obtain ⟨_, _, hlead⟩ := hroots i hi
 exact hk.leads _ (zb6 (hlead hr).2.1)
def zan (y : Nat -> Int) (i : Nat) : Int × Int := (y (2 * i), y (2 * i + 1))
theorem zsa {ws : List Int} {smz toh top : Int} {cyc : Bool} {sn old cpz sr : Int} {y : Nat -> Int} {rl : Nat} (hok : zdc ws smz toh top cyc sn old cpz sr y rl) :
 ∃ mk R, zbm mk ws cyc sn /\ Bfs ws 0 (zbj ws (zan y) rl []) R /\ zbc mk R /\ zbc mk (zbj ws (zan y) rl []) := by
 obtain ⟨mk, hk, hr⟩ := zn6 hok
 have hc := zed (mk := mk) (ws := ws) (f := zan y) rl (todo := []) ⟨by simp, by simp⟩ hr
 exact ⟨mk, _, hk, rfl, zjl hk _ 0 hc, hc⟩
open Go.RowKit Go.Maps
theorem zxu : (Tryz.prog.info? 4).map (fun i => (i.zero, i.size, i.bytes)) = some (some (.bool false), 1, 1) := by kernel_rfl
theorem zlj (l : Int) (h0 : 0 <= l) (h1 : l <= 1048576) (w : World) : (Instr.makeSlice 75 (.int .i64 l) (.int .i64 l)).run Tryz.prog w = .ok (.slice (some ⟨w.heap.size, 0, none⟩) l.toNat l.toNat) (w.alloc (.cells (madeCells #[.bool false] l.toNat) 4)) := by
 obtain ⟨i, hi, hzz⟩ := Option.map_eq_some_iff.1 zxu
 simp only [Prod.mk.injEq] at hzz
 obtain ⟨hz, hs, hb⟩ := hzz
 have := run_make (P := Tryz.prog) w 75 4 i _ Tryz.underlying75 hi hz .i64 .i64 l l h0 (Int.le_refl _) (by rw [hb]; omega) (by omega)
 rw [hs, Nat.mul_one] at this
 exact this
def Rst (bs n : Nat) (w0 w : World) (v : Value) (todo : List Nat) : Prop :=
 w.ownsRow (bs + 1) 3 1 v todo.length (zfi todo) /\ w.rowIs bs 4 n (fun i => .bool (decide (i ∈ todo))) /\ Below bs w0 w
theorem Rst.lt {bs n : Nat} {w0 w : World} {v : Value} {todo : List Nat} (h : Rst bs n w0 w v todo) : bs < w.heap.size := h.2.1.lt
theorem Rst.below {bs n : Nat} {w0 w w' : World} {v : Value} {todo : List Nat} (h : Rst bs n w0 w v todo) (hb : Below w.heap.size w w') : Rst bs n w0 w' v todo :=
 ⟨World.ownsRow.kept h.1 (row := none) ⟨hb.os, hb.tape, hb.output, hb.size, fun k hk _ => hb.block k hk⟩ (by cases v.ownBlock <;> simp), h.2.1.of_block (hb.block _ h.lt), h.2.2.trans (hb.mono (Nat.le_of_lt h.lt))⟩
theorem Rst.marked {bs n : Nat} {w0 w : World} {v : Value} {todo : List Nat} (h : Rst bs n w0 w v todo) (p : Nat) (u : Value) : (w.setCell ⟨bs, p, none⟩ u).ownsRow (bs + 1) 3 1 v todo.length (zfi todo) := by
 have hb := (Below.refl bs w).setCell (p := ⟨bs, p, none⟩) (Nat.le_refl _) u
 refine World.ownsRow.kept h.1 (row := some bs) ⟨hb.os, hb.tape, hb.output, hb.size, fun k _ hk => Below.heap_setCell _ _ _ _ (fun e => hk (by rw [e]))⟩ ?_
 rcases h.1.2 with ⟨rfl, _⟩ | ⟨g, cap, cur, rfl, hb, _⟩
 · exact .inl rfl
 · right
   simp [Value.ownBlock]
   omega
theorem Rst.put {bs n : Nat} {w0 w w' : World} {v v' : Value} {todo : List Nat} {o : Obj} (h : Rst bs n w0 w v todo) {p : Nat} (hp : p < n) (hn : p ∉ todo) (hown : w'.ownsRow (bs + 1) 3 1 v' (todo.length + 1) (zfi todo ++ [.int .i64 (p : Int)])) (hg : ((w.setCell ⟨bs, p, none⟩ (.bool true)).alloc o).grownBy w' v.ownBlock) : Rst bs n w0 w' v' (todo ++ [p]) := by
 have hl := h.lt
 have hv : ∀ k, v.ownBlock = some k -> bs + 1 <= k := fun k hk => by
  rcases h.1.2 with ⟨rfl, _⟩ | ⟨g, cap, cur, rfl, hb, _⟩
  · simp [Value.ownBlock] at hk
  · simp [Value.ownBlock] at hk
    omega
 refine ⟨by simpa [zfi] using hown, ?_, ?_⟩
 · have h1 : ((w.setCell ⟨bs, p, none⟩ (.bool true)).alloc o).rowIs bs 4 n (fun i => .bool (decide (i ∈ todo ++ [p]))) := by
    refine World.rowIs.of_block (w := w.setCell ⟨bs, p, none⟩ (.bool true)) ((h.2.1.set p (.bool true)).congr fun i hi => ?_) (((Below.refl _ _).alloc (Nat.le_refl _) _).block _ (by simpa using hl))
    by_cases e : i = p
    · subst e; simp
    · simp [e]
   exact h1.of_block (hg.block _ (by simp; omega) (fun e => by have := hv bs e.symm; omega))
 · exact ((h.2.2.setCell (p := ⟨bs, p, none⟩) (Nat.le_refl _) (.bool true)).alloc (by simp; omega) o).grown hg (by simp; omega) (fun k hk => by have := hv k hk; omega)
theorem Rst.item {bs n : Nat} {w0 w : World} {v : Value} {todo : List Nat} (h : Rst bs n w0 w v todo) {i : Nat} (hi : i < todo.length) : ∃ g cap, v = .slice (some ⟨g, 0, none⟩) todo.length cap /\ bs + 1 <= g /\ g < w.heap.size /\ w.cell? ⟨g, i, none⟩ = some (.int .i64 ((todo.getD i 0 : Nat) : Int)) := by
 obtain ⟨a, cap, rfl, hh⟩ := zi1 h.1
 rcases hh with h0 | ⟨b, M, g, rfl, hB, hT, hm, hrow, hg⟩
 · omega
 · exact ⟨b, cap, rfl, hB, hT, by rw [hrow.cell (by omega), hg i hi]⟩
theorem Rst.head {bs n : Nat} {w0 w : World} {v : Value} {todo : List Nat} (h : Rst bs n w0 w v todo) : ∃ a cap, v = .slice a todo.length cap := by
 obtain ⟨a, cap, rfl, _⟩ := zi1 h.1
 exact ⟨a, cap, rfl⟩
theorem zn2 {ws : List Int} {todo : List Nat} {t m : Int} (h : isR t = false) : zbo ws todo t m = todo := by simp [zbo, h]
theorem zn3 {ws : List Int} {todo : List Nat} {t m : Int} {q : Nat} (hq : (zi ws m.toNat).toNat = q) (hm : q ∈ todo) : zbo ws todo t m = todo := by
 unfold zbo
 rw [hq]
 split <;> simp [hm]
theorem zlk {ws : List Int} {todo : List Nat} {t m : Int} {q : Nat} (hr : isR t = true) (hq : (zi ws m.toNat).toNat = q) (hm : q ∉ todo) : zbo ws todo t m = todo ++ [q] := by
 unfold zbo
 rw [hq, if_pos hr, if_neg hm]
def SlR (bs : Nat) (asl : Option Addr) (N : Nat) (kk : Int) (w : World) (v : Value) : Prop :=
 N = 0 \/ ∃ b M gg, asl = some ⟨b, 0, none⟩ /\ N <= M /\ w.rowIs b 3 M gg /\ (∀ i, i < N -> gg i = .int .i64 (fs kk + 2 * (i : Int))) /\ bs < b /\ v.ownBlock ≠ some b
theorem SlR.below {bs : Nat} {asl : Option Addr} {N : Nat} {kk : Int} {w w' : World} {v : Value} (h : SlR bs asl N kk w v) (hb : Below w.heap.size w w') : SlR bs asl N kk w' v := by
 rcases h with h | ⟨b, M, gg, h1, h2, h3, h4, h5, h6⟩
 · exact .inl h
 · exact .inr ⟨b, M, gg, h1, h2, h3.of_block (hb.block _ h3.lt), h4, h5, h6⟩
theorem SlR.put {bs : Nat} {asl : Option Addr} {N : Nat} {kk : Int} {w w' : World} {v v' : Value} {p : Nat} {o : Obj} (h : SlR bs asl N kk w v) (hg : ((w.setCell ⟨bs, p, none⟩ (.bool true)).alloc o).grownBy w' v.ownBlock) (hl : v'.ownBlock = v.ownBlock \/ v'.ownBlock = some ((w.setCell ⟨bs, p, none⟩ (.bool true)).alloc o).heap.size) : SlR bs asl N kk w' v' := by
 rcases h with h | ⟨b, M, gg, h1, h2, h3, h4, h5, h6⟩
 · exact .inl h
 · have hlt := h3.lt
   refine .inr ⟨b, M, gg, h1, h2, ?_, h4, h5, ?_⟩
   · have e1 : ((w.setCell ⟨bs, p, none⟩ (.bool true)).alloc o).rowIs b 3 M gg := World.rowIs.of_block (w := w.setCell ⟨bs, p, none⟩ (.bool true)) (h3.setOther (a := ⟨bs, p, none⟩) (by dsimp only; omega) _) (((Below.refl _ _).alloc (Nat.le_refl _) _).block _ (by simpa using hlt))
     exact e1.of_block (hg.block _ (by simp; omega) (fun e => h6 e.symm))
   · rcases hl with g | g
     · rw [g]; exact h6
     · rw [g]
       intro e
       simp at e
       omega
theorem zn4 {ws : List Int} {p j : Nat} (hr : zai (za ws p) = true) (hj : j < slN (rdK (za ws p)) (rdS (za ws p))) : p < zc4 ws p j /\ zc4 ws p j + 1 <= p + (rdS (za ws p)).toNat := by
 have h1 := (zff (zde hr) j).2 hj
 have h2 := zjy (rdK (za ws p))
 have h3 := za5 (za ws p)
 unfold zc4
 omega
theorem zv5 {td l : List Nat} {n : Nat} (h : n < td.length) : (td ++ l).getD n 0 = td.getD n 0 := by simp [List.getElem?_append_left h]
def plS (X : List (Nat × Int × Int)) : List Nat := X.map fun x => x.1
theorem zeq (X : List (Nat × Int × Int)) : (plS X).length = X.length := by simp [plS]
theorem zg4 (X : List (Nat × Int × Int)) (i : Nat) : (plS X).getD i 0 = (X.getD i (0, 0, 0)).1 := by
 unfold plS
 by_cases h : i < X.length
 · simp [h]
 · simp [Nat.le_of_not_lt h]
theorem zhi (X : List (Nat × Int × Int)) (x : Nat × Int × Int) : plS (X ++ [x]) = plS X ++ [x.1] := by simp [plS]
def za7 (ws : List Int) (X : List (Nat × Int × Int)) (t m fr sl : Int) : List (Nat × Int × Int) :=
 if isR t = true then (if (zi ws m.toNat).toNat ∈ plS X then X else X ++ [((zi ws m.toNat).toNat, fr, sl)]) else X
theorem zlm (ws : List Int) (X : List (Nat × Int × Int)) (t m fr sl : Int) : plS (za7 ws X t m fr sl) = zbo ws (plS X) t m := by
 unfold za7 zbo
 split
 · split
   · rfl
   · rw [zhi]
 · rfl
theorem zsd (ws : List Int) (X : List (Nat × Int × Int)) (t m fr sl : Int) : ∃ l, za7 ws X t m fr sl = X ++ l := by
 unfold za7
 split
 · split
   · exact ⟨[], by simp⟩
   · exact ⟨_, rfl⟩
 · exact ⟨[], by simp⟩
theorem zse (ws : List Int) (X : List (Nat × Int × Int)) (t m fr sl : Int) : (za7 ws X t m fr sl).length <= X.length + 1 := by
 unfold za7
 split
 · split
   · omega
   · simp
 · omega
theorem zui {ws : List Int} {X : List (Nat × Int × Int)} {t m fr sl : Int} (h : isR t = false) : za7 ws X t m fr sl = X := by simp [za7, h]
theorem zuj {ws : List Int} {X : List (Nat × Int × Int)} {t m fr sl : Int} {q : Nat} (hq : (zi ws m.toNat).toNat = q) (hm : q ∈ plS X) : za7 ws X t m fr sl = X := by
 unfold za7
 rw [hq]
 split <;> simp [hm]
theorem zsf {ws : List Int} {X : List (Nat × Int × Int)} {t m fr sl : Int} {q : Nat} (hr : isR t = true) (hq : (zi ws m.toNat).toNat = q) (hm : q ∉ plS X) : za7 ws X t m fr sl = X ++ [(q, fr, sl)] := by
 unfold za7
 rw [hq, if_pos hr, if_neg hm]
def zaj (ws : List Int) (f : Nat -> Int × Int) (fr : Int) (sl : Nat -> Int) : Nat -> List (Nat × Int × Int) -> List (Nat × Int × Int)
 | 0, X => X
 | k + 1, X => za7 ws (zaj ws f fr sl k X) (f k).1 (f k).2 fr (sl k)
theorem zgi (ws : List Int) (f : Nat -> Int × Int) (fr : Int) (sl : Nat -> Int) : ∀ (k : Nat) (X : List (Nat × Int × Int)), plS (zaj ws f fr sl k X) = zbj ws f k (plS X)
 | 0, X => rfl
 | k + 1, X => by
   show plS (za7 _ _ _ _ _ _) = zbo _ _ _ _
   rw [zlm, zgi ws f fr sl k X]
theorem zhj (ws : List Int) (f : Nat -> Int × Int) (fr : Int) (sl : Nat -> Int) : ∀ (k : Nat) (X : List (Nat × Int × Int)), ∃ l, zaj ws f fr sl k X = X ++ l
 | 0, X => ⟨[], by simp [zaj]⟩
 | k + 1, X => by
   obtain ⟨l, hl⟩ := zhj ws f fr sl k X
   obtain ⟨l2, hl2⟩ := zsd ws (zaj ws f fr sl k X) (f k).1 (f k).2 fr (sl k)
   exact ⟨l ++ l2, by show za7 ws (zaj ws f fr sl k X) (f k).1 (f k).2 fr (sl k) = _; rw [hl2, hl]; simp⟩
def zl9 (ws : List Int) (p : Nat) (i : Nat) (X : List (Nat × Int × Int)) : List (Nat × Int × Int) := zaj ws (zdb ws p) (i : Int) (fun j => (j : Int)) (slN (rdK (za ws p)) (rdS (za ws p))) X
theorem zv7 (ws : List Int) (p i : Nat) (X : List (Nat × Int × Int)) : plS (zl9 ws p i X) = zf8 ws p (plS X) := zgi ..
def zia (ws : List Int) : Nat -> Nat -> List (Nat × Int × Int) -> List (Nat × Int × Int)
 | 0, _, X => X
 | d + 1, i, X => if i < X.length then zia ws d (i + 1) (zl9 ws (X.getD i (0, 0, 0)).1 i X) else X
def zdh (ws : List Int) (i : Nat) (X R : List (Nat × Int × Int)) : Prop := zia ws (ws.length - i) i X = R
theorem zdh.done {ws : List Int} {i : Nat} {X R : List (Nat × Int × Int)} (h : zdh ws i X R) (hi : ¬ i < X.length) : R = X := by
 unfold zdh at h
 cases hd : ws.length - i with
 | zero => rw [hd] at h; exact h.symm
 | succ d => rw [hd] at h; simp only [zia, if_neg hi] at h; exact h.symm
theorem zdh.step {ws : List Int} {i : Nat} {X R : List (Nat × Int × Int)} (h : zdh ws i X R) (hi : i < X.length) (hl : X.length <= ws.length) : zdh ws (i + 1) (zl9 ws (X.getD i (0, 0, 0)).1 i X) R := by
 unfold zdh at h ⊢
 obtain ⟨d, hd⟩ : ∃ d, ws.length - i = d + 1 := ⟨ws.length - i - 1, by omega⟩
 rw [hd] at h
 simp only [zia, if_pos hi] at h
 rw [show ws.length - (i + 1) = d by omega]
 exact h
theorem zkz (ws : List Int) : ∀ (d i : Nat) (X : List (Nat × Int × Int)), plS (zia ws d i X) = bfs ws d i (plS X)
 | 0, _, _ => rfl
 | d + 1, i, X => by
   simp only [zia, bfs, zeq]
   split
   · rw [zkz ws d (i + 1), zv7, zg4]
   · rfl
def c3 (X : List (Nat × Int × Int)) : List Value := X.flatMap fun x => [.int .i64 (x.1 : Int), .int .i64 x.2.1, .int .i64 x.2.2]
theorem zw8 (X : List (Nat × Int × Int)) (x : Nat × Int × Int) : c3 (X ++ [x]) = c3 X ++ [.int .i64 (x.1 : Int), .int .i64 x.2.1, .int .i64 x.2.2] := by simp [c3]
theorem zwo : ∀ (X : List (Nat × Int × Int)) (i : Nat), i < X.length -> (c3 X)[i * 3]? = some (.int .i64 ((X.getD i (0, 0, 0)).1 : Int)) /\ (c3 X)[i * 3 + 1]? = some (.int .i64 (X.getD i (0, 0, 0)).2.1) /\ (c3 X)[i * 3 + 2]? = some (.int .i64 (X.getD i (0, 0, 0)).2.2)
 | [], i, h => by simp at h
 | x :: X, 0, h => ⟨rfl, rfl, rfl⟩
 | x :: X, i + 1, h => by
   have ih := zwo X i (by simp only [List.length_cons] at h; omega)
   have e : c3 (x :: X) = .int .i64 (x.1 : Int) :: .int .i64 x.2.1 :: .int .i64 x.2.2 :: c3 X := rfl
   rw [e, show (i + 1) * 3 = i * 3 + 1 + 1 + 1 by omega]
   exact ⟨ih.1, ih.2.1, ih.2.2⟩
def zez (bs n : Nat) (w0 w : World) (v : Value) (X : List (Nat × Int × Int)) : Prop :=
 w.ownsRow (bs + 1) 117 3 v X.length (c3 X) /\ w.rowIs bs 4 n (fun i => .bool (decide (i ∈ plS X))) /\ Below bs w0 w
theorem zez.lt {bs n : Nat} {w0 w : World} {v : Value} {X : List (Nat × Int × Int)} (h : zez bs n w0 w v X) : bs < w.heap.size := h.2.1.lt
theorem zez.below {bs n : Nat} {w0 w w' : World} {v : Value} {X : List (Nat × Int × Int)} (h : zez bs n w0 w v X) (hb : Below w.heap.size w w') : zez bs n w0 w' v X :=
 ⟨World.ownsRow.kept h.1 (row := none) ⟨hb.os, hb.tape, hb.output, hb.size, fun k hk _ => hb.block k hk⟩ (by cases v.ownBlock <;> simp), h.2.1.of_block (hb.block _ h.lt), h.2.2.trans (hb.mono (Nat.le_of_lt h.lt))⟩
theorem zez.marked {bs n : Nat} {w0 w : World} {v : Value} {X : List (Nat × Int × Int)} (h : zez bs n w0 w v X) (p : Nat) (u : Value) : (w.setCell ⟨bs, p, none⟩ u).ownsRow (bs + 1) 117 3 v X.length (c3 X) := by
 have hb := (Below.refl bs w).setCell (p := ⟨bs, p, none⟩) (Nat.le_refl _) u
 refine World.ownsRow.kept h.1 (row := some bs) ⟨hb.os, hb.tape, hb.output, hb.size, fun k _ hk => Below.heap_setCell _ _ _ _ (fun e => hk (by rw [e]))⟩ ?_
 rcases h.1.2 with ⟨rfl, _⟩ | ⟨g, cap, cur, rfl, hb, _⟩
 · exact .inl rfl
 · right
   simp [Value.ownBlock]
   omega
theorem zez.put {bs n : Nat} {w0 w w' : World} {v v' : Value} {X : List (Nat × Int × Int)} {o : Obj} (h : zez bs n w0 w v X) {p : Nat} {fr sl : Int} (hp : p < n) (hn : p ∉ plS X) (hown : w'.ownsRow (bs + 1) 117 3 v' (X.length + 1) (c3 X ++ [.int .i64 (p : Int), .int .i64 fr, .int .i64 sl])) (hg : ((w.setCell ⟨bs, p, none⟩ (.bool true)).alloc o).grownBy w' v.ownBlock) : zez bs n w0 w' v' (X ++ [(p, fr, sl)]) := by
 have hl := h.lt
 have hv : ∀ k, v.ownBlock = some k -> bs + 1 <= k := fun k hk => by
  rcases h.1.2 with ⟨rfl, _⟩ | ⟨g, cap, cur, rfl, hb, _⟩
  · simp [Value.ownBlock] at hk
  · simp [Value.ownBlock] at hk
    omega
 refine ⟨by rw [zw8]; simpa using hown, ?_, ?_⟩
 · have h1 : ((w.setCell ⟨bs, p, none⟩ (.bool true)).alloc o).rowIs bs 4 n (fun i => .bool (decide (i ∈ plS (X ++ [(p, fr, sl)])))) := by
    refine World.rowIs.of_block (w := w.setCell ⟨bs, p, none⟩ (.bool true)) ((h.2.1.set p (.bool true)).congr fun i hi => ?_) (((Below.refl _ _).alloc (Nat.le_refl _) _).block _ (by simpa using hl))
    rw [zhi]
    by_cases e : i = p
    · subst e; simp
    · simp [e]
   exact h1.of_block (hg.block _ (by simp; omega) (fun e => by have := hv bs e.symm; omega))
 · exact ((h.2.2.setCell (p := ⟨bs, p, none⟩) (Nat.le_refl _) (.bool true)).alloc (by simp; omega) o).grown hg (by simp; omega) (fun k hk => by have := hv k hk; omega)
theorem zez.item {bs n : Nat} {w0 w : World} {v : Value} {X : List (Nat × Int × Int)} (h : zez bs n w0 w v X) {i : Nat} (hi : i < X.length) : ∃ g cap, v = .slice (some ⟨g, 0, none⟩) X.length cap /\ bs + 1 <= g /\ g < w.heap.size /\ w.cell? ⟨g, i * 3, none⟩ = some (.int .i64 (((plS X).getD i 0 : Nat) : Int)) := by
 obtain ⟨h1, h2⟩ := h.1
 rcases h2 with ⟨_, h0⟩ | ⟨g, cap, cur, rfl, hg, hc, hn, hcap, hs, hx⟩
 · omega
 · have lg : g < w.heap.size := (Array.getElem?_eq_some_iff.1 hc).1
   refine ⟨g, cap, rfl, hg, lg, ?_⟩
   rw [h.1.cellAt (i * 3) (by omega), (zwo X i hi).1, zg4]
theorem zez.head {bs n : Nat} {w0 w : World} {v : Value} {X : List (Nat × Int × Int)} (h : zez bs n w0 w v X) : ∃ a cap, v = .slice a X.length cap := by
 rcases h.1.2 with ⟨rfl, h0⟩ | ⟨g, cap, cur, rfl, _⟩
 · exact ⟨none, 0, by rw [h0]⟩
 · exact ⟨_, _, rfl⟩
end Go.Proofs.YtmckcnmlhgpnhaaGreat
