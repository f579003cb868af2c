/- - -/
import Derived.Test.YtblcfbhlmdhnpaaGreatBCpC
import Derived.Lib.SliceRun
namespace Go.Proofs.YtblcfbhlmdhnpaaGreat
set_option maxRecDepth 20000
open Go.RowKit
set_option linter.unusedSimpArgs false
set_option linter.unusedVariables false
theorem zr {ws : List Int} {i : Nat} (hi : i < ws.length) (v : Int) (j : Nat) : zj (ws.set i v) j = if j = i then v else zj ws j := by
 unfold zj
 rw [List.getD_eq_getElem?_getD, List.getD_eq_getElem?_getD, List.getElem?_set]
 by_cases h : j = i
 · subst h
   simp [hi]
 · rw [if_neg (fun g => h g.symm), if_neg h]
theorem za6 {ws : List Int} {i : Nat} (hi : i < ws.length) {v : Int} (h : zj ws i = v) : ws.set i v = ws :=
 zdn (by simp) fun j hj => by
  rw [zr hi]
  by_cases g : j = i
  · subst g; rw [if_pos rfl, h]
  · rw [if_neg g]
def btF (slots : Int) (i : Nat) : Int := if i = 1 then 1048596 else if i = 3 then 2099174 else if i = 4 then 2 else if i = 5 then 3 + slots else if i = 6 then 3 else if i = 10 then 2 else if i = 12 then 2 else if i = 14 then 5 else if i = 15 then 1 else 0
def btW (n : Nat) (slots : Int) : List Int := (List.range n).map (btF slots)
theorem zb5 (n : Nat) (slots : Int) : (btW n slots).length = n := by simp [btW]
theorem zh0 {n : Nat} (slots : Int) {i : Nat} (hi : i < n) : zj (btW n slots) i = btF slots i := by simp [btW, zj, hi]
theorem zf7 {u : List Int} {n : Nat} {slots : Int} (hl : u.length = n) (h : ∀ i, i < n -> zj u i = btF slots i) : u = btW n slots :=
 zdn (by rw [hl, zb5]) fun i hi => by rw [h i (by omega), zh0 slots (by omega)]
def zrW (n : Nat) : List Int := List.replicate n 0
theorem zz (n : Nat) : (zrW n).length = n := by simp [zrW]
theorem zaw (n i : Nat) : zj (zrW n) i = 0 := by
 unfold zrW zj
 rw [List.getD_eq_getElem?_getD, List.getElem?_replicate]
 split <;> rfl
def zav (ws : List Int) (o : Nat) : Nat -> List Int
 | 0 => ws
 | k + 1 => (zav ws o k).set (o + k) 0
theorem zdm (ws : List Int) (o : Nat) : ∀ k, (zav ws o k).length = ws.length
 | 0 => rfl
 | k + 1 => by simp [zav, zdm ws o k]
theorem zea {ws : List Int} {o : Nat} : ∀ k, o + k <= ws.length -> (∀ i, o <= i -> i < o + k -> zj ws i = 0) -> zav ws o k = ws
 | 0, _, _ => rfl
 | k + 1, hk, h => by
   have e := zea k (by omega) (fun i h1 h2 => h i h1 (by omega))
   simp only [zav]
   rw [e]
   exact za6 (by omega) (h (o + k) (by omega) (by omega))
theorem zbn (b : Nat) (v : Value) : ∀ (vs : List Value) (o : Nat) (w : World), w.setCells b o (vs ++ [v]) = (w.setCells b o vs).setCell ⟨b, o + vs.length, none⟩ v
 | [], o, w => rfl
 | x :: vs, o, w => by
   have := zbn b v vs (o + 1) (w.setCell ⟨b, o, none⟩ x)
   simp only [List.cons_append, World.setCells, List.length_cons]
   rw [this, show o + 1 + vs.length = o + (vs.length + 1) by omega]
theorem zca {w : World} {b : Nat} {ws : List Int} {o : Nat} (h : RwW w b ws) : ∀ n, o + n <= ws.length -> RwW (w.setCells b o (List.replicate n (.int .u64 0))) b (zav ws o n) /\ Kp [b] w (w.setCells b o (List.replicate n (.int .u64 0)))
 | 0, _ => ⟨h, Kp.refl _ _⟩
 | n + 1, hn => by
   obtain ⟨h1, h2⟩ := zca (o := o) h n (by omega)
   rw [List.replicate_succ', zbn, List.length_replicate]
   exact ⟨RwW.set h1 0 (by rw [zdm]; omega), h2.setCell (p := ⟨b, o + n, none⟩) (.inl (by simp)) _⟩
theorem zeb (b l cw P n : Nat) (h : P + n <= cw) (hP : P < cw) (W : World) : (Instr.sliceAt 30 (.slice (some ⟨b, 0, none⟩) l cw) (some (.int .i64 (P : Int))) (some (.int .i64 ((P : Int) + (n : Int)))) none).run Tryz.prog W = .ok (.slice (some ⟨b, P, none⟩) n (cw - P)) W := by
 have hz := Tryz.sizeOf88
 have he : Tryz.prog.elem 30 = 88 := by kernel_rfl
 rw [run_sliceAt_slice W 30 _ _ _ _ (by kernel_rfl), run_slice_lh W 30 _ _ _ (by rw [he]; exact Tryz.underlying30) .i64 .i64 _ _ (by omega) (by omega) (by omega), he, hz]
 have g1 : ¬ cw = P := by omega
 have g2 : P + n - P = n := by omega
 have g3 : ((P : Int) + (n : Int)).toNat = P + n := by omega
 simp [Result.andThen, sliced, g1, g2, g3, Addr.add]
 intro e
 exact e.symm
theorem zec {w : World} {b : Nat} {ws : List Int} {o n : Nat} (h : RwW w b ws) (h0 : 0 < n) (hn : o + n <= ws.length) :
 ∃ wm, (∀ ty c, (Builtin.clear_ #[30] ty #[.slice (some ⟨b, o, none⟩) n c]).run Tryz.prog w = .ok (.tuple #[]) wm) /\ RwW wm b (zav ws o n) /\ Kp [b] w wm := by
 obtain ⟨h1, h2⟩ := zca (o := o) h n hn
 refine ⟨_, fun ty c => ?_, h1, h2⟩
 exact Lib.run_clear_slice w 30 88 ty (.int .u64 0) Tryz.underlying30 (fun w => by kernel_rfl) rfl rfl b o n c h0 (fun j hj => by rw [h.cell (i := o + j) (by omega)]; rfl) (fun j hj => h.frozen _)
end Go.Proofs.YtblcfbhlmdhnpaaGreat
