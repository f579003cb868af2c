/- - -/
import Derived.Test.YtmckcnmlhgpnhaaGreatPKnM
namespace Go.Proofs.YtmckcnmlhgpnhaaGreat
set_option maxRecDepth 20000
open Go.RowKit Go.Maps
set_option linter.unusedSimpArgs false
set_option linter.unusedVariables false
def WfS (X : List (Nat × Int × Int)) : Prop := ∀ i, i < X.length -> (X.getD i (0, 0, 0)).2.1 = -1 \/ (0 <= (X.getD i (0, 0, 0)).2.1 /\ (X.getD i (0, 0, 0)).2.1 < i)
theorem ztc {X : List (Nat × Int × Int)} (h : WfS X) {p : Nat} {fr sl : Int} (hf : fr = -1 \/ (0 <= fr /\ fr < X.length)) : WfS (X ++ [(p, fr, sl)]) := fun i hi => by
 by_cases e : i < X.length
 · have := h i e
   simpa [List.getElem?_append_left e] using this
 · obtain rfl : i = X.length := by simp at hi; omega
   simpa using hf
theorem zp3 {ws : List Int} {X : List (Nat × Int × Int)} (h : WfS X) {t m fr sl : Int} (hf : fr = -1 \/ (0 <= fr /\ fr < X.length)) : WfS (zay ws X t m fr sl) := by
 unfold zay
 split
 · split
   · exact h
   · exact ztc h hf
 · exact h
theorem zgw {ws : List Int} {f : Nat -> Int × Int} {fr : Int} {sl : Nat -> Int} : ∀ (k : Nat) {X : List (Nat × Int × Int)}, WfS X -> (fr = -1 \/ (0 <= fr /\ fr < X.length)) -> WfS (zad ws f fr sl k X)
 | 0, X, h, _ => h
 | k + 1, X, h, hf => by
   refine zp3 (zgw k h hf) ?_
   obtain ⟨l, hl⟩ := zgv ws f fr sl k X
   rw [hl, List.length_append]
   omega
theorem zn3 {ws : List Int} : ∀ (d i : Nat) {X : List (Nat × Int × Int)}, WfS X -> WfS (zhd ws d i X)
 | 0, _, _, h => h
 | d + 1, i, X, h => by
   simp only [zhd]
   split
   · rename_i hlt
     exact zn3 d (i + 1) (zgw _ h (.inr ⟨by omega, by omega⟩))
   · exact h
def zuj (X : List (Nat × Int × Int)) : Nat -> Int -> List Int -> List Int
 | 0, _, acc => acc
 | d + 1, k, acc => if 0 <= k then zuj X d (X.getD k.toNat (0, 0, 0)).2.1 ((X.getD k.toNat (0, 0, 0)).2.2 :: acc) else acc
def zus (X : List (Nat × Int × Int)) (i : Nat) : List Int := zuj X (i + 1) i []
def ztd (ws : List Int) (R : List (Nat × Int × Int)) (s : Int) (q : Bool) (out : List Int) : Prop :=
 (q = true /\ ∃ k, k < R.length /\ rdN (za ws ((plS R).getD k 0)) = s /\ (∀ j, j < k -> rdN (za ws ((plS R).getD j 0)) ≠ s) /\ out = zus R k) \/ (q = false /\ (∀ j, j < R.length -> rdN (za ws ((plS R).getD j 0)) ≠ s) /\ out = [])
theorem ztd.same {ws : List Int} {R : List (Nat × Int × Int)} {s : Int} {q q' : Bool} {out out' : List Int} (h : ztd ws R s q out) (h' : ztd ws R s q' out') : q = q' /\ out = out' := by
 rcases h with ⟨rfl, k, hk, e1, e2, rfl⟩ | ⟨rfl, e, rfl⟩ <;> rcases h' with ⟨rfl, k', hk', e1', e2', rfl⟩ | ⟨rfl, e', rfl⟩
 · have : k = k' := by
    rcases Nat.lt_trichotomy k k' with h | h | h
    · exact absurd e1 (e2' k h)
    · exact h
    · exact absurd e1' (e2 k' h)
   subst this
   exact ⟨rfl, rfl⟩
 · exact absurd e1 (e' k hk)
 · exact absurd e1' (e k' hk')
 · exact ⟨rfl, rfl⟩
theorem zta {ws : List Int} {smz toh top : Int} {cyc : Bool} {sn old cpz sr : Int} {y : Nat -> Int} {rl : Nat} (hok : zda ws smz toh top cyc sn old cpz sr y rl) (rr : List Nat) (hrr : ∀ k, k < rr.length -> rr.getD k 0 < rl) :
 ∃ mk R, zbi mk ws cyc sn /\ zc6 ws 0 (zad ws (fun k => zaj y (rr.getD k 0)) (-1) (fun k => ((rr.getD k 0 : Nat) : Int)) rr.length []) R /\ za9 mk (plS (zad ws (fun k => zaj y (rr.getD k 0)) (-1) (fun k => ((rr.getD k 0 : Nat) : Int)) rr.length [])) /\ za9 mk (plS R) /\ WfS R := by
 obtain ⟨mk, hk, hr⟩ := zr2 hok
 have hc : za9 mk (plS (zad ws (fun k => zaj y (rr.getD k 0)) (-1) (fun k => ((rr.getD k 0 : Nat) : Int)) rr.length [])) := by
  rw [ze0]
  exact zef rr.length (todo := []) ⟨by simp, by simp⟩ (fun j hj => hr _ (hrr j hj))
 refine ⟨mk, _, hk, rfl, hc, ?_, ?_⟩
 · rw [zjp]
   exact zku hk _ 0 hc
 · exact zn3 _ _ (zgw _ (fun i hi => by simp at hi) (.inl rfl))
theorem ztb {ws : List Int} {X R : List (Nat × Int × Int)} (h : zc6 ws 0 X R) : Bfs ws 0 (plS X) (plS R) := by
 unfold Bfs zc6 at *
 rw [<- h, zjp]
theorem zhe {ws : List Int} {f g : Nat -> Int × Int} {fr : Int} {sl sl' : Nat -> Int} : ∀ (k : Nat) (X : List (Nat × Int × Int)), (∀ j, j < k -> f j = g j /\ sl j = sl' j) -> zad ws f fr sl k X = zad ws g fr sl' k X
 | 0, X, _ => rfl
 | k + 1, X, h => by
   show zay _ _ _ _ _ _ = zay _ _ _ _ _ _
   rw [zhe k X (fun j hj => h j (by omega)), (h k (by omega)).1, (h k (by omega)).2]
theorem zni (ws : List Int) (y : Nat -> Int) (rl : Nat) : zad ws (fun k => zaj y ((List.range rl).getD k 0)) (-1) (fun k => (((List.range rl).getD k 0 : Nat) : Int)) (List.range rl).length [] = zad ws (zaj y) (-1) (fun j => (j : Int)) rl [] := by
 rw [List.length_range]
 exact zhe rl [] fun j hj => by simp [hj]
theorem zs9 (rl : Nat) : ∀ k, k < (List.range rl).length -> (List.range rl).getD k 0 < rl := fun k hk => by
 rw [List.length_range] at hk
 simp [hk]
theorem zp2 {ws : List Int} {smz toh top : Int} {cyc : Bool} {sn old cpz sr : Int} {y : Nat -> Int} {rl : Nat} (hok : zda ws smz toh top cyc sn old cpz sr y rl) :
 ∃ mk R, zbi mk ws cyc sn /\ zc6 ws 0 (zad ws (zaj y) (-1) (fun j => (j : Int)) rl []) R /\ za9 mk (plS (zad ws (zaj y) (-1) (fun j => (j : Int)) rl [])) /\ za9 mk (plS R) /\ WfS R := by
 obtain ⟨mk, R, h1, h2, h3, h4, h5⟩ := zta hok (List.range rl) (zs9 rl)
 rw [zni] at h2 h3
 exact ⟨mk, R, h1, h2, h3, h4, h5⟩
theorem znj {ws : List Int} {y : Nat -> Int} {rl : Nat} {R : List (Nat × Int × Int)} (h : zc6 ws 0 (zad ws (zaj y) (-1) (fun j => (j : Int)) rl []) R) : Bfs ws 0 (zbe ws (zaj y) rl []) (plS R) := by
 have := ztb h
 rw [ze0] at this
 exact this
end Go.Proofs.YtmckcnmlhgpnhaaGreat
