/- - -/
import Derived.Test.YtmckcnmlhgpnhaaGreatWKnM
namespace Go.Proofs.YtmckcnmlhgpnhaaGreat
set_option maxRecDepth 20000
open Go.RowKit Go.Maps
set_option linter.unusedSimpArgs false
set_option linter.unusedVariables false
def WfS (X : List (Nat × Int × Int)) : Prop := ∀ i, i < X.length -> (X.getD i (0, 0, 0)).2.1 = -1 \/ (0 <= (X.getD i (0, 0, 0)).2.1 /\ (X.getD i (0, 0, 0)).2.1 < i)
theorem zwc {X : List (Nat × Int × Int)} (h : WfS X) {p : Nat} {fr sl : Int} (hf : fr = -1 \/ (0 <= fr /\ fr < X.length)) : WfS (X ++ [(p, fr, sl)]) := fun i hi => by
 by_cases e : i < X.length
 · have := h i e
   simpa [List.getElem?_append_left e] using this
 · obtain rfl : i = X.length := by simp at hi; omega
   simpa using hf
theorem zsh {ws : List Int} {X : List (Nat × Int × Int)} (h : WfS X) {t m fr sl : Int} (hf : fr = -1 \/ (0 <= fr /\ fr < X.length)) : WfS (za7 ws X t m fr sl) := by
 unfold za7
 split
 · split
   · exact h
   · exact zwc h hf
 · exact h
theorem zhk {ws : List Int} {f : Nat -> Int × Int} {fr : Int} {sl : Nat -> Int} : ∀ (k : Nat) {X : List (Nat × Int × Int)}, WfS X -> (fr = -1 \/ (0 <= fr /\ fr < X.length)) -> WfS (zaj ws f fr sl k X)
 | 0, X, h, _ => h
 | k + 1, X, h, hf => by
   refine zsh (zhk k h hf) ?_
   obtain ⟨l, hl⟩ := zhj ws f fr sl k X
   rw [hl, List.length_append]
   omega
theorem zqc {ws : List Int} : ∀ (d i : Nat) {X : List (Nat × Int × Int)}, WfS X -> WfS (zia ws d i X)
 | 0, _, _, h => h
 | d + 1, i, X, h => by
   simp only [zia]
   split
   · rename_i hlt
     exact zqc d (i + 1) (zhk _ h (.inr ⟨by omega, by omega⟩))
   · exact h
def zxx (X : List (Nat × Int × Int)) : Nat -> Int -> List Int -> List Int
 | 0, _, acc => acc
 | d + 1, k, acc => if 0 <= k then zxx X d (X.getD k.toNat (0, 0, 0)).2.1 ((X.getD k.toNat (0, 0, 0)).2.2 :: acc) else acc
def zyc (X : List (Nat × Int × Int)) (i : Nat) : List Int := zxx X (i + 1) i []
def zwd (ws : List Int) (R : List (Nat × Int × Int)) (s : Int) (q : Bool) (out : List Int) : Prop :=
 (q = true /\ ∃ k, k < R.length /\ rdN (za ws ((plS R).getD k 0)) = s /\ (∀ j, j < k -> rdN (za ws ((plS R).getD j 0)) ≠ s) /\ out = zyc R k) \/ (q = false /\ (∀ j, j < R.length -> rdN (za ws ((plS R).getD j 0)) ≠ s) /\ out = [])
theorem zwd.same {ws : List Int} {R : List (Nat × Int × Int)} {s : Int} {q q' : Bool} {out out' : List Int} (h : zwd ws R s q out) (h' : zwd ws R s q' out') : q = q' /\ out = out' := by
 rcases h with ⟨rfl, k, hk, e1, e2, rfl⟩ | ⟨rfl, e, rfl⟩ <;> rcases h' with ⟨rfl, k', hk', e1', e2', rfl⟩ | ⟨rfl, e', rfl⟩
 · have : k = k' := by
    rcases Nat.lt_trichotomy k k' with h | h | h
    · exact absurd e1 (e2' k h)
    · exact h
    · exact absurd e1' (e2 k' h)
   subst this
   exact ⟨rfl, rfl⟩
 · exact absurd e1 (e' k hk)
 · exact absurd e1' (e k' hk')
 · exact ⟨rfl, rfl⟩
theorem zwa {ws : List Int} {smz toh top : Int} {cyc : Bool} {sn old cpz sr : Int} {y : Nat -> Int} {rl : Nat} (hok : zdc ws smz toh top cyc sn old cpz sr y rl) (rr : List Nat) (hrr : ∀ k, k < rr.length -> rr.getD k 0 < rl) :
 ∃ mk R, zbm mk ws cyc sn /\ zdh ws 0 (zaj ws (fun k => zan y (rr.getD k 0)) (-1) (fun k => ((rr.getD k 0 : Nat) : Int)) rr.length []) R /\ zbc mk (plS (zaj ws (fun k => zan y (rr.getD k 0)) (-1) (fun k => ((rr.getD k 0 : Nat) : Int)) rr.length [])) /\ zbc mk (plS R) /\ WfS R := by
 obtain ⟨mk, hk, hr⟩ := zn6 hok
 have hc : zbc mk (plS (zaj ws (fun k => zan y (rr.getD k 0)) (-1) (fun k => ((rr.getD k 0 : Nat) : Int)) rr.length [])) := by
  rw [zgi]
  exact zed rr.length (todo := []) ⟨by simp, by simp⟩ (fun j hj => hr _ (hrr j hj))
 refine ⟨mk, _, hk, rfl, hc, ?_, ?_⟩
 · rw [zkz]
   exact zjl hk _ 0 hc
 · exact zqc _ _ (zhk _ (fun i hi => by simp at hi) (.inl rfl))
theorem zwb {ws : List Int} {X R : List (Nat × Int × Int)} (h : zdh ws 0 X R) : Bfs ws 0 (plS X) (plS R) := by
 unfold Bfs zdh at *
 rw [<- h, zkz]
theorem zib {ws : List Int} {f g : Nat -> Int × Int} {fr : Int} {sl sl' : Nat -> Int} : ∀ (k : Nat) (X : List (Nat × Int × Int)), (∀ j, j < k -> f j = g j /\ sl j = sl' j) -> zaj ws f fr sl k X = zaj ws g fr sl' k X
 | 0, X, _ => rfl
 | k + 1, X, h => by
   show za7 _ _ _ _ _ _ = za7 _ _ _ _ _ _
   rw [zib k X (fun j hj => h j (by omega)), (h k (by omega)).1, (h k (by omega)).2]
theorem zpm (ws : List Int) (y : Nat -> Int) (rl : Nat) : zaj ws (fun k => zan y ((List.range rl).getD k 0)) (-1) (fun k => (((List.range rl).getD k 0 : Nat) : Int)) (List.range rl).length [] = zaj ws (zan y) (-1) (fun j => (j : Int)) rl [] := by
 rw [List.length_range]
 exact zib rl [] fun j hj => by simp [hj]
theorem zv9 (rl : Nat) : ∀ k, k < (List.range rl).length -> (List.range rl).getD k 0 < rl := fun k hk => by
 rw [List.length_range] at hk
 simp [hk]
theorem zsg {ws : List Int} {smz toh top : Int} {cyc : Bool} {sn old cpz sr : Int} {y : Nat -> Int} {rl : Nat} (hok : zdc ws smz toh top cyc sn old cpz sr y rl) :
 ∃ mk R, zbm mk ws cyc sn /\ zdh ws 0 (zaj ws (zan y) (-1) (fun j => (j : Int)) rl []) R /\ zbc mk (plS (zaj ws (zan y) (-1) (fun j => (j : Int)) rl [])) /\ zbc mk (plS R) /\ WfS R := by
 obtain ⟨mk, R, h1, h2, h3, h4, h5⟩ := zwa hok (List.range rl) (zv9 rl)
 rw [zpm] at h2 h3
 exact ⟨mk, R, h1, h2, h3, h4, h5⟩
theorem zpn {ws : List Int} {y : Nat -> Int} {rl : Nat} {R : List (Nat × Int × Int)} (h : zdh ws 0 (zaj ws (zan y) (-1) (fun j => (j : Int)) rl []) R) : Bfs ws 0 (zbj ws (zan y) rl []) (plS R) := by
 have := zwb h
 rw [zgi] at this
 exact this
end Go.Proofs.YtmckcnmlhgpnhaaGreat
