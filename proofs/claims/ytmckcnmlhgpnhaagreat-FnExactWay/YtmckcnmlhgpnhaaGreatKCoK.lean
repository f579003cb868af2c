/- Ways back through steps. No Go here. -/
import Derived.Test.YtmckcnmlhgpnhaaGreatKKnM
namespace Go.Proofs.YtmckcnmlhgpnhaaGreat
set_option maxRecDepth 20000
open Go.RowKit Go.Maps
set_option linter.unusedSimpArgs false
set_option linter.unusedVariables false

/-- Each step comes from a Root, or from a step ahead of it. -/
def WfS (X : List (Nat × Int × Int)) : Prop := ∀ i, i < X.length → (X.getD i (0, 0, 0)).2.1 = -1 ∨ (0 ≤ (X.getD i (0, 0, 0)).2.1 ∧ (X.getD i (0, 0, 0)).2.1 < i)
theorem wfS_snoc {X : List (Nat × Int × Int)} (h : WfS X) {p : Nat} {fr sl : Int} (hf : fr = -1 ∨ (0 ≤ fr ∧ fr < X.length)) : WfS (X ++ [(p, fr, sl)]) := fun i hi => by
  by_cases e : i < X.length
  · have := h i e
    simpa [List.getElem?_append_left e] using this
  · obtain rfl : i = X.length := by simp at hi; omega
    simpa using hf
theorem wfS_reachP {ws : List Int} {X : List (Nat × Int × Int)} (h : WfS X) {t m fr sl : Int} (hf : fr = -1 ∨ (0 ≤ fr ∧ fr < X.length)) : WfS (reachP ws X t m fr sl) := by
  unfold reachP
  split
  · split
    · exact h
    · exact wfS_snoc h hf
  · exact h
theorem wfS_reachN {ws : List Int} {f : Nat → Int × Int} {fr : Int} {sl : Nat → Int} : ∀ (k : Nat) {X : List (Nat × Int × Int)}, WfS X → (fr = -1 ∨ (0 ≤ fr ∧ fr < X.length)) → WfS (reachN ws f fr sl k X)
  | 0, X, h, _ => h
  | k + 1, X, h, hf => by
    refine wfS_reachP (wfS_reachN k h hf) ?_
    obtain ⟨l, hl⟩ := reachN_pre ws f fr sl k X
    rw [hl, List.length_append]
    omega
theorem wfS_bfs {ws : List Int} : ∀ (d i : Nat) {X : List (Nat × Int × Int)}, WfS X → WfS (bfsS ws d i X)
  | 0, _, _, h => h
  | d + 1, i, X, h => by
    simp only [bfsS]
    split
    · rename_i hlt
      exact wfS_bfs d (i + 1) (wfS_reachN _ h (.inr ⟨by omega, by omega⟩))
    · exact h
/-- The way back from step k, ahead of acc. -/
def wayW (X : List (Nat × Int × Int)) : Nat → Int → List Int → List Int
  | 0, _, acc => acc
  | d + 1, k, acc => if 0 ≤ k then wayW X d (X.getD k.toNat (0, 0, 0)).2.1 ((X.getD k.toNat (0, 0, 0)).2.2 :: acc) else acc
def wayS (X : List (Nat × Int × Int)) (i : Nat) : List Int := wayW X (i + 1) i []
theorem wayW_neg {X : List (Nat × Int × Int)} {d : Nat} {k : Int} {acc : List Int} (h : ¬ 0 ≤ k) : wayW X d k acc = acc := by
  cases d with
  | zero => rfl
  | succ d => simp [wayW, h]
/-- What Way answers: the way to the first step with that serial, if there is one. -/
def WayA (ws : List Int) (R : List (Nat × Int × Int)) (s : Int) (q : Bool) (out : List Int) : Prop :=
  (q = true ∧ ∃ k, k < R.length ∧ rdN (wordAt ws ((plS R).getD k 0)) = s ∧ (∀ j, j < k → rdN (wordAt ws ((plS R).getD j 0)) ≠ s) ∧ out = wayS R k) ∨ (q = false ∧ (∀ j, j < R.length → rdN (wordAt ws ((plS R).getD j 0)) ≠ s) ∧ out = [])
theorem WayA.same {ws : List Int} {R : List (Nat × Int × Int)} {s : Int} {q q' : Bool} {out out' : List Int} (h : WayA ws R s q out) (h' : WayA ws R s q' out') : q = q' ∧ out = out' := by
  rcases h with ⟨rfl, k, hk, e1, e2, rfl⟩ | ⟨rfl, e, rfl⟩ <;> rcases h' with ⟨rfl, k', hk', e1', e2', rfl⟩ | ⟨rfl, e', rfl⟩
  · have : k = k' := by
      rcases Nat.lt_trichotomy k k' with h | h | h
      · exact absurd e1 (e2' k h)
      · exact h
      · exact absurd e1' (e2 k' h)
    subst this
    exact ⟨rfl, rfl⟩
  · exact absurd e1 (e' k hk)
  · exact absurd e1' (e k' hk')
  · exact ⟨rfl, rfl⟩
theorem range_getD (n i : Nat) (h : i < n) : (List.range n).getD i 0 = i := by simp [h]
end Go.Proofs.YtmckcnmlhgpnhaaGreat

/- What the steps of a right arena are: all the laws of Kin and Way want. No Go here. -/
namespace Go.Proofs.YtmckcnmlhgpnhaaGreat
set_option maxRecDepth 20000
open Go.RowKit Go.Maps
set_option linter.unusedSimpArgs false
set_option linter.unusedVariables false

theorem ar_steps {ws : List Int} {semi toh top : Int} {cyc : Bool} {scan old copied serial : Int} {y : Nat → Int} {rl : Nat} (hok : ArOk ws semi toh top cyc scan old copied serial y rl) (rr : List Nat) (hrr : ∀ k, k < rr.length → rr.getD k 0 < rl) :
    ∃ mk R, Known mk ws cyc scan ∧ BfsS ws 0 (reachN ws (fun k => rootF y (rr.getD k 0)) (-1) (fun k => ((rr.getD k 0 : Nat) : Int)) rr.length []) R ∧ Come mk (plS (reachN ws (fun k => rootF y (rr.getD k 0)) (-1) (fun k => ((rr.getD k 0 : Nat) : Int)) rr.length [])) ∧ Come mk (plS R) ∧ WfS R := by
  obtain ⟨mk, hk, hr⟩ := ar_known hok
  have hc : Come mk (plS (reachN ws (fun k => rootF y (rr.getD k 0)) (-1) (fun k => ((rr.getD k 0 : Nat) : Int)) rr.length [])) := by
    rw [reachN_pl]
    exact comeN_good rr.length (todo := []) ⟨by simp, by simp⟩ (fun j hj => hr _ (hrr j hj))
  refine ⟨mk, _, hk, rfl, hc, ?_, ?_⟩
  · rw [bfsS_pl]
    exact bfs_good hk _ 0 hc
  · exact wfS_bfs _ _ (wfS_reachN _ (fun i hi => by simp at hi) (.inl rfl))
/-- What is come to by steps is what is come to. -/
theorem steps_pl {ws : List Int} {X R : List (Nat × Int × Int)} (h : BfsS ws 0 X R) : Bfs ws 0 (plS X) (plS R) := by
  unfold Bfs BfsS at *
  rw [← h, bfsS_pl]
end Go.Proofs.YtmckcnmlhgpnhaaGreat

/- The steps of all Roots of a right arena, and of one. No Go here. -/
namespace Go.Proofs.YtmckcnmlhgpnhaaGreat
set_option maxRecDepth 20000
open Go.RowKit Go.Maps
set_option linter.unusedSimpArgs false
set_option linter.unusedVariables false

theorem reachN_congr {ws : List Int} {f g : Nat → Int × Int} {fr : Int} {sl sl' : Nat → Int} : ∀ (k : Nat) (X : List (Nat × Int × Int)), (∀ j, j < k → f j = g j ∧ sl j = sl' j) → reachN ws f fr sl k X = reachN ws g fr sl' k X
  | 0, X, _ => rfl
  | k + 1, X, h => by
    show reachP _ _ _ _ _ _ = reachP _ _ _ _ _ _
    rw [reachN_congr k X (fun j hj => h j (by omega)), (h k (by omega)).1, (h k (by omega)).2]
theorem range_roots (ws : List Int) (y : Nat → Int) (rl : Nat) : reachN ws (fun k => rootF y ((List.range rl).getD k 0)) (-1) (fun k => (((List.range rl).getD k 0 : Nat) : Int)) (List.range rl).length [] = reachN ws (rootF y) (-1) (fun j => (j : Int)) rl [] := by
  rw [List.length_range]
  exact reachN_congr rl [] fun j hj => by simp [hj]
theorem range_lt (rl : Nat) : ∀ k, k < (List.range rl).length → (List.range rl).getD k 0 < rl := fun k hk => by
  rw [List.length_range] at hk
  simp [hk]
/-- The steps of all Roots. -/
theorem ar_comings {ws : List Int} {semi toh top : Int} {cyc : Bool} {scan old copied serial : Int} {y : Nat → Int} {rl : Nat} (hok : ArOk ws semi toh top cyc scan old copied serial y rl) :
    ∃ mk R, Known mk ws cyc scan ∧ BfsS ws 0 (reachN ws (rootF y) (-1) (fun j => (j : Int)) rl []) R ∧ Come mk (plS (reachN ws (rootF y) (-1) (fun j => (j : Int)) rl [])) ∧ Come mk (plS R) ∧ WfS R := by
  obtain ⟨mk, R, h1, h2, h3, h4, h5⟩ := ar_steps hok (List.range rl) (range_lt rl)
  rw [range_roots] at h2 h3
  exact ⟨mk, R, h1, h2, h3, h4, h5⟩
/-- What the Roots lead to is what their steps lead to. -/
theorem comings_bfs {ws : List Int} {y : Nat → Int} {rl : Nat} {R : List (Nat × Int × Int)} (h : BfsS ws 0 (reachN ws (rootF y) (-1) (fun j => (j : Int)) rl []) R) : Bfs ws 0 (comeN ws (rootF y) rl []) (plS R) := by
  have := steps_pl h
  rw [reachN_pl] at this
  exact this
/-- The steps of the Root r alone, numbered from 0 on: they lead to what those do that are numbered by r. -/
theorem one_root {ws : List Int} {y : Nat → Int} {r : Nat} {R : List (Nat × Int × Int)} (h : BfsS ws 0 (reachN ws (fun k => rootF y ([r].getD k 0)) (-1) (fun k => (([r].getD k 0 : Nat) : Int)) 1 []) R) :
    ∃ R', BfsS ws 0 (reachN ws (rootF fun i => y (2 * r + i)) (-1) (fun j => (j : Int)) 1 []) R' ∧ plS R' = plS R ∧ plS (reachN ws (rootF fun i => y (2 * r + i)) (-1) (fun j => (j : Int)) 1 []) = plS (reachN ws (fun k => rootF y ([r].getD k 0)) (-1) (fun k => (([r].getD k 0 : Nat) : Int)) 1 []) := by
  have e : plS (reachN ws (rootF fun i => y (2 * r + i)) (-1) (fun j => (j : Int)) 1 []) = plS (reachN ws (fun k => rootF y ([r].getD k 0)) (-1) (fun k => (([r].getD k 0 : Nat) : Int)) 1 []) := by
    rw [reachN_pl, reachN_pl]
    rfl
  refine ⟨_, rfl, ?_, e⟩
  have h1 := steps_pl h
  unfold Bfs at h1
  rw [bfsS_pl, e, h1]
end Go.Proofs.YtmckcnmlhgpnhaaGreat
