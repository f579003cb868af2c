/- The serials of steps, in order. No Go here. -/
import Derived.Test.YtmckcnmlhgpnhaaGreatKKwS
import Derived.Test.YtmckcnmlhgpnhaaGreatKIsA
import Derived.Test.YtmckcnmlhgpnhaaGreatKArenaA
import Derived.Test.YtmckcnmlhgpnhaaGreatProg
import Derived.Test.YtmckcnmlhgpnhaaGreatKShelfS
import Derived.Sort.Grow
namespace Go.Proofs.YtmckcnmlhgpnhaaGreat
set_option maxRecDepth 20000
open Go.RowKit Go.Maps
set_option linter.unusedSimpArgs false
set_option linter.unusedVariables false

/-- The serials of steps, in order. -/
def kinP (ws : List Int) (out : List Int) (p : Nat) : List Int := if rdN (wordAt ws p) = 0 then out else insS out (rdN (wordAt ws p))
def kinN (ws : List Int) (L : List Nat) : List Int := L.foldl (kinP ws) []
theorem kinN_take (ws : List Int) (L : List Nat) {k : Nat} (h : k < L.length) : kinN ws (L.take (k + 1)) = kinP ws (kinN ws (L.take k)) (L.getD k 0) := by
  rw [List.take_succ_eq_append_getElem h]
  unfold kinN
  rw [List.foldl_append]
  simp [h]
theorem kinP_len (ws : List Int) (out : List Int) (p : Nat) : (kinP ws out p).length ≤ out.length + 1 := by
  unfold kinP
  split
  · omega
  · rw [insS_len]; omega
theorem kinN_len (ws : List Int) (L : List Nat) : (kinN ws L).length ≤ L.length := by
  have h : ∀ (L : List Nat) (o : List Int), (L.foldl (kinP ws) o).length ≤ o.length + L.length := by
    intro L
    induction L with
    | nil => intro o; simp
    | cons x L ih =>
      intro o
      have := ih (kinP ws o x)
      have := kinP_len ws o x
      simp only [List.foldl_cons, List.length_cons]
      omega
  have := h L []
  unfold kinN
  simpa using this
end Go.Proofs.YtmckcnmlhgpnhaaGreat

/- What is put in order one by one is what is sorted. No Go here. -/
namespace Go.Proofs.YtmckcnmlhgpnhaaGreat
set_option maxRecDepth 20000
open Go.RowKit Go.Maps
set_option linter.unusedSimpArgs false
set_option linter.unusedVariables false

theorem insS_cons (x : Int) (xs : List Int) (s : Int) : insS (x :: xs) s = if x < s then x :: insS xs s else s :: x :: xs := by
  unfold insS
  simp only [lowN]
  split <;> simp
theorem insS_perm : ∀ (xs : List Int) (s : Int), (insS xs s).Perm (s :: xs)
  | [], s => by simp [insS, lowN]
  | x :: xs, s => by
    rw [insS_cons]
    split
    · exact ((insS_perm xs s).cons x).trans (List.Perm.swap s x xs)
    · exact List.Perm.refl _
theorem insS_sorted : ∀ (xs : List Int) (s : Int), xs.Pairwise (· ≤ ·) → (insS xs s).Pairwise (· ≤ ·)
  | [], s, _ => by simp [insS, lowN]
  | x :: xs, s, h => by
    obtain ⟨h1, h2⟩ := List.pairwise_cons.1 h
    rw [insS_cons]
    split
    · rename_i hx
      refine List.pairwise_cons.2 ⟨fun a ha => ?_, insS_sorted xs s h2⟩
      rcases List.mem_cons.1 ((insS_perm xs s).mem_iff.1 ha) with rfl | ha
      · omega
      · exact h1 a ha
    · rename_i hx
      refine List.pairwise_cons.2 ⟨fun a ha => ?_, h⟩
      rcases List.mem_cons.1 ha with rfl | ha
      · omega
      · have := h1 a ha; omega
/-- The serials of these objects that have one, as they come. -/
def serN (ws : List Int) (L : List Nat) : List Int := (L.map fun p => rdN (wordAt ws p)).filter fun s => decide (s ≠ 0)
theorem serN_snoc (ws : List Int) (L : List Nat) (p : Nat) : serN ws (L ++ [p]) = if rdN (wordAt ws p) = 0 then serN ws L else serN ws L ++ [rdN (wordAt ws p)] := by
  unfold serN
  rw [List.map_append, List.filter_append]
  split <;> simp_all
theorem serN_take (ws : List Int) (L : List Nat) {k : Nat} (h : k < L.length) : serN ws (L.take (k + 1)) = if rdN (wordAt ws (L.getD k 0)) = 0 then serN ws (L.take k) else serN ws (L.take k) ++ [rdN (wordAt ws (L.getD k 0))] := by
  rw [List.take_succ_eq_append_getElem h, serN_snoc]
  simp [h]
theorem serN_len (ws : List Int) (L : List Nat) : (serN ws L).length ≤ L.length := by
  unfold serN
  exact Nat.le_trans (List.length_filter_le _ _) (by simp)
theorem kin_fold (ws : List Int) : ∀ (L : List Nat) (o : List Int), o.Pairwise (· ≤ ·) → (L.foldl (kinP ws) o).Pairwise (· ≤ ·) ∧ (L.foldl (kinP ws) o).Perm (o ++ serN ws L)
  | [], o, h => ⟨h, by simp [serN]⟩
  | p :: L, o, h => by
    simp only [List.foldl_cons]
    have hs : serN ws (p :: L) = (if rdN (wordAt ws p) = 0 then [] else [rdN (wordAt ws p)]) ++ serN ws L := by
      unfold serN
      rw [List.map_cons, List.filter_cons]
      split <;> simp_all
    have h1 : (kinP ws o p).Pairwise (· ≤ ·) := by
      unfold kinP
      split
      · exact h
      · exact insS_sorted o _ h
    obtain ⟨h2, h3⟩ := kin_fold ws L (kinP ws o p) h1
    refine ⟨h2, h3.trans ?_⟩
    rw [hs, ← List.append_assoc]
    refine List.Perm.append_right _ ?_
    unfold kinP
    split
    · simp
    · exact (insS_perm o _).trans (List.perm_append_comm (l₁ := [rdN (wordAt ws p)]) (l₂ := o))
/-- What the model puts in order is what the program sorts. -/
theorem kin_sorted (ws : List Int) (L : List Nat) : (serN ws L).mergeSort (fun x y => decide (x ≤ y)) = kinN ws L := by
  obtain ⟨h1, h2⟩ := kin_fold ws L [] List.Pairwise.nil
  have p1 : ((serN ws L).mergeSort fun x y => decide (x ≤ y)).Pairwise fun x y => decide (x ≤ y) = true := List.pairwise_mergeSort (by intro a b c; simp; omega) (by intro a b; simp; omega) _
  refine List.Perm.eq_of_pairwise (le := fun (x y : Int) => x ≤ y) (fun a b _ _ h1 h2 => by omega) (p1.imp (by simp)) h1 ?_
  exact (List.mergeSort_perm _ _).trans (by rw [List.nil_append] at h2; exact h2.symm)
end Go.Proofs.YtmckcnmlhgpnhaaGreat

/- A row of numbers of the call's own behind slices.Sort and slices.Reverse. No Go here. -/
namespace Go.Proofs.YtmckcnmlhgpnhaaGreat
set_option maxRecDepth 20000
open Go.RowKit Go.Maps Go.Sort
set_option linter.unusedSimpArgs false
set_option linter.unusedVariables false

theorem ir_holds {B g cap : Nat} {w : World} {xs : List Int} (h : IR B w (.slice (some ⟨g, 0, none⟩) xs.length cap) xs) : Holds (Value.int .i64) w g 0 xs.toArray ∧ g < w.heap.size ∧ B ≤ g := by
  have h0 := h
  obtain ⟨_, ⟨h1, _⟩ | ⟨g', cap', cur, hv, hB, hg, hn, hm, hs, ht⟩⟩ := h
  · cases h1
  · simp only [Value.slice.injEq, Option.some.injEq, Addr.mk.injEq] at hv
    obtain ⟨⟨rfl, _⟩, _, rfl⟩ := hv
    refine ⟨fun j hj => ?_, (Array.getElem?_eq_some_iff.1 hg).1, hB⟩
    have hj' : j < xs.length := by simpa using hj
    rw [Nat.zero_add, World.ownsRow.cellAt h0 j (by omega), icl_at xs j hj']
    refine ⟨by simp [hj'], ?_⟩
    simp [World.frozen?, hg]
theorem ir_put {B g cap n : Nat} {w : World} {xs ys : List Int} {os : Array Obj} (h : IR B w (.slice (some ⟨g, 0, none⟩) xs.length cap) xs) (hl : ys.length = xs.length) :
    IR B (grow (putRow (Value.int .i64) (Sort.ahead w n) g 0 ys.toArray) os) (.slice (some ⟨g, 0, none⟩) ys.length cap) ys ∧ Below B w (grow (putRow (Value.int .i64) (Sort.ahead w n) g 0 ys.toArray) os) := by
  obtain ⟨_, ⟨h1, _⟩ | ⟨g', cap', cur, hv, hB, hg, hn, hm, hs, ht⟩⟩ := h
  · cases h1
  · simp only [Value.slice.injEq, Option.some.injEq, Addr.mk.injEq] at hv
    obtain ⟨⟨rfl, _⟩, _, rfl⟩ := hv
    have lg : g < w.heap.size := (Array.getElem?_eq_some_iff.1 hg).1
    have hsz : (mapBlock (Sort.ahead w n) g (putCells (Value.int .i64) 0 ys.toArray)).heap.size = w.heap.size := by simp [mapBlock, Sort.ahead]
    have hat : ∀ k, k < w.heap.size → (grow (putRow (Value.int .i64) (Sort.ahead w n) g 0 ys.toArray) os).heap[k]? = (if g = k then (w.heap[k]?).map (onCells (putCells (Value.int .i64) 0 ys.toArray)) else w.heap[k]?) := fun k hk => by
      unfold grow putRow
      dsimp only
      rw [Array.getElem?_append_left (by rw [hsz]; exact hk)]
      simp only [mapBlock, Sort.ahead, Array.getElem?_modify]
    refine ⟨⟨by rw [icl_len, Nat.mul_one], .inr ⟨g, cap, putCells (Value.int .i64) 0 ys.toArray cur, rfl, hB, ?_, by omega, hm, by simp [putCells, hs], ?_⟩⟩, ⟨rfl, rfl, rfl, ?_, fun k hk => ?_⟩⟩
    · rw [hat g lg, if_pos rfl, hg]
      rfl
    · apply List.ext_getElem?
      intro i
      by_cases hi : i < ys.length
      · rw [List.getElem?_take_of_lt (by omega), icl_at ys i hi]
        have hc : i < cur.size := by omega
        simp [putCells, hi, hc]
      · rw [List.getElem?_eq_none (by simp; omega), List.getElem?_eq_none (by rw [icl_len]; omega)]
    · unfold grow putRow
      dsimp only
      rw [Array.size_append, hsz]
      omega
    · rw [hat k (by omega), if_neg (by omega)]
end Go.Proofs.YtmckcnmlhgpnhaaGreat
