/- - -/
import Derived.Test.YtiglkhkfbgjjoaaGreatDoorPMpE
namespace Go.Proofs.YtiglkhkfbgjjoaaGreatDoor
set_option maxRecDepth 20000
open Go.RowKit Go.PlainAid Go.Maps
set_option linter.unusedSimpArgs false
set_option linter.unusedVariables false
def zgt : List Int := [0, 5, 5, 6, 6, 6, 4, 3, 3, 3, 3]
def opG (ts : List za) (s : PS) (level : Int) : Nat -> Nat -> Int
 | 0, _ => 0
 | k + 1, j => if zgt.getD j 0 = level /\ isN ts (opL.getD j eT) s = true then (j : Int) else opG ts s level k (j + 1)
set_option maxHeartbeats 2000000 in
theorem zfa (rb : Nat) (ts : List za) (tv : Value) (en : Nat) (w : World) (v : Value) (kv : List Value) (s : PS) (h : Mdr rb ts tv en w v kv s) (level : Int) :
 Calls Tryz.prog 108 #[.pointer (some ⟨rb, 0, none⟩), .int .i64 level] w fun e w' => e = .returned (.int .i64 (opG ts s level 10 1)) /\ Below w.heap.size w w' := by
 have HR : Hid (Mdr rb ts tv en w v kv s) := h
 clear h
 go_enter Tryz.func108, Tryz.ntmps108
 go_wp2
 obtain ⟨W, hW⟩ : ∃ V, V = (w.alloc (.cells #[.string ⟨#[]⟩, .string ⟨#[43]⟩, .string ⟨#[45]⟩, .string ⟨#[42]⟩, .string ⟨#[47]⟩, .string ⟨#[37]⟩, .string ⟨#[46, 46]⟩, .string ⟨#[61, 61]⟩, .string ⟨#[126, 61]⟩, .string ⟨#[60]⟩, .string ⟨#[60, 61]⟩] 9)).alloc (.cells #[.int .i64 0, .int .i64 5, .int .i64 5, .int .i64 6, .int .i64 6, .int .i64 6, .int .i64 4, .int .i64 3, .int .i64 3, .int .i64 3, .int .i64 3] 3) := ⟨_, rfl⟩
 have bW : Below w.heap.size w W := by rw [hW]; exact ((Below.refl _ _).alloc (Nat.le_refl _) _).alloc (by simp) _
 have zW : W.heap.size = w.heap.size + 1 + 1 := by rw [hW]; simp
 have n1 : ∀ j, j < 11 -> W.cell? ⟨w.heap.size, j, none⟩ = some (.string (opL.getD j eT)) := fun j hj => by
  have hj' : j = 0 \/ j = 1 \/ j = 2 \/ j = 3 \/ j = 4 \/ j = 5 \/ j = 6 \/ j = 7 \/ j = 8 \/ j = 9 \/ j = 10 := by omega
  rw [hW]
  rcases hj' with rfl | rfl | rfl | rfl | rfl | rfl | rfl | rfl | rfl | rfl | rfl <;> simp [go_sem, opL, eT]
 have n2 : ∀ j, j < 11 -> W.cell? ⟨w.heap.size + 1, j, none⟩ = some (.int .i64 (zgt.getD j 0)) := fun j hj => by
  have hj' : j = 0 \/ j = 1 \/ j = 2 \/ j = 3 \/ j = 4 \/ j = 5 \/ j = 6 \/ j = 7 \/ j = 8 \/ j = 9 \/ j = 10 := by omega
  rw [hW]
  rcases hj' with rfl | rfl | rfl | rfl | rfl | rfl | rfl | rfl | rfl | rfl | rfl <;> simp [go_sem, zgt]
 rw [<- hW]
 have HN1 : Hid _ := n1
 have HN2 : Hid _ := n2
 have HBW : Hid (Below w.heap.size w W) := bW
 have HZ : Hid (W.heap.size = w.heap.size + 1 + 1) := zW
 clear hW bW n1 n2 zW
 go_loopw [7] (fun u wr => ∃ j : Nat, 1 <= j /\ j <= 11 /\ u = .int .i64 j /\ Hid (opG ts s level (11 - j) j = opG ts s level 10 1) /\ Hid (Below W.heap.size W wr)) (fun u _ => 11 - (intOf u).toNat)
 case atStart => exact ⟨1, by omega, by omega, rfl, rfl, Below.refl _ _⟩
 case round =>
  obtain ⟨j, j1, j2, rfl, HG, HBr⟩ := hrel
  by_cases hj : j <= 10
  · have hj' : (j : Int) <= 10 := by omega
    have d1 : wr.cell? ⟨w.heap.size, j, none⟩ = some (.string (opL.getD j eT)) := (HBr.out.cell (p := ⟨w.heap.size, j, none⟩) (by have := HZ.out; show w.heap.size < W.heap.size; omega)).trans (HN1.out j (by omega))
    have d2 : wr.cell? ⟨w.heap.size + 1, j, none⟩ = some (.int .i64 (zgt.getD j 0)) := (HBr.out.cell (p := ⟨w.heap.size + 1, j, none⟩) (by have := HZ.out; show w.heap.size + 1 < W.heap.size; omega)).trans (HN2.out j (by omega))
    have e11 : 11 - j = (11 - (j + 1)) + 1 := by omega
    have HMr : Hid (Mdr rb ts tv en wr v kv s) := HR.out.below (zg HBW.out HBr.out)
    have HE : Hid (opG ts s level (11 - j) j = if zgt.getD j 0 = level /\ isN ts (opL.getD j eT) s = true then (j : Int) else opG ts s level (11 - (j + 1)) (j + 1)) := by show _ = _; rw [e11]; rfl
    generalize hb : opL.getD j eT = b at d1 HE
    generalize hv : zgt.getD j 0 = lv at d2 HE
    by_cases hl : lv = level
    · subst hl
      cases hq : isN ts b s
      · have HQ : Hid (isN ts b s = false) := hq
        clear hq hb hv
        go_wp2_with (go_at_call 33; refine (zee rb ts tv en _ v kv s HMr.out b false HQ.out).mono ?_; rintro e w2 ⟨rfl, b2⟩; have HB2 : Hid (Below W.heap.size W w2) := zg HBr.out b2; clear b2)
        refine ⟨⟨_, _, _, _, _, _, _, _, _, _, _, _, _, _, _, _, _, _, _, _, _, ⟨j + 1, by omega, by omega, ?_, ?_, HB2⟩, rfl⟩, ?_⟩
        · first | rfl | go_num
        · have h1 := HE.out
          rw [if_neg (by rw [HQ.out]; simp)] at h1
          exact h1.symm.trans HG.out
        · simp [intOf]; omega
      · have HQ : Hid (isN ts b s = true) := hq
        clear hq hb hv
        go_wp2_with (go_at_call 33; refine (zee rb ts tv en _ v kv s HMr.out b true HQ.out).mono ?_; rintro e w2 ⟨rfl, b2⟩; have HB2 : Hid (Below W.heap.size W w2) := zg HBr.out b2; clear b2)
        go_ret
        have h1 := HE.out
        rw [if_pos (by simp [HQ.out])] at h1
        exact ⟨by rw [<- HG.out, h1]; rfl, zg HBW.out HB2.out⟩
    · clear hb hv
      go_wp2
      refine ⟨⟨_, _, _, _, _, _, _, _, _, _, _, _, _, _, _, _, _, _, _, _, _, ⟨j + 1, by omega, by omega, ?_, ?_, HBr⟩, rfl⟩, ?_⟩
      · first | rfl | go_num
      · have h1 := HE.out
        rw [if_neg (fun g => hl g.1)] at h1
        exact h1.symm.trans HG.out
      · simp [intOf]; omega
  · have hj' : ¬ (j : Int) <= 10 := by omega
    obtain rfl : j = 11 := by omega
    go_wp2
    go_ret
    exact ⟨by rw [<- HG.out]; rfl, zg HBW.out HBr.out⟩
theorem zhe {ts : List za} {r : Rd} {l : Nat} (hl : 1 <= l) : ∀ (g : Nat), l <= g -> ∀ (a : Int) (s : PS), zaj ts r l g a s = (match zaj ts r (l + 1) g a s with
 | .error x => .error x
 | .ok (b, s1) => mlp ts r l (ts.length + 1) b s1)
 | 0, h, _, _ => by omega
 | g + 1, h, a, s => by
   by_cases e : g + 1 = l
   · have h1 : zaj ts r (l + 1) (g + 1) a s = .ok (a, s) := by unfold zaj; rw [if_pos (by omega)]
     rw [h1]
     unfold zaj
     rw [if_neg (by omega), e]
     show (match mlp ts r l (ts.length + 1) a s with
      | .error x => .error x
      | .ok (b, s1) => zaj ts r l g b s1) = mlp ts r l (ts.length + 1) a s
     cases mlp ts r l (ts.length + 1) a s with
     | error x => rfl
     | ok y =>
       obtain ⟨b, s1⟩ := y
       show zaj ts r l g b s1 = .ok (b, s1)
       cases g with
       | zero => rfl
       | succ g => unfold zaj; rw [if_pos (by omega)]
   · unfold zaj
     rw [if_neg (by omega), if_neg (by omega)]
     cases mlp ts r (g + 1) (ts.length + 1) a s with
     | error x => rfl
     | ok y =>
       obtain ⟨b, s1⟩ := y
       exact zhe hl g (by omega) b s1
theorem zkg {ts : List za} {en : Nat} {r : Rd} {l : Nat} (hl : 1 <= l) (h6 : l <= 6) (s : PS) : lvP ts en r l s = match lvP ts en r (l + 1) s with
 | .error x => .error x
 | .ok (a, s1) => mlp ts r l (ts.length + 1) a s1 := by
 unfold lvP
 cases tnP ts en r s with
 | error x => rfl
 | ok y =>
   obtain ⟨a, s1⟩ := y
   exact zhe hl 6 h6 a s1
theorem zdb {ts : List za} {en : Nat} {r : Rd} (s : PS) : lvP ts en r 7 s = tnP ts en r s := by
 unfold lvP
 cases h : tnP ts en r s with
 | error x => rfl
 | ok y =>
   obtain ⟨a, s1⟩ := y
   show zaj ts r 7 6 a s1 = _
   unfold zaj
   rw [if_pos (by decide)]
theorem zsq {ts : List za} {s : PS} {x : za} (hx : ts[s.i]? = some x) (b : ByteArray) : isN ts b s = isT x b := by unfold isN; rw [hx]
theorem zo0 (ts : List za) (s : PS) (l : Nat) : opG ts s (l : Int) 10 1 = if (zi ts s).1 = l /\ 3 <= l then (zi ts s).2.2 else 0 := by
 cases hx : ts[s.i]? with
 | none =>
   have h : ∀ b, isN ts b s = false := fun b => by unfold isN; rw [hx]
   have e : zi ts s = (0, 0, 0) := by unfold zi; rw [hx]
   rw [e]
   simp only [opG, h, Bool.false_eq_true, and_false, if_false]
   split <;> rfl
 | some x =>
   have e : zi ts s = opT x := by unfold zi; rw [hx]
   rw [e]
   simp only [opG, zsq hx, zgt, opL, List.getD_cons_succ, List.getD_cons_zero, Nat.reduceAdd]
   cases hk : (x.k == 2 || x.k == 5) with
   | false =>
     simp only [opT, isT, hk, Bool.false_and, Bool.false_eq_true, and_false, if_false, ↓reduceIte]
     split <;> rfl
   | true =>
     simp only [opT, isT, hk, Bool.true_and, beq_iff_eq, ByteArray.toList_eq]
     generalize x.tx.data.toList = L
     by_cases h0 : L = [111, 114]
     · subst h0
       simp
       try (split <;> split <;> first | rfl | omega)
       all_goals first | omega | (intros; omega)
     by_cases h1 : L = [97, 110, 100]
     · subst h1
       simp
       try (split <;> split <;> first | rfl | omega)
       all_goals first | omega | (intros; omega)
     by_cases h2 : L = [61, 61]
     · subst h2
       simp
       try (split <;> split <;> first | rfl | omega)
       all_goals first | omega | (intros; omega)
     by_cases h3 : L = [126, 61]
     · subst h3
       simp
       try (split <;> split <;> first | rfl | omega)
       all_goals first | omega | (intros; omega)
     by_cases h4 : L = [60]
     · subst h4
       simp
       try (split <;> split <;> first | rfl | omega)
       all_goals first | omega | (intros; omega)
     by_cases h5 : L = [60, 61]
     · subst h5
       simp
       try (split <;> split <;> first | rfl | omega)
       all_goals first | omega | (intros; omega)
     by_cases h6 : L = [46, 46]
     · subst h6
       simp
       try (split <;> split <;> first | rfl | omega)
       all_goals first | omega | (intros; omega)
     by_cases h7 : L = [43]
     · subst h7
       simp
       try (split <;> split <;> first | rfl | omega)
       all_goals first | omega | (intros; omega)
     by_cases h8 : L = [45]
     · subst h8
       simp
       try (split <;> split <;> first | rfl | omega)
       all_goals first | omega | (intros; omega)
     by_cases h9 : L = [42]
     · subst h9
       simp
       try (split <;> split <;> first | rfl | omega)
       all_goals first | omega | (intros; omega)
     by_cases h10 : L = [47]
     · subst h10
       simp
       try (split <;> split <;> first | rfl | omega)
       all_goals first | omega | (intros; omega)
     by_cases h11 : L = [37]
     · subst h11
       simp
       try (split <;> split <;> first | rfl | omega)
       all_goals first | omega | (intros; omega)
     simp only [h0, h1, h2, h3, h4, h5, h6, h7, h8, h9, h10, h11, and_false, if_false]
     split <;> rfl
end Go.Proofs.YtiglkhkfbgjjoaaGreatDoor
