/- - -/
import Derived.Test.YtiglkhkfbgjjoaaGreatDoorPLxX
import Derived.Test.YtiglkhkfbgjjoaaGreatDoorPLxR
namespace Go.Proofs.YtiglkhkfbgjjoaaGreatDoor
set_option maxRecDepth 20000
open Go.RowKit Go.PlainAid
set_option linter.unusedSimpArgs false
set_option linter.unusedVariables false
theorem zaa.mono {B C : Nat} {w : World} {v : Value} {X : List za} (h : zaa B w v X) (hC : C <= B) : zaa C w v X := by
 obtain ⟨h1, h2⟩ := h
 refine ⟨h1, ?_⟩
 rcases h2 with h2 | ⟨g, cap, cur, hv, hg, r⟩
 · exact .inl h2
 · exact .inr ⟨g, cap, cur, hv, Nat.le_trans hC hg, r⟩
set_option maxHeartbeats 1000000 in
theorem zfr (t : ByteArray) (w : World) (ht0 : t.size <= 1048576) (hM : MkV w) :
 Calls Tryz.prog 12 #[.string t] w fun e w' => ∃ v, e = .returned (.tuple #[v, .int .i64 (zn t).1, .int .i64 ((zn t).2.1 : Int)]) /\ zaa w.heap.size w' v (zn t).2.2 /\ Below w.heap.size w w' := by
 by_cases hL : 3000 < t.size
 · have hL' : 3000 < (t.size : Int) := by omega
   have e : zn t = (1, 0, []) := by unfold zn; rw [if_pos hL]
   rw [e]
   go_enter Tryz.func12, Tryz.ntmps12
   go_wp2
   go_ret3
   exact ⟨_, rfl, zaa.nil _ _, Below.refl _ _⟩
 · have ht : t.size <= 3000 := by omega
   have hL' : ¬ 3000 < (t.size : Int) := by omega
   have e : zn t = zab t 0 [] := by unfold zn; rw [if_neg hL]
   rw [e]
   have HS := fun W (h1 : MkV W) (h2 : Scn W w.heap.size t 0 0 (.slice none 0 0)) => zs4 w.heap.size t W ht hM.1 h1 h2
   generalize zab t 0 [] = R at HS ⊢
   have HSS : Hid (∀ W, MkV W -> Scn W w.heap.size t 0 0 (.slice none 0 0) -> _) := HS
   have HM : Hid (MkV w) := hM
   clear HS hM e hL ht0
   go_enter Tryz.func12, Tryz.ntmps12
   go_wp2_with fail
   have bA : Below w.heap.size w (w.alloc (.cells #[.string t, .int .i64 0, .int .i64 0, .slice none 0 0] 63)) := (Below.refl _ _).alloc (Nat.le_refl _) _
   refine (HSS.out _ (HM.out.below bA HM.out.1) ⟨by simp, fun i => by simp [go_sem], fun i => by simp [go_sem]⟩).mono ?_
   rintro e w1 ⟨rfl, fr, i, va, vc, acc, ⟨s1, k1, b1⟩, h1, h2⟩
   have B1 : Hid (Below w.heap.size w w1) := bA.trans b1
   have hl := s1.lt
   obtain ⟨c0, c1, c2, c3⟩ := s1.cells
   have K1 : Hid (zaa w.heap.size w1 (.slice va acc.length vc) acc) := k1.mono (Nat.le_succ _)
   obtain ⟨co, pl, tk⟩ := R
   simp only at h1 h2 ⊢
   clear bA b1 s1 k1 HSS HM
   by_cases hc : co = 0
   · obtain ⟨rfl, rfl⟩ := h1 hc
     subst hc
     clear h1 h2
     go_wp2
     go_ret3
     exact ⟨_, rfl, K1.out, B1.out⟩
   · obtain ⟨rfl, rfl⟩ := h2 hc
     have hc' : (co != 0) = true := by simpa using hc
     clear h1 h2 hc
     go_wp2_with fail
     go_quiet (fail)
     go_wp2_with fail
     go_ret3
     exact ⟨_, rfl, zaa.nil _ _, below_drewN B1.out _⟩
end Go.Proofs.YtiglkhkfbgjjoaaGreatDoor
