/- The program's Lex; the walk of FnExactLex. -/
import Derived.Test.YtiglkhkfbgjjoaaDoorProg
import Derived.Test.YtiglkhkfbgjjoaaDoorXLxX
import Derived.Test.YtiglkhkfbgjjoaaDoorXLxR
import Derived.Test.YtiglkhkfbgjjoaaDoorXLxF
namespace Go.Proofs.YtiglkhkfbgjjoaaDoor
set_option maxRecDepth 20000
open Go.RowKit Go.PlainAid
set_option linter.unusedSimpArgs false
set_option linter.unusedVariables false

theorem Toks.mono {B C : Nat} {w : World} {v : Value} {X : List TokD} (h : Toks B w v X) (hC : C ≤ B) : Toks C w v X := by
  obtain ⟨h1, h2⟩ := h
  refine ⟨h1, ?_⟩
  rcases h2 with h2 | ⟨g, cap, cur, hv, hg, r⟩
  · exact .inl h2
  · exact .inr ⟨g, cap, cur, hv, Nat.le_trans hC hg, r⟩
set_option maxHeartbeats 1000000 in
theorem implLex_at (t : ByteArray) (w : World) (ht0 : t.size ≤ 1048576) (hM : MkV w) :
    Calls Tryd.prog 9 #[.string t] w fun e w' => ∃ v, e = .returned (.tuple #[v, .int .i64 (lexR t).1, .int .i64 ((lexR t).2.1 : Int)]) ∧ Toks w.heap.size w' v (lexR t).2.2 ∧ Below w.heap.size w w' := by
  by_cases hL : 3000 < t.size
  · have hL' : 3000 < (t.size : Int) := by omega
    have e : lexR t = (1, 0, []) := by unfold lexR; rw [if_pos hL]
    rw [e]
    go_enter Tryd.func9, Tryd.ntmps9
    go_wp2
    go_ret3
    exact ⟨_, rfl, Toks.nil _ _, Below.refl _ _⟩
  · have ht : t.size ≤ 3000 := by omega
    have hL' : ¬ 3000 < (t.size : Int) := by omega
    have e : lexR t = lexF t 0 [] := by unfold lexR; rw [if_neg hL]
    rw [e]
    have HS := fun W (h1 : MkV W) (h2 : Scn W w.heap.size t 0 0 (.slice none 0 0)) => scan_at w.heap.size t W ht hM.1 h1 h2
    generalize lexF t 0 [] = R at HS ⊢
    have HSS : Hid (∀ W, MkV W → Scn W w.heap.size t 0 0 (.slice none 0 0) → _) := HS
    have HM : Hid (MkV w) := hM
    clear HS hM e hL ht0
    go_enter Tryd.func9, Tryd.ntmps9
    go_wp2_with fail
    have bA : Below w.heap.size w (w.alloc (.cells #[.string t, .int .i64 0, .int .i64 0, .slice none 0 0] 53)) := (Below.refl _ _).alloc (Nat.le_refl _) _
    refine (HSS.out _ (HM.out.below bA HM.out.1) ⟨by simp, fun i => by simp [go_sem], fun i => by simp [go_sem]⟩).mono ?_
    rintro e w1 ⟨rfl, fr, i, va, vc, acc, ⟨s1, k1, b1⟩, h1, h2⟩
    have B1 : Hid (Below w.heap.size w w1) := bA.trans b1
    have hl := s1.lt
    obtain ⟨c0, c1, c2, c3⟩ := s1.cells
    have K1 : Hid (Toks w.heap.size w1 (.slice va acc.length vc) acc) := k1.mono (Nat.le_succ _)
    obtain ⟨co, pl, tk⟩ := R
    simp only at h1 h2 ⊢
    clear bA b1 s1 k1 HSS HM
    by_cases hc : co = 0
    · obtain ⟨rfl, rfl⟩ := h1 hc
      subst hc
      clear h1 h2
      go_wp2
      go_ret3
      exact ⟨_, rfl, K1.out, B1.out⟩
    · obtain ⟨rfl, rfl⟩ := h2 hc
      have hc' : (co != 0) = true := by simpa using hc
      clear h1 h2 hc
      go_wp2_with fail
      go_quiet (fail)
      go_wp2_with fail
      go_ret3
      exact ⟨_, rfl, Toks.nil _ _, below_drewN B1.out _⟩
set_option maxHeartbeats 4000000 in
theorem lex_walk (t : ByteArray) (w : World) (hM : MkV w) :
    Calls Tryd.prog 3 #[.string t] w fun e w' => e = .returned (.bool true) ∧ Below w.heap.size w w' := by
  by_cases h : (t.size : Int) ≤ 1048576
  · have ht : t.size ≤ 1048576 := by omega
    have HSp := fun W => specLex_at t W ht
    have HIm := fun W (h : MkV W) => implLex_at t W ht h
    have hlen : (lexR t).2.2.length ≤ 3000 := by
      unfold lexR
      split
      · simp
      · unfold lexF
        have := lexN_many t (t.size - 0) 0 []
        simp at this ⊢
        omega
    generalize lexR t = R at HSp HIm hlen
    obtain ⟨co, pl, X⟩ := R
    simp only at HSp HIm hlen
    have hp : 0 < w.heap.size := hM.1
    have HSP : Hid (∀ W, _) := HSp
    have HIM : Hid (∀ W, MkV W → _) := HIm
    have HM : Hid (MkV w) := hM
    clear HSp HIm hM
    go_enter Tryd.func3, Tryd.ntmps3
    go_wp2_with fail
    refine (HSP.out _).mono ?_
    rintro e w1 ⟨v0, rfl, k1, b1⟩
    obtain ⟨a0, c0, rfl⟩ := k1.form
    have B1 : Hid (Below w.heap.size w w1) := b1
    have S1 : Hid (SlF w1.heap.size w1 (.slice a0 X.length c0) X.length (X.length * 4) (tkF X)) := k1.sl
    clear k1 b1
    go_wp2_with fail
    refine (HIM.out _ (HM.out.below B1.out hp)).mono ?_
    rintro e w2 ⟨v1, rfl, k2, b2⟩
    obtain ⟨a1, c1, rfl⟩ := k2.form
    have B2 : Hid (Below w.heap.size w w2) := below_next B1.out b2
    have S2 : Hid (SlF w1.heap.size w2 (.slice a0 X.length c0) X.length (X.length * 4) (tkF X)) := S1.out.below b2 (Nat.le_refl _)
    have K2 : Hid (Toks w1.heap.size w2 (.slice a1 X.length c1) X) := k2
    have z2 : w1.heap.size ≤ w2.heap.size := b2.size
    clear k2 b2 S1
    go_wp2_with fail
    refine (eqTokenS_same _ _ X.length _ _ X _ _ _ rfl hlen K2.out.sl S2.out).mono ?_
    rintro e w3 ⟨rfl, b3⟩
    have B3 : Hid (Below w.heap.size w w3) := below_next B2.out b3
    have S3 : Hid (SlF w1.heap.size w3 (.slice a0 X.length c0) X.length (X.length * 4) (tkF X)) := S2.out.below b3 z2
    have K3 : Hid (Toks w1.heap.size w3 (.slice a1 X.length c1) X) := K2.out.below b3
    have z3 : w1.heap.size ≤ w3.heap.size := Nat.le_trans z2 b3.size
    clear b3 S2 K2 z2 B2
    go_wp2_with fail
    refine (markTokenS_at w1.heap.size X.length _ X _ rfl hlen K3.out z3).mono ?_
    rintro e w4 ⟨rfl, k4, b4⟩
    have B4 : Hid (Below w.heap.size w w4) := B3.out.trans (b4.mono B1.out.size)
    have S4 : Hid (SlF w1.heap.size w4 (.slice a0 X.length c0) X.length (X.length * 4) (tkF X)) := S3.out.below b4 (Nat.le_refl _)
    have K4 : Hid (Toks w1.heap.size w4 (.slice a1 X.length c1) (mkd X.length)) := k4
    have z4 : w1.heap.size ≤ w4.heap.size := Nat.le_trans z3 b4.size
    clear k4 b4 S3 K3 z3 B3
    go_wp2_with fail
    refine (heldTokenS_at w1.heap.size X.length _ _ hlen K4.out).mono ?_
    rintro e w5 ⟨rfl, b5⟩
    have B5 : Hid (Below w.heap.size w w5) := below_next B4.out b5
    have S5 : Hid (SlF w1.heap.size w5 (.slice a0 X.length c0) X.length (X.length * 4) (tkF X)) := S4.out.below b5 z4
    have K5 : Hid (Toks w1.heap.size w5 (.slice a1 X.length c1) (mkd X.length)) := K4.out.below b5
    have z5 : w1.heap.size ≤ w5.heap.size := Nat.le_trans z4 b5.size
    have p5 : ¬ (1 + 4 * (X.length : Int)) < 0 := by omega
    clear b5 S4 K4 z4 B4
    go_wp2_with fail
    refine (HIM.out _ (HM.out.below B5.out hp)).mono ?_
    rintro e w6 ⟨v6, rfl, k6, b6⟩
    obtain ⟨a6, c6, rfl⟩ := k6.form
    have B6 : Hid (Below w.heap.size w w6) := below_next B5.out b6
    have S6 : Hid (SlF w1.heap.size w6 (.slice a0 X.length c0) X.length (X.length * 4) (tkF X)) := S5.out.below b6 z5
    have K6 : Hid (Toks w1.heap.size w6 (.slice a1 X.length c1) (mkd X.length)) := K5.out.below b6
    have T6 : Hid (Toks w5.heap.size w6 (.slice a6 X.length c6) X) := k6
    have z6 : w1.heap.size ≤ w6.heap.size := Nat.le_trans z5 b6.size
    clear b6 k6 S5 K5 z5 B5
    go_wp2_with fail
    refine (eqTokenS_same _ _ X.length _ _ X _ _ _ rfl hlen T6.out.sl S6.out).mono ?_
    rintro e w7 ⟨rfl, b7⟩
    have B7 : Hid (Below w.heap.size w w7) := below_next B6.out b7
    have K7 : Hid (Toks w1.heap.size w7 (.slice a1 X.length c1) (mkd X.length)) := K6.out.below b7
    clear b7 S6 K6 z6 B6 T6
    go_wp2_with fail
    refine (heldTokenS_at w1.heap.size X.length _ _ hlen K7.out).mono ?_
    rintro e w8 ⟨rfl, b8⟩
    have B8 : Hid (Below w.heap.size w w8) := below_next B7.out b8
    clear b8 K7 B7
    go_wp2
    go_ret
    exact ⟨rfl, B8.out⟩
  · go_enter Tryd.func3, Tryd.ntmps3
    go_wp2
    go_ret
    exact ⟨rfl, Below.refl _ _⟩
end Go.Proofs.YtiglkhkfbgjjoaaDoor
