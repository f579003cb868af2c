/- 'laws.FnExactGetVal' holds at every input: impl.GetVal answers as the model's GetVal at every slice of words and every place, and changes no word of it. No condition. -/
import Derived.Test.YtlacfinfmbapaaaRows
import Derived.Test.YtlacfinfmbapaaaGetA
import Derived.WalkKit
import Derived.WalkSpells
import Derived.WalkLawsBesides
import Derived.ProofKit
import Derived.OpenShut
import Derived.ShutString
import Derived.ChangeOld
import Derived.Below
import Derived.Outline
import Derived.Lib.SmallJoins
namespace Go.Proofs.Ytlacfinfmbapaaa
open Go.ChangeShapes Go.WideShapes Go.ChangeAt Go.RowKit Go.Joins
set_option linter.unusedVariables false

set_option maxHeartbeats 1000000 in
theorem fnExactGetVal_walk (a : Option Addr) (len cap : Nat) (zs : List Int) (i : Int) (w : World) (h : IsRow .u64 w a len cap zs) (wi : (Lit.int .i64 i).wf = true) :
    Calls Try.prog 12 #[.slice a len cap, .int .i64 i] w fun e w' => e = .returned (.bool true) ∧ Below w.heap.size w w' := by
  obtain ⟨ys, rfl, hs, hw⟩ := h.sl
  clear h wi
  by_cases hn : ys.length ≤ 1048576
  · have hn' : ¬ (1048576 : Int) < (ys.length : Int) := by omega
    by_cases hg : getV ys i = true
    · go_enter Try.func12, Try.ntmps12
      go_wp2_with fail
      refine (toUint64S_any _ ys _ hs hn).mono ?_
      rintro e w1 ⟨v1, rfl, o1, b1⟩
      go_wp2_with fail
      refine (specGetVal_t _ ys _ _ o1.sl hn hw hg).mono ?_
      rintro e w2 ⟨rfl, b2⟩
      have B2 := below_next b1 b2
      go_wp2_with fail
      refine (toUint64S_any _ ys _ (hs.below (B2.alloc B2.size _)) hn).mono ?_
      rintro e w3 ⟨v3, rfl, o3, b3⟩
      obtain ⟨c3, f3⟩ := bcell b3
      have z3 := size_first b3
      have B3 := below_next (B2.alloc B2.size _) b3
      go_wp2_with fail
      refine (implGetVal_t _ ys _ _ o3.sl hn hw hg).mono ?_
      rintro e w4 ⟨rfl, b4⟩
      obtain ⟨c4, f4⟩ := bcell b4
      have z4 := Nat.lt_of_lt_of_le z3 b4.size
      have B4 := below_next B3 b4
      have S4 := o3.sl.below b4
      go_wp2_with fail
      refine (eqVal_same _ _ _).mono ?_
      rintro e w5 ⟨rfl, b5⟩
      have B5 := below_next (B4.alloc B4.size _) b5
      have S5 := S4.below (((Below.refl _ _).alloc (Nat.le_refl _) _).trans (b5.mono (by simp)))
      go_wp2_with fail
      refine (toUint64S_any _ ys _ (hs.below B5) hn).mono ?_
      rintro e w6 ⟨v6, rfl, o6, b6⟩
      have B6 := below_next B5 b6
      go_wp2_with fail
      refine (eqUint64S_same _ _ ys _ (S5.below b6) o6.sl hn).mono ?_
      rintro e w7 ⟨rfl, b7⟩
      go_wp2
      go_ret
      exact ⟨rfl, below_next B6 b7⟩
    · rw [Bool.not_eq_true] at hg
      go_enter Try.func12, Try.ntmps12
      go_wp2_with fail
      refine (toUint64S_any _ ys _ hs hn).mono ?_
      rintro e w1 ⟨v1, rfl, o1, b1⟩
      go_wp2_with fail
      refine (specGetVal_f _ ys _ _ o1.sl hn hw hg).mono ?_
      rintro e w2 ⟨rfl, b2⟩
      have B2 := below_next b1 b2
      go_wp2_with fail
      refine (toUint64S_any _ ys _ (hs.below (B2.alloc B2.size _)) hn).mono ?_
      rintro e w3 ⟨v3, rfl, o3, b3⟩
      obtain ⟨c3, f3⟩ := bcell b3
      have z3 := size_first b3
      have B3 := below_next (B2.alloc B2.size _) b3
      go_wp2_with fail
      refine (implGetVal_f _ ys _ _ o3.sl hn hw hg).mono ?_
      rintro e w4 ⟨rfl, b4⟩
      obtain ⟨c4, f4⟩ := bcell b4
      have z4 := Nat.lt_of_lt_of_le z3 b4.size
      have B4 := below_next B3 b4
      have S4 := o3.sl.below b4
      go_wp2_with fail
      refine (eqVal_same _ _ _).mono ?_
      rintro e w5 ⟨rfl, b5⟩
      have B5 := below_next (B4.alloc B4.size _) b5
      have S5 := S4.below (((Below.refl _ _).alloc (Nat.le_refl _) _).trans (b5.mono (by simp)))
      go_wp2_with fail
      refine (toUint64S_any _ ys _ (hs.below B5) hn).mono ?_
      rintro e w6 ⟨v6, rfl, o6, b6⟩
      have B6 := below_next B5 b6
      go_wp2_with fail
      refine (eqUint64S_same _ _ ys _ (S5.below b6) o6.sl hn).mono ?_
      rintro e w7 ⟨rfl, b7⟩
      go_wp2
      go_ret
      exact ⟨rfl, below_next B6 b7⟩
  · have hn' : (1048576 : Int) < (ys.length : Int) := by omega
    go_enter Try.func12, Try.ntmps12
    go_wp2
    go_ret
    exact ⟨rfl, Below.refl _ _⟩

theorem own : ownKnob Try.prog.godebug = none := by kernel_rfl
theorem laidOut : laidOutB Try.prog = true := by kernel_rfl

set_option maxRecDepth 100000 in
theorem lifted (os : Os) (started : os.Started) (H : Type) (enc : TypeId × Value → H) :
    ReturnsInHanded {} Try.checked os 12 .any (Rows.fnExactGetValSpec.pre6 enc Try.prog Try.f12 Rows.fnExactGetValRow.domain false) (Rows.fnExactGetValSpec.post enc Try.prog Try.f12 false true false false) := by
  refine returnsInHanded_of_change (C := Try.checked) own started (by kernel_rfl) Try.func12
    (ChangeSpec.witness6 (enc := enc) (C := Try.checked) false ⟨#[], #[.slice none 0 0, .int .i64 0], []⟩ 8 (by kernel_rfl) (by kernel_rfl) (by kernel_rfl) (by kernel_rfl)) ?_
  intro W base args ds gs before hval0 hW hcnd _
  have hval : ∀ (j : Nat) t v, Try.f12.params[j]? = some t → args[j]? = some v → Value.okWide Try.prog W .any base t v := hval0
  have hW' := hW
  obtain ⟨p, q, hA0, hV, rfl, hfz, hnd⟩ := hW
  have hA : DataW.TrodAll enc Try.prog W 0 (fun _ => true) true Try.f12.params.toList args.toList ds p := hA0
  rw [Try.params12] at hA hval
  obtain ⟨v0, vs0, d0, ds0, p0, q0, hargs, rfl, rfl, h0, r0⟩ := trodAll_cons hA
  obtain ⟨v1, vs1, d1, ds1, p1, q1, rfl, rfl, rfl, h1, r1⟩ := trodAll_cons r0
  obtain ⟨rfl, rfl, rfl⟩ := trodAll_nil r1
  obtain rfl : args = #[v0, v1] := by cases args; simp_all
  obtain ⟨rfl, rfl⟩ := trodVars_none hV
  have k0 := h0
  have lt0 : ∀ x ∈ p0, x.block < W.heap.size := by obtain ⟨m, hm⟩ := k0; exact DataW.trod_lt m _ _ _ hm
  obtain ⟨a0, len0, cap0, rfl⟩ := okWide_slice Try.underlying36 (hval 0 36 v0 rfl rfl)
  obtain ⟨z0, w0⟩ : ∃ zs, IsRow .u64 W a0 len0 cap0 zs := by
    obtain ⟨fuel, hf⟩ := h0
    rcases open_ints Try.underlying36 Try.underlying27 (by kernel_rfl) hf with ⟨hcs, _⟩ | ⟨x, l, c, zs, hcs, _, hl, hm, hz, _, hcell, hwz⟩
    · simp [Value.cells] at hcs
      obtain ⟨rfl, rfl, rfl⟩ := hcs
      exact ⟨[], .inl ⟨rfl, rfl, rfl, rfl⟩⟩
    · simp [Value.cells] at hcs
      obtain ⟨rfl, rfl, rfl⟩ := hcs
      exact ⟨zs, .inr ⟨_, rfl, hl, hm, by simpa using hz, hcell, hwz⟩⟩
  have k1 := h1
  have lt1 : ∀ x ∈ p1, x.block < W.heap.size := by obtain ⟨m, hm⟩ := k1; exact DataW.trod_lt m _ _ _ hm
  obtain ⟨a1, rfl, rfl, rfl, w1⟩ := open_int Try.underlying3 (hval 1 3 v1 rfl rfl) h1
  clear hA0 hval0
  refine (fnExactGetVal_walk a0 len0 cap0 z0 a1 W w0 w1).mono fun e W' ⟨he, bel⟩ => ?_
  subst he
  exact ⟨_, rfl, _, _, _, [], _, [], hW', trodAll_mk1 (shut_bool Try.underlying4 _), (trodAll_cons_mk (Below.trod laidOut (by kernel_rfl) (of_decide_eq_true (by kernel_rfl)) k0 bel lt0) (trodAll_cons_mk (Below.trod laidOut (by kernel_rfl) (of_decide_eq_true (by kernel_rfl)) k1 bel lt1) trodAll_mk0)), rfl, bel.frame _, fun h => by cases h⟩

theorem over : Rows.fnExactGetValRow.holds Try.pinned (OpenSpec.ofChange Rows.fnExactGetValSpec) :=
  OpenClaim.holds_of_wide 12 Try.f12 rfl rfl rfl rfl rfl rfl rfl ⟨rfl, rfl, rfl, rfl, rfl⟩ rfl rfl rfl rfl rfl (by kernel_rfl) Try.func12 (by kernel_rfl)
    (of_decide_eq_true (by kernel_rfl)) (by unfold Func.isWrapper; first | (rw [if_pos (by decide +kernel)]; kernel_rfl) | (rw [if_neg (by decide +kernel)]; exact ⟨rfl, rfl⟩))
    (fun os started H enc _ => lifted os started H enc)

theorem fnExactGetVal_holds : Rows.FnExactGetValSaid := over

#print axioms fnExactGetVal_holds
end Go.Proofs.Ytlacfinfmbapaaa
