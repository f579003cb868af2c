/- 'laws.FnExactForwarded' holds at every input: impl.Forwarded answers as the model's Forwarded at each of the 2^64 words. No condition. -/
import Derived.Test.YtlacfinfmbapaaaRows
import Derived.Test.YtlacfinfmbapaaaPackA
import Derived.WalkKit
import Derived.WalkSpells
import Derived.WalkLawsBesides
import Derived.ProofKit
import Derived.OpenShut
import Derived.ShutString
import Derived.ChangeOld
import Derived.Below
import Derived.Lib.SmallJoins
namespace Go.Proofs.Ytlacfinfmbapaaa
open Go.ChangeShapes Go.WideShapes Go.ChangeAt Go.RowKit Go.Joins
set_option linter.unusedVariables false

theorem fnExactForwarded_walk (x : Int) (w : World) (wx : (Lit.int .u64 x).wf = true) :
    Calls Try.prog 8 #[.int .u64 x] w fun e w' => e = .returned (.bool true) ∧ Below w.heap.size w w' := by
  obtain ⟨h0, h1⟩ := bounds_u64 wx
  have h2 : x < 18446744073709551616 := by omega
  clear wx h1
  by_cases c1 : x < 9223372036854775808
  · go_enter Try.func8, Try.ntmps8
    go_wp2_with (first | (go_at_call 30; refine (specForwarded_low _ _ h0 c1).mono ?_; rintro e w' ⟨rfl, rfl⟩) | (go_at_call 18; refine (implForwarded_low _ _ h0 c1).mono ?_; rintro e w' ⟨rfl, rfl⟩))
    go_ret
    exact ⟨rfl, Below.refl _ _⟩
  · by_cases c2 : x ≤ 9223372039002259455
    · have c3 : 9223372036854775808 ≤ x := by omega
      clear c1
      go_enter Try.func8, Try.ntmps8
      go_wp2_with (first | (go_at_call 30; refine (specForwarded_yes _ _ c3 c2).mono ?_; rintro e w' ⟨rfl, rfl⟩) | (go_at_call 18; refine (implForwarded_yes _ _ c3 c2).mono ?_; rintro e w' ⟨rfl, rfl⟩))
      go_ret
      exact ⟨rfl, Below.refl _ _⟩
    · have c3 : 9223372039002259455 < x := by omega
      clear c1 c2
      go_enter Try.func8, Try.ntmps8
      go_wp2_with (first | (go_at_call 30; refine (specForwarded_far _ _ c3 h2).mono ?_; rintro e w' ⟨rfl, rfl⟩) | (go_at_call 18; refine (implForwarded_far _ _ c3 h2).mono ?_; rintro e w' ⟨rfl, rfl⟩))
      go_ret
      exact ⟨rfl, Below.refl _ _⟩

theorem own : ownKnob Try.prog.godebug = none := by kernel_rfl
theorem laidOut : laidOutB Try.prog = true := by kernel_rfl

set_option maxRecDepth 100000 in
theorem lifted (os : Os) (started : os.Started) (H : Type) (enc : TypeId × Value → H) :
    ReturnsInHanded {} Try.checked os 8 .any (Rows.fnExactForwardedSpec.pre6 enc Try.prog Try.f8 Rows.fnExactForwardedRow.domain false) (Rows.fnExactForwardedSpec.post enc Try.prog Try.f8 false true false false) := by
  refine returnsInHanded_of_change (C := Try.checked) own started (by kernel_rfl) Try.func8
    (ChangeSpec.witness6 (enc := enc) (C := Try.checked) false ⟨#[], #[.int .u64 0], []⟩ 8 (by kernel_rfl) (by kernel_rfl) (by kernel_rfl) (by kernel_rfl)) ?_
  intro W base args ds gs before hval0 hW hcnd _
  have hval : ∀ (j : Nat) t v, Try.f8.params[j]? = some t → args[j]? = some v → Value.okWide Try.prog W .any base t v := hval0
  have hW' := hW
  obtain ⟨p, q, hA0, hV, rfl, hfz, hnd⟩ := hW
  have hA : DataW.TrodAll enc Try.prog W 0 (fun _ => true) true Try.f8.params.toList args.toList ds p := hA0
  rw [Try.params8] at hA hval
  obtain ⟨v0, vs0, d0, ds0, p0, q0, hargs, rfl, rfl, h0, r0⟩ := trodAll_cons hA
  obtain ⟨rfl, rfl, rfl⟩ := trodAll_nil r0
  obtain rfl : args = #[v0] := by cases args; simp_all
  obtain ⟨rfl, rfl⟩ := trodVars_none hV
  have k0 := h0
  have lt0 : ∀ x ∈ p0, x.block < W.heap.size := by obtain ⟨m, hm⟩ := k0; exact DataW.trod_lt m _ _ _ hm
  obtain ⟨a0, rfl, rfl, rfl, w0⟩ := open_int Try.underlying27 (hval 0 27 v0 rfl rfl) h0
  clear hA0 hval0
  refine (fnExactForwarded_walk a0 W w0).mono fun e W' ⟨he, bel⟩ => ?_
  subst he
  exact ⟨_, rfl, _, _, _, [], _, [], hW', trodAll_mk1 (shut_bool Try.underlying4 _), (trodAll_cons_mk (Below.trod laidOut (by kernel_rfl) (of_decide_eq_true (by kernel_rfl)) k0 bel lt0) trodAll_mk0), rfl, bel.frame _, fun h => by cases h⟩

theorem over : Rows.fnExactForwardedRow.holds Try.pinned (OpenSpec.ofChange Rows.fnExactForwardedSpec) :=
  OpenClaim.holds_of_wide 8 Try.f8 rfl rfl rfl rfl rfl rfl rfl ⟨rfl, rfl, rfl, rfl, rfl⟩ rfl rfl rfl rfl rfl (by kernel_rfl) Try.func8 (by kernel_rfl)
    (of_decide_eq_true (by kernel_rfl)) (by unfold Func.isWrapper; first | (rw [if_pos (by decide +kernel)]; kernel_rfl) | (rw [if_neg (by decide +kernel)]; exact ⟨rfl, rfl⟩))
    (fun os started H enc _ => lifted os started H enc)

theorem fnExactForwarded_holds : Rows.FnExactForwardedSaid := over

#print axioms fnExactForwarded_holds
end Go.Proofs.Ytlacfinfmbapaaa
