/- 'laws.FnExactPackHead' holds at every input: impl.PackHead answers as the model's PackHead, whatever Kind, Size and Serial are. No condition. -/
import Derived.Test.YtlacfinfmbapaaaRows
import Derived.Test.YtlacfinfmbapaaaPackA
import Derived.WalkKit
import Derived.WalkSpells
import Derived.WalkLawsBesides
import Derived.ProofKit
import Derived.OpenShut
import Derived.ShutString
import Derived.ChangeOld
import Derived.Below
import Derived.Lib.SmallJoins
namespace Go.Proofs.Ytlacfinfmbapaaa
open Go.ChangeShapes Go.WideShapes Go.ChangeAt Go.RowKit Go.Joins
set_option linter.unusedVariables false

theorem fnExactPackHead_walk (k s n : Int) (w : World) (wk : (Lit.int .i64 k).wf = true) (ws : (Lit.int .i64 s).wf = true) (wn : (Lit.int .i64 n).wf = true) :
    Calls Try.prog 6 #[.agg #[.int .i64 k, .int .i64 s, .int .i64 n]] w fun e w' => e = .returned (.bool true) ∧ Below w.heap.size w w' := by
  clear wk ws wn
  by_cases hk : hOk k s n = true
  · go_enter Try.func6, Try.ntmps6
    go_wp2_with (first | (go_at_call 26; refine (toHead_any _ _ _ _).mono ?_; rintro e w' ⟨rfl, hb⟩; obtain ⟨hc, hf⟩ := bcell hb; first | (have hz := size_first hb; have hB := below_first hb) | (have hz := Nat.lt_of_lt_of_le (by assumption) hb.size; have hB := below_next (w := w) (by assumption) hb)) | (go_at_call 28; refine (specPackHead_yes _ _ _ _ hk).mono ?_; rintro e w' ⟨rfl, hb⟩; obtain ⟨hc, hf⟩ := bcell hb; first | (have hz := size_first hb; have hB := below_first hb) | (have hz := Nat.lt_of_lt_of_le (by assumption) hb.size; have hB := below_next (w := w) (by assumption) hb)) | (go_at_call 15; refine (implPackHead_yes _ _ _ _ hk).mono ?_; rintro e w' ⟨rfl, hb⟩; obtain ⟨hc, hf⟩ := bcell hb; first | (have hz := size_first hb; have hB := below_first hb) | (have hz := Nat.lt_of_lt_of_le (by assumption) hb.size; have hB := below_next (w := w) (by assumption) hb)))
    go_ret
    exact ⟨rfl, hB⟩
  · rw [Bool.not_eq_true] at hk
    go_enter Try.func6, Try.ntmps6
    go_wp2_with (first | (go_at_call 26; refine (toHead_any _ _ _ _).mono ?_; rintro e w' ⟨rfl, hb⟩; obtain ⟨hc, hf⟩ := bcell hb; first | (have hz := size_first hb; have hB := below_first hb) | (have hz := Nat.lt_of_lt_of_le (by assumption) hb.size; have hB := below_next (w := w) (by assumption) hb)) | (go_at_call 28; refine (specPackHead_no _ _ _ _ hk).mono ?_; rintro e w' ⟨rfl, hb⟩; obtain ⟨hc, hf⟩ := bcell hb; first | (have hz := size_first hb; have hB := below_first hb) | (have hz := Nat.lt_of_lt_of_le (by assumption) hb.size; have hB := below_next (w := w) (by assumption) hb)) | (go_at_call 15; refine (implPackHead_no _ _ _ _ hk).mono ?_; rintro e w' ⟨rfl, hb⟩; obtain ⟨hc, hf⟩ := bcell hb; first | (have hz := size_first hb; have hB := below_first hb) | (have hz := Nat.lt_of_lt_of_le (by assumption) hb.size; have hB := below_next (w := w) (by assumption) hb)))
    go_ret
    exact ⟨rfl, hB⟩

theorem own : ownKnob Try.prog.godebug = none := by kernel_rfl
theorem laidOut : laidOutB Try.prog = true := by kernel_rfl

set_option maxRecDepth 100000 in
theorem lifted (os : Os) (started : os.Started) (H : Type) (enc : TypeId × Value → H) :
    ReturnsInHanded {} Try.checked os 6 .any (Rows.fnExactPackHeadSpec.pre6 enc Try.prog Try.f6 Rows.fnExactPackHeadRow.domain false) (Rows.fnExactPackHeadSpec.post enc Try.prog Try.f6 false true false false) := by
  refine returnsInHanded_of_change (C := Try.checked) own started (by kernel_rfl) Try.func6
    (ChangeSpec.witness6 (enc := enc) (C := Try.checked) false ⟨#[], #[.agg #[.int .i64 0, .int .i64 0, .int .i64 0]], []⟩ 8 (by kernel_rfl) (by kernel_rfl) (by kernel_rfl) (by kernel_rfl)) ?_
  intro W base args ds gs before hval0 hW hcnd _
  have hval : ∀ (j : Nat) t v, Try.f6.params[j]? = some t → args[j]? = some v → Value.okWide Try.prog W .any base t v := hval0
  have hW' := hW
  obtain ⟨p, q, hA0, hV, rfl, hfz, hnd⟩ := hW
  have hA : DataW.TrodAll enc Try.prog W 0 (fun _ => true) true Try.f6.params.toList args.toList ds p := hA0
  rw [Try.params6] at hA hval
  obtain ⟨v0, vs0, d0, ds0, p0, q0, hargs, rfl, rfl, h0, r0⟩ := trodAll_cons hA
  obtain ⟨rfl, rfl, rfl⟩ := trodAll_nil r0
  obtain rfl : args = #[v0] := by cases args; simp_all
  obtain ⟨rfl, rfl⟩ := trodVars_none hV
  have k0 := h0
  have lt0 : ∀ x ∈ p0, x.block < W.heap.size := by obtain ⟨m, hm⟩ := k0; exact DataW.trod_lt m _ _ _ hm
  obtain ⟨c00, c01, c02, y00, y01, y02, m0, rfl, rfl, rfl, hy00, hy01, hy02⟩ := open_agg3 Try.underlying46 (by kernel_rfl) (by kernel_rfl) (hval 0 46 v0 rfl rfl) h0
  obtain ⟨a00, e00, rfl, w00⟩ := DataW.trod_int Try.underlying3 hy00
  obtain ⟨a01, e01, rfl, w01⟩ := DataW.trod_int Try.underlying3 hy01
  obtain ⟨a02, e02, rfl, w02⟩ := DataW.trod_int Try.underlying3 hy02
  simp at e00 e01 e02
  subst e00 e01 e02
  clear hA0 hval0
  refine (fnExactPackHead_walk a00 a01 a02 W w00 w01 w02).mono fun e W' ⟨he, bel⟩ => ?_
  subst he
  exact ⟨_, rfl, _, _, _, [], _, [], hW', trodAll_mk1 (shut_bool Try.underlying4 _), (trodAll_cons_mk (Below.trod laidOut (by kernel_rfl) (of_decide_eq_true (by kernel_rfl)) k0 bel lt0) trodAll_mk0), rfl, bel.frame _, fun h => by cases h⟩

theorem over : Rows.fnExactPackHeadRow.holds Try.pinned (OpenSpec.ofChange Rows.fnExactPackHeadSpec) :=
  OpenClaim.holds_of_wide 6 Try.f6 rfl rfl rfl rfl rfl rfl rfl ⟨rfl, rfl, rfl, rfl, rfl⟩ rfl rfl rfl rfl rfl (by kernel_rfl) Try.func6 (by kernel_rfl)
    (of_decide_eq_true (by kernel_rfl)) (by unfold Func.isWrapper; first | (rw [if_pos (by decide +kernel)]; kernel_rfl) | (rw [if_neg (by decide +kernel)]; exact ⟨rfl, rfl⟩))
    (fun os started H enc _ => lifted os started H enc)

theorem fnExactPackHead_holds : Rows.FnExactPackHeadSaid := over

#print axioms fnExactPackHead_holds
end Go.Proofs.Ytlacfinfmbapaaa
