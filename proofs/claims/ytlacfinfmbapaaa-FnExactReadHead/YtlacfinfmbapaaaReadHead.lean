/- 'laws.FnExactReadHead' holds at every input: impl.ReadHead answers as the model's ReadHead at each of the 2^64 words. No condition. -/
import Derived.Test.YtlacfinfmbapaaaRows
import Derived.Test.YtlacfinfmbapaaaReadA
import Derived.WalkKit
import Derived.WalkSpells
import Derived.WalkLawsBesides
import Derived.ProofKit
import Derived.OpenShut
import Derived.ShutString
import Derived.ChangeOld
import Derived.Below
import Derived.Lib.SmallJoins
namespace Go.Proofs.Ytlacfinfmbapaaa
open Go.ChangeShapes Go.WideShapes Go.ChangeAt Go.RowKit Go.Joins
set_option linter.unusedVariables false

theorem fnExactReadHead_walk (x : Int) (w : World) (wx : (Lit.int .u64 x).wf = true) :
    Calls Try.prog 7 #[.int .u64 x] w fun e w' => e = .returned (.bool true) ∧ Below w.heap.size w w' := by
  obtain ⟨h0, h1⟩ := bounds_u64 wx
  have h2 : x < 18446744073709551616 := by omega
  clear wx h1
  by_cases hk : hOk (x % 16) (x / 16 % 65536) (x / 1048576) = true
  · go_enter Try.func7, Try.ntmps7
    go_wp2_with (first | (go_at_call 29; refine (eqHead_same _ _ _ _).mono ?_; rintro e w' ⟨rfl, hb⟩; obtain ⟨hc, hf⟩ := bcell hb; first | (have hz := size_first hb; have hB := below_first hb) | (have hz := Nat.lt_of_lt_of_le (by assumption) hb.size; have hB := below_next (w := w) (by assumption) hb) | (have hB := below_next (w := w) (by assumption) hb) | (have hB : Below w.heap.size w w' := hb)) | (go_at_call 20; refine (specReadHead_yes _ _ h0 h2 hk).mono ?_; rintro e w' ⟨rfl, hb⟩; obtain ⟨hc, hf⟩ := bcell hb; first | (have hz := size_first hb; have hB := below_first hb) | (have hz := Nat.lt_of_lt_of_le (by assumption) hb.size; have hB := below_next (w := w) (by assumption) hb) | (have hB := below_next (w := w) (by assumption) hb) | (have hB : Below w.heap.size w w' := hb)) | (go_at_call 17; refine (implReadHead_yes _ _ h0 h2 hk).mono ?_; rintro e w' ⟨rfl, hb⟩; obtain ⟨hc, hf⟩ := bcell hb; first | (have hz := size_first hb; have hB := below_first hb) | (have hz := Nat.lt_of_lt_of_le (by assumption) hb.size; have hB := below_next (w := w) (by assumption) hb) | (have hB := below_next (w := w) (by assumption) hb) | (have hB : Below w.heap.size w w' := hb)))
    go_ret
    exact ⟨rfl, below_next (w := w) (below_next (w := w) (by assumption) (by assumption)) hB⟩
  · rw [Bool.not_eq_true] at hk
    go_enter Try.func7, Try.ntmps7
    go_wp2_with (first | (go_at_call 29; refine (eqHead_same _ _ _ _).mono ?_; rintro e w' ⟨rfl, hb⟩; obtain ⟨hc, hf⟩ := bcell hb; first | (have hz := size_first hb; have hB := below_first hb) | (have hz := Nat.lt_of_lt_of_le (by assumption) hb.size; have hB := below_next (w := w) (by assumption) hb) | (have hB := below_next (w := w) (by assumption) hb) | (have hB : Below w.heap.size w w' := hb)) | (go_at_call 20; refine (specReadHead_no _ _ h0 h2 hk).mono ?_; rintro e w' ⟨rfl, hb⟩; obtain ⟨hc, hf⟩ := bcell hb; first | (have hz := size_first hb; have hB := below_first hb) | (have hz := Nat.lt_of_lt_of_le (by assumption) hb.size; have hB := below_next (w := w) (by assumption) hb) | (have hB := below_next (w := w) (by assumption) hb) | (have hB : Below w.heap.size w w' := hb)) | (go_at_call 17; refine (implReadHead_no _ _ h0 h2 hk).mono ?_; rintro e w' ⟨rfl, hb⟩; obtain ⟨hc, hf⟩ := bcell hb; first | (have hz := size_first hb; have hB := below_first hb) | (have hz := Nat.lt_of_lt_of_le (by assumption) hb.size; have hB := below_next (w := w) (by assumption) hb) | (have hB := below_next (w := w) (by assumption) hb) | (have hB : Below w.heap.size w w' := hb)))
    go_ret
    exact ⟨rfl, below_next (w := w) (below_next (w := w) (by assumption) (by assumption)) hB⟩

theorem own : ownKnob Try.prog.godebug = none := by kernel_rfl
theorem laidOut : laidOutB Try.prog = true := by kernel_rfl

set_option maxRecDepth 100000 in
theorem lifted (os : Os) (started : os.Started) (H : Type) (enc : TypeId × Value → H) :
    ReturnsInHanded {} Try.checked os 7 .any (Rows.fnExactReadHeadSpec.pre6 enc Try.prog Try.f7 Rows.fnExactReadHeadRow.domain false) (Rows.fnExactReadHeadSpec.post enc Try.prog Try.f7 false true false false) := by
  refine returnsInHanded_of_change (C := Try.checked) own started (by kernel_rfl) Try.func7
    (ChangeSpec.witness6 (enc := enc) (C := Try.checked) false ⟨#[], #[.int .u64 0], []⟩ 8 (by kernel_rfl) (by kernel_rfl) (by kernel_rfl) (by kernel_rfl)) ?_
  intro W base args ds gs before hval0 hW hcnd _
  have hval : ∀ (j : Nat) t v, Try.f7.params[j]? = some t → args[j]? = some v → Value.okWide Try.prog W .any base t v := hval0
  have hW' := hW
  obtain ⟨p, q, hA0, hV, rfl, hfz, hnd⟩ := hW
  have hA : DataW.TrodAll enc Try.prog W 0 (fun _ => true) true Try.f7.params.toList args.toList ds p := hA0
  rw [Try.params7] at hA hval
  obtain ⟨v0, vs0, d0, ds0, p0, q0, hargs, rfl, rfl, h0, r0⟩ := trodAll_cons hA
  obtain ⟨rfl, rfl, rfl⟩ := trodAll_nil r0
  obtain rfl : args = #[v0] := by cases args; simp_all
  obtain ⟨rfl, rfl⟩ := trodVars_none hV
  have k0 := h0
  have lt0 : ∀ x ∈ p0, x.block < W.heap.size := by obtain ⟨m, hm⟩ := k0; exact DataW.trod_lt m _ _ _ hm
  obtain ⟨a0, rfl, rfl, rfl, w0⟩ := open_int Try.underlying27 (hval 0 27 v0 rfl rfl) h0
  clear hA0 hval0
  refine (fnExactReadHead_walk a0 W w0).mono fun e W' ⟨he, bel⟩ => ?_
  subst he
  exact ⟨_, rfl, _, _, _, [], _, [], hW', trodAll_mk1 (shut_bool Try.underlying4 _), (trodAll_cons_mk (Below.trod laidOut (by kernel_rfl) (of_decide_eq_true (by kernel_rfl)) k0 bel lt0) trodAll_mk0), rfl, bel.frame _, fun h => by cases h⟩

theorem over : Rows.fnExactReadHeadRow.holds Try.pinned (OpenSpec.ofChange Rows.fnExactReadHeadSpec) :=
  OpenClaim.holds_of_wide 7 Try.f7 rfl rfl rfl rfl rfl rfl rfl ⟨rfl, rfl, rfl, rfl, rfl⟩ rfl rfl rfl rfl rfl (by kernel_rfl) Try.func7 (by kernel_rfl)
    (of_decide_eq_true (by kernel_rfl)) (by unfold Func.isWrapper; first | (rw [if_pos (by decide +kernel)]; kernel_rfl) | (rw [if_neg (by decide +kernel)]; exact ⟨rfl, rfl⟩))
    (fun os started H enc _ => lifted os started H enc)

theorem fnExactReadHead_holds : Rows.FnExactReadHeadSaid := over

#print axioms fnExactReadHead_holds
end Go.Proofs.Ytlacfinfmbapaaa
