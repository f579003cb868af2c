/- 'laws.FnExactSlots' holds at every input: impl.Slots answers as the model's Slots at every kind and every size, and its answer owns its memory. No condition. -/
import Derived.Test.YtkcnahmimhljpaaRows
import Derived.Test.YtkcnahmimhljpaaSlotsB
import Derived.WalkKit
import Derived.WalkSpells
import Derived.WalkLawsBesides
import Derived.ProofKit
import Derived.OpenShut
import Derived.ShutString
import Derived.ChangeOld
import Derived.Below
import Derived.Outline
import Derived.Lib.SmallJoins
namespace Go.Proofs.Ytkcnahmimhljpaa
open Go.ChangeShapes Go.WideShapes Go.ChangeAt Go.RowKit Go.Joins
set_option linter.unusedVariables false

theorem fnExactSlots_walk (k s : Int) (w : World) (hk : (Lit.int .i64 k).wf = true) (hs : (Lit.int .i64 s).wf = true) :
    Calls Try.prog 3 #[.int .i64 k, .int .i64 s] w fun e w' => e = .returned (.bool true) ∧ Below w.heap.size w w' := by
  have hn : slN k s ≤ 1048576 := Nat.le_trans (slN_le k s) (by omega)
  have hk1 : ¬ (1 + (slN k s : Int)) < 0 := by omega
  go_enter Try.func3, Try.ntmps3
  go_wp2_with fail
  refine (specSlots_any _ _ _).mono ?_
  rintro e w1 ⟨v1, rfl, o1, b1⟩
  go_wp2_with fail
  refine (implSlots_any _ _ _).mono ?_
  rintro e w2 ⟨v2, rfl, o2, b2⟩
  have B2 := below_next b1 b2
  have s1 := o1.sl.below b2 (Nat.le_refl _)
  go_wp2_with fail
  refine (eqIntS_same _ _ _ _ _ (fun i => fs k + 2 * i) _ o2.sl s1 hn).mono ?_
  rintro e w3 ⟨rfl, b3⟩
  have B3 := below_next B2 b3
  have o3 := o2.below b3 (Nat.le_refl _)
  have s3 := s1.below b3 b2.size
  go_wp2_with fail
  refine (markIntS_any _ _ _ _ (fun i => fs k + 2 * i) _ _ o3 hn (by omega) (by omega)).mono ?_
  rintro e w4 ⟨rfl, o4, U4⟩
  have B4 := B3.trans (U4.below b1.size)
  have s4 := s3.below (U4.below (Nat.le_refl _)) (Nat.le_refl _)
  go_wp2_with fail
  refine (heldIntS_any _ _ _ _ _ o4.sl hn (by omega) (by omega)).mono ?_
  rintro e w5 ⟨rfl, b5⟩
  have B5 := below_next B4 b5
  have o5 := o4.below b5 (Nat.le_trans b3.size U4.size)
  have s5 := s4.below b5 (Nat.le_trans b2.size (Nat.le_trans b3.size U4.size))
  go_wp2_with fail
  refine (implSlots_any _ _ _).mono ?_
  rintro e w6 ⟨v6, rfl, o6, b6⟩
  have B6 := below_next B5 b6
  have o7 := o5.below b6 (Nat.le_trans b3.size (Nat.le_trans U4.size b5.size))
  have s7 := s5.below b6 (Nat.le_trans b2.size (Nat.le_trans b3.size (Nat.le_trans U4.size b5.size)))
  go_wp2_with fail
  refine (eqIntS_same _ _ _ _ _ (fun i => fs k + 2 * i) _ o6.sl s7 hn).mono ?_
  rintro e w7 ⟨rfl, b7⟩
  have B7 := below_next B6 b7
  have o8 := o7.below b7 (Nat.le_trans b3.size (Nat.le_trans U4.size (Nat.le_trans b5.size b6.size)))
  go_wp2_with fail
  refine (heldIntS_any _ _ _ _ _ o8.sl hn (by omega) (by omega)).mono ?_
  rintro e w8 ⟨rfl, b8⟩
  have B8 := below_next B7 b8
  go_wp2
  go_ret
  exact ⟨rfl, B8⟩

theorem own : ownKnob Try.prog.godebug = none := by kernel_rfl
theorem laidOut : laidOutB Try.prog = true := by kernel_rfl

set_option maxRecDepth 100000 in
theorem lifted (os : Os) (started : os.Started) (H : Type) (enc : TypeId × Value → H) :
    ReturnsInHanded {} Try.checked os 3 .any (Rows.fnExactSlotsSpec.pre6 enc Try.prog Try.f3 Rows.fnExactSlotsRow.domain false) (Rows.fnExactSlotsSpec.post enc Try.prog Try.f3 false true false false) := by
  refine returnsInHanded_of_change (C := Try.checked) own started (by kernel_rfl) Try.func3
    (ChangeSpec.witness6 (enc := enc) (C := Try.checked) false ⟨#[], #[.int .i64 0, .int .i64 0], []⟩ 8 (by kernel_rfl) (by kernel_rfl) (by kernel_rfl) (by kernel_rfl)) ?_
  intro W base args ds gs before hval0 hW hcnd _
  have hval : ∀ (j : Nat) t v, Try.f3.params[j]? = some t → args[j]? = some v → Value.okWide Try.prog W .any base t v := hval0
  have hW' := hW
  obtain ⟨p, q, hA0, hV, rfl, hfz, hnd⟩ := hW
  have hA : DataW.TrodAll enc Try.prog W 0 (fun _ => true) true Try.f3.params.toList args.toList ds p := hA0
  rw [Try.params3] at hA hval
  obtain ⟨v0, vs0, d0, ds0, p0, q0, hargs, rfl, rfl, h0, r0⟩ := trodAll_cons hA
  obtain ⟨v1, vs1, d1, ds1, p1, q1, rfl, rfl, rfl, h1, r1⟩ := trodAll_cons r0
  obtain ⟨rfl, rfl, rfl⟩ := trodAll_nil r1
  obtain rfl : args = #[v0, v1] := by cases args; simp_all
  obtain ⟨rfl, rfl⟩ := trodVars_none hV
  have k0 := h0
  have lt0 : ∀ x ∈ p0, x.block < W.heap.size := by obtain ⟨m, hm⟩ := k0; exact DataW.trod_lt m _ _ _ hm
  obtain ⟨a0, rfl, rfl, rfl, w0⟩ := open_int Try.underlying3 (hval 0 3 v0 rfl rfl) h0
  have k1 := h1
  have lt1 : ∀ x ∈ p1, x.block < W.heap.size := by obtain ⟨m, hm⟩ := k1; exact DataW.trod_lt m _ _ _ hm
  obtain ⟨a1, rfl, rfl, rfl, w1⟩ := open_int Try.underlying3 (hval 1 3 v1 rfl rfl) h1
  clear hA0 hval0
  refine (fnExactSlots_walk a0 a1 W w0 w1).mono fun e W' ⟨he, bel⟩ => ?_
  subst he
  exact ⟨_, rfl, _, _, _, [], _, [], hW', trodAll_mk1 (shut_bool Try.underlying4 _), (trodAll_cons_mk (Below.trod laidOut (by kernel_rfl) (of_decide_eq_true (by kernel_rfl)) k0 bel lt0) (trodAll_cons_mk (Below.trod laidOut (by kernel_rfl) (of_decide_eq_true (by kernel_rfl)) k1 bel lt1) trodAll_mk0)), rfl, bel.frame _, fun h => by cases h⟩

theorem over : Rows.fnExactSlotsRow.holds Try.pinned (OpenSpec.ofChange Rows.fnExactSlotsSpec) :=
  OpenClaim.holds_of_wide 3 Try.f3 rfl rfl rfl rfl rfl rfl rfl ⟨rfl, rfl, rfl, rfl, rfl⟩ rfl rfl rfl rfl rfl (by kernel_rfl) Try.func3 (by kernel_rfl)
    (of_decide_eq_true (by kernel_rfl)) (by unfold Func.isWrapper; first | (rw [if_pos (by decide +kernel)]; kernel_rfl) | (rw [if_neg (by decide +kernel)]; exact ⟨rfl, rfl⟩))
    (fun os started H enc _ => lifted os started H enc)

theorem fnExactSlots_holds : Rows.FnExactSlotsSaid := over

end Go.Proofs.Ytkcnahmimhljpaa
