/- 'laws.FnWord' holds at every input: whatever bytes are drawn from, a right head's word is read as that head, is not forwarded, and no other head has it. No condition. -/
import Derived.Test.YtlacfinfmbapaaaRows
import Derived.Test.YtlacfinfmbapaaaWordD
import Derived.WalkKit
import Derived.WalkSpells
import Derived.WalkLawsBesides
import Derived.ProofKit
import Derived.OpenShut
import Derived.ShutString
import Derived.ChangeOld
import Derived.Below
import Derived.Outline
import Derived.Lib.SmallJoins
namespace Go.Proofs.Ytlacfinfmbapaaa
open Go.ChangeShapes Go.WideShapes Go.ChangeAt Go.RowKit Go.Joins
set_option linter.unusedVariables false

theorem implReadHead_packed (k s n : Int) (w : World) (h : hOk k s n = true) :
    Calls Try.prog 17 #[.int .u64 (k + s * 16 + n * 1048576)] w fun e w' => e = .returned (.tuple #[.agg #[.int .i64 k, .int .i64 s, .int .i64 n], .bool true]) ∧ Below w.heap.size w w' := by
  obtain ⟨h1, h2, h3, h4, h5, h6⟩ := hOk_bounds h
  have e1 : (k + s * 16 + n * 1048576) % 16 = k := by omega
  have e2 : (k + s * 16 + n * 1048576) / 16 % 65536 = s := by omega
  have e3 : (k + s * 16 + n * 1048576) / 1048576 = n := by omega
  have := implReadHead_yes (k + s * 16 + n * 1048576) w (by omega) (by omega) (by rw [e1, e2, e3]; exact h)
  rw [e1, e2, e3] at this
  exact this

set_option maxHeartbeats 4000000 in
theorem fnWord_small (a : Option Addr) (n cap : Nat) (w : World) (hn : n ≤ 1048576) (hc : Bytes w a n) :
    Calls Try.prog 3 #[.slice a n cap] w fun e w' => e = .returned (.bool true) ∧ Below w.heap.size w w' := by
  have hn' : ¬ (1048576 : Int) < (n : Int) := by omega
  go_enter Try.func3, Try.ntmps3
  go_wp2_with fail
  refine (big_any a n cap _).mono ?_
  rintro e w0 ⟨rfl, rfl⟩
  go_wp2_with fail
  refine (drawPackHead_any a n cap _ hn hc).mono ?_
  rintro e w1 ⟨k, s, m, rfl, b1⟩
  by_cases hk : hOk k s m = true
  · obtain ⟨h1, h2, h3, h4, h5, h6⟩ := hOk_bounds hk
    go_wp2_with fail
    refine (implPackHead_yes k s m _ hk).mono ?_
    rintro e w2 ⟨rfl, b2⟩
    obtain ⟨c2, f2⟩ := bcell b2
    have z2 := size_first b2
    have B2 := below_next (b1.alloc b1.size _) b2
    go_wp2_with fail
    refine (specHeadOk_any k s m _).mono ?_
    rintro e w3 ⟨rfl, b3⟩
    obtain ⟨c3, f3⟩ := bcell b3
    have z3 := Nat.lt_of_lt_of_le z2 b3.size
    have B3 := below_next B2 b3
    go_wp2_with fail
    refine (implReadHead_packed k s m _ hk).mono ?_
    rintro e w4 ⟨rfl, b4⟩
    obtain ⟨c4, f4⟩ := bcell b4
    have z4 := Nat.lt_of_lt_of_le z3 b4.size
    have B4 := below_next B3 b4
    go_wp2_with fail
    refine (implForwarded_low _ _ (by omega) (by omega)).mono ?_
    rintro e w5 ⟨rfl, rfl⟩
    have BX := B4.alloc B4.size (.cells #[.int .i64 k, .int .i64 s, .int .i64 m] 25)
    clear B2 B3
    go_wp2_with fail
    refine (drawReadHead_any a n cap _ hn (hc.below BX)).mono ?_
    rintro e w6 ⟨z, rfl, ⟨hz0, hz1⟩, b6⟩
    have B6 := below_next BX b6
    clear BX
    by_cases hr : hOk (z % 16) (z / 16 % 65536) (z / 1048576) = true
    · have e5 : z % 16 + z / 16 % 65536 * 16 + z / 1048576 * 1048576 = z := by omega
      go_wp2_with fail
      refine (implReadHead_yes z _ hz0 hz1 hr).mono ?_
      rintro e w7 ⟨rfl, b7⟩
      have B7 := below_next B6 b7
      go_wp2_with fail
      refine (specReadHead_yes z _ hz0 hz1 hr).mono ?_
      rintro e w8 ⟨rfl, b8⟩
      obtain ⟨c8, f8⟩ := bcell b8
      have z8 := size_first b8
      have B8 := below_next (B7.alloc B7.size _) b8
      go_wp2_with fail
      refine (implPackHead_yes _ _ _ _ hr).mono ?_
      rintro e w9 ⟨rfl, b9⟩
      have B9 := below_next (B8.alloc B8.size _) b9
      go_wp2
      go_ret
      exact ⟨rfl, B9⟩
    · rw [Bool.not_eq_true] at hr
      go_wp2_with fail
      refine (implReadHead_no z _ hz0 hz1 hr).mono ?_
      rintro e w7 ⟨rfl, b7⟩
      have B7 := below_next B6 b7
      go_wp2_with fail
      refine (specReadHead_no z _ hz0 hz1 hr).mono ?_
      rintro e w8 ⟨rfl, b8⟩
      have B8 := below_next (B7.alloc B7.size _) b8
      go_wp2
      go_ret
      exact ⟨rfl, B8.alloc B8.size _⟩
  · rw [Bool.not_eq_true] at hk
    go_wp2_with fail
    refine (implPackHead_no k s m _ hk).mono ?_
    rintro e w2 ⟨rfl, b2⟩
    obtain ⟨c2, f2⟩ := bcell b2
    have z2 := size_first b2
    have B2 := below_next (b1.alloc b1.size _) b2
    go_wp2_with fail
    refine (specHeadOk_any k s m _).mono ?_
    rintro e w3 ⟨rfl, b3⟩
    have BX := below_next B2 b3
    clear B2
    go_wp2_with fail
    refine (drawReadHead_any a n cap _ hn (hc.below BX)).mono ?_
    rintro e w6 ⟨z, rfl, ⟨hz0, hz1⟩, b6⟩
    have B6 := below_next BX b6
    clear BX
    by_cases hr : hOk (z % 16) (z / 16 % 65536) (z / 1048576) = true
    · have e5 : z % 16 + z / 16 % 65536 * 16 + z / 1048576 * 1048576 = z := by omega
      go_wp2_with fail
      refine (implReadHead_yes z _ hz0 hz1 hr).mono ?_
      rintro e w7 ⟨rfl, b7⟩
      have B7 := below_next B6 b7
      go_wp2_with fail
      refine (specReadHead_yes z _ hz0 hz1 hr).mono ?_
      rintro e w8 ⟨rfl, b8⟩
      obtain ⟨c8, f8⟩ := bcell b8
      have z8 := size_first b8
      have B8 := below_next (B7.alloc B7.size _) b8
      go_wp2_with fail
      refine (implPackHead_yes _ _ _ _ hr).mono ?_
      rintro e w9 ⟨rfl, b9⟩
      have B9 := below_next (B8.alloc B8.size _) b9
      go_wp2
      go_ret
      exact ⟨rfl, B9⟩
    · rw [Bool.not_eq_true] at hr
      go_wp2_with fail
      refine (implReadHead_no z _ hz0 hz1 hr).mono ?_
      rintro e w7 ⟨rfl, b7⟩
      have B7 := below_next B6 b7
      go_wp2_with fail
      refine (specReadHead_no z _ hz0 hz1 hr).mono ?_
      rintro e w8 ⟨rfl, b8⟩
      have B8 := below_next (B7.alloc B7.size _) b8
      go_wp2
      go_ret
      exact ⟨rfl, B8.alloc B8.size _⟩

theorem fnWord_walk (a : Option Addr) (n cap : Nat) (zs : List Int) (w : World) (h : IsRow .u8 w a n cap zs) :
    Calls Try.prog 3 #[.slice a n cap] w fun e w' => e = .returned (.bool true) ∧ Below w.heap.size w w' := by
  have hc := h.bytes
  clear h
  by_cases hn : n ≤ 1048576
  · exact fnWord_small a n cap w hn hc
  · have hn' : (1048576 : Int) < (n : Int) := by omega
    go_enter Try.func3, Try.ntmps3
    go_wp2
    go_ret
    exact ⟨rfl, Below.refl _ _⟩

theorem own : ownKnob Try.prog.godebug = none := by kernel_rfl
theorem laidOut : laidOutB Try.prog = true := by kernel_rfl

set_option maxRecDepth 100000 in
theorem lifted (os : Os) (started : os.Started) (H : Type) (enc : TypeId × Value → H) :
    ReturnsInHanded {} Try.checked os 3 .any (Rows.fnWordSpec.pre6 enc Try.prog Try.f3 Rows.fnWordRow.domain false) (Rows.fnWordSpec.post enc Try.prog Try.f3 false true false false) := by
  refine returnsInHanded_of_change (C := Try.checked) own started (by kernel_rfl) Try.func3
    (ChangeSpec.witness6 (enc := enc) (C := Try.checked) false ⟨#[], #[.slice none 0 0], []⟩ 8 (by kernel_rfl) (by kernel_rfl) (by kernel_rfl) (by kernel_rfl)) ?_
  intro W base args ds gs before hval0 hW hcnd _
  have hval : ∀ (j : Nat) t v, Try.f3.params[j]? = some t → args[j]? = some v → Value.okWide Try.prog W .any base t v := hval0
  have hW' := hW
  obtain ⟨p, q, hA0, hV, rfl, hfz, hnd⟩ := hW
  have hA : DataW.TrodAll enc Try.prog W 0 (fun _ => true) true Try.f3.params.toList args.toList ds p := hA0
  rw [Try.params3] at hA hval
  obtain ⟨v0, vs0, d0, ds0, p0, q0, hargs, rfl, rfl, h0, r0⟩ := trodAll_cons hA
  obtain ⟨rfl, rfl, rfl⟩ := trodAll_nil r0
  obtain rfl : args = #[v0] := by cases args; simp_all
  obtain ⟨rfl, rfl⟩ := trodVars_none hV
  have k0 := h0
  have lt0 : ∀ x ∈ p0, x.block < W.heap.size := by obtain ⟨m, hm⟩ := k0; exact DataW.trod_lt m _ _ _ hm
  obtain ⟨a0, len0, cap0, rfl⟩ := okWide_slice Try.underlying22 (hval 0 22 v0 rfl rfl)
  obtain ⟨z0, w0⟩ : ∃ zs, IsRow .u8 W a0 len0 cap0 zs := by
    obtain ⟨fuel, hf⟩ := h0
    rcases open_ints Try.underlying22 Try.underlying5 (by kernel_rfl) hf with ⟨hcs, _⟩ | ⟨x, l, c, zs, hcs, _, hl, hm, hz, _, hcell, hwz⟩
    · simp [Value.cells] at hcs
      obtain ⟨rfl, rfl, rfl⟩ := hcs
      exact ⟨[], .inl ⟨rfl, rfl, rfl, rfl⟩⟩
    · simp [Value.cells] at hcs
      obtain ⟨rfl, rfl, rfl⟩ := hcs
      exact ⟨zs, .inr ⟨_, rfl, hl, hm, by simpa using hz, hcell, hwz⟩⟩
  clear hA0 hval0
  refine (fnWord_walk a0 len0 cap0 z0 W w0).mono fun e W' ⟨he, bel⟩ => ?_
  subst he
  exact ⟨_, rfl, _, _, _, [], _, [], hW', trodAll_mk1 (shut_bool Try.underlying4 _), (trodAll_cons_mk (Below.trod laidOut (by kernel_rfl) (of_decide_eq_true (by kernel_rfl)) k0 bel lt0) trodAll_mk0), rfl, bel.frame _, fun h => by cases h⟩

theorem over : Rows.fnWordRow.holds Try.pinned (OpenSpec.ofChange Rows.fnWordSpec) :=
  OpenClaim.holds_of_wide 3 Try.f3 rfl rfl rfl rfl rfl rfl rfl ⟨rfl, rfl, rfl, rfl, rfl⟩ rfl rfl rfl rfl rfl (by kernel_rfl) Try.func3 (by kernel_rfl)
    (of_decide_eq_true (by kernel_rfl)) (by unfold Func.isWrapper; first | (rw [if_pos (by decide +kernel)]; kernel_rfl) | (rw [if_neg (by decide +kernel)]; exact ⟨rfl, rfl⟩))
    (fun os started H enc _ => lifted os started H enc)

theorem fnWord_holds : Rows.FnWordSaid := over

#print axioms fnWord_holds
end Go.Proofs.Ytlacfinfmbapaaa
