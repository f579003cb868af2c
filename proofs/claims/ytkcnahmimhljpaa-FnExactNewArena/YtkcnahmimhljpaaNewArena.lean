/- 'laws.FnExactNewArena' holds at every input: impl.NewArena answers as the model's NewArena at every two numbers, and its answer owns its memory. No condition. -/
import Derived.Test.YtkcnahmimhljpaaRows
import Derived.Test.YtkcnahmimhljpaaNewB
import Derived.WalkKit
import Derived.WalkSpells
import Derived.WalkLawsBesides
import Derived.ProofKit
import Derived.OpenShut
import Derived.ShutString
import Derived.ChangeOld
import Derived.Below
import Derived.Outline
import Derived.Lib.SmallJoins
namespace Go.Proofs.Ytkcnahmimhljpaa
set_option maxRecDepth 20000
open Go.ChangeShapes Go.WideShapes Go.ChangeAt Go.RowKit Go.Joins
set_option linter.unusedVariables false

theorem has_below {w w' : World} {C b : Nat} {A : Array Value} (h : ∀ i, w.cell? ⟨b, i, none⟩ = A[i]?) (hb : Below C w w') (hC : b < C) : ∀ i, w'.cell? ⟨b, i, none⟩ = A[i]? := fun i => by
  rw [hb.cell (p := ⟨b, i, none⟩) hC]; exact h i
theorem has_apart {w w' : World} {B T b : Nat} {A : Array Value} (h : ∀ i, w.cell? ⟨b, i, none⟩ = A[i]?) (hb : Apart B T w w') (h1 : b < w.heap.size) (h2 : b < B ∨ T ≤ b) : ∀ i, w'.cell? ⟨b, i, none⟩ = A[i]? := fun i => by
  rw [World.cell?_of_block (w := w) (hb.block b h1 h2)]; exact h i

set_option maxHeartbeats 2000000 in
theorem fnExactNewArena_by (semi roots S P R : Int) (n m : Nat) (q : Bool) (z y : Nat → Int) (w : World) (hn : n ≤ 1048576) (hm : m ≤ 1048576)
    (hsp : ∀ w, Calls Try.prog 10 #[.int .i64 semi, .int .i64 roots] w fun e w' => ∃ vw vr, e = .returned (.tuple #[.agg #[vw, .int .i64 S, .int .i64 0, .int .i64 P, .bool false, .int .i64 0, .int .i64 0, .int .i64 0, .int .i64 R, vr], .bool q]) ∧ OwnAr w.heap.size w'.heap.size w' vw vr n m z y ∧ Below w.heap.size w w')
    (him : ∀ w, Calls Try.prog 11 #[.int .i64 semi, .int .i64 roots] w fun e w' => ∃ vw vr, e = .returned (.tuple #[.agg #[vw, .int .i64 S, .int .i64 0, .int .i64 P, .bool false, .int .i64 0, .int .i64 0, .int .i64 0, .int .i64 R, vr], .bool q]) ∧ OwnAr w.heap.size w'.heap.size w' vw vr n m z y ∧ Below w.heap.size w w') :
    Calls Try.prog 4 #[.int .i64 semi, .int .i64 roots] w fun e w' => e = .returned (.bool true) ∧ Below w.heap.size w w' := by
  have k1 : ¬ (1 + (n : Int) + 2 * m) < 0 := by omega
  go_enter Try.func4, Try.ntmps4
  go_wp2_with fail
  refine (hsp _).mono ?_
  rintro e w1 ⟨vw1, vr1, rfl, o1, b1⟩
  obtain ⟨a1, c1, rfl⟩ := o1.sl.1.head
  obtain ⟨a2, c2, rfl⟩ := o1.sl.2.head
  go_wp2_with fail
  refine (him _).mono ?_
  rintro e w2 ⟨vw2, vr2, rfl, o2, b2⟩
  obtain ⟨a3, c3, rfl⟩ := o2.sl.1.head
  obtain ⟨a4, c4, rfl⟩ := o2.sl.2.head
  have p5 := one_cells b2 (by simp)
  have S1 := o1.sl.1.below (below_first b2) (Nat.le_refl _)
  have R1 := o1.sl.2.below (below_first b2) (Nat.le_refl _)
  have B2 := b1.trans ((below_first b2).mono b1.size)
  have z2 := size_first b2
  clear o1
  have A2 : Below w2.heap.size w2 (w2.alloc (.cells #[.slice a3 n c3, .int .i64 S, .int .i64 0, .int .i64 P, .bool false, .int .i64 0, .int .i64 0, .int .i64 0, .int .i64 R, .slice a4 m c4] 30)) := (Below.refl _ _).alloc (Nat.le_refl _) _
  go_wp2_with fail
  refine (eqArena_same _ _ _ _ _ _ _ _ n m z y _ _ _ _ _ _ _ _ _ (o2.sl.1.below A2 (Nat.le_refl _)) (S1.below A2 (by omega)) hn (o2.sl.2.below A2 (Nat.le_refl _)) (R1.below A2 (by omega)) hm).mono ?_
  rintro e w3 ⟨rfl, b3⟩
  have p7 := one_cells b3 (by simp)
  have q5 := has_below p5 (below_first b3) z2
  have o3 := o2.below (below_first b3) (Nat.le_refl _)
  have S3 := S1.below (below_first b3) (by omega)
  have R3 := R1.below (below_first b3) (by omega)
  have B3 := below_next B2 (below_first b3)
  have z3 := size_first b3
  clear p5 o2 S1 R1 A2 b3
  obtain ⟨x1, t1, x2, t2, g1, g2, g3, g4, g5, g6, g7⟩ := o3
  simp at g1 g3
  go_wp2_with fail
  refine (markArena_any x1 t1 x2 t2 (w1.heap.size + 1) w2.heap.size _ _ n m z y _ _ _ _ _ _ _ _ _ g6 hn g7 hm g5 (by omega) g2 (by omega) g4 (by omega)).mono ?_
  rintro e w4 ⟨rfl, h4, r4, A4⟩
  have p5 := has_apart q5 A4 (by omega) (by omega)
  have q7 := has_apart p7 A4 (by omega) (by omega)
  have S4 := S3.apart A4 (by omega)
  have R4 := R3.apart A4 (by omega)
  have zb := b1.size
  have B4 := B3.trans (A4.below (by omega) (by omega))
  have z4 := A4.size
  clear q5 p7 S3 R3 A4 g6 g7
  go_wp2_with fail
  refine (heldArena_any _ _ _ _ n m _ _ _ _ _ _ _ _ _ h4.sl hn r4.sl hm).mono ?_
  rintro e w5 ⟨rfl, b5⟩
  have z5 := b5.size
  have q5 := has_below p5 b5 (by omega)
  have p7 := has_below q7 b5 (by omega)
  have h5 := h4.below b5 (by omega)
  have r5 := r4.below b5 (by omega)
  have S5 := S4.below b5 (by omega)
  have R5 := R4.below b5 (by omega)
  have B5 := below_next B4 b5
  clear p5 q7 h4 r4 S4 R4 b5
  go_wp2_with fail
  refine (him _).mono ?_
  rintro e w6 ⟨vw6, vr6, rfl, o6, b6⟩
  obtain ⟨a5, c5, rfl⟩ := o6.sl.1.head
  obtain ⟨a6, c6, rfl⟩ := o6.sl.2.head
  have z6 := b6.size
  have p5 := has_below q5 b6 (by omega)
  have q7 := has_below p7 b6 (by omega)
  have h6 := h5.below b6 (by omega)
  have r6 := r5.below b6 (by omega)
  have S6 := S5.below b6 (by omega)
  have R6 := R5.below b6 (by omega)
  have B6 := below_next B5 b6
  clear q5 p7 h5 r5 S5 R5 b6
  have A6 : Below w6.heap.size w6 (w6.alloc (.cells #[.slice a5 n c5, .int .i64 S, .int .i64 0, .int .i64 P, .bool false, .int .i64 0, .int .i64 0, .int .i64 0, .int .i64 R, .slice a6 m c6] 30)) := (Below.refl _ _).alloc (Nat.le_refl _) _
  have l5 : w1.heap.size < w6.heap.size := by omega
  have l7 : w2.heap.size < w6.heap.size := by omega
  go_wp2_with fail
  refine (eqArena_same _ _ _ _ _ _ _ _ n m z y _ _ _ _ _ _ _ _ _ (o6.sl.1.below A6 (Nat.le_refl _)) (S6.below A6 (by omega)) hn (o6.sl.2.below A6 (Nat.le_refl _)) (R6.below A6 (by omega)) hm).mono ?_
  rintro e w7 ⟨rfl, b7⟩
  have z7 := size_first b7
  have p7 := has_below q7 (below_first b7) (by omega)
  have h7 := h6.below (below_first b7) (by omega)
  have r7 := r6.below (below_first b7) (by omega)
  have B7 := below_next B6 (below_first b7)
  clear p5 q7 h6 r6 S6 R6 A6 b7 o6
  go_wp2_with fail
  refine (heldArena_any _ _ _ _ n m _ _ _ _ _ _ _ _ _ h7.sl hn r7.sl hm).mono ?_
  rintro e w8 ⟨rfl, b8⟩
  have B8 := below_next B7 b8
  go_wp2
  go_ret
  exact ⟨rfl, B8⟩

theorem ownAr_none (B T : Nat) (w : World) (h : B ≤ T) : OwnAr B T w (.slice none 0 0) (.slice none 0 0) 0 0 (fun _ => 0) (fun _ => 0) :=
  ⟨B, B, B, B, Nat.le_refl _, h, Nat.le_refl _, h, .inl (Nat.le_refl _), ⟨_, _, rfl, .inl rfl⟩, ⟨_, _, rfl, .inl rfl⟩⟩
theorem fnExactNewArena_walk (semi roots : Int) (w : World) (hk : (Lit.int .i64 semi).wf = true) (hs : (Lit.int .i64 roots).wf = true) :
    Calls Try.prog 4 #[.int .i64 semi, .int .i64 roots] w fun e w' => e = .returned (.bool true) ∧ Below w.heap.size w w' := by
  by_cases h : (inB semi 256 4000 && inB roots 0 24) = true
  · have h' := h
    simp only [inB, Bool.and_eq_true, decide_eq_true_eq] at h'
    obtain ⟨⟨h0, h1⟩, h2, h3⟩ := h'
    exact fnExactNewArena_by semi roots semi 1 1 (2 * semi).toNat roots.toNat true (fun _ => 0) (fun _ => 0) w (by omega) (by omega) (fun w => specNewArena_yes semi roots w h0 h1 h2 h3) (fun w => implNewArena_yes semi roots w h0 h1 h2 h3)
  · rw [Bool.not_eq_true] at h
    refine fnExactNewArena_by semi roots 0 0 0 0 0 false (fun _ => 0) (fun _ => 0) w (by omega) (by omega) (fun w => ?_) (fun w => ?_)
    · exact (specNewArena_no semi roots w h).mono fun e w' ⟨he, hb⟩ => ⟨_, _, he, ownAr_none _ _ _ hb.size, hb⟩
    · exact (implNewArena_no semi roots w h).mono fun e w' ⟨he, hb⟩ => ⟨_, _, he, ownAr_none _ _ _ hb.size, hb⟩

theorem own : ownKnob Try.prog.godebug = none := by kernel_rfl
theorem laidOut : laidOutB Try.prog = true := by kernel_rfl

set_option maxRecDepth 100000 in
theorem lifted (os : Os) (started : os.Started) (H : Type) (enc : TypeId × Value → H) :
    ReturnsInHanded {} Try.checked os 4 .any (Rows.fnExactNewArenaSpec.pre6 enc Try.prog Try.f4 Rows.fnExactNewArenaRow.domain false) (Rows.fnExactNewArenaSpec.post enc Try.prog Try.f4 false true false false) := by
  refine returnsInHanded_of_change (C := Try.checked) own started (by kernel_rfl) Try.func4
    (ChangeSpec.witness6 (enc := enc) (C := Try.checked) false ⟨#[], #[.int .i64 0, .int .i64 0], []⟩ 8 (by kernel_rfl) (by kernel_rfl) (by kernel_rfl) (by kernel_rfl)) ?_
  intro W base args ds gs before hval0 hW hcnd _
  have hval : ∀ (j : Nat) t v, Try.f4.params[j]? = some t → args[j]? = some v → Value.okWide Try.prog W .any base t v := hval0
  have hW' := hW
  obtain ⟨p, q, hA0, hV, rfl, hfz, hnd⟩ := hW
  have hA : DataW.TrodAll enc Try.prog W 0 (fun _ => true) true Try.f4.params.toList args.toList ds p := hA0
  rw [Try.params4] at hA hval
  obtain ⟨v0, vs0, d0, ds0, p0, q0, hargs, rfl, rfl, h0, r0⟩ := trodAll_cons hA
  obtain ⟨v1, vs1, d1, ds1, p1, q1, rfl, rfl, rfl, h1, r1⟩ := trodAll_cons r0
  obtain ⟨rfl, rfl, rfl⟩ := trodAll_nil r1
  obtain rfl : args = #[v0, v1] := by cases args; simp_all
  obtain ⟨rfl, rfl⟩ := trodVars_none hV
  have k0 := h0
  have lt0 : ∀ x ∈ p0, x.block < W.heap.size := by obtain ⟨m, hm⟩ := k0; exact DataW.trod_lt m _ _ _ hm
  obtain ⟨a0, rfl, rfl, rfl, w0⟩ := open_int Try.underlying3 (hval 0 3 v0 rfl rfl) h0
  have k1 := h1
  have lt1 : ∀ x ∈ p1, x.block < W.heap.size := by obtain ⟨m, hm⟩ := k1; exact DataW.trod_lt m _ _ _ hm
  obtain ⟨a1, rfl, rfl, rfl, w1⟩ := open_int Try.underlying3 (hval 1 3 v1 rfl rfl) h1
  clear hA0 hval0
  refine (fnExactNewArena_walk a0 a1 W w0 w1).mono fun e W' ⟨he, bel⟩ => ?_
  subst he
  exact ⟨_, rfl, _, _, _, [], _, [], hW', trodAll_mk1 (shut_bool Try.underlying4 _), (trodAll_cons_mk (Below.trod laidOut (by kernel_rfl) (of_decide_eq_true (by kernel_rfl)) k0 bel lt0) (trodAll_cons_mk (Below.trod laidOut (by kernel_rfl) (of_decide_eq_true (by kernel_rfl)) k1 bel lt1) trodAll_mk0)), rfl, bel.frame _, fun h => by cases h⟩

theorem over : Rows.fnExactNewArenaRow.holds Try.pinned (OpenSpec.ofChange Rows.fnExactNewArenaSpec) :=
  OpenClaim.holds_of_wide 4 Try.f4 rfl rfl rfl rfl rfl rfl rfl ⟨rfl, rfl, rfl, rfl, rfl⟩ rfl rfl rfl rfl rfl (by kernel_rfl) Try.func4 (by kernel_rfl)
    (of_decide_eq_true (by kernel_rfl)) (by unfold Func.isWrapper; first | (rw [if_pos (by decide +kernel)]; kernel_rfl) | (rw [if_neg (by decide +kernel)]; exact ⟨rfl, rfl⟩))
    (fun os started H enc _ => lifted os started H enc)

theorem fnExactNewArena_holds : Rows.FnExactNewArenaSaid := over

end Go.Proofs.Ytkcnahmimhljpaa
