/- 'laws.FnVal' holds at every input: whatever bytes are drawn from, a right value that is put is got, no other word is another one, and what is not right is not put. No condition. -/
import Derived.Test.YthoncomjemknnaaRows
import Derived.Test.YthoncomjemknnaaListD
import Derived.WalkKit
import Derived.WalkSpells
import Derived.WalkLawsBesides
import Derived.ProofKit
import Derived.OpenShut
import Derived.ShutString
import Derived.ChangeOld
import Derived.Below
import Derived.Outline
import Derived.Lib.SmallJoins
import Derived.Deep.QuietTactic
import Derived.BigQuiet
namespace Go.Proofs.Ythoncomjemknnaa
set_option maxRecDepth 20000
open Go.ChangeShapes Go.WideShapes Go.ChangeAt Go.RowKit Go.Joins
set_option linter.unusedVariables false

theorem wrap_back {x : Int} (h : in64 x = true) : wrap64 (IntKind.u64.wrap x) = x := by
  have := in64_of h
  rw [IntKind.wrap_u64]
  unfold wrap64
  omega
theorem put2_at (xs : List Int) (p : Nat) (t m : Int) (hp : p + 1 < xs.length) : (put2 xs p t m).getD p 0 = IntKind.u64.wrap t ∧ (put2 xs p t m).getD (p + 1) 0 = IntKind.u64.wrap m := by
  constructor
  · simp [put2, show p < xs.length by omega]
  · simp [put2, hp]
theorem put2_else (xs : List Int) (p k : Nat) (t m : Int) (h1 : k ≠ p) (h2 : k ≠ p + 1) : (put2 xs p t m).getD k 0 = xs.getD k 0 := by
  have h1' : ¬ p = k := fun h => h1 h.symm
  have h2' : ¬ p + 1 = k := fun h => h2 h.symm
  simp [put2, h1', h2']
theorem getV_put {xs : List Int} {p : Nat} {t m : Int} (hp : p + 1 < xs.length) (hv : vOk t m = true) (ht : in64 t = true) (hm : in64 m = true) : getV (put2 xs p t m) p = true := by
  have e := put2_at xs p t m hp
  simp only [getV, put2_length, Int.toNat_natCast, e.1, e.2, wrap_back ht, wrap_back hm, hv, Bool.and_true, decide_eq_true_eq]
  omega
theorem put2_words {xs : List Int} (h : Words64 xs) (i t m : Int) : Words64 (put2 xs i t m) := by
  intro z hz
  unfold put2 at hz
  rcases List.mem_or_eq_of_mem_set hz with hz | rfl
  · rcases List.mem_or_eq_of_mem_set hz with hz | rfl
    · exact h z hz
    · exact wrapU_in t
  · exact wrapU_in m

theorem implGetVal_put (v : Value) (xs : List Int) (p : Nat) (t m : Int) (w : World) (hs : Sl w v (put2 xs p t m)) (hn : xs.length ≤ 1048576) (hw : Words64 xs) (hp : p + 1 < xs.length) (hv : vOk t m = true) (ht : in64 t = true) (hm : in64 m = true) :
    Calls Try.prog 10 #[v, .int .i64 p] w fun e w' => e = .returned (.tuple #[.agg #[.int .i64 t, .int .i64 m], .bool true]) ∧ Below w.heap.size w w' := by
  have h := implGetVal_t v (put2 xs p t m) p w hs (by rw [put2_length]; exact hn) (put2_words hw _ _ _) (getV_put hp hv ht hm)
  have e := put2_at xs p t m hp
  rw [Int.toNat_natCast, e.1, e.2, wrap_back ht, wrap_back hm] at h
  exact h

theorem Sl.opened {w : World} {a : Option Addr} {n c : Nat} {xs : List Int} (h : Sl w (.slice a n c) xs) {k : Nat} (hk : k < xs.length) :
    ∃ b off, a = some ⟨b, off, none⟩ ∧ b < w.heap.size ∧ ∀ i, i < xs.length → w.cell? ⟨b, off + i, none⟩ = some (.int .u64 (xs.getD i 0)) := by
  obtain ⟨a', c', he, h⟩ := h
  simp only [Value.slice.injEq] at he
  obtain ⟨rfl, _, _⟩ := he
  rcases h with rfl | h
  · simp at hk
  · exact h

set_option maxHeartbeats 4000000 in
theorem fnVal_small (a : Option Addr) (n cap : Nat) (w : World) (hn : n ≤ 1048576) (hc : Bytes w a n) :
    Calls Try.prog 3 #[.slice a n cap] w fun e w' => e = .returned (.bool true) ∧ Below w.heap.size w w' := by
  have hn' : ¬ (1048576 : Int) < (n : Int) := by omega
  go_enter Try.func3, Try.ntmps3
  go_wp2_with fail
  refine (big_any a n cap _).mono ?_
  rintro e w0 ⟨rfl, rfl⟩
  go_wp2_with fail
  refine (drawPutVal_any a n cap _ hn hc).mono ?_
  rintro e w1 ⟨words, xs, i, t, m, rfl, hx8, hxw, S1, ht, hm, ⟨hi0, hi1⟩, b1⟩
  obtain ⟨aw, cw, hwords⟩ := S1.head
  rw [hwords] at S1 ⊢
  have hx8' : (xs.length : Int) ≤ 8 := by omega
  have hxn : xs.length ≤ 1048576 := by omega
  have S1' := S1.below ((Below.refl _ _).alloc (Nat.le_refl _) (.cells #[.int .i64 t, .int .i64 m] 26))
  by_cases hg : putV xs.length i t m = true
  · go_wp2_with fail
    refine (implPutVal_t _ xs _ _ _ _ S1' hxn hg).mono ?_
    rintro e w2 ⟨out, rfl, o2, b2⟩
    obtain ⟨ag, cg, hout⟩ := o2.sl.head
    rw [hout] at o2 ⊢
    rw [put2_length] at o2 ⊢
    obtain ⟨c2, f2⟩ := bcell b2
    have z2 := size_first b2
    go_wp2_with fail
    refine (specPutVal_t _ xs _ _ _ _ (S1'.below b2) hxn hg).mono ?_
    rintro e w3 ⟨o9, rfl, o3, b3⟩
    obtain ⟨c3, f3⟩ := bcell b3
    have z3 := Nat.lt_of_lt_of_le z2 b3.size
    simp only [putV, Bool.and_eq_true, decide_eq_true_eq] at hg
    obtain ⟨⟨hp0, hp1⟩, hv⟩ := hg
    obtain ⟨p, rfl⟩ := Int.eq_ofNat_of_zero_le hp0
    have hp : p + 1 < xs.length := by omega
    have S3 := (S1'.below b2).below b3
    have O3 := o2.sl.below b3
    go_wp2
    go_loopw [10] (fun j wr => ∃ k : Nat, k ≤ xs.length ∧ j = .int .i64 k ∧ Below w3.heap.size w3 wr) (fun j _ => xs.length - (intOf j).toNat)
    case atStart => exact ⟨0, Nat.zero_le _, rfl, Below.refl _ _⟩
    case round =>
      obtain ⟨k, hk, rfl, hF⟩ := hrel
      by_cases hlt : k < xs.length
      · have hlt' : (k : Int) < (xs.length : Int) := by omega
        obtain ⟨bw, ow, rfl, lw, gw⟩ := (S3.below hF).opened hlt
        have q1 := gw k hlt
        obtain ⟨bo, oo, rfl, lo, go⟩ := (O3.below hF).opened (k := k) (by rw [put2_length]; exact hlt)
        have q2 := go k (by rw [put2_length]; exact hlt)
        clear gw go
        by_cases e1 : k = p
        · have g1 : ((k : Int) != (p : Int)) = false := by simp; omega
          clear q1 q2 e1
          go_wp2
          go_quiet (fail)
          go_wp2
          go_roundw
          case rel => exact ⟨k + 1, by omega, by go_num, below_drewN hF _⟩
          case measure => simp [intOf]; omega
        · have g1 : ((k : Int) != (p : Int)) = true := by simp; omega
          by_cases e2 : k = p + 1
          · have g2 : ((k : Int) != (p : Int) + 1) = false := by simp; omega
            clear q1 q2 e1 e2
            go_wp2
            go_quiet (fail)
            go_wp2
            go_roundw
            case rel => exact ⟨k + 1, by omega, by go_num, below_drewN hF _⟩
            case measure => simp [intOf]; omega
          · have g2 : ((k : Int) != (p : Int) + 1) = true := by simp; omega
            rw [put2_else xs p k t m e1 e2] at q2
            clear e1 e2
            go_wp2
            go_quiet (fail)
            go_wp2
            go_roundw
            case rel => exact ⟨k + 1, by omega, by go_num, below_drewN hF _⟩
            case measure => simp [intOf]; omega
      · have hlt' : ¬ (k : Int) < (xs.length : Int) := by omega
        have Br : Below (w1.alloc (.cells #[.int .i64 t, .int .i64 m] 26)).heap.size (w1.alloc (.cells #[.int .i64 t, .int .i64 m] 26)) wr := below_next (below_next b2 b3) hF
        obtain ⟨c4, f4⟩ := bcell Br
        have B4 : Below w0.heap.size w0 wr := below_next (b1.alloc b1.size _) Br
        have z4 := size_first Br
        go_wp2_with fail
        refine (implGetVal_put _ xs p t m _ (O3.below hF) hxn hxw hp hv ht hm).mono ?_
        rintro e w5 ⟨rfl, b5⟩
        obtain ⟨c5, f5⟩ := bcell b5
        have z5 := Nat.lt_of_lt_of_le z4 b5.size
        have B5 := below_next B4 b5
        go_wp2
        go_ret
        exact ⟨rfl, B5.alloc B5.size _⟩
  · rw [Bool.not_eq_true] at hg
    have hg' : vOk t m = true → ¬ (0 ≤ i ∧ i + 1 < (xs.length : Int)) := by
      intro h1 h2
      simp [putV, h1, h2] at hg
    go_wp2_with fail
    refine (implPutVal_f _ xs _ _ _ _ S1' hxn hg).mono ?_
    rintro e w2 ⟨out, rfl, o2, b2⟩
    obtain ⟨ag, cg, hout⟩ := o2.sl.head
    rw [hout] at o2 ⊢
    obtain ⟨c2, f2⟩ := bcell b2
    have z2 := size_first b2
    go_wp2_with fail
    refine (specPutVal_f _ xs _ _ _ _ (S1'.below b2) hxn hg).mono ?_
    rintro e w3 ⟨o9, rfl, o3, b3⟩
    obtain ⟨c3, f3⟩ := bcell b3
    have z3 := Nat.lt_of_lt_of_le z2 b3.size
    have S3 := (S1'.below b2).below b3
    have O3 := o2.sl.below b3
    go_wp2
    go_loopw [10] (fun j wr => ∃ k : Nat, k ≤ xs.length ∧ j = .int .i64 k ∧ Below w3.heap.size w3 wr) (fun j _ => xs.length - (intOf j).toNat)
    case atStart => exact ⟨0, Nat.zero_le _, rfl, Below.refl _ _⟩
    case round =>
      obtain ⟨k, hk, rfl, hF⟩ := hrel
      by_cases hlt : k < xs.length
      · have hlt' : (k : Int) < (xs.length : Int) := by omega
        obtain ⟨bw, ow, rfl, lw, gw⟩ := (S3.below hF).opened hlt
        have q1 := gw k hlt
        obtain ⟨bo, oo, rfl, lo, go⟩ := (O3.below hF).opened hlt
        have q2 := go k hlt
        clear gw go
        go_wp2
        go_quiet (fail)
        go_wp2
        go_roundw
        case rel => exact ⟨k + 1, by omega, by go_num, below_drewN hF _⟩
        case measure => simp [intOf]; omega
      · have hlt' : ¬ (k : Int) < (xs.length : Int) := by omega
        have Br : Below (w1.alloc (.cells #[.int .i64 t, .int .i64 m] 26)).heap.size (w1.alloc (.cells #[.int .i64 t, .int .i64 m] 26)) wr := below_next (below_next b2 b3) hF
        obtain ⟨c4, f4⟩ := bcell Br
        have B4 : Below w0.heap.size w0 wr := below_next (b1.alloc b1.size _) Br
        have z4 := size_first Br
        go_wp2_with fail
        refine (specValOk_any t m _).mono ?_
        rintro e w5 ⟨rfl, b5⟩
        have B5 := below_next B4 b5
        go_wp2
        · go_ret
          have h1 := hg' (by assumption)
          refine ⟨ret_bool ?_, B5⟩
          rw [Bool.or_eq_true, decide_eq_true_eq, decide_eq_true_eq]
          omega
        · go_ret
          exact ⟨rfl, B5⟩
        · go_ret
          exact ⟨rfl, B5⟩

theorem fnVal_walk (a : Option Addr) (n cap : Nat) (zs : List Int) (w : World) (h : IsRow .u8 w a n cap zs) :
    Calls Try.prog 3 #[.slice a n cap] w fun e w' => e = .returned (.bool true) ∧ Below w.heap.size w w' := by
  have hc := h.bytes
  clear h
  by_cases hn : n ≤ 1048576
  · exact fnVal_small a n cap w hn hc
  · have hn' : (1048576 : Int) < (n : Int) := by omega
    go_enter Try.func3, Try.ntmps3
    go_wp2
    go_ret
    exact ⟨rfl, Below.refl _ _⟩

theorem own : ownKnob Try.prog.godebug = none := by kernel_rfl
theorem laidOut : laidOutB Try.prog = true := by kernel_rfl

set_option maxRecDepth 100000 in
theorem lifted (os : Os) (started : os.Started) (H : Type) (enc : TypeId × Value → H) :
    ReturnsInHanded {} Try.checked os 3 .any (Rows.fnValSpec.pre6 enc Try.prog Try.f3 Rows.fnValRow.domain false) (Rows.fnValSpec.post enc Try.prog Try.f3 false true false false) := by
  refine returnsInHanded_of_change (C := Try.checked) own started (by kernel_rfl) Try.func3
    (ChangeSpec.witness6 (enc := enc) (C := Try.checked) false ⟨#[], #[.slice none 0 0], []⟩ 8 (by kernel_rfl) (by kernel_rfl) (by kernel_rfl) (by kernel_rfl)) ?_
  intro W base args ds gs before hval0 hW hcnd _
  have hval : ∀ (j : Nat) t v, Try.f3.params[j]? = some t → args[j]? = some v → Value.okWide Try.prog W .any base t v := hval0
  have hW' := hW
  obtain ⟨p, q, hA0, hV, rfl, hfz, hnd⟩ := hW
  have hA : DataW.TrodAll enc Try.prog W 0 (fun _ => true) true Try.f3.params.toList args.toList ds p := hA0
  rw [Try.params3] at hA hval
  obtain ⟨v0, vs0, d0, ds0, p0, q0, hargs, rfl, rfl, h0, r0⟩ := trodAll_cons hA
  obtain ⟨rfl, rfl, rfl⟩ := trodAll_nil r0
  obtain rfl : args = #[v0] := by cases args; simp_all
  obtain ⟨rfl, rfl⟩ := trodVars_none hV
  have k0 := h0
  have lt0 : ∀ x ∈ p0, x.block < W.heap.size := by obtain ⟨m, hm⟩ := k0; exact DataW.trod_lt m _ _ _ hm
  obtain ⟨a0, len0, cap0, rfl⟩ := okWide_slice Try.underlying22 (hval 0 22 v0 rfl rfl)
  obtain ⟨z0, w0⟩ : ∃ zs, IsRow .u8 W a0 len0 cap0 zs := by
    obtain ⟨fuel, hf⟩ := h0
    rcases open_ints Try.underlying22 Try.underlying5 (by kernel_rfl) hf with ⟨hcs, _⟩ | ⟨x, l, c, zs, hcs, _, hl, hm, hz, _, hcell, hwz⟩
    · simp [Value.cells] at hcs
      obtain ⟨rfl, rfl, rfl⟩ := hcs
      exact ⟨[], .inl ⟨rfl, rfl, rfl, rfl⟩⟩
    · simp [Value.cells] at hcs
      obtain ⟨rfl, rfl, rfl⟩ := hcs
      exact ⟨zs, .inr ⟨_, rfl, hl, hm, by simpa using hz, hcell, hwz⟩⟩
  clear hA0 hval0
  refine (fnVal_walk a0 len0 cap0 z0 W w0).mono fun e W' ⟨he, bel⟩ => ?_
  subst he
  exact ⟨_, rfl, _, _, _, [], _, [], hW', trodAll_mk1 (shut_bool Try.underlying4 _), (trodAll_cons_mk (Below.trod laidOut (by kernel_rfl) (of_decide_eq_true (by kernel_rfl)) k0 bel lt0) trodAll_mk0), rfl, bel.frame _, fun h => by cases h⟩

theorem over : Rows.fnValRow.holds Try.pinned (OpenSpec.ofChange Rows.fnValSpec) :=
  OpenClaim.holds_of_wide 3 Try.f3 rfl rfl rfl rfl rfl rfl rfl ⟨rfl, rfl, rfl, rfl, rfl⟩ rfl rfl rfl rfl rfl (by kernel_rfl) Try.func3 (by kernel_rfl)
    (of_decide_eq_true (by kernel_rfl)) (by unfold Func.isWrapper; first | (rw [if_pos (by decide +kernel)]; kernel_rfl) | (rw [if_neg (by decide +kernel)]; exact ⟨rfl, rfl⟩))
    (fun os started H enc _ => lifted os started H enc)

theorem fnVal_holds : Rows.FnValSaid := over

#print axioms fnVal_holds
end Go.Proofs.Ythoncomjemknnaa
