/- 'laws.FnExactJumps' holds at every input: impl.Jumps answers as the model's Jumps at every Proto, in memory of its own, and writes nothing into it. No condition. -/
import Derived.Test.YtpjliclgjplebaaRows
import Derived.Test.YtpjliclgjplebaaKJmL
import Derived.Test.YtpjliclgjplebaaKJmM
import Derived.Test.YtpjliclgjplebaaKJmI
import Derived.Test.YtpjliclgjplebaaKPoO
import Derived.WalkKit
import Derived.WalkSpells
import Derived.WalkLawsBesides
import Derived.ProofKit
import Derived.OpenShut
import Derived.ShutString
import Derived.ChangeOld
import Derived.Below
import Derived.Outline
import Derived.Lib.SmallJoins
namespace Go.Proofs.Ytpjliclgjplebaa
set_option maxRecDepth 20000
open Go.ChangeShapes Go.WideShapes Go.ChangeAt Go.RowKit Go.Joins
set_option linter.unusedVariables false

/-- The code's row, by its numbers. -/
def insY (co ca : Nat → Int) (i : Nat) : Int := if i % 2 = 0 then co (i / 2) else ca (i / 2)
theorem insY_row {T : Nat} {w : World} {ac : Option Addr} {n cc : Nat} {co ca : Nat → Int} (h : SlF T w (.slice ac n cc) n (2 * n) (inF co ca)) : SlF T w (.slice ac n cc) n (2 * n) (fun i => .int .i64 (insY co ca i)) := h.congr fun i _ => by unfold inF insY; split <;> rfl
theorem fnExactJumps_walk (pa sl : Int) (au : Option Addr) (un cu : Nat) (ac : Option Addr) (cn cc : Nat) (ub : Nat → Bool) (ui co ca : Nat → Int) (w : World) (hs : SlF w.heap.size w (.slice au un cu) un (2 * un) (upF ub ui)) (hrt : SlF w.heap.size w (.slice ac cn cc) cn (2 * cn) (inF co ca)) (hl1 : un ≤ 9223372036854775807) (hl2 : cn ≤ 9223372036854775807) :
    Calls Try.prog 3 #[.agg #[.int .i64 pa, .int .i64 sl, .slice au un cu, .slice ac cn cc]] w fun e w' => e = .returned (.bool true) ∧ Below w.heap.size w w' :=
  fnExactJumps_by pa sl au un cu ac cn cc ub ui co ca w.heap.size w (jmN (insY co ca) cn).length (fun i => (jmN (insY co ca) cn).getD i 0) (fun _ h => Nat.le_trans (jmN_len _ _) h) hs hrt hl1 hl2
    (fun _ hn2 au cu ac cc W T _ h2 => specJumps_at pa sl au un cu ac cn cc (insY co ca) T W (insY_row h2) hn2)
    (fun _ hn2 au cu ac cc W T _ h2 => implJumps_at pa sl au un cu ac cn cc (insY co ca) T W (insY_row h2) hn2)

theorem own : ownKnob Try.prog.godebug = none := by kernel_rfl
theorem laidOut : laidOutB Try.prog = true := by kernel_rfl

set_option maxRecDepth 100000 in
theorem lifted (os : Os) (started : os.Started) (H : Type) (enc : TypeId × Value → H) :
    ReturnsInHanded {} Try.checked os 3 .any (Rows.fnExactJumpsSpec.pre6 enc Try.prog Try.f3 Rows.fnExactJumpsRow.domain false) (Rows.fnExactJumpsSpec.post enc Try.prog Try.f3 false true false false) := by
  refine returnsInHanded_of_change (C := Try.checked) own started (by kernel_rfl) Try.func3
    (ChangeSpec.witness6 (enc := enc) (C := Try.checked) false ⟨#[], #[.agg #[.int .i64 0, .int .i64 0, .slice none 0 0, .slice none 0 0]], []⟩ 8 (by kernel_rfl) (by kernel_rfl) (by kernel_rfl) (by kernel_rfl)) ?_
  intro W base args ds gs before hval0 hW hcnd _
  have hval : ∀ (j : Nat) t v, Try.f3.params[j]? = some t → args[j]? = some v → Value.okWide Try.prog W .any base t v := hval0
  have hW' := hW
  obtain ⟨p, q, hA0, hV, rfl, hfz, hnd⟩ := hW
  have hA : DataW.TrodAll enc Try.prog W 0 (fun _ => true) true Try.f3.params.toList args.toList ds p := hA0
  rw [Try.params3] at hA hval
  obtain ⟨v0, vs0, d0, ds0, p0, q0, hargs, rfl, rfl, h0, r0⟩ := trodAll_cons hA
  obtain ⟨rfl, rfl, rfl⟩ := trodAll_nil r0
  obtain rfl : args = #[v0] := by cases args; simp_all
  obtain ⟨rfl, rfl⟩ := trodVars_none hV
  have k0 := h0
  have lt0 : ∀ x ∈ p0, x.block < W.heap.size := by obtain ⟨m, hm⟩ := k0; exact DataW.trod_lt m _ _ _ hm
  obtain ⟨pa0, sl0, au0, un0, cu0, ac0, cn0, cc0, ub0, ui0, co0, ca0, rfl, w0a, w0b, w0c, w0d⟩ := open_proto (hval 0 25 v0 rfl rfl) h0
  clear hA0 hval0
  refine (fnExactJumps_walk pa0 sl0 au0 un0 cu0 ac0 cn0 cc0 ub0 ui0 co0 ca0 W w0a w0b w0c w0d).mono fun e W' ⟨he, bel⟩ => ?_
  subst he
  exact ⟨_, rfl, _, _, _, [], _, [], hW', trodAll_mk1 (shut_bool Try.underlying4 _), (trodAll_cons_mk (Below.trod laidOut (by kernel_rfl) (of_decide_eq_true (by kernel_rfl)) k0 bel lt0) trodAll_mk0), rfl, bel.frame _, fun h => by cases h⟩

theorem and_in {a b : Bool} (ha : a = true) (hb : b = true) : (a && b) = true := by rw [ha, hb]; rfl
theorem fits9 : (Rows.fnExactJumpsRow.inPlace == Try.prog.inPlace 3) = true := by kernel_rfl
theorem fits10 : (Rows.fnExactJumpsRow.unfollowed == Try.prog.unfollowed 3) = true := by kernel_rfl
theorem fits11 : (Rows.fnExactJumpsRow.recurses == Try.prog.recurses 3) = true := by kernel_rfl
theorem fits12 : (Rows.fnExactJumpsRow.named == Try.prog.varsNamed 3) = true := by kernel_rfl
theorem ws_word : ∀ (w rest : List Char), (∀ c ∈ w, c ≠ Char.ofNat 32) → wordsSigns (w ++ Char.ofNat 32 :: rest) = w :: wordsSigns rest
  | [], rest, _ => rfl
  | c :: w, rest, h => by
    rw [List.cons_append, wordsSigns.eq_3 _ _ (fun e => h c (List.mem_cons_self ..) e), ws_word w rest (fun x hx => h x (List.mem_cons_of_mem _ hx))]
theorem order_words : ∃ ws, wordsSigns Try.prog.initOrder.toList = List.map Char.ofNat [104, 97, 114, 110, 101, 115, 115] :: List.map Char.ofNat [52, 53, 50, 53, 57, 50, 48, 102, 97, 48, 52, 56, 55, 100, 48, 100, 98, 56, 99, 100, 54, 56, 51, 55, 97, 54, 48, 98, 102, 97, 52, 50, 49, 101, 54, 57, 49, 49, 55, 50, 53, 51, 97, 51, 53, 101, 48, 52, 54, 97, 55, 99, 48, 98, 50, 51, 54, 53, 57, 102, 56, 53, 51, 56] :: List.map Char.ofNat [99, 117, 116] :: ws := by
  have h : Try.prog.initOrder = String.ofList (List.map Char.ofNat [104, 97, 114, 110, 101, 115, 115] ++ Char.ofNat 32 :: (List.map Char.ofNat [52, 53, 50, 53, 57, 50, 48, 102, 97, 48, 52, 56, 55, 100, 48, 100, 98, 56, 99, 100, 54, 56, 51, 55, 97, 54, 48, 98, 102, 97, 52, 50, 49, 101, 54, 57, 49, 49, 55, 50, 53, 51, 97, 51, 53, 101, 48, 52, 54, 97, 55, 99, 48, 98, 50, 51, 54, 53, 57, 102, 56, 53, 51, 56] ++ Char.ofNat 32 :: (List.map Char.ofNat [99, 117, 116] ++ Char.ofNat 32 :: List.map Char.ofNat [97, 116, 32, 108, 111, 111, 112, 46, 101, 120, 97, 109, 112, 108, 101, 47, 103, 48, 48, 49, 48, 49, 47, 108, 97, 119, 115, 46, 70, 110, 69, 120, 97, 99, 116, 74, 117, 109, 112, 115, 32, 108, 111, 111, 112, 46, 101, 120, 97, 109, 112, 108, 101, 47, 103, 48, 48, 49, 48, 49, 47, 108, 97, 119, 115, 46, 70, 110, 69, 120, 97, 99, 116, 68, 101, 112, 116, 104, 115]))) := by kernel_rfl
  rw [h, String.toList_ofList, ws_word _ _ (by decide +kernel), ws_word _ _ (by decide +kernel), ws_word _ _ (by decide +kernel)]
  exact ⟨_, rfl⟩
theorem cut_is : List.map Char.ofNat [99, 117, 116] = "cut".toList := by decide +kernel
theorem order_cut : ∃ ws, behindMainWord (wordsSigns Try.prog.initOrder.toList) = "cut".toList :: ws := by
  obtain ⟨ws, h⟩ := order_words
  refine ⟨ws, ?_⟩
  rw [h, ← cut_is]
  kernel_rfl
theorem strip_cut (ws : List (List Char)) : stripLifts liftWords ("cut".toList :: ws) = ([], "cut".toList :: ws) := by kernel_rfl
theorem make_cut {P : Program} {ws : List (List Char)} (h : behindMainWord (wordsSigns P.initOrder.toList) = "cut".toList :: ws) : P.make = some .cut := by
  unfold Program.make
  rw [h]
  kernel_rfl
theorem enter_cut {P : Program} {ws : List (List Char)} (h : behindMainWord (wordsSigns P.initOrder.toList) = "cut".toList :: ws) (h1 : P.laysLater = false) (h2 : P.bearsReflect = false) (h3 : P.doorFits [] = true) : P.mayEnter = true := by
  unfold Program.mayEnter
  rw [h]
  simp only [strip_cut, h1, h2, h3]
  kernel_rfl
theorem fits25 : Try.prog.mayEnter = true := by
  obtain ⟨ws, h⟩ := order_cut
  exact enter_cut h (by kernel_rfl) (by kernel_rfl) (by kernel_rfl)
theorem fits26 : (Rows.fnExactJumpsRow.lifted == Try.prog.liftsFinal) = true := by obtain ⟨ws, h⟩ := order_words; unfold Program.liftsFinal Program.headLifts; rw [h]; kernel_rfl
theorem fits27 : (Try.prog.make == some Rows.fnExactJumpsRow.make) = true := by
  obtain ⟨ws, h⟩ := order_cut
  rw [make_cut h]
  kernel_rfl
theorem fits : joinedFacts Try.prog 3 Try.f3 Rows.fnExactJumpsSpec Rows.fnExactJumpsRow = true := by
  unfold joinedFacts
  iterate 4 refine and_in ?_ (by kernel_rfl)
  refine and_in (and_in (and_in ?_ fits25) fits26) fits27
  iterate 12 refine and_in ?_ (by kernel_rfl)
  exact and_in (and_in (and_in (and_in (by kernel_rfl) fits9) fits10) fits11) fits12
theorem over : Rows.fnExactJumpsRow.holds Try.pinned (OpenSpec.ofChange Rows.fnExactJumpsSpec) :=
  OpenClaim.holds_of_wide 3 Try.f3 rfl rfl rfl rfl rfl rfl rfl ⟨rfl, rfl, rfl, rfl, rfl⟩ rfl rfl rfl rfl rfl (by kernel_rfl) Try.func3 fits
    (of_decide_eq_true (by kernel_rfl)) (by unfold Func.isWrapper; first | (rw [if_pos (by decide +kernel)]; kernel_rfl) | (rw [if_neg (by decide +kernel)]; exact ⟨rfl, rfl⟩))
    (fun os started H enc _ => lifted os started H enc)

theorem fnExactJumps_holds : Rows.FnExactJumpsSaid := over

#print axioms fnExactJumps_holds
end Go.Proofs.Ytpjliclgjplebaa
