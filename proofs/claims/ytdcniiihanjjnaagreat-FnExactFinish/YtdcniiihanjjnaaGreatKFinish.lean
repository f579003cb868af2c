/- 'laws.FnExactFinish' holds at every input: impl.Finish answers as the model's Finish at every arena, writes nothing into it, and its answer owns its memory. No condition. -/
import Derived.Test.YtdcniiihanjjnaaGreatRows
import Derived.Test.YtdcniiihanjjnaaGreatKFinishL
import Derived.Test.YtdcniiihanjjnaaGreatKLawC
import Derived.WalkKit
import Derived.WalkSpells
import Derived.WalkLawsBesides
import Derived.ProofKit
import Derived.OpenShut
import Derived.ShutString
import Derived.ChangeOld
import Derived.Below
import Derived.Outline
import Derived.Lib.SmallJoins
namespace Go.Proofs.YtdcniiihanjjnaaGreat
set_option maxRecDepth 20000
open Go.ChangeShapes Go.WideShapes Go.ChangeAt Go.RowKit Go.Joins
set_option linter.unusedVariables false

theorem fnExactFinish_walk (aw : Option Addr) (cw : Nat) (ws : List Int) (semi toh top : Int) (cyc : Bool) (scan old copied serial : Int) (ar : Option Addr) (cr : Nat) (rs : List (Int × Int)) (y : Nat → Int) (w : World) (hs : Sl w (.slice aw ws.length cw) ws) (hw : Words64 ws) (hrt : SlF w.heap.size w (.slice ar rs.length cr) rs.length (2 * rs.length) (fun i => .int .i64 (y i))) (hl1 : ws.length ≤ 9223372036854775807) (hl2 : rs.length ≤ 9223372036854775807) :
    Calls Tryz.prog 4 #[.agg #[.slice aw ws.length cw, .int .i64 semi, .int .i64 toh, .int .i64 top, .bool cyc, .int .i64 scan, .int .i64 old, .int .i64 copied, .int .i64 serial, .slice ar rs.length cr]] w fun e w' => e = .returned (.bool true) ∧ Below w.heap.size w w' := by
  by_cases hok : ArOk ws semi toh top cyc scan old copied serial y rs.length
  · cases cyc with
    | false => exact fnExactFinish_by aw cw ws semi toh top false scan old copied serial ar cr rs y w.heap.size w semi toh top false scan old copied serial ws.length rs.length (wordAt ws) y 0 (fun h _ => h) (fun _ h => h) hs hrt hl1 hl2 (fun hn hn2 aw cw ar cr W T h1 h2 => specFinish_no1 aw cw ws semi toh top scan old copied serial ar cr rs y T W h1 hn hw h2 hn2 hok) (fun hn hn2 aw cw ar cr W T h1 h3 h2 => implFinish_no1 aw cw ws semi toh top scan old copied serial ar cr rs y T W h1 h3 hn hw h2 hn2 hok)
    | true =>
      obtain ⟨S, Tp, E, F, Od, sc, C, L, O, hT, hsc, _, hcp, hC, _, hH, hCT, hE8, g6⟩ := run_halves hw hok
      obtain ⟨R, hRR⟩ : ∃ R, R = runA S E ⟨ws, Tp, C⟩ sc 0 := ⟨_, rfl⟩
      exact fnExactFinish_by aw cw ws semi toh top true scan old copied serial ar cr rs y w.heap.size w semi toh (R.1.T : Int) false 0 0 0 serial ws.length rs.length (wordAt R.1.ws) y (R.2 : Int) (fun h _ => h) (fun _ h => h) hs hrt hl1 hl2 (fun hn hn2 aw cw ar cr W T h1 h2 => specFinish_run aw cw ws semi toh top scan old copied serial ar cr rs y T W h1 hn hw h2 hn2 hok hT hsc hcp hC hH hCT hE8 g6 hRR) (fun hn hn2 aw cw ar cr W T h1 h3 h2 => implFinish_run aw cw ws semi toh top scan old copied serial ar cr rs y T W h1 h3 hn hw h2 hn2 hok hT hsc hcp hC hH hCT hE8 g6 hRR)
  · exact fnExactFinish_by aw cw ws semi toh top cyc scan old copied serial ar cr rs y w.heap.size w semi toh top cyc scan old copied serial ws.length rs.length (wordAt ws) y 0 (fun h _ => h) (fun _ h => h) hs hrt hl1 hl2 (fun hn hn2 aw cw ar cr W T h1 h2 => specFinish_no0 aw cw ws semi toh top cyc scan old copied serial ar cr rs y T W h1 hn hw h2 hn2 hok) (fun hn hn2 aw cw ar cr W T h1 h3 h2 => implFinish_no0 aw cw ws semi toh top cyc scan old copied serial ar cr rs y T W h1 h3 hn hw h2 hn2 hok)

theorem own : ownKnob Tryz.prog.godebug = none := by kernel_rfl
theorem laidOut : laidOutB Tryz.prog = true := by kernel_rfl

set_option maxRecDepth 100000 in
theorem lifted (os : Os) (started : os.Started) (H : Type) (enc : TypeId × Value → H) :
    ReturnsInHanded {} Tryz.checked os 4 .any (Rows.fnExactFinishSpec.pre6 enc Tryz.prog Tryz.f4 Rows.fnExactFinishRow.domain false) (Rows.fnExactFinishSpec.post enc Tryz.prog Tryz.f4 false true false false) := by
  refine returnsInHanded_of_change (C := Tryz.checked) own started (by kernel_rfl) Tryz.func4
    (ChangeSpec.witness6 (enc := enc) (C := Tryz.checked) false ⟨#[], #[.agg #[.slice none 0 0, .int .i64 0, .int .i64 0, .int .i64 0, .bool false, .int .i64 0, .int .i64 0, .int .i64 0, .int .i64 0, .slice none 0 0]], []⟩ 8 (by kernel_rfl) (by kernel_rfl) (by kernel_rfl) (by kernel_rfl)) ?_
  intro W base args ds gs before hval0 hW hcnd _
  have hval : ∀ (j : Nat) t v, Tryz.f4.params[j]? = some t → args[j]? = some v → Value.okWide Tryz.prog W .any base t v := hval0
  have hW' := hW
  obtain ⟨p, q, hA0, hV, rfl, hfz, hnd⟩ := hW
  have hA : DataW.TrodAll enc Tryz.prog W 0 (fun _ => true) true Tryz.f4.params.toList args.toList ds p := hA0
  rw [Tryz.params4] at hA hval
  obtain ⟨v0, vs0, d0, ds0, p0, q0, hargs, rfl, rfl, h0, r0⟩ := trodAll_cons hA
  obtain ⟨rfl, rfl, rfl⟩ := trodAll_nil r0
  obtain rfl : args = #[v0] := by cases args; simp_all
  obtain ⟨rfl, rfl⟩ := trodVars_none hV
  have k0 := h0
  have lt0 : ∀ x ∈ p0, x.block < W.heap.size := by obtain ⟨m, hm⟩ := k0; exact DataW.trod_lt m _ _ _ hm
  obtain ⟨aw0, cw0, ws0, se0, to0, tp0, cy0, sc0, ol0, co0, sr0, ar0, cr0, rs0, y0, rfl, w0a, w0b, w0c, w0d, w0e⟩ := open_arena (hval 0 25 v0 rfl rfl) h0
  clear hA0 hval0
  refine (fnExactFinish_walk aw0 cw0 ws0 se0 to0 tp0 cy0 sc0 ol0 co0 sr0 ar0 cr0 rs0 y0 W w0a w0b w0c w0d w0e).mono fun e W' ⟨he, bel⟩ => ?_
  subst he
  exact ⟨_, rfl, _, _, _, [], _, [], hW', trodAll_mk1 (shut_bool Tryz.underlying4 _), (trodAll_cons_mk (Below.trod laidOut (by kernel_rfl) (of_decide_eq_true (by kernel_rfl)) k0 bel lt0) trodAll_mk0), rfl, bel.frame _, fun h => by cases h⟩

theorem over : Rows.fnExactFinishRow.holds Tryz.pinned (OpenSpec.ofChange Rows.fnExactFinishSpec) :=
  OpenClaim.holds_of_wide 4 Tryz.f4 rfl rfl rfl rfl rfl rfl rfl ⟨rfl, rfl, rfl, rfl, rfl⟩ rfl rfl rfl rfl rfl (by kernel_rfl) Tryz.func4 (by kernel_rfl)
    (of_decide_eq_true (by kernel_rfl)) (by unfold Func.isWrapper; first | (rw [if_pos (by decide +kernel)]; kernel_rfl) | (rw [if_neg (by decide +kernel)]; exact ⟨rfl, rfl⟩))
    (fun os started H enc _ => lifted os started H enc)

theorem fnExactFinish_holds : Rows.FnExactFinishSaid := over

#print axioms fnExactFinish_holds
end Go.Proofs.YtdcniiihanjjnaaGreat
