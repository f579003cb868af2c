/- 'laws.FnExactSetCell' holds at every input, where errors.errorType is what the program's text lays: impl.SetCell answers as the model's SetCell at every arena and all numbers, writes nothing into it, and its answer owns its memory. No other condition. -/
import Derived.Test.YtibjellhafndiaaGreatDoorRows
import Derived.Test.YtibjellhafndiaaGreatDoorCards
import Derived.Test.YtibjellhafndiaaGreatDoorTie
import Derived.ChangeSame
import Derived.ChangeVars
import Derived.JoinedOf
import Derived.RowKit
import Derived.RowKitTokens
import Derived.LaidLaws
import Derived.LaidHandle
import Derived.Stop.Joined
import Derived.SevenTiedAt
import Derived.Test.YtibjellhafndiaaGreatDoorSSetCellL
import Derived.Test.YtibjellhafndiaaGreatDoorSLookS
import Derived.Test.YtibjellhafndiaaGreatDoorSLawC
import Derived.WalkKit
import Derived.WalkSpells
import Derived.WalkLawsBesides
import Derived.ProofKit
import Derived.OpenShut
import Derived.ShutString
import Derived.ChangeOld
import Derived.Below
import Derived.Outline
import Derived.Lib.SmallJoins
namespace Go.Proofs.YtibjellhafndiaaGreatDoor
set_option maxRecDepth 20000
open Go.ChangeShapes Go.WideShapes Go.ChangeAt Go.RowKit Go.Joins
set_option linter.unusedVariables false

theorem fnExactSetCell_walk (aw : Option Addr) (cw : Nat) (ws : List Int) (semi toh top : Int) (cyc : Bool) (scan old copied serial : Int) (ar : Option Addr) (cr : Nat) (rs : List (Int × Int)) (y : Nat → Int) (r f : Int) (w : World) (hs : Sl w (.slice aw ws.length cw) ws) (hw : Words64 ws) (hrt : SlF w.heap.size w (.slice ar rs.length cr) rs.length (2 * rs.length) (fun i => .int .i64 (y i))) (hl1 : ws.length ≤ 9223372036854775807) (hl2 : rs.length ≤ 9223372036854775807) (_ : (Lit.int .i64 r).wf = true) (_ : (Lit.int .i64 f).wf = true) (hg : w.cell? ⟨0, 0, none⟩ = some (.iface 147 (.agg #[.pointer (some ⟨2, 102, none⟩)]))) :
    Calls Tryz.prog 5 #[.agg #[.slice aw ws.length cw, .int .i64 semi, .int .i64 toh, .int .i64 top, .bool cyc, .int .i64 scan, .int .i64 old, .int .i64 copied, .int .i64 serial, .slice ar rs.length cr], .int .i64 r, .int .i64 f] w fun e w' => e = .returned (.bool true) ∧ Below w.heap.size w w' := by
  by_cases hok : ArOk ws semi toh top cyc scan old copied serial y rs.length
  · cases hr : hasR r rs.length with
    | false => exact fnExactSetCell_by aw cw ws semi toh top cyc scan old copied serial ar cr rs r f y w.heap.size w semi toh top cyc scan old copied serial ws.length rs.length (wordAt ws) y false (fun h _ => h) (fun _ h => h) hs hrt hl1 hl2 (fun hn hn2 aw cw ar cr W T h1 h2 => specSetCell_no1 aw cw ws semi toh top cyc scan old copied serial ar cr rs r f y T W h1 hn hw h2 hn2 hok hr) (fun hn hn2 aw cw ar cr W T hB h1 h3 h2 => implSetCell_no1 aw cw ws semi toh top cyc scan old copied serial ar cr rs r f y T W h1 h3 hn hw h2 hn2 hok (by rw [hB.cell (p := ⟨0, 0, none⟩) (World.block_lt_of_cell? _ ⟨0, 0, none⟩ hg)]; exact hg) (fun g => by rw [hr] at g; simp at g))
    | true =>
      cases hf : hasR f rs.length with
      | false => exact fnExactSetCell_by aw cw ws semi toh top cyc scan old copied serial ar cr rs r f y w.heap.size w semi toh top cyc scan old copied serial ws.length rs.length (wordAt ws) y false (fun h _ => h) (fun _ h => h) hs hrt hl1 hl2 (fun hn hn2 aw cw ar cr W T h1 h2 => specSetCell_no2 aw cw ws semi toh top cyc scan old copied serial ar cr rs r f y T W h1 hn hw h2 hn2 hok hr hf) (fun hn hn2 aw cw ar cr W T hB h1 h3 h2 => implSetCell_no1 aw cw ws semi toh top cyc scan old copied serial ar cr rs r f y T W h1 h3 hn hw h2 hn2 hok (by rw [hB.cell (p := ⟨0, 0, none⟩) (World.block_lt_of_cell? _ ⟨0, 0, none⟩ hg)]; exact hg) (fun g => by rw [hf] at g; simp at g))
      | true =>
        have hr' := of_decide_eq_true hr
        have hf' := of_decide_eq_true hf
        obtain ⟨k, rfl⟩ := Int.eq_ofNat_of_zero_le hr'.1
        obtain ⟨j, rfl⟩ := Int.eq_ofNat_of_zero_le hf'.1
        have hk : k < rs.length := by omega
        have hj : j < rs.length := by omega
        by_cases h9 : y (2 * k) = 9
        · obtain ⟨p, hp, hp2⟩ := ar_box hw hok hk h9
          exact fnExactSetCell_by aw cw ws semi toh top cyc scan old copied serial ar cr rs (k : Int) (j : Int) y w.heap.size w semi toh top cyc scan old copied serial ws.length rs.length (wordAt (putW ws (p + 1) (y (2 * j)) (y (2 * j + 1)))) y true (fun h _ => h) (fun _ h => h) hs hrt hl1 hl2 (fun hn hn2 aw cw ar cr W T h1 h2 => specSetCell_yes aw cw ws semi toh top cyc scan old copied serial ar cr rs k j p y T W h1 hn hw h2 hn2 hok hk hj h9 hp hp2) (fun hn hn2 aw cw ar cr W T hB h1 h3 h2 => implSetCell_yes aw cw ws semi toh top cyc scan old copied serial ar cr rs k j p y T W h1 h3 hn hw h2 hn2 hok hk hj h9 hp hp2)
        · exact fnExactSetCell_by aw cw ws semi toh top cyc scan old copied serial ar cr rs (k : Int) (j : Int) y w.heap.size w semi toh top cyc scan old copied serial ws.length rs.length (wordAt ws) y false (fun h _ => h) (fun _ h => h) hs hrt hl1 hl2 (fun hn hn2 aw cw ar cr W T h1 h2 => specSetCell_no3 aw cw ws semi toh top cyc scan old copied serial ar cr rs k j y T W h1 hn hw h2 hn2 hok hk hj h9) (fun hn hn2 aw cw ar cr W T hB h1 h3 h2 => implSetCell_no3 aw cw ws semi toh top cyc scan old copied serial ar cr rs k j y T W h1 h3 hn hw h2 hn2 hok (by rw [hB.cell (p := ⟨0, 0, none⟩) (World.block_lt_of_cell? _ ⟨0, 0, none⟩ hg)]; exact hg) hk hj h9)
  · exact fnExactSetCell_by aw cw ws semi toh top cyc scan old copied serial ar cr rs r f y w.heap.size w semi toh top cyc scan old copied serial ws.length rs.length (wordAt ws) y false (fun h _ => h) (fun _ h => h) hs hrt hl1 hl2 (fun hn hn2 aw cw ar cr W T h1 h2 => specSetCell_no0 aw cw ws semi toh top cyc scan old copied serial ar cr rs r f y T W h1 hn hw h2 hn2 hok) (fun hn hn2 aw cw ar cr W T hB h1 h3 h2 => implSetCell_no0 aw cw ws semi toh top cyc scan old copied serial ar cr rs r f y T W h1 h3 hn hw h2 hn2 hok)

theorem own : ownKnob Tryz.prog.godebug = none := by kernel_rfl
theorem laidOut : laidOutB Tryz.prog = true := by kernel_rfl

theorem et : Tryz.prog.globalNamed "errors.errorType" = some 0 := by kernel_rfl
theorem rt : (Tryz.prog.cutTypes.find? (·.1 == "internal/reflectlite.rtype")).map (·.2) = some 147 := by kernel_rfl
theorem oneRow : ((List.range 248).filter fun t => Tryz.prog.rowNamed t [101, 114, 114, 111, 114]) = [102] := by kernel_rfl
theorem tsize : Tryz.prog.types.size = 248 := by kernel_rfl
theorem handle_of_laid {W : World} (h : laidMetH Tryz.prog Rows.fnExactSetCellRow.laid W) : W.cell? ⟨0, 0, none⟩ = some (.iface 147 (.agg #[.pointer (some ⟨2, 102, none⟩)])) := by
  have h' : laidMet Tryz.prog [] W ∧ handlesMet Tryz.prog Rows.fnExactSetCellRow.laid W := h
  obtain ⟨name, u, ty, e1, e2, e3, e4, e5⟩ := h'.2 _ (List.mem_singleton.2 rfl)
  have en : name = [101, 114, 114, 111, 114] := (Option.some.inj e1).symm
  subst en
  obtain rfl := Option.some.inj (rt.symm.trans e2)
  have hm : ty ∈ (List.range 248).filter fun t => Tryz.prog.rowNamed t [101, 114, 114, 111, 114] := List.mem_filter.2 ⟨List.mem_range.2 (by rw [← tsize]; exact e3), e4⟩
  rw [oneRow] at hm
  obtain rfl := List.mem_singleton.1 hm
  have hh : typeHandle Tryz.prog 102 = .pointer (some ⟨2, 102, none⟩) := by kernel_rfl
  rw [hh] at e5
  simpa using World.var?_cell et e5 0
set_option maxRecDepth 100000 in
theorem lifted (os : Os) (started : os.Started) (H : Type) (enc : TypeId × Value → H) :
    ReturnsInHanded {} Tryz.checked os 5 .any (fun w args => (Rows.fnExactSetCellSpec.pre enc Tryz.prog Tryz.f5 [] false w args ∧ laidMetH Tryz.prog Rows.fnExactSetCellRow.laid w) ∧ sizedMet enc Tryz.prog Tryz.f5 (OpenSpec.ofChange Rows.fnExactSetCellSpec) false w args) (Rows.fnExactSetCellSpec.post enc Tryz.prog Tryz.f5 false true false false) := by
  refine returnsInHanded_of_change_and (C := Tryz.checked) (X := fun w _ => laidMetH Tryz.prog Rows.fnExactSetCellRow.laid w) (fun _ _ _ hh h => h.of_heap hh) own started (by kernel_rfl) Tryz.func5
    (ChangeSpec.witness_at (enc := enc) (C := Tryz.checked) (os := os) (X := fun w _ => laidMetH Tryz.prog Rows.fnExactSetCellRow.laid w) false { World.holding Tryz.prog os ⟨#[], #[], []⟩ with heap := (World.holding Tryz.prog os ⟨#[], #[], []⟩).heap.modify 0 fun
      | .cells _ t frozen => .cells #[.iface 147 (.agg #[.pointer (some ⟨2, 102, none⟩)])] t frozen
      | o => o } #[.agg #[.slice none 0 0, .int .i64 0, .int .i64 0, .int .i64 0, .bool false, .int .i64 0, .int .i64 0, .int .i64 0, .int .i64 0, .slice none 0 0], .int .i64 0, .int .i64 0] 8 rfl (by kernel_rfl) (by kernel_rfl) (by kernel_rfl) (by kernel_rfl) (by kernel_rfl) (laidMetH_of_parts (laidMet_nil _ _) (by kernel_rfl))) ?_
  intro W base args ds gs before hval0 hW _ _ hL _
  have hval : ∀ (j : Nat) t v, Tryz.f5.params[j]? = some t → args[j]? = some v → Value.okWide Tryz.prog W .any base t v := hval0
  have hW' := hW
  obtain ⟨p, q, hA0, hV, rfl, hfz, hnd⟩ := hW
  have hA : DataW.TrodAll enc Tryz.prog W 0 (fun _ => true) true Tryz.f5.params.toList args.toList ds p := hA0
  rw [Tryz.params5] at hA hval
  obtain ⟨v0, vs0, d0, ds0, p0, q0, hargs, rfl, rfl, h0, r0⟩ := trodAll_cons hA
  obtain ⟨v1, vs1, d1, ds1, p1, q1, rfl, rfl, rfl, h1, r1⟩ := trodAll_cons r0
  obtain ⟨v2, vs2, d2, ds2, p2, q2, rfl, rfl, rfl, h2, r2⟩ := trodAll_cons r1
  obtain ⟨rfl, rfl, rfl⟩ := trodAll_nil r2
  obtain rfl : args = #[v0, v1, v2] := by cases args; simp_all
  obtain ⟨rfl, rfl⟩ := trodVars_none hV
  have k0 := h0
  have lt0 : ∀ x ∈ p0, x.block < W.heap.size := by obtain ⟨m, hm⟩ := k0; exact DataW.trod_lt m _ _ _ hm
  obtain ⟨aw0, cw0, ws0, se0, to0, tp0, cy0, sc0, ol0, co0, sr0, ar0, cr0, rs0, y0, rfl, w0a, w0b, w0c, w0d, w0e⟩ := open_arena (hval 0 25 v0 rfl rfl) h0
  have k1 := h1
  have lt1 : ∀ x ∈ p1, x.block < W.heap.size := by obtain ⟨m, hm⟩ := k1; exact DataW.trod_lt m _ _ _ hm
  obtain ⟨a1, rfl, rfl, rfl, w1⟩ := open_int Tryz.underlying3 (hval 1 3 v1 rfl rfl) h1
  have k2 := h2
  have lt2 : ∀ x ∈ p2, x.block < W.heap.size := by obtain ⟨m, hm⟩ := k2; exact DataW.trod_lt m _ _ _ hm
  obtain ⟨a2, rfl, rfl, rfl, w2⟩ := open_int Tryz.underlying3 (hval 2 3 v2 rfl rfl) h2
  clear hA0 hval0
  refine (fnExactSetCell_walk aw0 cw0 ws0 se0 to0 tp0 cy0 sc0 ol0 co0 sr0 ar0 cr0 rs0 y0 a1 a2 W w0a w0b w0c w0d w0e w1 w2 (handle_of_laid hL)).mono fun e W' ⟨he, bel⟩ => ?_
  subst he
  exact ⟨_, rfl, _, _, _, [], _, [], hW', trodAll_mk1 (shut_bool Tryz.underlying4 _), (trodAll_cons_mk (Below.trod laidOut (by kernel_rfl) (of_decide_eq_true (by kernel_rfl)) k0 bel lt0) (trodAll_cons_mk (Below.trod laidOut (by kernel_rfl) (of_decide_eq_true (by kernel_rfl)) k1 bel lt1) (trodAll_cons_mk (Below.trod laidOut (by kernel_rfl) (of_decide_eq_true (by kernel_rfl)) k2 bel lt2) trodAll_mk0))), rfl, bel.frame _, fun h => by cases h⟩

theorem and_in {a b : Bool} (ha : a = true) (hb : b = true) : (a && b) = true := by rw [ha, hb]; rfl
theorem fits9 : (Rows.fnExactSetCellRow.inPlace == Tryz.prog.inPlace 5) = true := by kernel_rfl
theorem fits10 : (Rows.fnExactSetCellRow.unfollowed == Tryz.prog.unfollowed 5) = true := by kernel_rfl
theorem fits11 : (Rows.fnExactSetCellRow.recurses == Tryz.prog.recurses 5) = true := by kernel_rfl
theorem fits12 : (Rows.fnExactSetCellRow.named == Tryz.prog.varsNamed 5) = true := by kernel_rfl
theorem ws_word : ∀ (w rest : List Char), (∀ c ∈ w, c ≠ Char.ofNat 32) → wordsSigns (w ++ Char.ofNat 32 :: rest) = w :: wordsSigns rest
  | [], rest, _ => rfl
  | c :: w, rest, h => by
    rw [List.cons_append, wordsSigns.eq_3 _ _ (fun e => h c (List.mem_cons_self ..) e), ws_word w rest (fun x hx => h x (List.mem_cons_of_mem _ hx))]
theorem order_words : ∃ ws, wordsSigns Tryz.prog.initOrder.toList = List.map Char.ofNat [104, 97, 114, 110, 101, 115, 115] :: List.map Char.ofNat [99, 48, 97, 98, 55, 98, 101, 99, 99, 55, 50, 55, 51, 97, 57, 98, 101, 101, 55, 49, 48, 100, 101, 54, 102, 98, 51, 56, 99, 56, 100, 51, 53, 49, 48, 55, 102, 55, 101, 54, 57, 100, 53, 102, 50, 56, 100, 100, 48, 97, 54, 56, 49, 54, 98, 50, 48, 48, 53, 50, 48, 100, 49, 101] :: List.map Char.ofNat [99, 117, 116] :: ws := by
  have h : Tryz.prog.initOrder = String.ofList (List.map Char.ofNat [104, 97, 114, 110, 101, 115, 115] ++ Char.ofNat 32 :: (List.map Char.ofNat [99, 48, 97, 98, 55, 98, 101, 99, 99, 55, 50, 55, 51, 97, 57, 98, 101, 101, 55, 49, 48, 100, 101, 54, 102, 98, 51, 56, 99, 56, 100, 51, 53, 49, 48, 55, 102, 55, 101, 54, 57, 100, 53, 102, 50, 56, 100, 100, 48, 97, 54, 56, 49, 54, 98, 50, 48, 48, 53, 50, 48, 100, 49, 101] ++ Char.ofNat 32 :: (List.map Char.ofNat [99, 117, 116] ++ Char.ofNat 32 :: List.map Char.ofNat [97, 116, 32, 108, 111, 111, 112, 46, 101, 120, 97, 109, 112, 108, 101, 47, 103, 48, 48, 49, 48, 49, 47, 108, 97, 119, 115, 46, 70, 110, 69, 120, 97, 99, 116, 76, 111, 97, 100, 32, 108, 111, 111, 112, 46, 101, 120, 97, 109, 112, 108, 101, 47, 103, 48, 48, 49, 48, 49, 47, 108, 97, 119, 115, 46, 70, 110, 69, 120, 97, 99, 116, 78, 101, 119, 67, 101, 108, 108, 32, 108, 111, 111, 112, 46, 101, 120, 97, 109, 112, 108, 101, 47, 103, 48, 48, 49, 48, 49, 47, 108, 97, 119, 115, 46, 70, 110, 69, 120, 97, 99, 116, 83, 101, 116, 67, 101, 108, 108, 32, 108, 111, 111, 112, 46, 101, 120, 97, 109, 112, 108, 101, 47, 103, 48, 48, 49, 48, 49, 47, 108, 97, 119, 115, 46, 70, 110, 69, 120, 97, 99, 116, 78, 101, 119, 70, 117, 110, 32, 108, 111, 111, 112, 46, 101, 120, 97, 109, 112, 108, 101, 47, 103, 48, 48, 49, 48, 49, 47, 108, 97, 119, 115, 46, 70, 110, 69, 120, 97, 99, 116, 80, 117, 116, 84, 101, 120, 116, 32, 108, 111, 111, 112, 46, 101, 120, 97, 109, 112, 108, 101, 47, 103, 48, 48, 49, 48, 49, 47, 108, 97, 119, 115, 46, 70, 110, 69, 120, 97, 99, 116, 74, 111, 105, 110, 84, 101, 120, 116, 32, 108, 111, 111, 112, 46, 101, 120, 97, 109, 112, 108, 101, 47, 103, 48, 48, 49, 48, 49, 47, 108, 97, 119, 115, 46, 70, 110, 69, 120, 97, 99, 116, 78, 101, 119, 84, 97, 98, 32, 108, 111, 111, 112, 46, 101, 120, 97, 109, 112, 108, 101, 47, 103, 48, 48, 49, 48, 49, 47, 108, 97, 119, 115, 46, 70, 110, 69, 120, 97, 99, 116, 71, 101, 116, 75, 101, 121, 32, 108, 111, 111, 112, 46, 101, 120, 97, 109, 112, 108, 101, 47, 103, 48, 48, 49, 48, 49, 47, 108, 97, 119, 115, 46, 70, 110, 69, 120, 97, 99, 116, 83, 101, 116, 75, 101, 121, 32, 108, 111, 111, 112, 46, 101, 120, 97, 109, 112, 108, 101, 47, 103, 48, 48, 49, 48, 49, 47, 108, 97, 119, 115, 46, 70, 110, 69, 120, 97, 99, 116, 78, 101, 120, 116, 75, 101, 121]))) := by kernel_rfl
  rw [h, String.toList_ofList, ws_word _ _ (by decide +kernel), ws_word _ _ (by decide +kernel), ws_word _ _ (by decide +kernel)]
  exact ⟨_, rfl⟩
theorem cut_is : List.map Char.ofNat [99, 117, 116] = "cut".toList := by decide +kernel
theorem order_cut : ∃ ws, behindMainWord (wordsSigns Tryz.prog.initOrder.toList) = "cut".toList :: ws := by
  obtain ⟨ws, h⟩ := order_words
  refine ⟨ws, ?_⟩
  rw [h, ← cut_is]
  kernel_rfl
theorem strip_cut (ws : List (List Char)) : stripLifts liftWords ("cut".toList :: ws) = ([], "cut".toList :: ws) := by kernel_rfl
theorem make_cut {P : Program} {ws : List (List Char)} (h : behindMainWord (wordsSigns P.initOrder.toList) = "cut".toList :: ws) : P.make = some .cut := by
  unfold Program.make
  rw [h]
  kernel_rfl
theorem enter_cut {P : Program} {ws : List (List Char)} (h : behindMainWord (wordsSigns P.initOrder.toList) = "cut".toList :: ws) (h1 : P.laysLater = false) (h2 : P.bearsReflect = false) (h3 : P.doorFits [] = true) : P.mayEnter = true := by
  unfold Program.mayEnter
  rw [h]
  simp only [strip_cut, h1, h2, h3]
  kernel_rfl
theorem fits25 : Tryz.prog.mayEnter = true := by
  obtain ⟨ws, h⟩ := order_cut
  exact enter_cut h (by kernel_rfl) (by kernel_rfl) (by kernel_rfl)
theorem fits26 : (Rows.fnExactSetCellRow.lifted == Tryz.prog.liftsFinal) = true := by obtain ⟨ws, h⟩ := order_words; unfold Program.liftsFinal Program.headLifts; rw [h]; kernel_rfl
theorem fits27 : (Tryz.prog.make == some Rows.fnExactSetCellRow.make) = true := by
  obtain ⟨ws, h⟩ := order_cut
  rw [make_cut h]
  kernel_rfl
theorem fits : joinedFacts Tryz.prog 5 Tryz.f5 Rows.fnExactSetCellSpec Rows.fnExactSetCellRow = true := by
  unfold joinedFacts
  iterate 4 refine and_in ?_ (by kernel_rfl)
  refine and_in (and_in (and_in ?_ fits25) fits26) fits27
  iterate 12 refine and_in ?_ (by kernel_rfl)
  exact and_in (and_in (and_in (and_in (by kernel_rfl) fits9) fits10) fits11) fits12
theorem over : Rows.fnExactSetCellRow.holds Tryz.pinned (OpenSpec.ofChange Rows.fnExactSetCellSpec) :=
  OpenClaim.holds_of_wide 5 Tryz.f5 rfl rfl rfl rfl rfl rfl rfl ⟨rfl, rfl, rfl, rfl, rfl⟩ rfl rfl rfl rfl rfl (by kernel_rfl) Tryz.func5 fits
    (of_decide_eq_true (by kernel_rfl)) (by unfold Func.isWrapper; first | (rw [if_pos (by decide +kernel)]; kernel_rfl) | (rw [if_neg (by decide +kernel)]; exact ⟨rfl, rfl⟩))
    (fun os started H enc _ => lifted os started H enc)

theorem fnExactSetCell_said : Rows.FnExactSetCellSaid := over
theorem card_main : Tryz.prog.mainIs = some (true, "c0ab7becc7273a9bee710de6fb38c8d35107f7e69d5f28dd0a6816b200520d1e".toList) := by kernel_rfl
theorem card_looks : true = Tryz.prog.looks [] := by kernel_rfl
theorem card_goes : false = Rows.fnExactSetCellRow.goesBy Tryz.prog := by kernel_rfl
theorem card_func : Tryz.prog.funcNamed "loop.example/g00101/laws.FnExactSetCell" = some 5 := by kernel_rfl
theorem card_wf : Rows.fnExactSetCellRow.wfByText (OpenSpec.ofChange Rows.fnExactSetCellSpec) = true := by kernel_rfl
theorem fnExactSetCell_holds : Rows.FnExactSetCellCardSaid :=
  Claim7.holds_tied_plain_at .later [] [.handle] true (true, "c0ab7becc7273a9bee710de6fb38c8d35107f7e69d5f28dd0a6816b200520d1e") true
    over (fun _ h => by cases h) card_wf (fun _ h => by cases h) fnExactSetCell_row_tie rfl ⟨rfl, rfl⟩ card_main rfl
    (fun f fn hf hfn => by
      obtain rfl : f = 5 := (Option.some.inj (card_func.symm.trans hf)).symm
      obtain rfl : fn = Tryz.f5 := (Option.some.inj (Tryz.func5.symm.trans hfn)).symm
      exact ⟨card_looks, fun j t ht => by
        rw [Tryz.params5] at ht
        match j with
        | 0 => simp at ht; subst ht; exact (show Tryz.prog.wantsStandIn 25 = false by kernel_rfl)
        | 1 => simp at ht; subst ht; exact (show Tryz.prog.wantsStandIn 3 = false by kernel_rfl)
        | 2 => simp at ht; subst ht; exact (show Tryz.prog.wantsStandIn 3 = false by kernel_rfl)
        | j + 3 => simp at ht⟩)
    card_goes

#print axioms fnExactSetCell_holds
end Go.Proofs.YtibjellhafndiaaGreatDoor
